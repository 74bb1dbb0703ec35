/-
  The referee's cleaning, lines and places, and the law of cleaning, followed in the evaluator. Nothing is claimed here.
-/
import Derived.Test.YtonihkpcblfafaaFi
namespace Go.Proofs.Ytonihkpcblfafaa
open Go.Vm Go.Lay1
variable {n : Nat}

theorem rcleaned_ev (s : List UInt8) (hs : s.length ≤ 4000) (st : St) (hn : s.length + 150 ≤ n) : Ev Try.prog ov1 0 n 27 [(V.str (s))] st (fun v st' => v = V.str (cleaned s) ∧ Sub st.nx st st') := by
  obtain ⟨m, rfl⟩ : ∃ m, n = m + 60 := ⟨n - 60, by omega⟩
  have hS := Sub.refl st.nx st
  refine Ev.enter rfl Try.func27 rfl rfl rfl (frame1 _) ?_
  refine Wp.seq ?_
  refine Wp.region rfl ?_
  refine Ops.val (Val.assign (show opnd _ _ = some (V.str ([] : List UInt8)) from rfl)) rfl ?_
  refine Ops.nil ?_
  refine Wp.seq ?_
  refine Wp.region rfl ?_
  refine Ops.val (Val.assign (show opnd _ _ = some (V.str ([] : List UInt8)) from rfl)) rfl ?_
  refine Ops.nil ?_
  refine Wp.seq ?_
  refine Wp.seq ?_
  refine Wp.region rfl ?_
  refine Ops.val (Val.assign rfl) rfl ?_
  refine Ops.nil ?_
  refine Wp.block ?_
  refine Wp.rebase (fun fr1 hF2 => ?_)
  have g3 := (hF2 0).trans (T.get_skip rfl (T.get_skip rfl (T.get_skip rfl T.get_same)))
  have g4 := (hF2 2).trans (T.get_skip rfl (T.get_skip rfl T.get_same))
  refine Wp.loop (I := fun mm fr sx => ∃ (i : Nat), (i ≤ s.length) ∧ mm = s.length - i ∧ fr.get 4 = some (.i .i64 ((i : Int))) ∧ fr.get 3 = some (V.str (rcl s i)) ∧ (∀ t, [3, 4, 5, 6, 7, 8, 9, 10, 11, 12, 13, 14, 15, 16, 17, 18, 19, 20, 21, 22, 23, 24, 25, 26, 27, 28, 29, 30, 31, 32, 33, 34, 35, 36, 37, 38, 39, 40, 41, 42, 43, 44].elem t = false → fr.get t = fr1.get t) ∧ Sub st.nx st sx) s.length (by omega) ⟨0, (by omega), rfl, (hF2 4).trans T.get_same, (hF2 3).trans (T.get_skip rfl T.get_same), fun t _ => rfl, hS⟩ (fun mm fr sx hI => ?_)
  obtain ⟨i, hi, rfl, g5, g6, hW7, hS⟩ := hI
  have hlc := rcl_len s i
  refine Wp.seq ?_
  refine Wp.seq ?_
  refine Wp.region rfl ?_
  refine Ops.val (Val.move g5) rfl ?_
  refine Ops.val (Val.move (T.get_skip rfl ((hW7 0 rfl).trans g3))) rfl ?_
  refine Ops.val (Val.slen Try.underlying9 T.get_same) rfl ?_
  refine Ops.val (Val.lss (T.get_skip rfl (T.get_skip rfl T.get_same)) T.get_same) rfl ?_
  refine Ops.nil ?_
  refine Wp.cond T.get_same (fun hc8 => ?_) (fun hc8 => ?_)
  · skip
    have p9 := of_decide_eq_true hc8
    refine Wp.skip ?_
    refine Wp.seq ?_
    refine Wp.block ?_
    refine Wp.seq ?_
    refine Wp.region rfl ?_
    refine Ops.val (Val.move (T.get_skip rfl (T.get_skip rfl (T.get_skip rfl (T.get_skip rfl ((hW7 0 rfl).trans g3)))))) rfl ?_
    refine Ops.val (Val.move (T.get_skip rfl (T.get_skip rfl (T.get_skip rfl (T.get_skip rfl (T.get_skip rfl g5)))))) rfl ?_
    refine Ops.val (Val.sidx (i := i) Try.underlying9 (T.get_skip rfl T.get_same) T.get_same (by omega)) rfl ?_
    refine Ops.val (Val.assign T.get_same) rfl ?_
    refine Ops.nil ?_
    refine Wp.seq ?_
    refine Wp.seq ?_
    refine Wp.region rfl ?_
    refine Ops.val (Val.move T.get_same) rfl ?_
    refine Ops.val (Val.ieql T.get_same rfl) rfl ?_
    refine Ops.val (Val.move T.get_same) rfl ?_
    refine Ops.cutN 3 [18, 19, 20] 20 (.b ((decide (((s.getD i 0).toNat : Int) = 10)) && (decide (0 < (i : Int))))) ?_ (fun fr12 g10 hF11 => ?_)
    · rcases Bool.eq_false_or_eq_true (decide (((s.getD i 0).toNat : Int) = 10)) with hg13 | hg13
      · skip
        have p14 := of_decide_eq_true hg13
        refine Ops.yes rfl T.get_same hg13 ?_
        refine Ops.val (Val.move (T.get_skip rfl (T.get_skip rfl (T.get_skip rfl (T.get_skip rfl (T.get_skip rfl (T.get_skip rfl (T.get_skip rfl (T.get_skip rfl (T.get_skip rfl (T.get_skip rfl (T.get_skip rfl g5)))))))))))) rfl ?_
        refine Ops.yes rfl (T.get_skip rfl T.get_same) hg13 ?_
        refine Ops.val (Val.gtr T.get_same rfl) rfl ?_
        refine Ops.val (Val.pickT (T.get_skip rfl (T.get_skip rfl T.get_same)) hg13 T.get_same) rfl ?_
        exact Ops.nil ⟨T.get_same.trans (cutAT hg13), fun t ht => (T.get_skip (el ht rfl) (T.get_skip (el ht rfl) (T.get_skip (el ht rfl) rfl))), rfl⟩
      · skip
        refine Ops.no rfl T.get_same hg13 rfl ?_
        refine Ops.no rfl (T.get_skip rfl T.get_same) hg13 rfl ?_
        refine Ops.val (Val.pickF (T.get_skip rfl (T.get_skip rfl T.get_same)) hg13 rfl) rfl ?_
        exact Ops.nil ⟨T.get_same.trans (cutAF hg13), fun t ht => (T.get_skip (el ht rfl) (T.get_skip (el ht rfl) (T.get_skip (el ht rfl) rfl))), rfl⟩
    refine Ops.val (Val.move g10) rfl ?_
    refine Ops.cutN 6 [22, 23, 24, 25, 26, 27] 27 (.b (((decide (((s.getD i 0).toNat : Int) = 10)) && (decide (0 < (i : Int)))) && (decide (((s.getD ((((i : Int) - 1)).toNat) 0).toNat : Int) = 13)))) ?_ (fun fr17 g15 hF16 => ?_)
    · rcases Bool.eq_false_or_eq_true ((decide (((s.getD i 0).toNat : Int) = 10)) && (decide (0 < (i : Int)))) with hg18 | hg18
      · skip
        have p20 := of_decide_eq_true (andL hg18)
        have p21 := of_decide_eq_true (andR hg18)
        refine Ops.yes rfl T.get_same hg18 ?_
        refine Ops.val (Val.move (T.get_skip rfl ((hF11 0 rfl).trans (T.get_skip rfl (T.get_skip rfl (T.get_skip rfl (T.get_skip rfl (T.get_skip rfl (T.get_skip rfl (T.get_skip rfl (T.get_skip rfl (T.get_skip rfl (T.get_skip rfl (T.get_skip rfl ((hW7 0 rfl).trans g3))))))))))))))) rfl ?_
        refine Ops.yes rfl (T.get_skip rfl T.get_same) hg18 ?_
        refine Ops.val (Val.move (T.get_skip rfl (T.get_skip rfl ((hF11 4 rfl).trans (T.get_skip rfl (T.get_skip rfl (T.get_skip rfl (T.get_skip rfl (T.get_skip rfl (T.get_skip rfl (T.get_skip rfl (T.get_skip rfl (T.get_skip rfl (T.get_skip rfl (T.get_skip rfl g5))))))))))))))) rfl ?_
        refine Ops.yes rfl (T.get_skip rfl (T.get_skip rfl T.get_same)) hg18 ?_
        refine Ops.val (Val.isub T.get_same rfl (c := ((i : Int) - 1)) (wrap64 (by omega) (by omega))) rfl ?_
        refine Ops.yes rfl (T.get_skip rfl (T.get_skip rfl (T.get_skip rfl T.get_same))) hg18 ?_
        refine Ops.val (Val.sidx (i := (((i : Int) - 1)).toNat) Try.underlying9 (T.get_skip rfl (T.get_skip rfl T.get_same)) (T.get_same.trans (by rw [Int.toNat_of_nonneg (a := ((i : Int) - 1)) (by omega)])) (by omega)) rfl ?_
        refine Ops.yes rfl (T.get_skip rfl (T.get_skip rfl (T.get_skip rfl (T.get_skip rfl T.get_same)))) hg18 ?_
        refine Ops.val (Val.ieql T.get_same rfl) rfl ?_
        refine Ops.val (Val.pickT (T.get_skip rfl (T.get_skip rfl (T.get_skip rfl (T.get_skip rfl (T.get_skip rfl T.get_same))))) hg18 T.get_same) rfl ?_
        exact Ops.nil ⟨T.get_same.trans (cutAT hg18), fun t ht => (T.get_skip (el ht rfl) (T.get_skip (el ht rfl) (T.get_skip (el ht rfl) (T.get_skip (el ht rfl) (T.get_skip (el ht rfl) (T.get_skip (el ht rfl) rfl)))))), rfl⟩
      · skip
        refine Ops.no rfl T.get_same hg18 rfl ?_
        refine Ops.no rfl (T.get_skip rfl T.get_same) hg18 rfl ?_
        refine Ops.no rfl (T.get_skip rfl (T.get_skip rfl T.get_same)) hg18 rfl ?_
        refine Ops.no rfl (T.get_skip rfl (T.get_skip rfl (T.get_skip rfl T.get_same))) hg18 rfl ?_
        refine Ops.no rfl (T.get_skip rfl (T.get_skip rfl (T.get_skip rfl (T.get_skip rfl T.get_same)))) hg18 rfl ?_
        refine Ops.val (Val.pickF (T.get_skip rfl (T.get_skip rfl (T.get_skip rfl (T.get_skip rfl (T.get_skip rfl T.get_same))))) hg18 rfl) rfl ?_
        exact Ops.nil ⟨T.get_same.trans (cutAF hg18), fun t ht => (T.get_skip (el ht rfl) (T.get_skip (el ht rfl) (T.get_skip (el ht rfl) (T.get_skip (el ht rfl) (T.get_skip (el ht rfl) (T.get_skip (el ht rfl) rfl)))))), rfl⟩
    refine Ops.nil ?_
    refine Wp.cond g15 (fun hc22 => ?_) (fun hc22 => ?_)
    · skip
      have p25 := of_decide_eq_true (andL (andL hc22))
      have p26 := of_decide_eq_true (andR (andL hc22))
      have p27 := of_decide_eq_true (andR hc22)
      refine Wp.exit ?_
      refine Wp.region rfl ?_
      refine Ops.val (Val.move ((hF16 4 rfl).trans (T.get_skip rfl ((hF11 4 rfl).trans (T.get_skip rfl (T.get_skip rfl (T.get_skip rfl (T.get_skip rfl (T.get_skip rfl (T.get_skip rfl (T.get_skip rfl (T.get_skip rfl (T.get_skip rfl (T.get_skip rfl (T.get_skip rfl g5))))))))))))))) rfl ?_
      refine Ops.val (Val.iadd T.get_same rfl (c := ((i : Int) + 1)) (wrap64 (by omega) (by omega))) rfl ?_
      refine Ops.val (Val.assign T.get_same) rfl ?_
      refine Ops.nil ?_
      exact ⟨_, (by omega), i + 1, (by omega), rfl, T.get_same, ((T.get_skip rfl (T.get_skip rfl (T.get_skip rfl ((hF16 3 rfl).trans (T.get_skip rfl ((hF11 3 rfl).trans (T.get_skip rfl (T.get_skip rfl (T.get_skip rfl (T.get_skip rfl (T.get_skip rfl (T.get_skip rfl (T.get_skip rfl (T.get_skip rfl (T.get_skip rfl (T.get_skip rfl (T.get_skip rfl g6))))))))))))))))).trans (congrArg (fun z => some (V.str z)) (by first | rw [rcl_skip (s := s) (i := i) ⟨⟨by assumption, by assumption⟩, by assumption⟩] | rw [rcl_lf (s := s) (i := i) (by assumption) (by assumption)] | rw [rcl_nul (s := s) (i := i) (by assumption) (by assumption)] | rw [rcl_other (s := s) (i := i) (by assumption) (by omega) (by assumption)]))), fun t ht => (T.get_skip (el ht rfl) (T.get_skip (el ht rfl) (T.get_skip (el ht rfl) ((hF16 t (elW ht rfl)).trans (T.get_skip (el ht rfl) ((hF11 t (elW ht rfl)).trans (T.get_skip (el ht rfl) (T.get_skip (el ht rfl) (T.get_skip (el ht rfl) (T.get_skip (el ht rfl) (T.get_skip (el ht rfl) (T.get_skip (el ht rfl) (T.get_skip (el ht rfl) (T.get_skip (el ht rfl) (T.get_skip (el ht rfl) (T.get_skip (el ht rfl) (T.get_skip (el ht rfl) (hW7 t ht)))))))))))))))))), hS⟩
    · skip
      have p28 : ¬ (((((s.getD i 0).toNat : Int) = 10) ∧ (0 < (i : Int))) ∧ (((s.getD ((((i : Int) - 1)).toNat) 0).toNat : Int) = 13)) := andF (iffA iffD iffD) iffD hc22
      refine Wp.skip ?_
      refine Wp.seq ?_
      refine Wp.seq ?_
      refine Wp.region rfl ?_
      refine Ops.val (Val.move ((hF16 5 rfl).trans (T.get_skip rfl ((hF11 5 rfl).trans (T.get_skip rfl (T.get_skip rfl (T.get_skip rfl T.get_same))))))) rfl ?_
      refine Ops.val (Val.ieql T.get_same rfl) rfl ?_
      refine Ops.val (Val.move T.get_same) rfl ?_
      refine Ops.cutN 3 [31, 32, 33] 33 (.b ((decide (((s.getD i 0).toNat : Int) = 13)) || (decide (((s.getD i 0).toNat : Int) = 12)))) ?_ (fun fr31 g29 hF30 => ?_)
      · rcases Bool.eq_false_or_eq_true (decide (((s.getD i 0).toNat : Int) = 13)) with hg32 | hg32
        · skip
          refine Ops.no rfl T.get_same hg32 rfl ?_
          refine Ops.no rfl (T.get_skip rfl T.get_same) hg32 rfl ?_
          refine Ops.val (Val.pickT (T.get_skip rfl (T.get_skip rfl T.get_same)) hg32 rfl) rfl ?_
          exact Ops.nil ⟨T.get_same.trans (cutOT hg32), fun t ht => (T.get_skip (el ht rfl) (T.get_skip (el ht rfl) (T.get_skip (el ht rfl) rfl))), rfl⟩
        · skip
          have p33 := of_decide_eq_false hg32
          refine Ops.yes rfl T.get_same hg32 ?_
          refine Ops.val (Val.move (T.get_skip rfl (T.get_skip rfl (T.get_skip rfl ((hF16 5 rfl).trans (T.get_skip rfl ((hF11 5 rfl).trans (T.get_skip rfl (T.get_skip rfl (T.get_skip rfl T.get_same)))))))))) rfl ?_
          refine Ops.yes rfl (T.get_skip rfl T.get_same) hg32 ?_
          refine Ops.val (Val.ieql T.get_same rfl) rfl ?_
          refine Ops.val (Val.pickF (T.get_skip rfl (T.get_skip rfl T.get_same)) hg32 T.get_same) rfl ?_
          exact Ops.nil ⟨T.get_same.trans (cutOF hg32), fun t ht => (T.get_skip (el ht rfl) (T.get_skip (el ht rfl) (T.get_skip (el ht rfl) rfl))), rfl⟩
      refine Ops.nil ?_
      refine Wp.cond g29 (fun hc34 => ?_) (fun hc34 => ?_)
      · skip
        have p35 : ((((s.getD i 0).toNat : Int) = 13) ∨ (((s.getD i 0).toNat : Int) = 12)) := orT iffD iffD hc34
        refine Wp.region rfl ?_
        refine Ops.val (Val.assign rfl) rfl ?_
        refine Ops.nil ?_
        refine Wp.seq ?_
        refine Wp.region rfl ?_
        refine Ops.val (Val.move T.get_same) rfl ?_
        refine Ops.val (Val.ieql T.get_same rfl) rfl ?_
        refine Ops.nil ?_
        refine Wp.cond T.get_same (fun hc36 => ?_) (fun hc36 => ?_)
        · skip
          have p37 := of_decide_eq_true hc36
          exact absurd p37 (by omega)
        · skip
          have p38 := of_decide_eq_false hc36
          refine Wp.region rfl ?_
          refine Ops.val (Val.move (T.get_skip rfl (T.get_skip rfl (T.get_skip rfl ((hF30 3 rfl).trans (T.get_skip rfl (T.get_skip rfl (T.get_skip rfl ((hF16 3 rfl).trans (T.get_skip rfl ((hF11 3 rfl).trans (T.get_skip rfl (T.get_skip rfl (T.get_skip rfl (T.get_skip rfl (T.get_skip rfl (T.get_skip rfl (T.get_skip rfl (T.get_skip rfl (T.get_skip rfl (T.get_skip rfl (T.get_skip rfl g6)))))))))))))))))))))) rfl ?_
          refine Ops.val (Val.move (T.get_skip rfl (T.get_skip rfl (T.get_skip rfl T.get_same)))) rfl ?_
          refine Ops.mem (Do.bytes1 (c := (10 : UInt8)) Try.underlying22 size5 zero5 T.get_same) rfl ?_
          rintro _ st39 ⟨rfl, hB, hS2⟩
          have hS := hS.then hS2 (Nat.le_refl _)
          refine Ops.mem (Do.toText (l := ([(10 : UInt8)] : List UInt8)) Try.underlying22 Try.underlying9 Try.underlying5 T.get_same hB) rfl ?_
          rintro _ _ ⟨rfl, rfl⟩
          refine Ops.val (Val.sadd (T.get_skip rfl (T.get_skip rfl (T.get_skip rfl T.get_same))) T.get_same (by first | omega | (simp; omega))) rfl ?_
          refine Ops.val (Val.assign T.get_same) rfl ?_
          refine Ops.nil ?_
          refine Wp.region rfl ?_
          refine Ops.val (Val.move (T.get_skip rfl (T.get_skip rfl (T.get_skip rfl (T.get_skip rfl (T.get_skip rfl (T.get_skip rfl (T.get_skip rfl (T.get_skip rfl (T.get_skip rfl ((hF30 4 rfl).trans (T.get_skip rfl (T.get_skip rfl (T.get_skip rfl ((hF16 4 rfl).trans (T.get_skip rfl ((hF11 4 rfl).trans (T.get_skip rfl (T.get_skip rfl (T.get_skip rfl (T.get_skip rfl (T.get_skip rfl (T.get_skip rfl (T.get_skip rfl (T.get_skip rfl (T.get_skip rfl (T.get_skip rfl (T.get_skip rfl g5)))))))))))))))))))))))))))) rfl ?_
          refine Ops.val (Val.iadd T.get_same rfl (c := ((i : Int) + 1)) (wrap64 (by omega) (by omega))) rfl ?_
          refine Ops.val (Val.assign T.get_same) rfl ?_
          refine Ops.nil ?_
          exact ⟨_, (by omega), i + 1, (by omega), rfl, T.get_same, ((T.get_skip rfl (T.get_skip rfl (T.get_skip rfl T.get_same))).trans (congrArg (fun z => some (V.str z)) (by first | rw [rcl_skip (s := s) (i := i) ⟨⟨by assumption, by assumption⟩, by assumption⟩] | rw [rcl_lf (s := s) (i := i) (by assumption) (by assumption)] | rw [rcl_nul (s := s) (i := i) (by assumption) (by assumption)] | rw [rcl_other (s := s) (i := i) (by assumption) (by omega) (by assumption)]))), fun t ht => (T.get_skip (el ht rfl) (T.get_skip (el ht rfl) (T.get_skip (el ht rfl) (T.get_skip (el ht rfl) (T.get_skip (el ht rfl) (T.get_skip (el ht rfl) (T.get_skip (el ht rfl) (T.get_skip (el ht rfl) (T.get_skip (el ht rfl) (T.get_skip (el ht rfl) (T.get_skip (el ht rfl) (T.get_skip (el ht rfl) ((hF30 t (elW ht rfl)).trans (T.get_skip (el ht rfl) (T.get_skip (el ht rfl) (T.get_skip (el ht rfl) ((hF16 t (elW ht rfl)).trans (T.get_skip (el ht rfl) ((hF11 t (elW ht rfl)).trans (T.get_skip (el ht rfl) (T.get_skip (el ht rfl) (T.get_skip (el ht rfl) (T.get_skip (el ht rfl) (T.get_skip (el ht rfl) (T.get_skip (el ht rfl) (T.get_skip (el ht rfl) (T.get_skip (el ht rfl) (T.get_skip (el ht rfl) (T.get_skip (el ht rfl) (T.get_skip (el ht rfl) (hW7 t ht))))))))))))))))))))))))))))))), hS⟩
      · skip
        have p41 := of_decide_eq_false (orL hc34)
        have p42 := of_decide_eq_false (orR hc34)
        refine Wp.skip ?_
        refine Wp.seq ?_
        refine Wp.region rfl ?_
        refine Ops.val (Val.move ((hF30 5 rfl).trans (T.get_skip rfl (T.get_skip rfl (T.get_skip rfl ((hF16 5 rfl).trans (T.get_skip rfl ((hF11 5 rfl).trans (T.get_skip rfl (T.get_skip rfl (T.get_skip rfl T.get_same))))))))))) rfl ?_
        refine Ops.val (Val.ieql T.get_same rfl) rfl ?_
        refine Ops.nil ?_
        refine Wp.cond T.get_same (fun hc43 => ?_) (fun hc43 => ?_)
        · skip
          have p44 := of_decide_eq_true hc43
          refine Wp.region rfl ?_
          refine Ops.val (Val.move (T.get_skip rfl (T.get_skip rfl ((hF30 3 rfl).trans (T.get_skip rfl (T.get_skip rfl (T.get_skip rfl ((hF16 3 rfl).trans (T.get_skip rfl ((hF11 3 rfl).trans (T.get_skip rfl (T.get_skip rfl (T.get_skip rfl (T.get_skip rfl (T.get_skip rfl (T.get_skip rfl (T.get_skip rfl (T.get_skip rfl (T.get_skip rfl (T.get_skip rfl (T.get_skip rfl g6))))))))))))))))))))) rfl ?_
          refine Ops.mem (Do.bytes3 (a := (239 : UInt8)) (c := (191 : UInt8)) (d := (189 : UInt8)) Try.underlying22 size5 zero5 rfl rfl rfl) rfl ?_
          rintro _ st45 ⟨rfl, hB, hS2⟩
          have hS := hS.then hS2 (Nat.le_refl _)
          refine Ops.mem (Do.toText (l := ([(239 : UInt8), (191 : UInt8), (189 : UInt8)] : List UInt8)) Try.underlying22 Try.underlying9 Try.underlying5 T.get_same hB) rfl ?_
          rintro _ _ ⟨rfl, rfl⟩
          refine Ops.val (Val.sadd (T.get_skip rfl (T.get_skip rfl T.get_same)) T.get_same (by first | omega | (simp; omega))) rfl ?_
          refine Ops.val (Val.assign T.get_same) rfl ?_
          refine Ops.nil ?_
          refine Wp.region rfl ?_
          refine Ops.val (Val.move (T.get_skip rfl (T.get_skip rfl (T.get_skip rfl (T.get_skip rfl (T.get_skip rfl (T.get_skip rfl (T.get_skip rfl ((hF30 4 rfl).trans (T.get_skip rfl (T.get_skip rfl (T.get_skip rfl ((hF16 4 rfl).trans (T.get_skip rfl ((hF11 4 rfl).trans (T.get_skip rfl (T.get_skip rfl (T.get_skip rfl (T.get_skip rfl (T.get_skip rfl (T.get_skip rfl (T.get_skip rfl (T.get_skip rfl (T.get_skip rfl (T.get_skip rfl (T.get_skip rfl g5)))))))))))))))))))))))))) rfl ?_
          refine Ops.val (Val.iadd T.get_same rfl (c := ((i : Int) + 1)) (wrap64 (by omega) (by omega))) rfl ?_
          refine Ops.val (Val.assign T.get_same) rfl ?_
          refine Ops.nil ?_
          exact ⟨_, (by omega), i + 1, (by omega), rfl, T.get_same, ((T.get_skip rfl (T.get_skip rfl (T.get_skip rfl T.get_same))).trans (congrArg (fun z => some (V.str z)) (by first | rw [rcl_skip (s := s) (i := i) ⟨⟨by assumption, by assumption⟩, by assumption⟩] | rw [rcl_lf (s := s) (i := i) (by assumption) (by assumption)] | rw [rcl_nul (s := s) (i := i) (by assumption) (by assumption)] | rw [rcl_other (s := s) (i := i) (by assumption) (by omega) (by assumption)]))), fun t ht => (T.get_skip (el ht rfl) (T.get_skip (el ht rfl) (T.get_skip (el ht rfl) (T.get_skip (el ht rfl) (T.get_skip (el ht rfl) (T.get_skip (el ht rfl) (T.get_skip (el ht rfl) (T.get_skip (el ht rfl) (T.get_skip (el ht rfl) (T.get_skip (el ht rfl) ((hF30 t (elW ht rfl)).trans (T.get_skip (el ht rfl) (T.get_skip (el ht rfl) (T.get_skip (el ht rfl) ((hF16 t (elW ht rfl)).trans (T.get_skip (el ht rfl) ((hF11 t (elW ht rfl)).trans (T.get_skip (el ht rfl) (T.get_skip (el ht rfl) (T.get_skip (el ht rfl) (T.get_skip (el ht rfl) (T.get_skip (el ht rfl) (T.get_skip (el ht rfl) (T.get_skip (el ht rfl) (T.get_skip (el ht rfl) (T.get_skip (el ht rfl) (T.get_skip (el ht rfl) (T.get_skip (el ht rfl) (hW7 t ht))))))))))))))))))))))))))))), hS⟩
        · skip
          have p46 := of_decide_eq_false hc43
          refine Wp.region rfl ?_
          refine Ops.val (Val.move (T.get_skip rfl (T.get_skip rfl ((hF30 3 rfl).trans (T.get_skip rfl (T.get_skip rfl (T.get_skip rfl ((hF16 3 rfl).trans (T.get_skip rfl ((hF11 3 rfl).trans (T.get_skip rfl (T.get_skip rfl (T.get_skip rfl (T.get_skip rfl (T.get_skip rfl (T.get_skip rfl (T.get_skip rfl (T.get_skip rfl (T.get_skip rfl (T.get_skip rfl (T.get_skip rfl g6))))))))))))))))))))) rfl ?_
          refine Ops.val (Val.move (T.get_skip rfl (T.get_skip rfl (T.get_skip rfl ((hF30 5 rfl).trans (T.get_skip rfl (T.get_skip rfl (T.get_skip rfl ((hF16 5 rfl).trans (T.get_skip rfl ((hF11 5 rfl).trans (T.get_skip rfl (T.get_skip rfl (T.get_skip rfl T.get_same)))))))))))))) rfl ?_
          refine Ops.mem (Do.bytes1 (c := (s.getD i 0)) Try.underlying22 size5 zero5 T.get_same) rfl ?_
          rintro _ st47 ⟨rfl, hB, hS2⟩
          have hS := hS.then hS2 (Nat.le_refl _)
          refine Ops.mem (Do.toText (l := ([(s.getD i 0)] : List UInt8)) Try.underlying22 Try.underlying9 Try.underlying5 T.get_same hB) rfl ?_
          rintro _ _ ⟨rfl, rfl⟩
          refine Ops.val (Val.sadd (T.get_skip rfl (T.get_skip rfl (T.get_skip rfl T.get_same))) T.get_same (by first | omega | (simp; omega))) rfl ?_
          refine Ops.val (Val.assign T.get_same) rfl ?_
          refine Ops.nil ?_
          refine Wp.region rfl ?_
          refine Ops.val (Val.move (T.get_skip rfl (T.get_skip rfl (T.get_skip rfl (T.get_skip rfl (T.get_skip rfl (T.get_skip rfl (T.get_skip rfl (T.get_skip rfl ((hF30 4 rfl).trans (T.get_skip rfl (T.get_skip rfl (T.get_skip rfl ((hF16 4 rfl).trans (T.get_skip rfl ((hF11 4 rfl).trans (T.get_skip rfl (T.get_skip rfl (T.get_skip rfl (T.get_skip rfl (T.get_skip rfl (T.get_skip rfl (T.get_skip rfl (T.get_skip rfl (T.get_skip rfl (T.get_skip rfl (T.get_skip rfl g5))))))))))))))))))))))))))) rfl ?_
          refine Ops.val (Val.iadd T.get_same rfl (c := ((i : Int) + 1)) (wrap64 (by omega) (by omega))) rfl ?_
          refine Ops.val (Val.assign T.get_same) rfl ?_
          refine Ops.nil ?_
          exact ⟨_, (by omega), i + 1, (by omega), rfl, T.get_same, ((T.get_skip rfl (T.get_skip rfl (T.get_skip rfl T.get_same))).trans (congrArg (fun z => some (V.str z)) (by first | rw [rcl_skip (s := s) (i := i) ⟨⟨by assumption, by assumption⟩, by assumption⟩] | rw [rcl_lf (s := s) (i := i) (by assumption) (by assumption)] | rw [rcl_nul (s := s) (i := i) (by assumption) (by assumption)] | rw [rcl_other (s := s) (i := i) (by assumption) (by omega) (by assumption)]))), fun t ht => (T.get_skip (el ht rfl) (T.get_skip (el ht rfl) (T.get_skip (el ht rfl) (T.get_skip (el ht rfl) (T.get_skip (el ht rfl) (T.get_skip (el ht rfl) (T.get_skip (el ht rfl) (T.get_skip (el ht rfl) (T.get_skip (el ht rfl) (T.get_skip (el ht rfl) (T.get_skip (el ht rfl) ((hF30 t (elW ht rfl)).trans (T.get_skip (el ht rfl) (T.get_skip (el ht rfl) (T.get_skip (el ht rfl) ((hF16 t (elW ht rfl)).trans (T.get_skip (el ht rfl) ((hF11 t (elW ht rfl)).trans (T.get_skip (el ht rfl) (T.get_skip (el ht rfl) (T.get_skip (el ht rfl) (T.get_skip (el ht rfl) (T.get_skip (el ht rfl) (T.get_skip (el ht rfl) (T.get_skip (el ht rfl) (T.get_skip (el ht rfl) (T.get_skip (el ht rfl) (T.get_skip (el ht rfl) (T.get_skip (el ht rfl) (hW7 t ht)))))))))))))))))))))))))))))), hS⟩
  · skip
    have p48 := of_decide_eq_false hc8
    refine Wp.exit ?_
    refine Wp.seq ?_
    refine Wp.region rfl ?_
    refine Ops.val (Val.move (T.get_skip rfl (T.get_skip rfl (T.get_skip rfl (T.get_skip rfl g6))))) rfl ?_
    refine Ops.val (Val.assign T.get_same) rfl ?_
    refine Ops.nil ?_
    refine Wp.ret ?_
    show Vm.Fin Try.prog Try.f27 (fun v st' => v = V.str (cleaned s) ∧ Sub st.nx st st') .ret _ _
    refine Fin.one (.inr rfl) rfl T.get_same ?_
    have hik : i = s.length := by omega
    subst hik
    exact ⟨by rw [rcl_all], hS⟩

theorem rclean_ev (s : List UInt8) (st : St) (hn : s.length + 300 ≤ n) : Ev Try.prog ov1 0 n 19 [(V.str (s))] st (fun v st' => v = .t [V.str (cleanT s), .i .i64 (cleanE s)] ∧ Sub st.nx st st') := by
  obtain ⟨m, rfl⟩ : ∃ m, n = m + 60 := ⟨n - 60, by omega⟩
  have hS := Sub.refl st.nx st
  refine Ev.enter rfl Try.func19 rfl rfl rfl (frame1 _) ?_
  refine Wp.seq ?_
  refine Wp.region rfl ?_
  refine Ops.val (Val.assign (show opnd _ _ = some (V.str ([] : List UInt8)) from rfl)) rfl ?_
  refine Ops.val (Val.assign rfl) rfl ?_
  refine Ops.nil ?_
  refine Wp.seq ?_
  refine Wp.seq ?_
  refine Wp.region rfl ?_
  refine Ops.val (Val.move (T.get_skip rfl (T.get_skip rfl T.get_same))) rfl ?_
  refine Ops.val (Val.slen Try.underlying9 T.get_same) rfl ?_
  refine Ops.val (Val.gtr T.get_same rfl) rfl ?_
  refine Ops.nil ?_
  refine Wp.cond T.get_same (fun hc1 => ?_) (fun hc1 => ?_)
  · skip
    have p2 := of_decide_eq_true hc1
    refine Wp.seq ?_
    refine Wp.region rfl ?_
    refine Ops.val (Val.assign (show opnd _ _ = some (V.str ([] : List UInt8)) from rfl)) rfl ?_
    refine Ops.val (Val.assign rfl) rfl ?_
    refine Ops.nil ?_
    refine Wp.ret ?_
    show Vm.Fin Try.prog Try.f19 (fun v st' => v = .t [V.str (cleanT s), .i .i64 (cleanE s)] ∧ Sub st.nx st st') .ret _ _
    refine Fin.two (.inr rfl) rfl (T.get_skip rfl T.get_same) T.get_same ?_
    exact ⟨by first | rw [(clean_long (s := s) (by omega)).1, (clean_long (s := s) (by omega)).2] | rw [(clean_short (s := s) (by omega)).1, (clean_short (s := s) (by omega)).2], hS⟩
  · skip
    have p3 := of_decide_eq_false hc1
    refine Wp.skip ?_
    refine Wp.seq ?_
    refine Wp.region rfl ?_
    refine Ops.val (Val.move (T.get_skip rfl (T.get_skip rfl (T.get_skip rfl (T.get_skip rfl (T.get_skip rfl T.get_same)))))) rfl ?_
    refine Ops.call (opndsC T.get_same opnds0) rfl (rcleaned_ev _ (by omega) _ (by omega)) ?_
    rintro _ st4 ⟨rfl, hs5⟩
    have hS := hS.then hs5 (Nat.le_refl _)
    refine Ops.val (Val.assign T.get_same) rfl ?_
    refine Ops.val (Val.assign rfl) rfl ?_
    refine Ops.nil ?_
    refine Wp.ret ?_
    show Vm.Fin Try.prog Try.f19 (fun v st' => v = .t [V.str (cleanT s), .i .i64 (cleanE s)] ∧ Sub st.nx st st') .ret _ _
    refine Fin.two (.inr rfl) rfl (T.get_skip rfl T.get_same) T.get_same ?_
    exact ⟨by first | rw [(clean_long (s := s) (by omega)).1, (clean_long (s := s) (by omega)).2] | rw [(clean_short (s := s) (by omega)).1, (clean_short (s := s) (by omega)).2], hS⟩

theorem cleanLong_ev (s : List UInt8) (hs : 4000 < s.length) (st : St) (hn : s.length + 150 ≤ n) : Ev Try.prog ov1 0 n 11 [(V.str (s))] st (fun v st' => v = .t [V.str (cleanT s), .i .i64 (cleanE s)] ∧ Sub st.nx st st') := by
  obtain ⟨m, rfl⟩ : ∃ m, n = m + 60 := ⟨n - 60, by omega⟩
  have hS := Sub.refl st.nx st
  refine Ev.enter rfl Try.func11 rfl rfl rfl (frame1 _) ?_
  refine Wp.seq ?_
  refine Wp.region rfl ?_
  refine Ops.val (Val.assign (show opnd _ _ = some (V.str ([] : List UInt8)) from rfl)) rfl ?_
  refine Ops.val (Val.assign rfl) rfl ?_
  refine Ops.nil ?_
  refine Wp.seq ?_
  refine Wp.seq ?_
  refine Wp.region rfl ?_
  refine Ops.val (Val.move (T.get_skip rfl (T.get_skip rfl T.get_same))) rfl ?_
  refine Ops.val (Val.slen Try.underlying9 T.get_same) rfl ?_
  refine Ops.val (Val.gtr T.get_same rfl) rfl ?_
  refine Ops.nil ?_
  refine Wp.cond T.get_same (fun hc1 => ?_) (fun hc1 => ?_)
  · skip
    have p2 := of_decide_eq_true hc1
    refine Wp.seq ?_
    refine Wp.region rfl ?_
    refine Ops.val (Val.assign (show opnd _ _ = some (V.str ([] : List UInt8)) from rfl)) rfl ?_
    refine Ops.val (Val.assign rfl) rfl ?_
    refine Ops.nil ?_
    refine Wp.ret ?_
    show Vm.Fin Try.prog Try.f11 (fun v st' => v = .t [V.str (cleanT s), .i .i64 (cleanE s)] ∧ Sub st.nx st st') .ret _ _
    refine Fin.two (.inr rfl) rfl (T.get_skip rfl T.get_same) T.get_same ?_
    exact ⟨by first | rw [(clean_long (s := s) (by omega)).1, (clean_long (s := s) (by omega)).2] | rw [(clean_short (s := s) (by omega)).1, (clean_short (s := s) (by omega)).2], hS⟩
  · skip
    have p3 := of_decide_eq_false hc1
    exact absurd hs (by omega)

theorem cleanAll_ev (s : List UInt8) (st : St) (hn : s.length + 150 ≤ n) : Ev Try.prog ov1 0 n 11 [V.str s] st (fun v st' => v = .t [V.str (cleanT s), .i .i64 (cleanE s)] ∧ Sub st.nx st st') := by
  by_cases h : 4000 < s.length
  · exact cleanLong_ev s h st hn
  · rw [(clean_short h).1, (clean_short h).2]; exact clean_ev s (by omega) st hn

theorem rlines_ev (s : List UInt8) (hs : s.length ≤ 1099511627776) (st : St) (hn : s.length + 400 ≤ n) : Ev Try.prog ov1 0 n 20 [(V.str (s))] st (fun v st' => v = (.t [(.i .i64 (pRow s (s.length : Int))), (.i .i64 (pErr s (s.length : Int)))]) ∧ st' = st) := by
  obtain ⟨m, rfl⟩ : ∃ m, n = m + 60 := ⟨n - 60, by omega⟩
  have hle := ends_le s
  refine Ev.enter rfl Try.func20 rfl rfl rfl (frame1 _) ?_
  refine Wp.seq ?_
  refine Wp.region rfl ?_
  refine Ops.val (Val.assign rfl) rfl ?_
  refine Ops.val (Val.assign rfl) rfl ?_
  refine Ops.nil ?_
  refine Wp.seq ?_
  refine Wp.seq ?_
  refine Wp.region rfl ?_
  refine Ops.val (Val.move (T.get_skip rfl (T.get_skip rfl T.get_same))) rfl ?_
  refine Ops.call (opndsC T.get_same opnds0) rfl (rcheck_ev _ (by first | assumption | omega) _ (by omega)) ?_
  rintro _ _ ⟨rfl, hq⟩
  obtain rfl := Eq.symm hq
  refine Ops.val (Val.assign T.get_same) rfl ?_
  refine Ops.nil ?_
  refine Wp.seq ?_
  refine Wp.region rfl ?_
  refine Ops.val (Val.move T.get_same) rfl ?_
  refine Ops.val (Val.ineq T.get_same rfl) rfl ?_
  refine Ops.nil ?_
  refine Wp.cond T.get_same (fun hc1 => ?_) (fun hc1 => ?_)
  · skip
    have p2 := of_decide_eq_true hc1
    refine Wp.seq ?_
    refine Wp.region rfl ?_
    refine Ops.val (Val.move (T.get_skip rfl (T.get_skip rfl T.get_same))) rfl ?_
    refine Ops.val (Val.assign rfl) rfl ?_
    refine Ops.val (Val.assign (T.get_skip rfl T.get_same)) rfl ?_
    refine Ops.nil ?_
    refine Wp.ret ?_
    show Vm.Fin Try.prog Try.f20 (fun v st' => v = (.t [(.i .i64 (pRow s (s.length : Int))), (.i .i64 (pErr s (s.length : Int)))]) ∧ st' = st) .ret _ _
    refine Fin.two (.inr rfl) rfl (T.get_skip rfl T.get_same) T.get_same ?_
    exact ⟨by rw [(place_bad (s := s) (k := (s.length : Int)) (by omega)).1, (place_bad (s := s) (k := (s.length : Int)) (by omega)).2.2], rfl⟩
  · skip
    have p3 := of_decide_eq_false hc1
    refine Wp.skip ?_
    refine Wp.seq ?_
    refine Wp.region rfl ?_
    refine Ops.val (Val.move (T.get_skip rfl (T.get_skip rfl (T.get_skip rfl (T.get_skip rfl (T.get_skip rfl (T.get_skip rfl (T.get_skip rfl T.get_same)))))))) rfl ?_
    refine Ops.call (opndsC T.get_same opnds0) rfl (ends_ev _ (by first | assumption | omega | (simp; omega)) _ (by first | omega | (simp; omega))) ?_
    rintro _ _ ⟨rfl, hq⟩
    obtain rfl := Eq.symm hq
    refine Ops.val (Val.iadd T.get_same rfl (c := ((ends s : Int) + 1)) (wrap64 (by omega) (by omega))) rfl ?_
    refine Ops.val (Val.assign T.get_same) rfl ?_
    refine Ops.val (Val.assign rfl) rfl ?_
    refine Ops.nil ?_
    refine Wp.ret ?_
    show Vm.Fin Try.prog Try.f20 (fun v st' => v = (.t [(.i .i64 (pRow s (s.length : Int))), (.i .i64 (pErr s (s.length : Int)))]) ∧ st' = st) .ret _ _
    refine Fin.two (.inr rfl) rfl (T.get_skip rfl T.get_same) T.get_same ?_
    exact ⟨by rw [(lines_in (s := s) (by omega)).1, (lines_in (s := s) (by omega)).2], rfl⟩

theorem rplace_ev (s : List UInt8) (k : Int) (hs : s.length ≤ 1099511627776) (st : St) (hn : s.length + 400 ≤ n) : Ev Try.prog ov1 0 n 21 [(V.str (s)), (.i .i64 (k))] st (fun v st' => v = (.t [(.i .i64 (pRow s k)), (.i .i64 (pCol s k)), (.i .i64 (pErr s k))]) ∧ st' = st) := by
  obtain ⟨m, rfl⟩ : ∃ m, n = m + 60 := ⟨n - 60, by omega⟩
  have hle := ends_le (s.take k.toNat)
  rw [List.length_take] at hle
  refine Ev.enter rfl Try.func21 rfl rfl rfl (frame2 _ _) ?_
  refine Wp.seq ?_
  refine Wp.region rfl ?_
  refine Ops.val (Val.assign rfl) rfl ?_
  refine Ops.val (Val.assign rfl) rfl ?_
  refine Ops.val (Val.assign rfl) rfl ?_
  refine Ops.nil ?_
  refine Wp.seq ?_
  refine Wp.seq ?_
  refine Wp.region rfl ?_
  refine Ops.val (Val.move (T.get_skip rfl (T.get_skip rfl (T.get_skip rfl (T.get_skip rfl T.get_same))))) rfl ?_
  refine Ops.call (opndsC T.get_same opnds0) rfl (rcheck_ev _ (by first | assumption | omega) _ (by omega)) ?_
  rintro _ _ ⟨rfl, hq⟩
  obtain rfl := Eq.symm hq
  refine Ops.val (Val.assign T.get_same) rfl ?_
  refine Ops.nil ?_
  refine Wp.seq ?_
  refine Wp.region rfl ?_
  refine Ops.val (Val.move T.get_same) rfl ?_
  refine Ops.val (Val.ineq T.get_same rfl) rfl ?_
  refine Ops.nil ?_
  refine Wp.cond T.get_same (fun hc1 => ?_) (fun hc1 => ?_)
  · skip
    have p2 := of_decide_eq_true hc1
    refine Wp.seq ?_
    refine Wp.region rfl ?_
    refine Ops.val (Val.move (T.get_skip rfl (T.get_skip rfl T.get_same))) rfl ?_
    refine Ops.val (Val.assign rfl) rfl ?_
    refine Ops.val (Val.assign rfl) rfl ?_
    refine Ops.val (Val.assign (T.get_skip rfl (T.get_skip rfl T.get_same))) rfl ?_
    refine Ops.nil ?_
    refine Wp.ret ?_
    show Vm.Fin Try.prog Try.f21 (fun v st' => v = (.t [(.i .i64 (pRow s k)), (.i .i64 (pCol s k)), (.i .i64 (pErr s k))]) ∧ st' = st) .ret _ _
    refine Fin.three (.inr rfl) rfl (T.get_skip rfl (T.get_skip rfl T.get_same)) (T.get_skip rfl T.get_same) T.get_same ?_
    exact ⟨by rw [(place_bad (s := s) (k := k) (by omega)).1, (place_bad (s := s) (k := k) (by omega)).2.1, (place_bad (s := s) (k := k) (by omega)).2.2], rfl⟩
  · skip
    have p3 := of_decide_eq_false hc1
    refine Wp.skip ?_
    refine Wp.seq ?_
    refine Wp.seq ?_
    refine Wp.region rfl ?_
    refine Ops.val (Val.move (T.get_skip rfl (T.get_skip rfl (T.get_skip rfl (T.get_skip rfl (T.get_skip rfl (T.get_skip rfl (T.get_skip rfl (T.get_skip rfl T.get_same))))))))) rfl ?_
    refine Ops.val (Val.lss T.get_same rfl) rfl ?_
    refine Ops.val (Val.move T.get_same) rfl ?_
    refine Ops.cutN 5 [18, 19, 20, 21, 22] 22 (.b ((decide (k < 0)) || (decide ((s.length : Int) < k)))) ?_ (fun fr6 g4 hF5 => ?_)
    · rcases Bool.eq_false_or_eq_true (decide (k < 0)) with hg7 | hg7
      · skip
        refine Ops.no rfl T.get_same hg7 rfl ?_
        refine Ops.no rfl (T.get_skip rfl T.get_same) hg7 rfl ?_
        refine Ops.no rfl (T.get_skip rfl (T.get_skip rfl T.get_same)) hg7 rfl ?_
        refine Ops.no rfl (T.get_skip rfl (T.get_skip rfl (T.get_skip rfl T.get_same))) hg7 rfl ?_
        refine Ops.val (Val.pickT (T.get_skip rfl (T.get_skip rfl (T.get_skip rfl (T.get_skip rfl T.get_same)))) hg7 rfl) rfl ?_
        exact Ops.nil ⟨T.get_same.trans (cutOT hg7), fun t ht => (T.get_skip (el ht rfl) (T.get_skip (el ht rfl) (T.get_skip (el ht rfl) (T.get_skip (el ht rfl) (T.get_skip (el ht rfl) rfl))))), rfl⟩
      · skip
        have p8 := of_decide_eq_false hg7
        refine Ops.yes rfl T.get_same hg7 ?_
        refine Ops.val (Val.move (T.get_skip rfl (T.get_skip rfl (T.get_skip rfl (T.get_skip rfl (T.get_skip rfl (T.get_skip rfl (T.get_skip rfl (T.get_skip rfl (T.get_skip rfl (T.get_skip rfl (T.get_skip rfl T.get_same)))))))))))) rfl ?_
        refine Ops.yes rfl (T.get_skip rfl T.get_same) hg7 ?_
        refine Ops.val (Val.move (T.get_skip rfl (T.get_skip rfl (T.get_skip rfl (T.get_skip rfl (T.get_skip rfl (T.get_skip rfl (T.get_skip rfl (T.get_skip rfl (T.get_skip rfl (T.get_skip rfl (T.get_skip rfl (T.get_skip rfl (T.get_skip rfl T.get_same)))))))))))))) rfl ?_
        refine Ops.yes rfl (T.get_skip rfl (T.get_skip rfl T.get_same)) hg7 ?_
        refine Ops.val (Val.slen Try.underlying9 T.get_same) rfl ?_
        refine Ops.yes rfl (T.get_skip rfl (T.get_skip rfl (T.get_skip rfl T.get_same))) hg7 ?_
        refine Ops.val (Val.gtr (T.get_skip rfl (T.get_skip rfl T.get_same)) T.get_same) rfl ?_
        refine Ops.val (Val.pickF (T.get_skip rfl (T.get_skip rfl (T.get_skip rfl (T.get_skip rfl T.get_same)))) hg7 T.get_same) rfl ?_
        exact Ops.nil ⟨T.get_same.trans (cutOF hg7), fun t ht => (T.get_skip (el ht rfl) (T.get_skip (el ht rfl) (T.get_skip (el ht rfl) (T.get_skip (el ht rfl) (T.get_skip (el ht rfl) rfl))))), rfl⟩
    refine Ops.nil ?_
    refine Wp.cond g4 (fun hc9 => ?_) (fun hc9 => ?_)
    · skip
      have p10 : ((k < 0) ∨ ((s.length : Int) < k)) := orT iffD iffD hc9
      refine Wp.seq ?_
      refine Wp.region rfl ?_
      refine Ops.val (Val.assign rfl) rfl ?_
      refine Ops.val (Val.assign rfl) rfl ?_
      refine Ops.val (Val.assign rfl) rfl ?_
      refine Ops.nil ?_
      refine Wp.ret ?_
      show Vm.Fin Try.prog Try.f21 (fun v st' => v = (.t [(.i .i64 (pRow s k)), (.i .i64 (pCol s k)), (.i .i64 (pErr s k))]) ∧ st' = st) .ret _ _
      refine Fin.three (.inr rfl) rfl (T.get_skip rfl (T.get_skip rfl T.get_same)) (T.get_skip rfl T.get_same) T.get_same ?_
      exact ⟨by rw [(place_out (s := s) (k := k) (by omega) (by omega)).1, (place_out (s := s) (k := k) (by omega) (by omega)).2.1, (place_out (s := s) (k := k) (by omega) (by omega)).2.2], rfl⟩
    · skip
      have p12 := of_decide_eq_false (orL hc9)
      have p13 := of_decide_eq_false (orR hc9)
      refine Wp.skip ?_
      refine Wp.seq ?_
      refine Wp.region rfl ?_
      refine Ops.val (Val.assign rfl) rfl ?_
      refine Ops.nil ?_
      refine Wp.seq ?_
      refine Wp.seq ?_
      refine Wp.region rfl ?_
      refine Ops.val (Val.move (T.get_skip rfl ((hF5 1 rfl).trans (T.get_skip rfl (T.get_skip rfl (T.get_skip rfl (T.get_skip rfl (T.get_skip rfl (T.get_skip rfl (T.get_skip rfl (T.get_skip rfl (T.get_skip rfl (T.get_skip rfl (T.get_skip rfl T.get_same)))))))))))))) rfl ?_
      refine Ops.val (Val.isub T.get_same rfl (c := (k - 1)) (wrap64 (by omega) (by omega))) rfl ?_
      refine Ops.val (Val.assign T.get_same) rfl ?_
      refine Ops.nil ?_
      refine Wp.block ?_
      refine Wp.rebase (fun fr14 hF15 => ?_)
      have g16 := (hF15 0).trans (T.get_skip rfl (T.get_skip rfl (T.get_skip rfl (T.get_skip rfl ((hF5 0 rfl).trans (T.get_skip rfl (T.get_skip rfl (T.get_skip rfl (T.get_skip rfl (T.get_skip rfl (T.get_skip rfl (T.get_skip rfl (T.get_skip rfl (T.get_skip rfl (T.get_skip rfl (T.get_skip rfl (T.get_skip rfl T.get_same)))))))))))))))))
      have g17 := (hF15 1).trans (T.get_skip rfl (T.get_skip rfl (T.get_skip rfl (T.get_skip rfl ((hF5 1 rfl).trans (T.get_skip rfl (T.get_skip rfl (T.get_skip rfl (T.get_skip rfl (T.get_skip rfl (T.get_skip rfl (T.get_skip rfl (T.get_skip rfl (T.get_skip rfl (T.get_skip rfl (T.get_skip rfl T.get_same))))))))))))))))
      have g18 := (hF15 4).trans (T.get_skip rfl (T.get_skip rfl (T.get_skip rfl (T.get_skip rfl ((hF5 4 rfl).trans (T.get_skip rfl (T.get_skip rfl (T.get_skip rfl (T.get_skip rfl (T.get_skip rfl (T.get_skip rfl (T.get_skip rfl (T.get_skip rfl (T.get_skip rfl (T.get_skip rfl T.get_same)))))))))))))))
      have g19 := (hF15 5).trans (T.get_skip rfl (T.get_skip rfl (T.get_skip rfl (T.get_skip rfl ((hF5 5 rfl).trans (T.get_skip rfl (T.get_skip rfl (T.get_skip rfl (T.get_skip rfl (T.get_skip rfl (T.get_skip rfl (T.get_skip rfl (T.get_skip rfl (T.get_skip rfl T.get_same))))))))))))))
      have g20 := (hF15 6).trans (T.get_skip rfl (T.get_skip rfl (T.get_skip rfl (T.get_skip rfl ((hF5 6 rfl).trans (T.get_skip rfl (T.get_skip rfl (T.get_skip rfl (T.get_skip rfl (T.get_skip rfl (T.get_skip rfl (T.get_skip rfl (T.get_skip rfl T.get_same)))))))))))))
      have g21 := (hF15 7).trans (T.get_skip rfl (T.get_skip rfl (T.get_skip rfl (T.get_skip rfl ((hF5 7 rfl).trans (T.get_skip rfl (T.get_skip rfl (T.get_skip rfl (T.get_skip rfl (T.get_skip rfl T.get_same))))))))))
      have g22 := (hF15 10).trans (T.get_skip rfl (T.get_skip rfl (T.get_skip rfl (T.get_skip rfl ((hF5 10 rfl).trans (T.get_skip rfl (T.get_skip rfl (T.get_skip rfl (T.get_skip rfl (T.get_skip rfl (T.get_skip rfl (T.get_skip rfl T.get_same))))))))))))
      have g23 := (hF15 11).trans (T.get_skip rfl (T.get_skip rfl (T.get_skip rfl (T.get_skip rfl ((hF5 11 rfl).trans (T.get_skip rfl (T.get_skip rfl (T.get_skip rfl (T.get_skip rfl (T.get_skip rfl (T.get_skip rfl T.get_same)))))))))))
      have g24 := (hF15 12).trans (T.get_skip rfl (T.get_skip rfl (T.get_skip rfl (T.get_skip rfl ((hF5 12 rfl).trans (T.get_skip rfl (T.get_skip rfl (T.get_skip rfl (T.get_skip rfl T.get_same)))))))))
      have g25 := (hF15 13).trans (T.get_skip rfl (T.get_skip rfl (T.get_skip rfl (T.get_skip rfl ((hF5 13 rfl).trans (T.get_skip rfl (T.get_skip rfl (T.get_skip rfl T.get_same))))))))
      have g26 := (hF15 15).trans (T.get_skip rfl (T.get_skip rfl (T.get_skip rfl (T.get_skip rfl ((hF5 15 rfl).trans (T.get_skip rfl (T.get_skip rfl T.get_same)))))))
      have g27 := (hF15 16).trans (T.get_skip rfl (T.get_skip rfl (T.get_skip rfl (T.get_skip rfl ((hF5 16 rfl).trans (T.get_skip rfl T.get_same))))))
      have g28 := (hF15 17).trans (T.get_skip rfl (T.get_skip rfl (T.get_skip rfl (T.get_skip rfl ((hF5 17 rfl).trans T.get_same)))))
      have g29 := (hF15 22).trans (T.get_skip rfl (T.get_skip rfl (T.get_skip rfl (T.get_skip rfl g4))))
      have g30 := (hF15 23).trans (T.get_skip rfl (T.get_skip rfl T.get_same))
      have g31 := (hF15 24).trans (T.get_skip rfl T.get_same)
      refine Wp.loop (I := fun mm fr sx => ∃ (i : Nat) (c : Nat), (i ≤ k.toNat) ∧ ((col (s.take k.toNat) : Int) = (c : Int) - 1 + (col (s.take i) : Int)) ∧ (c + i = k.toNat + 1) ∧ mm = i + 1 ∧ fr.get 9 = some (.i .i64 (((i : Int) - 1))) ∧ fr.get 8 = some (.i .i64 ((c : Int))) ∧ (∀ t, [8, 9, 25, 26, 27, 28, 29, 30, 31, 32, 33, 34, 35, 36].elem t = false → fr.get t = fr14.get t) ∧ st = sx) (k.toNat + 1) (by omega) ⟨k.toNat, 1, (by omega), (by omega), (by omega), rfl, (hF15 9).trans (T.get_same.trans (by rw [Int.toNat_of_nonneg (by omega)])), (hF15 8).trans (T.get_skip rfl (T.get_skip rfl (T.get_skip rfl T.get_same))), fun t _ => rfl, rfl⟩ (fun mm fr sx hI => ?_)
      obtain ⟨i, c, hi, hcol, hci, rfl, g32, g33, hW34, rfl⟩ := hI
      refine Wp.seq ?_
      refine Wp.seq ?_
      refine Wp.region rfl ?_
      refine Ops.val (Val.move g32) rfl ?_
      refine Ops.val (Val.geq T.get_same rfl) rfl ?_
      refine Ops.val (Val.move T.get_same) rfl ?_
      refine Ops.cutN 5 [28, 29, 30, 31, 32] 32 (.b ((decide (0 ≤ ((i : Int) - 1))) && (decide (((s.getD ((((i : Int) - 1)).toNat) 0).toNat : Int) ≠ 10)))) ?_ (fun fr37 g35 hF36 => ?_)
      · rcases Bool.eq_false_or_eq_true (decide (0 ≤ ((i : Int) - 1))) with hg38 | hg38
        · skip
          have p39 := of_decide_eq_true hg38
          refine Ops.yes rfl T.get_same hg38 ?_
          refine Ops.val (Val.move (T.get_skip rfl (T.get_skip rfl (T.get_skip rfl ((hW34 0 rfl).trans g16))))) rfl ?_
          refine Ops.yes rfl (T.get_skip rfl T.get_same) hg38 ?_
          refine Ops.val (Val.move (T.get_skip rfl (T.get_skip rfl (T.get_skip rfl (T.get_skip rfl g32))))) rfl ?_
          refine Ops.yes rfl (T.get_skip rfl (T.get_skip rfl T.get_same)) hg38 ?_
          refine Ops.val (Val.sidx (i := (((i : Int) - 1)).toNat) Try.underlying9 (T.get_skip rfl T.get_same) (T.get_same.trans (by rw [Int.toNat_of_nonneg (a := ((i : Int) - 1)) (by omega)])) (by omega)) rfl ?_
          refine Ops.yes rfl (T.get_skip rfl (T.get_skip rfl (T.get_skip rfl T.get_same))) hg38 ?_
          refine Ops.val (Val.ineq T.get_same rfl) rfl ?_
          refine Ops.val (Val.pickT (T.get_skip rfl (T.get_skip rfl (T.get_skip rfl (T.get_skip rfl T.get_same)))) hg38 T.get_same) rfl ?_
          exact Ops.nil ⟨T.get_same.trans (cutAT hg38), fun t ht => (T.get_skip (el ht rfl) (T.get_skip (el ht rfl) (T.get_skip (el ht rfl) (T.get_skip (el ht rfl) (T.get_skip (el ht rfl) rfl))))), rfl⟩
        · skip
          refine Ops.no rfl T.get_same hg38 rfl ?_
          refine Ops.no rfl (T.get_skip rfl T.get_same) hg38 rfl ?_
          refine Ops.no rfl (T.get_skip rfl (T.get_skip rfl T.get_same)) hg38 rfl ?_
          refine Ops.no rfl (T.get_skip rfl (T.get_skip rfl (T.get_skip rfl T.get_same))) hg38 rfl ?_
          refine Ops.val (Val.pickF (T.get_skip rfl (T.get_skip rfl (T.get_skip rfl (T.get_skip rfl T.get_same)))) hg38 rfl) rfl ?_
          exact Ops.nil ⟨T.get_same.trans (cutAF hg38), fun t ht => (T.get_skip (el ht rfl) (T.get_skip (el ht rfl) (T.get_skip (el ht rfl) (T.get_skip (el ht rfl) (T.get_skip (el ht rfl) rfl))))), rfl⟩
      refine Ops.nil ?_
      refine Wp.cond g35 (fun hc40 => ?_) (fun hc40 => ?_)
      · skip
        have p42 := of_decide_eq_true (andL hc40)
        have p43 := of_decide_eq_true (andR hc40)
        refine Wp.skip ?_
        refine Wp.seq ?_
        refine Wp.block ?_
        refine Wp.region rfl ?_
        refine Ops.val (Val.move ((hF36 8 rfl).trans (T.get_skip rfl (T.get_skip rfl (T.get_skip rfl g33))))) rfl ?_
        refine Ops.val (Val.iadd T.get_same rfl (c := ((c : Int) + 1)) (wrap64 (by omega) (by omega))) rfl ?_
        refine Ops.val (Val.assign T.get_same) rfl ?_
        refine Ops.nil ?_
        refine Wp.region rfl ?_
        refine Ops.val (Val.move (T.get_skip rfl (T.get_skip rfl (T.get_skip rfl ((hF36 9 rfl).trans (T.get_skip rfl (T.get_skip rfl (T.get_skip rfl g32)))))))) rfl ?_
        refine Ops.val (Val.isub T.get_same rfl (c := (((i : Int) - 1) - 1)) (wrap64 (by omega) (by omega))) rfl ?_
        refine Ops.val (Val.assign T.get_same) rfl ?_
        refine Ops.nil ?_
        exact ⟨_, (by omega), i - 1, c + 1, (by omega), (by have q := col_no (s := s) (i := i - 1) (by omega) (by rw [show i - 1 = ((i : Int) - 1).toNat from by omega]; assumption); rw [Nat.sub_add_cancel (by omega)] at q; omega), (by omega), rfl, (T.get_same.trans (congrArg (fun z => some (V.i .i64 z)) (by omega))), (T.get_skip rfl (T.get_skip rfl (T.get_skip rfl T.get_same))), fun t ht => (T.get_skip (el ht rfl) (T.get_skip (el ht rfl) (T.get_skip (el ht rfl) (T.get_skip (el ht rfl) (T.get_skip (el ht rfl) (T.get_skip (el ht rfl) ((hF36 t (elW ht rfl)).trans (T.get_skip (el ht rfl) (T.get_skip (el ht rfl) (T.get_skip (el ht rfl) (hW34 t ht))))))))))), rfl⟩
      · skip
        have p44 : ¬ ((0 ≤ ((i : Int) - 1)) ∧ (((s.getD ((((i : Int) - 1)).toNat) 0).toNat : Int) ≠ 10)) := andF iffD iffD hc40
        refine Wp.exit ?_
        refine Wp.seq ?_
        refine Wp.region rfl ?_
        refine Ops.val (Val.move ((hF36 0 rfl).trans (T.get_skip rfl (T.get_skip rfl (T.get_skip rfl ((hW34 0 rfl).trans g16)))))) rfl ?_
        refine Ops.val (Val.move (T.get_skip rfl ((hF36 1 rfl).trans (T.get_skip rfl (T.get_skip rfl (T.get_skip rfl ((hW34 1 rfl).trans g17))))))) rfl ?_
        refine Ops.val (Val.sslT (h := (k).toNat) Try.underlying9 (T.get_skip rfl T.get_same) (T.get_same.trans (by rw [Int.toNat_of_nonneg (a := k) (by omega)])) (by omega)) rfl ?_
        refine Ops.call (opndsC T.get_same opnds0) rfl (ends_ev _ (by first | assumption | omega | (simp; omega)) _ (by first | omega | (simp; omega))) ?_
        rintro _ _ ⟨rfl, hq⟩
        obtain rfl := Eq.symm hq
        refine Ops.val (Val.iadd T.get_same rfl (c := ((ends (s.take ((k).toNat)) : Int) + 1)) (wrap64 (by omega) (by omega))) rfl ?_
        refine Ops.val (Val.move (T.get_skip rfl (T.get_skip rfl (T.get_skip rfl (T.get_skip rfl (T.get_skip rfl ((hF36 8 rfl).trans (T.get_skip rfl (T.get_skip rfl (T.get_skip rfl g33)))))))))) rfl ?_
        refine Ops.val (Val.assign (T.get_skip rfl T.get_same)) rfl ?_
        refine Ops.val (Val.assign (T.get_skip rfl T.get_same)) rfl ?_
        refine Ops.val (Val.assign rfl) rfl ?_
        refine Ops.nil ?_
        refine Wp.ret ?_
        show Vm.Fin Try.prog Try.f21 (fun v st' => v = (.t [(.i .i64 (pRow s k)), (.i .i64 (pCol s k)), (.i .i64 (pErr s k))]) ∧ st' = st) .ret _ _
        refine Fin.three (.inr rfl) rfl (T.get_skip rfl (T.get_skip rfl T.get_same)) (T.get_skip rfl T.get_same) T.get_same ?_
        have hst := col_stop (s := s) (i := i) (by omega) (by assumption)
        have hcc : (c : Int) = (col (s.take k.toNat) : Int) := by omega
        exact ⟨by rw [(place_in (s := s) (k := k) (by omega) (by omega)).1, (place_in (s := s) (k := k) (by omega) (by omega)).2.1, (place_in (s := s) (k := k) (by omega) (by omega)).2.2, hcc], rfl⟩

theorem InputCleans_ev (s : List UInt8) (k : Int) (st : St) (hn : 30000 ≤ n) : Ev Try.prog ov1 0 n 4 [(V.str (s)), (.i .i64 (k))] st (fun v _ => v = .b true) := by
  obtain ⟨m, rfl⟩ : ∃ m, n = m + 60 := ⟨n - 60, by omega⟩
  have hS := Sub.refl st.nx st
  refine Ev.enter rfl Try.func4 rfl rfl rfl (frame2 _ _) ?_
  refine Wp.seq ?_
  refine Wp.region rfl ?_
  refine Ops.val (Val.assign rfl) rfl ?_
  refine Ops.nil ?_
  refine Wp.seq ?_
  refine Wp.seq ?_
  refine Wp.region rfl ?_
  refine Ops.val (Val.move (T.get_skip rfl (T.get_skip rfl T.get_same))) rfl ?_
  refine Ops.call (opndsC T.get_same opnds0) rfl (great_ev _ _ (by omega)) ?_
  rintro _ _ ⟨rfl, hq⟩
  obtain rfl := Eq.symm hq
  refine Ops.nil ?_
  refine Wp.cond T.get_same (fun hc1 => ?_) (fun hc1 => ?_)
  · skip
    have p2 : ((((500 : Int) < (s.length : Int)) ∧ ((s.length : Int) ≤ 4000)) ∨ ((12100 : Int) < (s.length : Int))) := orT (iffA iffD iffD) iffD hc1
    refine Wp.seq ?_
    refine Wp.region rfl ?_
    refine Ops.val (Val.assign rfl) rfl ?_
    refine Ops.nil ?_
    refine Wp.ret ?_
    show Vm.Fin Try.prog Try.f4 (fun v _ => v = .b true) .ret _ _
    refine Fin.one (.inr rfl) rfl T.get_same ?_
    exact rfl
  · skip
    have p4 : ¬ (((500 : Int) < (s.length : Int)) ∧ ((s.length : Int) ≤ 4000)) := andF iffD iffD (orL hc1)
    have p5 := of_decide_eq_false (orR hc1)
    refine Wp.skip ?_
    refine Wp.seq ?_
    refine Wp.region rfl ?_
    refine Ops.val (Val.move (T.get_skip rfl (T.get_skip rfl (T.get_skip rfl (T.get_skip rfl T.get_same))))) rfl ?_
    refine Ops.call (opndsC T.get_same opnds0) rfl (cleanAll_ev _ _ (by omega)) ?_
    rintro _ st6 ⟨rfl, hs7⟩
    have hS := hS.then hs7 (Nat.le_refl _)
    refine Ops.val (Val.move T.get_same) rfl ?_
    refine Ops.val (Val.extract T.get_same rfl) rfl ?_
    refine Ops.val (Val.extract (T.get_skip rfl T.get_same) rfl) rfl ?_
    refine Ops.val (Val.assign (T.get_skip rfl T.get_same)) rfl ?_
    refine Ops.val (Val.assign (T.get_skip rfl T.get_same)) rfl ?_
    refine Ops.nil ?_
    refine Wp.seq ?_
    refine Wp.region rfl ?_
    refine Ops.val (Val.move (T.get_skip rfl (T.get_skip rfl (T.get_skip rfl (T.get_skip rfl (T.get_skip rfl (T.get_skip rfl (T.get_skip rfl (T.get_skip rfl (T.get_skip rfl (T.get_skip rfl (T.get_skip rfl T.get_same)))))))))))) rfl ?_
    refine Ops.call (opndsC T.get_same opnds0) rfl (rclean_ev _ _ (by omega)) ?_
    rintro _ st8 ⟨rfl, hs9⟩
    have hS := hS.then hs9 (Nat.le_refl _)
    refine Ops.val (Val.move T.get_same) rfl ?_
    refine Ops.val (Val.extract T.get_same rfl) rfl ?_
    refine Ops.val (Val.extract (T.get_skip rfl T.get_same) rfl) rfl ?_
    refine Ops.val (Val.assign (T.get_skip rfl T.get_same)) rfl ?_
    refine Ops.val (Val.assign (T.get_skip rfl T.get_same)) rfl ?_
    refine Ops.nil ?_
    refine Wp.seq ?_
    refine Wp.region rfl ?_
    refine Ops.val (Val.move (T.get_skip rfl (T.get_skip rfl (T.get_skip rfl (T.get_skip rfl (T.get_skip rfl (T.get_skip rfl (T.get_skip rfl (T.get_skip rfl (T.get_skip rfl (T.get_skip rfl (T.get_skip rfl (T.get_skip rfl (T.get_skip rfl (T.get_skip rfl (T.get_skip rfl (T.get_skip rfl (T.get_skip rfl (T.get_skip rfl T.get_same))))))))))))))))))) rfl ?_
    refine Ops.call (opndsC T.get_same opnds0) rfl (lines_ev _ (by omega) _ (by omega)) ?_
    rintro _ _ ⟨rfl, hq⟩
    obtain rfl := Eq.symm hq
    refine Ops.val (Val.move T.get_same) rfl ?_
    refine Ops.val (Val.extract T.get_same rfl) rfl ?_
    refine Ops.val (Val.extract (T.get_skip rfl T.get_same) rfl) rfl ?_
    refine Ops.val (Val.assign (T.get_skip rfl T.get_same)) rfl ?_
    refine Ops.val (Val.assign (T.get_skip rfl T.get_same)) rfl ?_
    refine Ops.nil ?_
    refine Wp.seq ?_
    refine Wp.region rfl ?_
    refine Ops.val (Val.move (T.get_skip rfl (T.get_skip rfl (T.get_skip rfl (T.get_skip rfl (T.get_skip rfl (T.get_skip rfl (T.get_skip rfl (T.get_skip rfl (T.get_skip rfl (T.get_skip rfl (T.get_skip rfl (T.get_skip rfl (T.get_skip rfl (T.get_skip rfl (T.get_skip rfl (T.get_skip rfl (T.get_skip rfl (T.get_skip rfl (T.get_skip rfl (T.get_skip rfl (T.get_skip rfl (T.get_skip rfl (T.get_skip rfl (T.get_skip rfl (T.get_skip rfl T.get_same)))))))))))))))))))))))))) rfl ?_
    refine Ops.call (opndsC T.get_same opnds0) rfl (rlines_ev _ (by omega) _ (by omega)) ?_
    rintro _ _ ⟨rfl, hq⟩
    obtain rfl := Eq.symm hq
    refine Ops.val (Val.move T.get_same) rfl ?_
    refine Ops.val (Val.extract T.get_same rfl) rfl ?_
    refine Ops.val (Val.extract (T.get_skip rfl T.get_same) rfl) rfl ?_
    refine Ops.val (Val.assign (T.get_skip rfl T.get_same)) rfl ?_
    refine Ops.val (Val.assign (T.get_skip rfl T.get_same)) rfl ?_
    refine Ops.nil ?_
    refine Wp.seq ?_
    refine Wp.region rfl ?_
    refine Ops.val (Val.move (T.get_skip rfl (T.get_skip rfl (T.get_skip rfl (T.get_skip rfl (T.get_skip rfl (T.get_skip rfl (T.get_skip rfl (T.get_skip rfl (T.get_skip rfl (T.get_skip rfl (T.get_skip rfl (T.get_skip rfl (T.get_skip rfl (T.get_skip rfl (T.get_skip rfl (T.get_skip rfl (T.get_skip rfl (T.get_skip rfl (T.get_skip rfl (T.get_skip rfl (T.get_skip rfl (T.get_skip rfl (T.get_skip rfl (T.get_skip rfl (T.get_skip rfl (T.get_skip rfl (T.get_skip rfl (T.get_skip rfl (T.get_skip rfl (T.get_skip rfl (T.get_skip rfl (T.get_skip rfl T.get_same))))))))))))))))))))))))))))))))) rfl ?_
    refine Ops.val (Val.move (T.get_skip rfl (T.get_skip rfl (T.get_skip rfl (T.get_skip rfl (T.get_skip rfl (T.get_skip rfl (T.get_skip rfl (T.get_skip rfl (T.get_skip rfl (T.get_skip rfl (T.get_skip rfl (T.get_skip rfl (T.get_skip rfl (T.get_skip rfl (T.get_skip rfl (T.get_skip rfl (T.get_skip rfl (T.get_skip rfl (T.get_skip rfl (T.get_skip rfl (T.get_skip rfl (T.get_skip rfl (T.get_skip rfl (T.get_skip rfl (T.get_skip rfl (T.get_skip rfl (T.get_skip rfl (T.get_skip rfl (T.get_skip rfl (T.get_skip rfl (T.get_skip rfl (T.get_skip rfl T.get_same))))))))))))))))))))))))))))))))) rfl ?_
    refine Ops.call (opndsC (T.get_skip rfl T.get_same) (opndsC T.get_same opnds0)) rfl (place_ev _ _ (by omega) _ (by omega)) ?_
    rintro _ _ ⟨rfl, hq⟩
    obtain rfl := Eq.symm hq
    refine Ops.val (Val.move T.get_same) rfl ?_
    refine Ops.val (Val.extract T.get_same rfl) rfl ?_
    refine Ops.val (Val.extract (T.get_skip rfl T.get_same) rfl) rfl ?_
    refine Ops.val (Val.extract (T.get_skip rfl (T.get_skip rfl T.get_same)) rfl) rfl ?_
    refine Ops.val (Val.assign (T.get_skip rfl (T.get_skip rfl T.get_same))) rfl ?_
    refine Ops.val (Val.assign (T.get_skip rfl (T.get_skip rfl T.get_same))) rfl ?_
    refine Ops.val (Val.assign (T.get_skip rfl (T.get_skip rfl T.get_same))) rfl ?_
    refine Ops.nil ?_
    refine Wp.seq ?_
    refine Wp.region rfl ?_
    refine Ops.val (Val.move (T.get_skip rfl (T.get_skip rfl (T.get_skip rfl (T.get_skip rfl (T.get_skip rfl (T.get_skip rfl (T.get_skip rfl (T.get_skip rfl (T.get_skip rfl (T.get_skip rfl (T.get_skip rfl (T.get_skip rfl (T.get_skip rfl (T.get_skip rfl (T.get_skip rfl (T.get_skip rfl (T.get_skip rfl (T.get_skip rfl (T.get_skip rfl (T.get_skip rfl (T.get_skip rfl (T.get_skip rfl (T.get_skip rfl (T.get_skip rfl (T.get_skip rfl (T.get_skip rfl (T.get_skip rfl (T.get_skip rfl (T.get_skip rfl (T.get_skip rfl (T.get_skip rfl (T.get_skip rfl (T.get_skip rfl (T.get_skip rfl (T.get_skip rfl (T.get_skip rfl (T.get_skip rfl (T.get_skip rfl (T.get_skip rfl (T.get_skip rfl (T.get_skip rfl (T.get_skip rfl T.get_same))))))))))))))))))))))))))))))))))))))))))) rfl ?_
    refine Ops.val (Val.move (T.get_skip rfl (T.get_skip rfl (T.get_skip rfl (T.get_skip rfl (T.get_skip rfl (T.get_skip rfl (T.get_skip rfl (T.get_skip rfl (T.get_skip rfl (T.get_skip rfl (T.get_skip rfl (T.get_skip rfl (T.get_skip rfl (T.get_skip rfl (T.get_skip rfl (T.get_skip rfl (T.get_skip rfl (T.get_skip rfl (T.get_skip rfl (T.get_skip rfl (T.get_skip rfl (T.get_skip rfl (T.get_skip rfl (T.get_skip rfl (T.get_skip rfl (T.get_skip rfl (T.get_skip rfl (T.get_skip rfl (T.get_skip rfl (T.get_skip rfl (T.get_skip rfl (T.get_skip rfl (T.get_skip rfl (T.get_skip rfl (T.get_skip rfl (T.get_skip rfl (T.get_skip rfl (T.get_skip rfl (T.get_skip rfl (T.get_skip rfl (T.get_skip rfl (T.get_skip rfl T.get_same))))))))))))))))))))))))))))))))))))))))))) rfl ?_
    refine Ops.call (opndsC (T.get_skip rfl T.get_same) (opndsC T.get_same opnds0)) rfl (rplace_ev _ _ (by omega) _ (by omega)) ?_
    rintro _ _ ⟨rfl, hq⟩
    obtain rfl := Eq.symm hq
    refine Ops.val (Val.move T.get_same) rfl ?_
    refine Ops.val (Val.extract T.get_same rfl) rfl ?_
    refine Ops.val (Val.extract (T.get_skip rfl T.get_same) rfl) rfl ?_
    refine Ops.val (Val.extract (T.get_skip rfl (T.get_skip rfl T.get_same)) rfl) rfl ?_
    refine Ops.val (Val.assign (T.get_skip rfl (T.get_skip rfl T.get_same))) rfl ?_
    refine Ops.val (Val.assign (T.get_skip rfl (T.get_skip rfl T.get_same))) rfl ?_
    refine Ops.val (Val.assign (T.get_skip rfl (T.get_skip rfl T.get_same))) rfl ?_
    refine Ops.nil ?_
    refine Wp.seq ?_
    refine Wp.region rfl ?_
    refine Ops.val (Val.move (T.get_skip rfl (T.get_skip rfl (T.get_skip rfl (T.get_skip rfl (T.get_skip rfl (T.get_skip rfl (T.get_skip rfl (T.get_skip rfl (T.get_skip rfl (T.get_skip rfl (T.get_skip rfl (T.get_skip rfl (T.get_skip rfl (T.get_skip rfl (T.get_skip rfl (T.get_skip rfl (T.get_skip rfl (T.get_skip rfl (T.get_skip rfl (T.get_skip rfl (T.get_skip rfl (T.get_skip rfl (T.get_skip rfl (T.get_skip rfl (T.get_skip rfl (T.get_skip rfl (T.get_skip rfl (T.get_skip rfl (T.get_skip rfl (T.get_skip rfl (T.get_skip rfl (T.get_skip rfl (T.get_skip rfl (T.get_skip rfl (T.get_skip rfl (T.get_skip rfl (T.get_skip rfl (T.get_skip rfl (T.get_skip rfl (T.get_skip rfl (T.get_skip rfl (T.get_skip rfl T.get_same))))))))))))))))))))))))))))))))))))))))))) rfl ?_
    refine Ops.val (Val.move (T.get_skip rfl (T.get_skip rfl (T.get_skip rfl (T.get_skip rfl (T.get_skip rfl (T.get_skip rfl (T.get_skip rfl (T.get_skip rfl (T.get_skip rfl (T.get_skip rfl (T.get_skip rfl (T.get_skip rfl (T.get_skip rfl (T.get_skip rfl (T.get_skip rfl (T.get_skip rfl (T.get_skip rfl (T.get_skip rfl (T.get_skip rfl (T.get_skip rfl (T.get_skip rfl (T.get_skip rfl (T.get_skip rfl (T.get_skip rfl (T.get_skip rfl (T.get_skip rfl (T.get_skip rfl (T.get_skip rfl (T.get_skip rfl (T.get_skip rfl (T.get_skip rfl (T.get_skip rfl (T.get_skip rfl (T.get_skip rfl (T.get_skip rfl (T.get_skip rfl T.get_same))))))))))))))))))))))))))))))))))))) rfl ?_
    refine Ops.val (Val.seql (T.get_skip rfl T.get_same) T.get_same) rfl ?_
    refine Ops.val (Val.move T.get_same) rfl ?_
    refine Ops.cutN 4 [59, 60, 61, 62] 62 (.b (((cleanT s) == (cleanT s)) && (decide (cleanE s = cleanE s)))) ?_ (fun fr12 g10 hF11 => ?_)
    · rcases Bool.eq_false_or_eq_true ((cleanT s) == (cleanT s)) with hg13 | hg13
      · skip
        have p14 : ((cleanT s) = (cleanT s)) := beqT hg13
        refine Ops.yes rfl T.get_same hg13 ?_
        refine Ops.val (Val.move (T.get_skip rfl (T.get_skip rfl (T.get_skip rfl (T.get_skip rfl (T.get_skip rfl (T.get_skip rfl (T.get_skip rfl (T.get_skip rfl (T.get_skip rfl (T.get_skip rfl (T.get_skip rfl (T.get_skip rfl (T.get_skip rfl (T.get_skip rfl (T.get_skip rfl (T.get_skip rfl (T.get_skip rfl (T.get_skip rfl (T.get_skip rfl (T.get_skip rfl (T.get_skip rfl (T.get_skip rfl (T.get_skip rfl (T.get_skip rfl (T.get_skip rfl (T.get_skip rfl (T.get_skip rfl (T.get_skip rfl (T.get_skip rfl (T.get_skip rfl (T.get_skip rfl (T.get_skip rfl (T.get_skip rfl (T.get_skip rfl (T.get_skip rfl (T.get_skip rfl (T.get_skip rfl (T.get_skip rfl (T.get_skip rfl (T.get_skip rfl (T.get_skip rfl (T.get_skip rfl (T.get_skip rfl (T.get_skip rfl (T.get_skip rfl T.get_same)))))))))))))))))))))))))))))))))))))))))))))) rfl ?_
        refine Ops.yes rfl (T.get_skip rfl T.get_same) hg13 ?_
        refine Ops.val (Val.move (T.get_skip rfl (T.get_skip rfl (T.get_skip rfl (T.get_skip rfl (T.get_skip rfl (T.get_skip rfl (T.get_skip rfl (T.get_skip rfl (T.get_skip rfl (T.get_skip rfl (T.get_skip rfl (T.get_skip rfl (T.get_skip rfl (T.get_skip rfl (T.get_skip rfl (T.get_skip rfl (T.get_skip rfl (T.get_skip rfl (T.get_skip rfl (T.get_skip rfl (T.get_skip rfl (T.get_skip rfl (T.get_skip rfl (T.get_skip rfl (T.get_skip rfl (T.get_skip rfl (T.get_skip rfl (T.get_skip rfl (T.get_skip rfl (T.get_skip rfl (T.get_skip rfl (T.get_skip rfl (T.get_skip rfl (T.get_skip rfl (T.get_skip rfl (T.get_skip rfl (T.get_skip rfl (T.get_skip rfl (T.get_skip rfl T.get_same)))))))))))))))))))))))))))))))))))))))) rfl ?_
        refine Ops.yes rfl (T.get_skip rfl (T.get_skip rfl T.get_same)) hg13 ?_
        refine Ops.val (Val.ieql (T.get_skip rfl T.get_same) T.get_same) rfl ?_
        refine Ops.val (Val.pickT (T.get_skip rfl (T.get_skip rfl (T.get_skip rfl T.get_same))) hg13 T.get_same) rfl ?_
        exact Ops.nil ⟨T.get_same.trans (cutAT hg13), fun t ht => (T.get_skip (el ht rfl) (T.get_skip (el ht rfl) (T.get_skip (el ht rfl) (T.get_skip (el ht rfl) rfl)))), rfl⟩
      · skip
        refine Ops.no rfl T.get_same hg13 rfl ?_
        refine Ops.no rfl (T.get_skip rfl T.get_same) hg13 rfl ?_
        refine Ops.no rfl (T.get_skip rfl (T.get_skip rfl T.get_same)) hg13 rfl ?_
        refine Ops.val (Val.pickF (T.get_skip rfl (T.get_skip rfl (T.get_skip rfl T.get_same))) hg13 rfl) rfl ?_
        exact Ops.nil ⟨T.get_same.trans (cutAF hg13), fun t ht => (T.get_skip (el ht rfl) (T.get_skip (el ht rfl) (T.get_skip (el ht rfl) (T.get_skip (el ht rfl) rfl)))), rfl⟩
    refine Ops.val (Val.move g10) rfl ?_
    refine Ops.cutN 6 [64, 65, 66, 67, 68, 69] 69 (.b ((((cleanT s) == (cleanT s)) && (decide (cleanE s = cleanE s))) && (decide (check s = check s)))) ?_ (fun fr17 g15 hF16 => ?_)
    · rcases Bool.eq_false_or_eq_true (((cleanT s) == (cleanT s)) && (decide (cleanE s = cleanE s))) with hg18 | hg18
      · skip
        have p20 : ((cleanT s) = (cleanT s)) := beqT (andL hg18)
        have p21 := of_decide_eq_true (andR hg18)
        refine Ops.yes rfl T.get_same hg18 ?_
        refine Ops.val (Val.move (T.get_skip rfl ((hF11 0 rfl).trans (T.get_skip rfl (T.get_skip rfl (T.get_skip rfl (T.get_skip rfl (T.get_skip rfl (T.get_skip rfl (T.get_skip rfl (T.get_skip rfl (T.get_skip rfl (T.get_skip rfl (T.get_skip rfl (T.get_skip rfl (T.get_skip rfl (T.get_skip rfl (T.get_skip rfl (T.get_skip rfl (T.get_skip rfl (T.get_skip rfl (T.get_skip rfl (T.get_skip rfl (T.get_skip rfl (T.get_skip rfl (T.get_skip rfl (T.get_skip rfl (T.get_skip rfl (T.get_skip rfl (T.get_skip rfl (T.get_skip rfl (T.get_skip rfl (T.get_skip rfl (T.get_skip rfl (T.get_skip rfl (T.get_skip rfl (T.get_skip rfl (T.get_skip rfl (T.get_skip rfl (T.get_skip rfl (T.get_skip rfl (T.get_skip rfl (T.get_skip rfl (T.get_skip rfl (T.get_skip rfl (T.get_skip rfl (T.get_skip rfl (T.get_skip rfl (T.get_skip rfl (T.get_skip rfl (T.get_skip rfl (T.get_skip rfl (T.get_skip rfl (T.get_skip rfl (T.get_skip rfl (T.get_skip rfl (T.get_skip rfl (T.get_skip rfl (T.get_skip rfl T.get_same))))))))))))))))))))))))))))))))))))))))))))))))))))))))))) rfl ?_
        refine Ops.yes rfl (T.get_skip rfl T.get_same) hg18 ?_
        refine Ops.call (opndsC T.get_same opnds0) rfl (check_ev _ (by first | assumption | omega) _ (by omega)) ?_
        rintro _ _ ⟨rfl, hq⟩
        obtain rfl := Eq.symm hq
        refine Ops.yes rfl (T.get_skip rfl (T.get_skip rfl T.get_same)) hg18 ?_
        refine Ops.val (Val.move (T.get_skip rfl (T.get_skip rfl (T.get_skip rfl ((hF11 0 rfl).trans (T.get_skip rfl (T.get_skip rfl (T.get_skip rfl (T.get_skip rfl (T.get_skip rfl (T.get_skip rfl (T.get_skip rfl (T.get_skip rfl (T.get_skip rfl (T.get_skip rfl (T.get_skip rfl (T.get_skip rfl (T.get_skip rfl (T.get_skip rfl (T.get_skip rfl (T.get_skip rfl (T.get_skip rfl (T.get_skip rfl (T.get_skip rfl (T.get_skip rfl (T.get_skip rfl (T.get_skip rfl (T.get_skip rfl (T.get_skip rfl (T.get_skip rfl (T.get_skip rfl (T.get_skip rfl (T.get_skip rfl (T.get_skip rfl (T.get_skip rfl (T.get_skip rfl (T.get_skip rfl (T.get_skip rfl (T.get_skip rfl (T.get_skip rfl (T.get_skip rfl (T.get_skip rfl (T.get_skip rfl (T.get_skip rfl (T.get_skip rfl (T.get_skip rfl (T.get_skip rfl (T.get_skip rfl (T.get_skip rfl (T.get_skip rfl (T.get_skip rfl (T.get_skip rfl (T.get_skip rfl (T.get_skip rfl (T.get_skip rfl (T.get_skip rfl (T.get_skip rfl (T.get_skip rfl (T.get_skip rfl (T.get_skip rfl (T.get_skip rfl T.get_same))))))))))))))))))))))))))))))))))))))))))))))))))))))))))))) rfl ?_
        refine Ops.yes rfl (T.get_skip rfl (T.get_skip rfl (T.get_skip rfl T.get_same))) hg18 ?_
        refine Ops.call (opndsC T.get_same opnds0) rfl (rcheck_ev _ (by first | assumption | omega) _ (by omega)) ?_
        rintro _ _ ⟨rfl, hq⟩
        obtain rfl := Eq.symm hq
        refine Ops.yes rfl (T.get_skip rfl (T.get_skip rfl (T.get_skip rfl (T.get_skip rfl T.get_same)))) hg18 ?_
        refine Ops.val (Val.ieql (T.get_skip rfl (T.get_skip rfl T.get_same)) T.get_same) rfl ?_
        refine Ops.val (Val.pickT (T.get_skip rfl (T.get_skip rfl (T.get_skip rfl (T.get_skip rfl (T.get_skip rfl T.get_same))))) hg18 T.get_same) rfl ?_
        exact Ops.nil ⟨T.get_same.trans (cutAT hg18), fun t ht => (T.get_skip (el ht rfl) (T.get_skip (el ht rfl) (T.get_skip (el ht rfl) (T.get_skip (el ht rfl) (T.get_skip (el ht rfl) (T.get_skip (el ht rfl) rfl)))))), rfl⟩
      · skip
        refine Ops.no rfl T.get_same hg18 rfl ?_
        refine Ops.no rfl (T.get_skip rfl T.get_same) hg18 rfl ?_
        refine Ops.no rfl (T.get_skip rfl (T.get_skip rfl T.get_same)) hg18 rfl ?_
        refine Ops.no rfl (T.get_skip rfl (T.get_skip rfl (T.get_skip rfl T.get_same))) hg18 rfl ?_
        refine Ops.no rfl (T.get_skip rfl (T.get_skip rfl (T.get_skip rfl (T.get_skip rfl T.get_same)))) hg18 rfl ?_
        refine Ops.val (Val.pickF (T.get_skip rfl (T.get_skip rfl (T.get_skip rfl (T.get_skip rfl (T.get_skip rfl T.get_same))))) hg18 rfl) rfl ?_
        exact Ops.nil ⟨T.get_same.trans (cutAF hg18), fun t ht => (T.get_skip (el ht rfl) (T.get_skip (el ht rfl) (T.get_skip (el ht rfl) (T.get_skip (el ht rfl) (T.get_skip (el ht rfl) (T.get_skip (el ht rfl) rfl)))))), rfl⟩
    refine Ops.val (Val.move g15) rfl ?_
    refine Ops.cutN 4 [71, 72, 73, 74] 74 (.b (((((cleanT s) == (cleanT s)) && (decide (cleanE s = cleanE s))) && (decide (check s = check s))) && (decide (pRow s (s.length : Int) = pRow s (s.length : Int))))) ?_ (fun fr24 g22 hF23 => ?_)
    · rcases Bool.eq_false_or_eq_true ((((cleanT s) == (cleanT s)) && (decide (cleanE s = cleanE s))) && (decide (check s = check s))) with hg25 | hg25
      · skip
        have p28 : ((cleanT s) = (cleanT s)) := beqT (andL (andL hg25))
        have p29 := of_decide_eq_true (andR (andL hg25))
        have p30 := of_decide_eq_true (andR hg25)
        refine Ops.yes rfl T.get_same hg25 ?_
        refine Ops.val (Val.move (T.get_skip rfl ((hF16 9 rfl).trans (T.get_skip rfl ((hF11 9 rfl).trans (T.get_skip rfl (T.get_skip rfl (T.get_skip rfl (T.get_skip rfl (T.get_skip rfl (T.get_skip rfl (T.get_skip rfl (T.get_skip rfl (T.get_skip rfl (T.get_skip rfl (T.get_skip rfl (T.get_skip rfl (T.get_skip rfl (T.get_skip rfl (T.get_skip rfl (T.get_skip rfl (T.get_skip rfl (T.get_skip rfl (T.get_skip rfl (T.get_skip rfl (T.get_skip rfl (T.get_skip rfl (T.get_skip rfl (T.get_skip rfl (T.get_skip rfl (T.get_skip rfl (T.get_skip rfl (T.get_skip rfl (T.get_skip rfl (T.get_skip rfl (T.get_skip rfl (T.get_skip rfl T.get_same))))))))))))))))))))))))))))))))))))) rfl ?_
        refine Ops.yes rfl (T.get_skip rfl T.get_same) hg25 ?_
        refine Ops.val (Val.move (T.get_skip rfl (T.get_skip rfl ((hF16 11 rfl).trans (T.get_skip rfl ((hF11 11 rfl).trans (T.get_skip rfl (T.get_skip rfl (T.get_skip rfl (T.get_skip rfl (T.get_skip rfl (T.get_skip rfl (T.get_skip rfl (T.get_skip rfl (T.get_skip rfl (T.get_skip rfl (T.get_skip rfl (T.get_skip rfl (T.get_skip rfl (T.get_skip rfl (T.get_skip rfl (T.get_skip rfl (T.get_skip rfl (T.get_skip rfl (T.get_skip rfl (T.get_skip rfl (T.get_skip rfl (T.get_skip rfl (T.get_skip rfl (T.get_skip rfl (T.get_skip rfl T.get_same))))))))))))))))))))))))))))))) rfl ?_
        refine Ops.yes rfl (T.get_skip rfl (T.get_skip rfl T.get_same)) hg25 ?_
        refine Ops.val (Val.ieql (T.get_skip rfl T.get_same) T.get_same) rfl ?_
        refine Ops.val (Val.pickT (T.get_skip rfl (T.get_skip rfl (T.get_skip rfl T.get_same))) hg25 T.get_same) rfl ?_
        exact Ops.nil ⟨T.get_same.trans (cutAT hg25), fun t ht => (T.get_skip (el ht rfl) (T.get_skip (el ht rfl) (T.get_skip (el ht rfl) (T.get_skip (el ht rfl) rfl)))), rfl⟩
      · skip
        refine Ops.no rfl T.get_same hg25 rfl ?_
        refine Ops.no rfl (T.get_skip rfl T.get_same) hg25 rfl ?_
        refine Ops.no rfl (T.get_skip rfl (T.get_skip rfl T.get_same)) hg25 rfl ?_
        refine Ops.val (Val.pickF (T.get_skip rfl (T.get_skip rfl (T.get_skip rfl T.get_same))) hg25 rfl) rfl ?_
        exact Ops.nil ⟨T.get_same.trans (cutAF hg25), fun t ht => (T.get_skip (el ht rfl) (T.get_skip (el ht rfl) (T.get_skip (el ht rfl) (T.get_skip (el ht rfl) rfl)))), rfl⟩
    refine Ops.val (Val.move g22) rfl ?_
    refine Ops.cutN 4 [76, 77, 78, 79] 79 (.b ((((((cleanT s) == (cleanT s)) && (decide (cleanE s = cleanE s))) && (decide (check s = check s))) && (decide (pRow s (s.length : Int) = pRow s (s.length : Int)))) && (decide (pErr s (s.length : Int) = pErr s (s.length : Int))))) ?_ (fun fr33 g31 hF32 => ?_)
    · rcases Bool.eq_false_or_eq_true (((((cleanT s) == (cleanT s)) && (decide (cleanE s = cleanE s))) && (decide (check s = check s))) && (decide (pRow s (s.length : Int) = pRow s (s.length : Int)))) with hg34 | hg34
      · skip
        have p38 : ((cleanT s) = (cleanT s)) := beqT (andL (andL (andL hg34)))
        have p39 := of_decide_eq_true (andR (andL (andL hg34)))
        have p40 := of_decide_eq_true (andR (andL hg34))
        have p41 := of_decide_eq_true (andR hg34)
        refine Ops.yes rfl T.get_same hg34 ?_
        refine Ops.val (Val.move (T.get_skip rfl ((hF23 10 rfl).trans (T.get_skip rfl ((hF16 10 rfl).trans (T.get_skip rfl ((hF11 10 rfl).trans (T.get_skip rfl (T.get_skip rfl (T.get_skip rfl (T.get_skip rfl (T.get_skip rfl (T.get_skip rfl (T.get_skip rfl (T.get_skip rfl (T.get_skip rfl (T.get_skip rfl (T.get_skip rfl (T.get_skip rfl (T.get_skip rfl (T.get_skip rfl (T.get_skip rfl (T.get_skip rfl (T.get_skip rfl (T.get_skip rfl (T.get_skip rfl (T.get_skip rfl (T.get_skip rfl (T.get_skip rfl (T.get_skip rfl (T.get_skip rfl (T.get_skip rfl (T.get_skip rfl (T.get_skip rfl (T.get_skip rfl (T.get_skip rfl (T.get_skip rfl (T.get_skip rfl T.get_same)))))))))))))))))))))))))))))))))))))) rfl ?_
        refine Ops.yes rfl (T.get_skip rfl T.get_same) hg34 ?_
        refine Ops.val (Val.move (T.get_skip rfl (T.get_skip rfl ((hF23 12 rfl).trans (T.get_skip rfl ((hF16 12 rfl).trans (T.get_skip rfl ((hF11 12 rfl).trans (T.get_skip rfl (T.get_skip rfl (T.get_skip rfl (T.get_skip rfl (T.get_skip rfl (T.get_skip rfl (T.get_skip rfl (T.get_skip rfl (T.get_skip rfl (T.get_skip rfl (T.get_skip rfl (T.get_skip rfl (T.get_skip rfl (T.get_skip rfl (T.get_skip rfl (T.get_skip rfl (T.get_skip rfl (T.get_skip rfl (T.get_skip rfl (T.get_skip rfl (T.get_skip rfl (T.get_skip rfl (T.get_skip rfl (T.get_skip rfl T.get_same)))))))))))))))))))))))))))))))) rfl ?_
        refine Ops.yes rfl (T.get_skip rfl (T.get_skip rfl T.get_same)) hg34 ?_
        refine Ops.val (Val.ieql (T.get_skip rfl T.get_same) T.get_same) rfl ?_
        refine Ops.val (Val.pickT (T.get_skip rfl (T.get_skip rfl (T.get_skip rfl T.get_same))) hg34 T.get_same) rfl ?_
        exact Ops.nil ⟨T.get_same.trans (cutAT hg34), fun t ht => (T.get_skip (el ht rfl) (T.get_skip (el ht rfl) (T.get_skip (el ht rfl) (T.get_skip (el ht rfl) rfl)))), rfl⟩
      · skip
        refine Ops.no rfl T.get_same hg34 rfl ?_
        refine Ops.no rfl (T.get_skip rfl T.get_same) hg34 rfl ?_
        refine Ops.no rfl (T.get_skip rfl (T.get_skip rfl T.get_same)) hg34 rfl ?_
        refine Ops.val (Val.pickF (T.get_skip rfl (T.get_skip rfl (T.get_skip rfl T.get_same))) hg34 rfl) rfl ?_
        exact Ops.nil ⟨T.get_same.trans (cutAF hg34), fun t ht => (T.get_skip (el ht rfl) (T.get_skip (el ht rfl) (T.get_skip (el ht rfl) (T.get_skip (el ht rfl) rfl)))), rfl⟩
    refine Ops.val (Val.move g31) rfl ?_
    refine Ops.cutN 4 [81, 82, 83, 84] 84 (.b (((((((cleanT s) == (cleanT s)) && (decide (cleanE s = cleanE s))) && (decide (check s = check s))) && (decide (pRow s (s.length : Int) = pRow s (s.length : Int)))) && (decide (pErr s (s.length : Int) = pErr s (s.length : Int)))) && (decide (pRow s k = pRow s k)))) ?_ (fun fr44 g42 hF43 => ?_)
    · rcases Bool.eq_false_or_eq_true ((((((cleanT s) == (cleanT s)) && (decide (cleanE s = cleanE s))) && (decide (check s = check s))) && (decide (pRow s (s.length : Int) = pRow s (s.length : Int)))) && (decide (pErr s (s.length : Int) = pErr s (s.length : Int)))) with hg45 | hg45
      · skip
        have p50 : ((cleanT s) = (cleanT s)) := beqT (andL (andL (andL (andL hg45))))
        have p51 := of_decide_eq_true (andR (andL (andL (andL hg45))))
        have p52 := of_decide_eq_true (andR (andL (andL hg45)))
        have p53 := of_decide_eq_true (andR (andL hg45))
        have p54 := of_decide_eq_true (andR hg45)
        refine Ops.yes rfl T.get_same hg45 ?_
        refine Ops.val (Val.move (T.get_skip rfl ((hF32 13 rfl).trans (T.get_skip rfl ((hF23 13 rfl).trans (T.get_skip rfl ((hF16 13 rfl).trans (T.get_skip rfl ((hF11 13 rfl).trans (T.get_skip rfl (T.get_skip rfl (T.get_skip rfl (T.get_skip rfl (T.get_skip rfl (T.get_skip rfl (T.get_skip rfl (T.get_skip rfl (T.get_skip rfl (T.get_skip rfl (T.get_skip rfl (T.get_skip rfl (T.get_skip rfl (T.get_skip rfl (T.get_skip rfl (T.get_skip rfl T.get_same))))))))))))))))))))))))) rfl ?_
        refine Ops.yes rfl (T.get_skip rfl T.get_same) hg45 ?_
        refine Ops.val (Val.move (T.get_skip rfl (T.get_skip rfl ((hF32 16 rfl).trans (T.get_skip rfl ((hF23 16 rfl).trans (T.get_skip rfl ((hF16 16 rfl).trans (T.get_skip rfl ((hF11 16 rfl).trans (T.get_skip rfl (T.get_skip rfl (T.get_skip rfl (T.get_skip rfl (T.get_skip rfl (T.get_skip rfl T.get_same)))))))))))))))) rfl ?_
        refine Ops.yes rfl (T.get_skip rfl (T.get_skip rfl T.get_same)) hg45 ?_
        refine Ops.val (Val.ieql (T.get_skip rfl T.get_same) T.get_same) rfl ?_
        refine Ops.val (Val.pickT (T.get_skip rfl (T.get_skip rfl (T.get_skip rfl T.get_same))) hg45 T.get_same) rfl ?_
        exact Ops.nil ⟨T.get_same.trans (cutAT hg45), fun t ht => (T.get_skip (el ht rfl) (T.get_skip (el ht rfl) (T.get_skip (el ht rfl) (T.get_skip (el ht rfl) rfl)))), rfl⟩
      · skip
        refine Ops.no rfl T.get_same hg45 rfl ?_
        refine Ops.no rfl (T.get_skip rfl T.get_same) hg45 rfl ?_
        refine Ops.no rfl (T.get_skip rfl (T.get_skip rfl T.get_same)) hg45 rfl ?_
        refine Ops.val (Val.pickF (T.get_skip rfl (T.get_skip rfl (T.get_skip rfl T.get_same))) hg45 rfl) rfl ?_
        exact Ops.nil ⟨T.get_same.trans (cutAF hg45), fun t ht => (T.get_skip (el ht rfl) (T.get_skip (el ht rfl) (T.get_skip (el ht rfl) (T.get_skip (el ht rfl) rfl)))), rfl⟩
    refine Ops.val (Val.move g42) rfl ?_
    refine Ops.cutN 4 [86, 87, 88, 89] 89 (.b ((((((((cleanT s) == (cleanT s)) && (decide (cleanE s = cleanE s))) && (decide (check s = check s))) && (decide (pRow s (s.length : Int) = pRow s (s.length : Int)))) && (decide (pErr s (s.length : Int) = pErr s (s.length : Int)))) && (decide (pRow s k = pRow s k))) && (decide (pCol s k = pCol s k)))) ?_ (fun fr57 g55 hF56 => ?_)
    · rcases Bool.eq_false_or_eq_true (((((((cleanT s) == (cleanT s)) && (decide (cleanE s = cleanE s))) && (decide (check s = check s))) && (decide (pRow s (s.length : Int) = pRow s (s.length : Int)))) && (decide (pErr s (s.length : Int) = pErr s (s.length : Int)))) && (decide (pRow s k = pRow s k))) with hg58 | hg58
      · skip
        have p64 : ((cleanT s) = (cleanT s)) := beqT (andL (andL (andL (andL (andL hg58)))))
        have p65 := of_decide_eq_true (andR (andL (andL (andL (andL hg58)))))
        have p66 := of_decide_eq_true (andR (andL (andL (andL hg58))))
        have p67 := of_decide_eq_true (andR (andL (andL hg58)))
        have p68 := of_decide_eq_true (andR (andL hg58))
        have p69 := of_decide_eq_true (andR hg58)
        refine Ops.yes rfl T.get_same hg58 ?_
        refine Ops.val (Val.move (T.get_skip rfl ((hF43 14 rfl).trans (T.get_skip rfl ((hF32 14 rfl).trans (T.get_skip rfl ((hF23 14 rfl).trans (T.get_skip rfl ((hF16 14 rfl).trans (T.get_skip rfl ((hF11 14 rfl).trans (T.get_skip rfl (T.get_skip rfl (T.get_skip rfl (T.get_skip rfl (T.get_skip rfl (T.get_skip rfl (T.get_skip rfl (T.get_skip rfl (T.get_skip rfl (T.get_skip rfl (T.get_skip rfl (T.get_skip rfl (T.get_skip rfl (T.get_skip rfl (T.get_skip rfl T.get_same)))))))))))))))))))))))))) rfl ?_
        refine Ops.yes rfl (T.get_skip rfl T.get_same) hg58 ?_
        refine Ops.val (Val.move (T.get_skip rfl (T.get_skip rfl ((hF43 17 rfl).trans (T.get_skip rfl ((hF32 17 rfl).trans (T.get_skip rfl ((hF23 17 rfl).trans (T.get_skip rfl ((hF16 17 rfl).trans (T.get_skip rfl ((hF11 17 rfl).trans (T.get_skip rfl (T.get_skip rfl (T.get_skip rfl (T.get_skip rfl (T.get_skip rfl T.get_same))))))))))))))))) rfl ?_
        refine Ops.yes rfl (T.get_skip rfl (T.get_skip rfl T.get_same)) hg58 ?_
        refine Ops.val (Val.ieql (T.get_skip rfl T.get_same) T.get_same) rfl ?_
        refine Ops.val (Val.pickT (T.get_skip rfl (T.get_skip rfl (T.get_skip rfl T.get_same))) hg58 T.get_same) rfl ?_
        exact Ops.nil ⟨T.get_same.trans (cutAT hg58), fun t ht => (T.get_skip (el ht rfl) (T.get_skip (el ht rfl) (T.get_skip (el ht rfl) (T.get_skip (el ht rfl) rfl)))), rfl⟩
      · skip
        refine Ops.no rfl T.get_same hg58 rfl ?_
        refine Ops.no rfl (T.get_skip rfl T.get_same) hg58 rfl ?_
        refine Ops.no rfl (T.get_skip rfl (T.get_skip rfl T.get_same)) hg58 rfl ?_
        refine Ops.val (Val.pickF (T.get_skip rfl (T.get_skip rfl (T.get_skip rfl T.get_same))) hg58 rfl) rfl ?_
        exact Ops.nil ⟨T.get_same.trans (cutAF hg58), fun t ht => (T.get_skip (el ht rfl) (T.get_skip (el ht rfl) (T.get_skip (el ht rfl) (T.get_skip (el ht rfl) rfl)))), rfl⟩
    refine Ops.val (Val.move g55) rfl ?_
    refine Ops.cutN 4 [91, 92, 93, 94] 94 (.b (((((((((cleanT s) == (cleanT s)) && (decide (cleanE s = cleanE s))) && (decide (check s = check s))) && (decide (pRow s (s.length : Int) = pRow s (s.length : Int)))) && (decide (pErr s (s.length : Int) = pErr s (s.length : Int)))) && (decide (pRow s k = pRow s k))) && (decide (pCol s k = pCol s k))) && (decide (pErr s k = pErr s k)))) ?_ (fun fr72 g70 hF71 => ?_)
    · rcases Bool.eq_false_or_eq_true ((((((((cleanT s) == (cleanT s)) && (decide (cleanE s = cleanE s))) && (decide (check s = check s))) && (decide (pRow s (s.length : Int) = pRow s (s.length : Int)))) && (decide (pErr s (s.length : Int) = pErr s (s.length : Int)))) && (decide (pRow s k = pRow s k))) && (decide (pCol s k = pCol s k))) with hg73 | hg73
      · skip
        have p80 : ((cleanT s) = (cleanT s)) := beqT (andL (andL (andL (andL (andL (andL hg73))))))
        have p81 := of_decide_eq_true (andR (andL (andL (andL (andL (andL hg73))))))
        have p82 := of_decide_eq_true (andR (andL (andL (andL (andL hg73)))))
        have p83 := of_decide_eq_true (andR (andL (andL (andL hg73))))
        have p84 := of_decide_eq_true (andR (andL (andL hg73)))
        have p85 := of_decide_eq_true (andR (andL hg73))
        have p86 := of_decide_eq_true (andR hg73)
        refine Ops.yes rfl T.get_same hg73 ?_
        refine Ops.val (Val.move (T.get_skip rfl ((hF56 15 rfl).trans (T.get_skip rfl ((hF43 15 rfl).trans (T.get_skip rfl ((hF32 15 rfl).trans (T.get_skip rfl ((hF23 15 rfl).trans (T.get_skip rfl ((hF16 15 rfl).trans (T.get_skip rfl ((hF11 15 rfl).trans (T.get_skip rfl (T.get_skip rfl (T.get_skip rfl (T.get_skip rfl (T.get_skip rfl (T.get_skip rfl (T.get_skip rfl (T.get_skip rfl (T.get_skip rfl (T.get_skip rfl (T.get_skip rfl (T.get_skip rfl (T.get_skip rfl (T.get_skip rfl T.get_same))))))))))))))))))))))))))) rfl ?_
        refine Ops.yes rfl (T.get_skip rfl T.get_same) hg73 ?_
        refine Ops.val (Val.move (T.get_skip rfl (T.get_skip rfl ((hF56 18 rfl).trans (T.get_skip rfl ((hF43 18 rfl).trans (T.get_skip rfl ((hF32 18 rfl).trans (T.get_skip rfl ((hF23 18 rfl).trans (T.get_skip rfl ((hF16 18 rfl).trans (T.get_skip rfl ((hF11 18 rfl).trans (T.get_skip rfl (T.get_skip rfl (T.get_skip rfl (T.get_skip rfl T.get_same)))))))))))))))))) rfl ?_
        refine Ops.yes rfl (T.get_skip rfl (T.get_skip rfl T.get_same)) hg73 ?_
        refine Ops.val (Val.ieql (T.get_skip rfl T.get_same) T.get_same) rfl ?_
        refine Ops.val (Val.pickT (T.get_skip rfl (T.get_skip rfl (T.get_skip rfl T.get_same))) hg73 T.get_same) rfl ?_
        exact Ops.nil ⟨T.get_same.trans (cutAT hg73), fun t ht => (T.get_skip (el ht rfl) (T.get_skip (el ht rfl) (T.get_skip (el ht rfl) (T.get_skip (el ht rfl) rfl)))), rfl⟩
      · skip
        refine Ops.no rfl T.get_same hg73 rfl ?_
        refine Ops.no rfl (T.get_skip rfl T.get_same) hg73 rfl ?_
        refine Ops.no rfl (T.get_skip rfl (T.get_skip rfl T.get_same)) hg73 rfl ?_
        refine Ops.val (Val.pickF (T.get_skip rfl (T.get_skip rfl (T.get_skip rfl T.get_same))) hg73 rfl) rfl ?_
        exact Ops.nil ⟨T.get_same.trans (cutAF hg73), fun t ht => (T.get_skip (el ht rfl) (T.get_skip (el ht rfl) (T.get_skip (el ht rfl) (T.get_skip (el ht rfl) rfl)))), rfl⟩
    refine Ops.val (Val.assign g70) rfl ?_
    refine Ops.nil ?_
    refine Wp.ret ?_
    show Vm.Fin Try.prog Try.f4 (fun v _ => v = .b true) .ret _ _
    refine Fin.one (.inr rfl) rfl T.get_same ?_
    exact congrArg V.b (by simp)

end Go.Proofs.Ytonihkpcblfafaa
