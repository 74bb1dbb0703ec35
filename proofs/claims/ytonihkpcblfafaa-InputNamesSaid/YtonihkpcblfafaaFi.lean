/-
  The law of bytes, followed in the evaluator. Nothing is claimed here.
-/
import Derived.Test.YtonihkpcblfafaaFe
import Derived.Test.YtonihkpcblfafaaFh
import Derived.Test.YtonihkpcblfafaaMd
namespace Go.Proofs.Ytonihkpcblfafaa
open Go.Vm Go.Lay1
variable {n : Nat}

theorem InputBytes_ev (s : List UInt8) (st : St) (hn : 5000 ≤ n) : Ev Try.prog ov1 0 n 8 [(V.str (s))] st (fun v _ => v = .b true) := by
  obtain ⟨m, rfl⟩ : ∃ m, n = m + 60 := ⟨n - 60, by omega⟩
  have hS := Sub.refl st.nx st
  have hcl := cleaned_len s
  refine Ev.enter rfl Try.func8 rfl rfl rfl (frame1 _) ?_
  refine Wp.seq ?_
  refine Wp.region rfl ?_
  refine Ops.val (Val.assign rfl) rfl ?_
  refine Ops.nil ?_
  refine Wp.seq ?_
  refine Wp.seq ?_
  refine Wp.region rfl ?_
  refine Ops.val (Val.move (T.get_skip rfl T.get_same)) rfl ?_
  refine Ops.val (Val.slen Try.underlying9 T.get_same) rfl ?_
  refine Ops.val (Val.gtr T.get_same rfl) rfl ?_
  refine Ops.nil ?_
  refine Wp.cond T.get_same (fun hc1 => ?_) (fun hc1 => ?_)
  · skip
    have p2 := of_decide_eq_true hc1
    refine Wp.seq ?_
    refine Wp.region rfl ?_
    refine Ops.call opnds0 rfl (Ev.known rfl) ?_
    rintro _ _ ⟨rfl, hq⟩
    obtain rfl := Eq.symm hq
    refine Ops.val (Val.assign T.get_same) rfl ?_
    refine Ops.nil ?_
    refine Wp.ret ?_
    show Vm.Fin Try.prog Try.f8 (fun v _ => v = .b true) .ret _ _
    refine Fin.one (.inr rfl) rfl T.get_same ?_
    exact rfl
  · skip
    have p3 := of_decide_eq_false hc1
    refine Wp.skip ?_
    refine Wp.seq ?_
    refine Wp.region rfl ?_
    refine Ops.val (Val.assign rfl) rfl ?_
    refine Ops.val (Val.assign rfl) rfl ?_
    refine Ops.nil ?_
    refine Wp.seq ?_
    refine Wp.seq ?_
    refine Wp.region rfl ?_
    refine Ops.val (Val.assign rfl) rfl ?_
    refine Ops.nil ?_
    refine Wp.block ?_
    refine Wp.rebase (fun fr4 hF5 => ?_)
    have g6 := (hF5 0).trans (T.get_skip rfl (T.get_skip rfl (T.get_skip rfl (T.get_skip rfl (T.get_skip rfl (T.get_skip rfl (T.get_skip rfl T.get_same)))))))
    have g7 := (hF5 2).trans (T.get_skip rfl (T.get_skip rfl (T.get_skip rfl (T.get_skip rfl (T.get_skip rfl (T.get_skip rfl T.get_same))))))
    have g8 := (hF5 10).trans (T.get_skip rfl (T.get_skip rfl (T.get_skip rfl (T.get_skip rfl (T.get_skip rfl T.get_same)))))
    have g9 := (hF5 11).trans (T.get_skip rfl (T.get_skip rfl (T.get_skip rfl (T.get_skip rfl T.get_same))))
    have g10 := (hF5 12).trans (T.get_skip rfl (T.get_skip rfl (T.get_skip rfl T.get_same)))
    refine Wp.loop (I := fun mm fr sx => ∃ (i : Nat), (i ≤ s.length) ∧ mm = s.length - i ∧ fr.get 5 = some (.i .i64 ((i : Int))) ∧ fr.get 3 = some (.i .i64 (((rcl s i).length : Int))) ∧ fr.get 4 = some (.i .i64 (((ends (rcl s i) : Int) + 1))) ∧ (∀ t, [3, 4, 5, 14, 15, 16, 17, 18, 19, 20, 21, 22, 23, 24, 25, 26, 27, 28, 29, 30, 31, 32, 33, 34, 35, 36, 37, 38, 39, 40, 41, 42, 43, 44, 45, 46, 47, 48, 49, 50, 51, 52, 53, 54, 55, 56, 57, 58, 59, 60].elem t = false → fr.get t = fr4.get t) ∧ st = sx) s.length (by omega) ⟨0, (by omega), rfl, (hF5 5).trans T.get_same, (hF5 3).trans (T.get_skip rfl (T.get_skip rfl T.get_same)), (hF5 4).trans (T.get_skip rfl T.get_same), fun t _ => rfl, rfl⟩ (fun mm fr sx hI => ?_)
    obtain ⟨i, hi, rfl, g11, g12, g13, hW14, rfl⟩ := hI
    have hle := ends_le (rcl s i)
    have hlc := rcl_len s i
    refine Wp.seq ?_
    refine Wp.seq ?_
    refine Wp.region rfl ?_
    refine Ops.val (Val.move g11) rfl ?_
    refine Ops.val (Val.move (T.get_skip rfl ((hW14 0 rfl).trans g6))) rfl ?_
    refine Ops.val (Val.slen Try.underlying9 T.get_same) rfl ?_
    refine Ops.val (Val.lss (T.get_skip rfl (T.get_skip rfl T.get_same)) T.get_same) rfl ?_
    refine Ops.nil ?_
    refine Wp.cond T.get_same (fun hc15 => ?_) (fun hc15 => ?_)
    · skip
      have p16 := of_decide_eq_true hc15
      refine Wp.skip ?_
      refine Wp.seq ?_
      refine Wp.block ?_
      refine Wp.seq ?_
      refine Wp.seq ?_
      refine Wp.region rfl ?_
      refine Ops.val (Val.move (T.get_skip rfl (T.get_skip rfl (T.get_skip rfl (T.get_skip rfl ((hW14 0 rfl).trans g6)))))) rfl ?_
      refine Ops.val (Val.move (T.get_skip rfl (T.get_skip rfl (T.get_skip rfl (T.get_skip rfl (T.get_skip rfl g11)))))) rfl ?_
      refine Ops.val (Val.sidx (i := i) Try.underlying9 (T.get_skip rfl T.get_same) T.get_same (by omega)) rfl ?_
      refine Ops.val (Val.ieql T.get_same rfl) rfl ?_
      refine Ops.val (Val.move T.get_same) rfl ?_
      refine Ops.cutN 3 [25, 26, 27] 27 (.b ((decide (((s.getD i 0).toNat : Int) = 10)) && (decide (0 < (i : Int))))) ?_ (fun fr19 g17 hF18 => ?_)
      · rcases Bool.eq_false_or_eq_true (decide (((s.getD i 0).toNat : Int) = 10)) with hg20 | hg20
        · skip
          have p21 := of_decide_eq_true hg20
          refine Ops.yes rfl T.get_same hg20 ?_
          refine Ops.val (Val.move (T.get_skip rfl (T.get_skip rfl (T.get_skip rfl (T.get_skip rfl (T.get_skip rfl (T.get_skip rfl (T.get_skip rfl (T.get_skip rfl (T.get_skip rfl g11)))))))))) rfl ?_
          refine Ops.yes rfl (T.get_skip rfl T.get_same) hg20 ?_
          refine Ops.val (Val.gtr T.get_same rfl) rfl ?_
          refine Ops.val (Val.pickT (T.get_skip rfl (T.get_skip rfl T.get_same)) hg20 T.get_same) rfl ?_
          exact Ops.nil ⟨T.get_same.trans (cutAT hg20), fun t ht => (T.get_skip (el ht rfl) (T.get_skip (el ht rfl) (T.get_skip (el ht rfl) rfl))), rfl⟩
        · skip
          refine Ops.no rfl T.get_same hg20 rfl ?_
          refine Ops.no rfl (T.get_skip rfl T.get_same) hg20 rfl ?_
          refine Ops.val (Val.pickF (T.get_skip rfl (T.get_skip rfl T.get_same)) hg20 rfl) rfl ?_
          exact Ops.nil ⟨T.get_same.trans (cutAF hg20), fun t ht => (T.get_skip (el ht rfl) (T.get_skip (el ht rfl) (T.get_skip (el ht rfl) rfl))), rfl⟩
      refine Ops.val (Val.move g17) rfl ?_
      refine Ops.cutN 6 [29, 30, 31, 32, 33, 34] 34 (.b (((decide (((s.getD i 0).toNat : Int) = 10)) && (decide (0 < (i : Int)))) && (decide (((s.getD ((((i : Int) - 1)).toNat) 0).toNat : Int) = 13)))) ?_ (fun fr24 g22 hF23 => ?_)
      · rcases Bool.eq_false_or_eq_true ((decide (((s.getD i 0).toNat : Int) = 10)) && (decide (0 < (i : Int)))) with hg25 | hg25
        · skip
          have p27 := of_decide_eq_true (andL hg25)
          have p28 := of_decide_eq_true (andR hg25)
          refine Ops.yes rfl T.get_same hg25 ?_
          refine Ops.val (Val.move (T.get_skip rfl ((hF18 0 rfl).trans (T.get_skip rfl (T.get_skip rfl (T.get_skip rfl (T.get_skip rfl (T.get_skip rfl (T.get_skip rfl (T.get_skip rfl (T.get_skip rfl (T.get_skip rfl ((hW14 0 rfl).trans g6))))))))))))) rfl ?_
          refine Ops.yes rfl (T.get_skip rfl T.get_same) hg25 ?_
          refine Ops.val (Val.move (T.get_skip rfl (T.get_skip rfl ((hF18 5 rfl).trans (T.get_skip rfl (T.get_skip rfl (T.get_skip rfl (T.get_skip rfl (T.get_skip rfl (T.get_skip rfl (T.get_skip rfl (T.get_skip rfl (T.get_skip rfl g11))))))))))))) rfl ?_
          refine Ops.yes rfl (T.get_skip rfl (T.get_skip rfl T.get_same)) hg25 ?_
          refine Ops.val (Val.isub T.get_same rfl (c := ((i : Int) - 1)) (wrap64 (by omega) (by omega))) rfl ?_
          refine Ops.yes rfl (T.get_skip rfl (T.get_skip rfl (T.get_skip rfl T.get_same))) hg25 ?_
          refine Ops.val (Val.sidx (i := (((i : Int) - 1)).toNat) Try.underlying9 (T.get_skip rfl (T.get_skip rfl T.get_same)) (T.get_same.trans (by rw [Int.toNat_of_nonneg (a := ((i : Int) - 1)) (by omega)])) (by omega)) rfl ?_
          refine Ops.yes rfl (T.get_skip rfl (T.get_skip rfl (T.get_skip rfl (T.get_skip rfl T.get_same)))) hg25 ?_
          refine Ops.val (Val.ieql T.get_same rfl) rfl ?_
          refine Ops.val (Val.pickT (T.get_skip rfl (T.get_skip rfl (T.get_skip rfl (T.get_skip rfl (T.get_skip rfl T.get_same))))) hg25 T.get_same) rfl ?_
          exact Ops.nil ⟨T.get_same.trans (cutAT hg25), fun t ht => (T.get_skip (el ht rfl) (T.get_skip (el ht rfl) (T.get_skip (el ht rfl) (T.get_skip (el ht rfl) (T.get_skip (el ht rfl) (T.get_skip (el ht rfl) rfl)))))), rfl⟩
        · skip
          refine Ops.no rfl T.get_same hg25 rfl ?_
          refine Ops.no rfl (T.get_skip rfl T.get_same) hg25 rfl ?_
          refine Ops.no rfl (T.get_skip rfl (T.get_skip rfl T.get_same)) hg25 rfl ?_
          refine Ops.no rfl (T.get_skip rfl (T.get_skip rfl (T.get_skip rfl T.get_same))) hg25 rfl ?_
          refine Ops.no rfl (T.get_skip rfl (T.get_skip rfl (T.get_skip rfl (T.get_skip rfl T.get_same)))) hg25 rfl ?_
          refine Ops.val (Val.pickF (T.get_skip rfl (T.get_skip rfl (T.get_skip rfl (T.get_skip rfl (T.get_skip rfl T.get_same))))) hg25 rfl) rfl ?_
          exact Ops.nil ⟨T.get_same.trans (cutAF hg25), fun t ht => (T.get_skip (el ht rfl) (T.get_skip (el ht rfl) (T.get_skip (el ht rfl) (T.get_skip (el ht rfl) (T.get_skip (el ht rfl) (T.get_skip (el ht rfl) rfl)))))), rfl⟩
      refine Ops.nil ?_
      refine Wp.cond g22 (fun hc29 => ?_) (fun hc29 => ?_)
      · skip
        have p32 := of_decide_eq_true (andL (andL hc29))
        have p33 := of_decide_eq_true (andR (andL hc29))
        have p34 := of_decide_eq_true (andR hc29)
        refine Wp.exit ?_
        refine Wp.region rfl ?_
        refine Ops.val (Val.move ((hF23 5 rfl).trans (T.get_skip rfl ((hF18 5 rfl).trans (T.get_skip rfl (T.get_skip rfl (T.get_skip rfl (T.get_skip rfl (T.get_skip rfl (T.get_skip rfl (T.get_skip rfl (T.get_skip rfl (T.get_skip rfl g11))))))))))))) rfl ?_
        refine Ops.val (Val.iadd T.get_same rfl (c := ((i : Int) + 1)) (wrap64 (by omega) (by omega))) rfl ?_
        refine Ops.val (Val.assign T.get_same) rfl ?_
        refine Ops.nil ?_
        exact ⟨_, (by omega), i + 1, (by omega), rfl, T.get_same, ((T.get_skip rfl (T.get_skip rfl (T.get_skip rfl ((hF23 3 rfl).trans (T.get_skip rfl ((hF18 3 rfl).trans (T.get_skip rfl (T.get_skip rfl (T.get_skip rfl (T.get_skip rfl (T.get_skip rfl (T.get_skip rfl (T.get_skip rfl (T.get_skip rfl (T.get_skip rfl g12))))))))))))))).trans (congrArg (fun z => some (V.i .i64 z)) (by first | rw [rcl_skip (s := s) (i := i) ⟨⟨by assumption, by assumption⟩, by assumption⟩] | (rw [rlen_nul (s := s) (i := i) (by assumption) (by assumption)]; omega) | rw [rlen_one (s := s) (i := i) (by assumption) (by assumption)]))), ((T.get_skip rfl (T.get_skip rfl (T.get_skip rfl ((hF23 4 rfl).trans (T.get_skip rfl ((hF18 4 rfl).trans (T.get_skip rfl (T.get_skip rfl (T.get_skip rfl (T.get_skip rfl (T.get_skip rfl (T.get_skip rfl (T.get_skip rfl (T.get_skip rfl (T.get_skip rfl g13))))))))))))))).trans (congrArg (fun z => some (V.i .i64 z)) (by first | rw [rcl_skip (s := s) (i := i) ⟨⟨by assumption, by assumption⟩, by assumption⟩] | rw [rends_yes (s := s) (i := i) (by assumption) (by omega)] | rw [rends_no (s := s) (i := i) (by assumption) (by omega)]))), fun t ht => (T.get_skip (el ht rfl) (T.get_skip (el ht rfl) (T.get_skip (el ht rfl) ((hF23 t (elW ht rfl)).trans (T.get_skip (el ht rfl) ((hF18 t (elW ht rfl)).trans (T.get_skip (el ht rfl) (T.get_skip (el ht rfl) (T.get_skip (el ht rfl) (T.get_skip (el ht rfl) (T.get_skip (el ht rfl) (T.get_skip (el ht rfl) (T.get_skip (el ht rfl) (T.get_skip (el ht rfl) (T.get_skip (el ht rfl) (hW14 t ht)))))))))))))))), rfl⟩
      · skip
        have p35 : ¬ (((((s.getD i 0).toNat : Int) = 10) ∧ (0 < (i : Int))) ∧ (((s.getD ((((i : Int) - 1)).toNat) 0).toNat : Int) = 13)) := andF (iffA iffD iffD) iffD hc29
        refine Wp.skip ?_
        refine Wp.seq ?_
        refine Wp.region rfl ?_
        refine Ops.val (Val.move ((hF23 3 rfl).trans (T.get_skip rfl ((hF18 3 rfl).trans (T.get_skip rfl (T.get_skip rfl (T.get_skip rfl (T.get_skip rfl (T.get_skip rfl (T.get_skip rfl (T.get_skip rfl (T.get_skip rfl (T.get_skip rfl g12))))))))))))) rfl ?_
        refine Ops.val (Val.iadd T.get_same rfl (c := (((rcl s i).length : Int) + 1)) (wrap64 (by omega) (by omega))) rfl ?_
        refine Ops.val (Val.assign T.get_same) rfl ?_
        refine Ops.nil ?_
        refine Wp.seq ?_
        refine Wp.seq ?_
        refine Wp.region rfl ?_
        refine Ops.val (Val.move (T.get_skip rfl (T.get_skip rfl (T.get_skip rfl ((hF23 0 rfl).trans (T.get_skip rfl ((hF18 0 rfl).trans (T.get_skip rfl (T.get_skip rfl (T.get_skip rfl (T.get_skip rfl (T.get_skip rfl (T.get_skip rfl (T.get_skip rfl (T.get_skip rfl (T.get_skip rfl ((hW14 0 rfl).trans g6))))))))))))))))) rfl ?_
        refine Ops.val (Val.move (T.get_skip rfl (T.get_skip rfl (T.get_skip rfl (T.get_skip rfl ((hF23 5 rfl).trans (T.get_skip rfl ((hF18 5 rfl).trans (T.get_skip rfl (T.get_skip rfl (T.get_skip rfl (T.get_skip rfl (T.get_skip rfl (T.get_skip rfl (T.get_skip rfl (T.get_skip rfl (T.get_skip rfl g11))))))))))))))))) rfl ?_
        refine Ops.val (Val.sidx (i := i) Try.underlying9 (T.get_skip rfl T.get_same) T.get_same (by omega)) rfl ?_
        refine Ops.val (Val.ieql T.get_same rfl) rfl ?_
        refine Ops.nil ?_
        refine Wp.cond T.get_same (fun hc36 => ?_) (fun hc36 => ?_)
        · skip
          have p37 := of_decide_eq_true hc36
          refine Wp.region rfl ?_
          refine Ops.val (Val.move (T.get_skip rfl (T.get_skip rfl (T.get_skip rfl (T.get_skip rfl T.get_same))))) rfl ?_
          refine Ops.val (Val.iadd T.get_same rfl (c := ((((rcl s i).length : Int) + 1) + 2)) (wrap64 (by omega) (by omega))) rfl ?_
          refine Ops.val (Val.assign T.get_same) rfl ?_
          refine Ops.nil ?_
          refine Wp.seq ?_
          refine Wp.region rfl ?_
          refine Ops.val (Val.move (T.get_skip rfl (T.get_skip rfl (T.get_skip rfl (T.get_skip rfl (T.get_skip rfl (T.get_skip rfl (T.get_skip rfl (T.get_skip rfl (T.get_skip rfl (T.get_skip rfl ((hF23 0 rfl).trans (T.get_skip rfl ((hF18 0 rfl).trans (T.get_skip rfl (T.get_skip rfl (T.get_skip rfl (T.get_skip rfl (T.get_skip rfl (T.get_skip rfl (T.get_skip rfl (T.get_skip rfl (T.get_skip rfl ((hW14 0 rfl).trans g6)))))))))))))))))))))))) rfl ?_
          refine Ops.val (Val.move (T.get_skip rfl (T.get_skip rfl (T.get_skip rfl (T.get_skip rfl (T.get_skip rfl (T.get_skip rfl (T.get_skip rfl (T.get_skip rfl (T.get_skip rfl (T.get_skip rfl (T.get_skip rfl ((hF23 5 rfl).trans (T.get_skip rfl ((hF18 5 rfl).trans (T.get_skip rfl (T.get_skip rfl (T.get_skip rfl (T.get_skip rfl (T.get_skip rfl (T.get_skip rfl (T.get_skip rfl (T.get_skip rfl (T.get_skip rfl g11)))))))))))))))))))))))) rfl ?_
          refine Ops.val (Val.sidx (i := i) Try.underlying9 (T.get_skip rfl T.get_same) T.get_same (by omega)) rfl ?_
          refine Ops.val (Val.ieql T.get_same rfl) rfl ?_
          refine Ops.val (Val.move T.get_same) rfl ?_
          refine Ops.cutN 5 [48, 49, 50, 51, 52] 52 (.b ((decide (((s.getD i 0).toNat : Int) = 10)) || (decide (((s.getD i 0).toNat : Int) = 13)))) ?_ (fun fr40 g38 hF39 => ?_)
          · rcases Bool.eq_false_or_eq_true (decide (((s.getD i 0).toNat : Int) = 10)) with hg41 | hg41
            · skip
              refine Ops.no rfl T.get_same hg41 rfl ?_
              refine Ops.no rfl (T.get_skip rfl T.get_same) hg41 rfl ?_
              refine Ops.no rfl (T.get_skip rfl (T.get_skip rfl T.get_same)) hg41 rfl ?_
              refine Ops.no rfl (T.get_skip rfl (T.get_skip rfl (T.get_skip rfl T.get_same))) hg41 rfl ?_
              refine Ops.val (Val.pickT (T.get_skip rfl (T.get_skip rfl (T.get_skip rfl (T.get_skip rfl T.get_same)))) hg41 rfl) rfl ?_
              exact Ops.nil ⟨T.get_same.trans (cutOT hg41), fun t ht => (T.get_skip (el ht rfl) (T.get_skip (el ht rfl) (T.get_skip (el ht rfl) (T.get_skip (el ht rfl) (T.get_skip (el ht rfl) rfl))))), rfl⟩
            · skip
              have p42 := of_decide_eq_false hg41
              refine Ops.yes rfl T.get_same hg41 ?_
              refine Ops.val (Val.move (T.get_skip rfl (T.get_skip rfl (T.get_skip rfl (T.get_skip rfl (T.get_skip rfl (T.get_skip rfl (T.get_skip rfl (T.get_skip rfl (T.get_skip rfl (T.get_skip rfl (T.get_skip rfl (T.get_skip rfl (T.get_skip rfl (T.get_skip rfl (T.get_skip rfl ((hF23 0 rfl).trans (T.get_skip rfl ((hF18 0 rfl).trans (T.get_skip rfl (T.get_skip rfl (T.get_skip rfl (T.get_skip rfl (T.get_skip rfl (T.get_skip rfl (T.get_skip rfl (T.get_skip rfl (T.get_skip rfl ((hW14 0 rfl).trans g6))))))))))))))))))))))))))))) rfl ?_
              refine Ops.yes rfl (T.get_skip rfl T.get_same) hg41 ?_
              refine Ops.val (Val.move (T.get_skip rfl (T.get_skip rfl (T.get_skip rfl (T.get_skip rfl (T.get_skip rfl (T.get_skip rfl (T.get_skip rfl (T.get_skip rfl (T.get_skip rfl (T.get_skip rfl (T.get_skip rfl (T.get_skip rfl (T.get_skip rfl (T.get_skip rfl (T.get_skip rfl (T.get_skip rfl ((hF23 5 rfl).trans (T.get_skip rfl ((hF18 5 rfl).trans (T.get_skip rfl (T.get_skip rfl (T.get_skip rfl (T.get_skip rfl (T.get_skip rfl (T.get_skip rfl (T.get_skip rfl (T.get_skip rfl (T.get_skip rfl g11))))))))))))))))))))))))))))) rfl ?_
              refine Ops.yes rfl (T.get_skip rfl (T.get_skip rfl T.get_same)) hg41 ?_
              refine Ops.val (Val.sidx (i := i) Try.underlying9 (T.get_skip rfl T.get_same) T.get_same (by omega)) rfl ?_
              refine Ops.yes rfl (T.get_skip rfl (T.get_skip rfl (T.get_skip rfl T.get_same))) hg41 ?_
              refine Ops.val (Val.ieql T.get_same rfl) rfl ?_
              refine Ops.val (Val.pickF (T.get_skip rfl (T.get_skip rfl (T.get_skip rfl (T.get_skip rfl T.get_same)))) hg41 T.get_same) rfl ?_
              exact Ops.nil ⟨T.get_same.trans (cutOF hg41), fun t ht => (T.get_skip (el ht rfl) (T.get_skip (el ht rfl) (T.get_skip (el ht rfl) (T.get_skip (el ht rfl) (T.get_skip (el ht rfl) rfl))))), rfl⟩
          refine Ops.val (Val.move g38) rfl ?_
          refine Ops.cutN 5 [54, 55, 56, 57, 58] 58 (.b (((decide (((s.getD i 0).toNat : Int) = 10)) || (decide (((s.getD i 0).toNat : Int) = 13))) || (decide (((s.getD i 0).toNat : Int) = 12)))) ?_ (fun fr45 g43 hF44 => ?_)
          · rcases Bool.eq_false_or_eq_true ((decide (((s.getD i 0).toNat : Int) = 10)) || (decide (((s.getD i 0).toNat : Int) = 13))) with hg46 | hg46
            · skip
              refine Ops.no rfl T.get_same hg46 rfl ?_
              refine Ops.no rfl (T.get_skip rfl T.get_same) hg46 rfl ?_
              refine Ops.no rfl (T.get_skip rfl (T.get_skip rfl T.get_same)) hg46 rfl ?_
              refine Ops.no rfl (T.get_skip rfl (T.get_skip rfl (T.get_skip rfl T.get_same))) hg46 rfl ?_
              refine Ops.val (Val.pickT (T.get_skip rfl (T.get_skip rfl (T.get_skip rfl (T.get_skip rfl T.get_same)))) hg46 rfl) rfl ?_
              exact Ops.nil ⟨T.get_same.trans (cutOT hg46), fun t ht => (T.get_skip (el ht rfl) (T.get_skip (el ht rfl) (T.get_skip (el ht rfl) (T.get_skip (el ht rfl) (T.get_skip (el ht rfl) rfl))))), rfl⟩
            · skip
              have p48 := of_decide_eq_false (orL hg46)
              have p49 := of_decide_eq_false (orR hg46)
              refine Ops.yes rfl T.get_same hg46 ?_
              refine Ops.val (Val.move (T.get_skip rfl ((hF39 0 rfl).trans (T.get_skip rfl (T.get_skip rfl (T.get_skip rfl (T.get_skip rfl (T.get_skip rfl (T.get_skip rfl (T.get_skip rfl (T.get_skip rfl (T.get_skip rfl (T.get_skip rfl (T.get_skip rfl (T.get_skip rfl (T.get_skip rfl (T.get_skip rfl (T.get_skip rfl ((hF23 0 rfl).trans (T.get_skip rfl ((hF18 0 rfl).trans (T.get_skip rfl (T.get_skip rfl (T.get_skip rfl (T.get_skip rfl (T.get_skip rfl (T.get_skip rfl (T.get_skip rfl (T.get_skip rfl (T.get_skip rfl ((hW14 0 rfl).trans g6))))))))))))))))))))))))))))))) rfl ?_
              refine Ops.yes rfl (T.get_skip rfl T.get_same) hg46 ?_
              refine Ops.val (Val.move (T.get_skip rfl (T.get_skip rfl ((hF39 5 rfl).trans (T.get_skip rfl (T.get_skip rfl (T.get_skip rfl (T.get_skip rfl (T.get_skip rfl (T.get_skip rfl (T.get_skip rfl (T.get_skip rfl (T.get_skip rfl (T.get_skip rfl (T.get_skip rfl (T.get_skip rfl (T.get_skip rfl (T.get_skip rfl (T.get_skip rfl ((hF23 5 rfl).trans (T.get_skip rfl ((hF18 5 rfl).trans (T.get_skip rfl (T.get_skip rfl (T.get_skip rfl (T.get_skip rfl (T.get_skip rfl (T.get_skip rfl (T.get_skip rfl (T.get_skip rfl (T.get_skip rfl g11))))))))))))))))))))))))))))))) rfl ?_
              refine Ops.yes rfl (T.get_skip rfl (T.get_skip rfl T.get_same)) hg46 ?_
              refine Ops.val (Val.sidx (i := i) Try.underlying9 (T.get_skip rfl T.get_same) T.get_same (by omega)) rfl ?_
              refine Ops.yes rfl (T.get_skip rfl (T.get_skip rfl (T.get_skip rfl T.get_same))) hg46 ?_
              refine Ops.val (Val.ieql T.get_same rfl) rfl ?_
              refine Ops.val (Val.pickF (T.get_skip rfl (T.get_skip rfl (T.get_skip rfl (T.get_skip rfl T.get_same)))) hg46 T.get_same) rfl ?_
              exact Ops.nil ⟨T.get_same.trans (cutOF hg46), fun t ht => (T.get_skip (el ht rfl) (T.get_skip (el ht rfl) (T.get_skip (el ht rfl) (T.get_skip (el ht rfl) (T.get_skip (el ht rfl) rfl))))), rfl⟩
          refine Ops.nil ?_
          refine Wp.cond g43 (fun hc50 => ?_) (fun hc50 => ?_)
          · skip
            have p51 : (((((s.getD i 0).toNat : Int) = 10) ∨ (((s.getD i 0).toNat : Int) = 13)) ∨ (((s.getD i 0).toNat : Int) = 12)) := orT (iffO iffD iffD) iffD hc50
            refine Wp.region rfl ?_
            refine Ops.val (Val.move ((hF44 4 rfl).trans (T.get_skip rfl ((hF39 4 rfl).trans (T.get_skip rfl (T.get_skip rfl (T.get_skip rfl (T.get_skip rfl (T.get_skip rfl (T.get_skip rfl (T.get_skip rfl (T.get_skip rfl (T.get_skip rfl (T.get_skip rfl (T.get_skip rfl (T.get_skip rfl (T.get_skip rfl (T.get_skip rfl (T.get_skip rfl ((hF23 4 rfl).trans (T.get_skip rfl ((hF18 4 rfl).trans (T.get_skip rfl (T.get_skip rfl (T.get_skip rfl (T.get_skip rfl (T.get_skip rfl (T.get_skip rfl (T.get_skip rfl (T.get_skip rfl (T.get_skip rfl g13))))))))))))))))))))))))))))))) rfl ?_
            refine Ops.val (Val.iadd T.get_same rfl (c := (((ends (rcl s i) : Int) + 1) + 1)) (wrap64 (by omega) (by omega))) rfl ?_
            refine Ops.val (Val.assign T.get_same) rfl ?_
            refine Ops.nil ?_
            refine Wp.region rfl ?_
            refine Ops.val (Val.move (T.get_skip rfl (T.get_skip rfl (T.get_skip rfl ((hF44 5 rfl).trans (T.get_skip rfl ((hF39 5 rfl).trans (T.get_skip rfl (T.get_skip rfl (T.get_skip rfl (T.get_skip rfl (T.get_skip rfl (T.get_skip rfl (T.get_skip rfl (T.get_skip rfl (T.get_skip rfl (T.get_skip rfl (T.get_skip rfl (T.get_skip rfl (T.get_skip rfl (T.get_skip rfl (T.get_skip rfl ((hF23 5 rfl).trans (T.get_skip rfl ((hF18 5 rfl).trans (T.get_skip rfl (T.get_skip rfl (T.get_skip rfl (T.get_skip rfl (T.get_skip rfl (T.get_skip rfl (T.get_skip rfl (T.get_skip rfl (T.get_skip rfl g11)))))))))))))))))))))))))))))))))) rfl ?_
            refine Ops.val (Val.iadd T.get_same rfl (c := ((i : Int) + 1)) (wrap64 (by omega) (by omega))) rfl ?_
            refine Ops.val (Val.assign T.get_same) rfl ?_
            refine Ops.nil ?_
            exact ⟨_, (by omega), i + 1, (by omega), rfl, T.get_same, ((T.get_skip rfl (T.get_skip rfl (T.get_skip rfl (T.get_skip rfl (T.get_skip rfl (T.get_skip rfl ((hF44 3 rfl).trans (T.get_skip rfl ((hF39 3 rfl).trans (T.get_skip rfl (T.get_skip rfl (T.get_skip rfl (T.get_skip rfl (T.get_skip rfl T.get_same)))))))))))))).trans (congrArg (fun z => some (V.i .i64 z)) (by first | rw [rcl_skip (s := s) (i := i) ⟨⟨by assumption, by assumption⟩, by assumption⟩] | (rw [rlen_nul (s := s) (i := i) (by assumption) (by assumption)]; omega) | rw [rlen_one (s := s) (i := i) (by assumption) (by assumption)]))), ((T.get_skip rfl (T.get_skip rfl (T.get_skip rfl T.get_same))).trans (congrArg (fun z => some (V.i .i64 z)) (by first | rw [rcl_skip (s := s) (i := i) ⟨⟨by assumption, by assumption⟩, by assumption⟩] | rw [rends_yes (s := s) (i := i) (by assumption) (by omega)] | rw [rends_no (s := s) (i := i) (by assumption) (by omega)]))), fun t ht => (T.get_skip (el ht rfl) (T.get_skip (el ht rfl) (T.get_skip (el ht rfl) (T.get_skip (el ht rfl) (T.get_skip (el ht rfl) (T.get_skip (el ht rfl) ((hF44 t (elW ht rfl)).trans (T.get_skip (el ht rfl) ((hF39 t (elW ht rfl)).trans (T.get_skip (el ht rfl) (T.get_skip (el ht rfl) (T.get_skip (el ht rfl) (T.get_skip (el ht rfl) (T.get_skip (el ht rfl) (T.get_skip (el ht rfl) (T.get_skip (el ht rfl) (T.get_skip (el ht rfl) (T.get_skip (el ht rfl) (T.get_skip (el ht rfl) (T.get_skip (el ht rfl) (T.get_skip (el ht rfl) (T.get_skip (el ht rfl) (T.get_skip (el ht rfl) (T.get_skip (el ht rfl) ((hF23 t (elW ht rfl)).trans (T.get_skip (el ht rfl) ((hF18 t (elW ht rfl)).trans (T.get_skip (el ht rfl) (T.get_skip (el ht rfl) (T.get_skip (el ht rfl) (T.get_skip (el ht rfl) (T.get_skip (el ht rfl) (T.get_skip (el ht rfl) (T.get_skip (el ht rfl) (T.get_skip (el ht rfl) (T.get_skip (el ht rfl) (hW14 t ht))))))))))))))))))))))))))))))))))))), rfl⟩
          · skip
            have p54 := of_decide_eq_false (orL (orL hc50))
            have p55 := of_decide_eq_false (orR (orL hc50))
            have p56 := of_decide_eq_false (orR hc50)
            refine Wp.skip ?_
            refine Wp.region rfl ?_
            refine Ops.val (Val.move ((hF44 5 rfl).trans (T.get_skip rfl ((hF39 5 rfl).trans (T.get_skip rfl (T.get_skip rfl (T.get_skip rfl (T.get_skip rfl (T.get_skip rfl (T.get_skip rfl (T.get_skip rfl (T.get_skip rfl (T.get_skip rfl (T.get_skip rfl (T.get_skip rfl (T.get_skip rfl (T.get_skip rfl (T.get_skip rfl (T.get_skip rfl ((hF23 5 rfl).trans (T.get_skip rfl ((hF18 5 rfl).trans (T.get_skip rfl (T.get_skip rfl (T.get_skip rfl (T.get_skip rfl (T.get_skip rfl (T.get_skip rfl (T.get_skip rfl (T.get_skip rfl (T.get_skip rfl g11))))))))))))))))))))))))))))))) rfl ?_
            refine Ops.val (Val.iadd T.get_same rfl (c := ((i : Int) + 1)) (wrap64 (by omega) (by omega))) rfl ?_
            refine Ops.val (Val.assign T.get_same) rfl ?_
            refine Ops.nil ?_
            exact ⟨_, (by omega), i + 1, (by omega), rfl, T.get_same, ((T.get_skip rfl (T.get_skip rfl (T.get_skip rfl ((hF44 3 rfl).trans (T.get_skip rfl ((hF39 3 rfl).trans (T.get_skip rfl (T.get_skip rfl (T.get_skip rfl (T.get_skip rfl (T.get_skip rfl T.get_same))))))))))).trans (congrArg (fun z => some (V.i .i64 z)) (by first | rw [rcl_skip (s := s) (i := i) ⟨⟨by assumption, by assumption⟩, by assumption⟩] | (rw [rlen_nul (s := s) (i := i) (by assumption) (by assumption)]; omega) | rw [rlen_one (s := s) (i := i) (by assumption) (by assumption)]))), ((T.get_skip rfl (T.get_skip rfl (T.get_skip rfl ((hF44 4 rfl).trans (T.get_skip rfl ((hF39 4 rfl).trans (T.get_skip rfl (T.get_skip rfl (T.get_skip rfl (T.get_skip rfl (T.get_skip rfl (T.get_skip rfl (T.get_skip rfl (T.get_skip rfl (T.get_skip rfl (T.get_skip rfl (T.get_skip rfl (T.get_skip rfl (T.get_skip rfl (T.get_skip rfl (T.get_skip rfl ((hF23 4 rfl).trans (T.get_skip rfl ((hF18 4 rfl).trans (T.get_skip rfl (T.get_skip rfl (T.get_skip rfl (T.get_skip rfl (T.get_skip rfl (T.get_skip rfl (T.get_skip rfl (T.get_skip rfl (T.get_skip rfl g13))))))))))))))))))))))))))))))))).trans (congrArg (fun z => some (V.i .i64 z)) (by first | rw [rcl_skip (s := s) (i := i) ⟨⟨by assumption, by assumption⟩, by assumption⟩] | rw [rends_yes (s := s) (i := i) (by assumption) (by omega)] | rw [rends_no (s := s) (i := i) (by assumption) (by omega)]))), fun t ht => (T.get_skip (el ht rfl) (T.get_skip (el ht rfl) (T.get_skip (el ht rfl) ((hF44 t (elW ht rfl)).trans (T.get_skip (el ht rfl) ((hF39 t (elW ht rfl)).trans (T.get_skip (el ht rfl) (T.get_skip (el ht rfl) (T.get_skip (el ht rfl) (T.get_skip (el ht rfl) (T.get_skip (el ht rfl) (T.get_skip (el ht rfl) (T.get_skip (el ht rfl) (T.get_skip (el ht rfl) (T.get_skip (el ht rfl) (T.get_skip (el ht rfl) (T.get_skip (el ht rfl) (T.get_skip (el ht rfl) (T.get_skip (el ht rfl) (T.get_skip (el ht rfl) (T.get_skip (el ht rfl) ((hF23 t (elW ht rfl)).trans (T.get_skip (el ht rfl) ((hF18 t (elW ht rfl)).trans (T.get_skip (el ht rfl) (T.get_skip (el ht rfl) (T.get_skip (el ht rfl) (T.get_skip (el ht rfl) (T.get_skip (el ht rfl) (T.get_skip (el ht rfl) (T.get_skip (el ht rfl) (T.get_skip (el ht rfl) (T.get_skip (el ht rfl) (hW14 t ht)))))))))))))))))))))))))))))))))), rfl⟩
        · skip
          have p57 := of_decide_eq_false hc36
          refine Wp.skip ?_
          refine Wp.seq ?_
          refine Wp.region rfl ?_
          refine Ops.val (Val.move (T.get_skip rfl (T.get_skip rfl (T.get_skip rfl (T.get_skip rfl (T.get_skip rfl (T.get_skip rfl (T.get_skip rfl ((hF23 0 rfl).trans (T.get_skip rfl ((hF18 0 rfl).trans (T.get_skip rfl (T.get_skip rfl (T.get_skip rfl (T.get_skip rfl (T.get_skip rfl (T.get_skip rfl (T.get_skip rfl (T.get_skip rfl (T.get_skip rfl ((hW14 0 rfl).trans g6))))))))))))))))))))) rfl ?_
          refine Ops.val (Val.move (T.get_skip rfl (T.get_skip rfl (T.get_skip rfl (T.get_skip rfl (T.get_skip rfl (T.get_skip rfl (T.get_skip rfl (T.get_skip rfl ((hF23 5 rfl).trans (T.get_skip rfl ((hF18 5 rfl).trans (T.get_skip rfl (T.get_skip rfl (T.get_skip rfl (T.get_skip rfl (T.get_skip rfl (T.get_skip rfl (T.get_skip rfl (T.get_skip rfl (T.get_skip rfl g11))))))))))))))))))))) rfl ?_
          refine Ops.val (Val.sidx (i := i) Try.underlying9 (T.get_skip rfl T.get_same) T.get_same (by omega)) rfl ?_
          refine Ops.val (Val.ieql T.get_same rfl) rfl ?_
          refine Ops.val (Val.move T.get_same) rfl ?_
          refine Ops.cutN 5 [48, 49, 50, 51, 52] 52 (.b ((decide (((s.getD i 0).toNat : Int) = 10)) || (decide (((s.getD i 0).toNat : Int) = 13)))) ?_ (fun fr60 g58 hF59 => ?_)
          · rcases Bool.eq_false_or_eq_true (decide (((s.getD i 0).toNat : Int) = 10)) with hg61 | hg61
            · skip
              refine Ops.no rfl T.get_same hg61 rfl ?_
              refine Ops.no rfl (T.get_skip rfl T.get_same) hg61 rfl ?_
              refine Ops.no rfl (T.get_skip rfl (T.get_skip rfl T.get_same)) hg61 rfl ?_
              refine Ops.no rfl (T.get_skip rfl (T.get_skip rfl (T.get_skip rfl T.get_same))) hg61 rfl ?_
              refine Ops.val (Val.pickT (T.get_skip rfl (T.get_skip rfl (T.get_skip rfl (T.get_skip rfl T.get_same)))) hg61 rfl) rfl ?_
              exact Ops.nil ⟨T.get_same.trans (cutOT hg61), fun t ht => (T.get_skip (el ht rfl) (T.get_skip (el ht rfl) (T.get_skip (el ht rfl) (T.get_skip (el ht rfl) (T.get_skip (el ht rfl) rfl))))), rfl⟩
            · skip
              have p62 := of_decide_eq_false hg61
              refine Ops.yes rfl T.get_same hg61 ?_
              refine Ops.val (Val.move (T.get_skip rfl (T.get_skip rfl (T.get_skip rfl (T.get_skip rfl (T.get_skip rfl (T.get_skip rfl (T.get_skip rfl (T.get_skip rfl (T.get_skip rfl (T.get_skip rfl (T.get_skip rfl (T.get_skip rfl ((hF23 0 rfl).trans (T.get_skip rfl ((hF18 0 rfl).trans (T.get_skip rfl (T.get_skip rfl (T.get_skip rfl (T.get_skip rfl (T.get_skip rfl (T.get_skip rfl (T.get_skip rfl (T.get_skip rfl (T.get_skip rfl ((hW14 0 rfl).trans g6)))))))))))))))))))))))))) rfl ?_
              refine Ops.yes rfl (T.get_skip rfl T.get_same) hg61 ?_
              refine Ops.val (Val.move (T.get_skip rfl (T.get_skip rfl (T.get_skip rfl (T.get_skip rfl (T.get_skip rfl (T.get_skip rfl (T.get_skip rfl (T.get_skip rfl (T.get_skip rfl (T.get_skip rfl (T.get_skip rfl (T.get_skip rfl (T.get_skip rfl ((hF23 5 rfl).trans (T.get_skip rfl ((hF18 5 rfl).trans (T.get_skip rfl (T.get_skip rfl (T.get_skip rfl (T.get_skip rfl (T.get_skip rfl (T.get_skip rfl (T.get_skip rfl (T.get_skip rfl (T.get_skip rfl g11)))))))))))))))))))))))))) rfl ?_
              refine Ops.yes rfl (T.get_skip rfl (T.get_skip rfl T.get_same)) hg61 ?_
              refine Ops.val (Val.sidx (i := i) Try.underlying9 (T.get_skip rfl T.get_same) T.get_same (by omega)) rfl ?_
              refine Ops.yes rfl (T.get_skip rfl (T.get_skip rfl (T.get_skip rfl T.get_same))) hg61 ?_
              refine Ops.val (Val.ieql T.get_same rfl) rfl ?_
              refine Ops.val (Val.pickF (T.get_skip rfl (T.get_skip rfl (T.get_skip rfl (T.get_skip rfl T.get_same)))) hg61 T.get_same) rfl ?_
              exact Ops.nil ⟨T.get_same.trans (cutOF hg61), fun t ht => (T.get_skip (el ht rfl) (T.get_skip (el ht rfl) (T.get_skip (el ht rfl) (T.get_skip (el ht rfl) (T.get_skip (el ht rfl) rfl))))), rfl⟩
          refine Ops.val (Val.move g58) rfl ?_
          refine Ops.cutN 5 [54, 55, 56, 57, 58] 58 (.b (((decide (((s.getD i 0).toNat : Int) = 10)) || (decide (((s.getD i 0).toNat : Int) = 13))) || (decide (((s.getD i 0).toNat : Int) = 12)))) ?_ (fun fr65 g63 hF64 => ?_)
          · rcases Bool.eq_false_or_eq_true ((decide (((s.getD i 0).toNat : Int) = 10)) || (decide (((s.getD i 0).toNat : Int) = 13))) with hg66 | hg66
            · skip
              refine Ops.no rfl T.get_same hg66 rfl ?_
              refine Ops.no rfl (T.get_skip rfl T.get_same) hg66 rfl ?_
              refine Ops.no rfl (T.get_skip rfl (T.get_skip rfl T.get_same)) hg66 rfl ?_
              refine Ops.no rfl (T.get_skip rfl (T.get_skip rfl (T.get_skip rfl T.get_same))) hg66 rfl ?_
              refine Ops.val (Val.pickT (T.get_skip rfl (T.get_skip rfl (T.get_skip rfl (T.get_skip rfl T.get_same)))) hg66 rfl) rfl ?_
              exact Ops.nil ⟨T.get_same.trans (cutOT hg66), fun t ht => (T.get_skip (el ht rfl) (T.get_skip (el ht rfl) (T.get_skip (el ht rfl) (T.get_skip (el ht rfl) (T.get_skip (el ht rfl) rfl))))), rfl⟩
            · skip
              have p68 := of_decide_eq_false (orL hg66)
              have p69 := of_decide_eq_false (orR hg66)
              refine Ops.yes rfl T.get_same hg66 ?_
              refine Ops.val (Val.move (T.get_skip rfl ((hF59 0 rfl).trans (T.get_skip rfl (T.get_skip rfl (T.get_skip rfl (T.get_skip rfl (T.get_skip rfl (T.get_skip rfl (T.get_skip rfl (T.get_skip rfl (T.get_skip rfl (T.get_skip rfl (T.get_skip rfl (T.get_skip rfl ((hF23 0 rfl).trans (T.get_skip rfl ((hF18 0 rfl).trans (T.get_skip rfl (T.get_skip rfl (T.get_skip rfl (T.get_skip rfl (T.get_skip rfl (T.get_skip rfl (T.get_skip rfl (T.get_skip rfl (T.get_skip rfl ((hW14 0 rfl).trans g6)))))))))))))))))))))))))))) rfl ?_
              refine Ops.yes rfl (T.get_skip rfl T.get_same) hg66 ?_
              refine Ops.val (Val.move (T.get_skip rfl (T.get_skip rfl ((hF59 5 rfl).trans (T.get_skip rfl (T.get_skip rfl (T.get_skip rfl (T.get_skip rfl (T.get_skip rfl (T.get_skip rfl (T.get_skip rfl (T.get_skip rfl (T.get_skip rfl (T.get_skip rfl (T.get_skip rfl (T.get_skip rfl ((hF23 5 rfl).trans (T.get_skip rfl ((hF18 5 rfl).trans (T.get_skip rfl (T.get_skip rfl (T.get_skip rfl (T.get_skip rfl (T.get_skip rfl (T.get_skip rfl (T.get_skip rfl (T.get_skip rfl (T.get_skip rfl g11)))))))))))))))))))))))))))) rfl ?_
              refine Ops.yes rfl (T.get_skip rfl (T.get_skip rfl T.get_same)) hg66 ?_
              refine Ops.val (Val.sidx (i := i) Try.underlying9 (T.get_skip rfl T.get_same) T.get_same (by omega)) rfl ?_
              refine Ops.yes rfl (T.get_skip rfl (T.get_skip rfl (T.get_skip rfl T.get_same))) hg66 ?_
              refine Ops.val (Val.ieql T.get_same rfl) rfl ?_
              refine Ops.val (Val.pickF (T.get_skip rfl (T.get_skip rfl (T.get_skip rfl (T.get_skip rfl T.get_same)))) hg66 T.get_same) rfl ?_
              exact Ops.nil ⟨T.get_same.trans (cutOF hg66), fun t ht => (T.get_skip (el ht rfl) (T.get_skip (el ht rfl) (T.get_skip (el ht rfl) (T.get_skip (el ht rfl) (T.get_skip (el ht rfl) rfl))))), rfl⟩
          refine Ops.nil ?_
          refine Wp.cond g63 (fun hc70 => ?_) (fun hc70 => ?_)
          · skip
            have p71 : (((((s.getD i 0).toNat : Int) = 10) ∨ (((s.getD i 0).toNat : Int) = 13)) ∨ (((s.getD i 0).toNat : Int) = 12)) := orT (iffO iffD iffD) iffD hc70
            refine Wp.region rfl ?_
            refine Ops.val (Val.move ((hF64 4 rfl).trans (T.get_skip rfl ((hF59 4 rfl).trans (T.get_skip rfl (T.get_skip rfl (T.get_skip rfl (T.get_skip rfl (T.get_skip rfl (T.get_skip rfl (T.get_skip rfl (T.get_skip rfl (T.get_skip rfl (T.get_skip rfl (T.get_skip rfl (T.get_skip rfl ((hF23 4 rfl).trans (T.get_skip rfl ((hF18 4 rfl).trans (T.get_skip rfl (T.get_skip rfl (T.get_skip rfl (T.get_skip rfl (T.get_skip rfl (T.get_skip rfl (T.get_skip rfl (T.get_skip rfl (T.get_skip rfl g13)))))))))))))))))))))))))))) rfl ?_
            refine Ops.val (Val.iadd T.get_same rfl (c := (((ends (rcl s i) : Int) + 1) + 1)) (wrap64 (by omega) (by omega))) rfl ?_
            refine Ops.val (Val.assign T.get_same) rfl ?_
            refine Ops.nil ?_
            refine Wp.region rfl ?_
            refine Ops.val (Val.move (T.get_skip rfl (T.get_skip rfl (T.get_skip rfl ((hF64 5 rfl).trans (T.get_skip rfl ((hF59 5 rfl).trans (T.get_skip rfl (T.get_skip rfl (T.get_skip rfl (T.get_skip rfl (T.get_skip rfl (T.get_skip rfl (T.get_skip rfl (T.get_skip rfl (T.get_skip rfl (T.get_skip rfl (T.get_skip rfl (T.get_skip rfl ((hF23 5 rfl).trans (T.get_skip rfl ((hF18 5 rfl).trans (T.get_skip rfl (T.get_skip rfl (T.get_skip rfl (T.get_skip rfl (T.get_skip rfl (T.get_skip rfl (T.get_skip rfl (T.get_skip rfl (T.get_skip rfl g11))))))))))))))))))))))))))))))) rfl ?_
            refine Ops.val (Val.iadd T.get_same rfl (c := ((i : Int) + 1)) (wrap64 (by omega) (by omega))) rfl ?_
            refine Ops.val (Val.assign T.get_same) rfl ?_
            refine Ops.nil ?_
            exact ⟨_, (by omega), i + 1, (by omega), rfl, T.get_same, ((T.get_skip rfl (T.get_skip rfl (T.get_skip rfl (T.get_skip rfl (T.get_skip rfl (T.get_skip rfl ((hF64 3 rfl).trans (T.get_skip rfl ((hF59 3 rfl).trans (T.get_skip rfl (T.get_skip rfl (T.get_skip rfl (T.get_skip rfl (T.get_skip rfl (T.get_skip rfl (T.get_skip rfl (T.get_skip rfl (T.get_skip rfl T.get_same)))))))))))))))))).trans (congrArg (fun z => some (V.i .i64 z)) (by first | rw [rcl_skip (s := s) (i := i) ⟨⟨by assumption, by assumption⟩, by assumption⟩] | (rw [rlen_nul (s := s) (i := i) (by assumption) (by assumption)]; omega) | rw [rlen_one (s := s) (i := i) (by assumption) (by assumption)]))), ((T.get_skip rfl (T.get_skip rfl (T.get_skip rfl T.get_same))).trans (congrArg (fun z => some (V.i .i64 z)) (by first | rw [rcl_skip (s := s) (i := i) ⟨⟨by assumption, by assumption⟩, by assumption⟩] | rw [rends_yes (s := s) (i := i) (by assumption) (by omega)] | rw [rends_no (s := s) (i := i) (by assumption) (by omega)]))), fun t ht => (T.get_skip (el ht rfl) (T.get_skip (el ht rfl) (T.get_skip (el ht rfl) (T.get_skip (el ht rfl) (T.get_skip (el ht rfl) (T.get_skip (el ht rfl) ((hF64 t (elW ht rfl)).trans (T.get_skip (el ht rfl) ((hF59 t (elW ht rfl)).trans (T.get_skip (el ht rfl) (T.get_skip (el ht rfl) (T.get_skip (el ht rfl) (T.get_skip (el ht rfl) (T.get_skip (el ht rfl) (T.get_skip (el ht rfl) (T.get_skip (el ht rfl) (T.get_skip (el ht rfl) (T.get_skip (el ht rfl) (T.get_skip (el ht rfl) (T.get_skip (el ht rfl) (T.get_skip (el ht rfl) ((hF23 t (elW ht rfl)).trans (T.get_skip (el ht rfl) ((hF18 t (elW ht rfl)).trans (T.get_skip (el ht rfl) (T.get_skip (el ht rfl) (T.get_skip (el ht rfl) (T.get_skip (el ht rfl) (T.get_skip (el ht rfl) (T.get_skip (el ht rfl) (T.get_skip (el ht rfl) (T.get_skip (el ht rfl) (T.get_skip (el ht rfl) (hW14 t ht)))))))))))))))))))))))))))))))))), rfl⟩
          · skip
            have p74 := of_decide_eq_false (orL (orL hc70))
            have p75 := of_decide_eq_false (orR (orL hc70))
            have p76 := of_decide_eq_false (orR hc70)
            refine Wp.skip ?_
            refine Wp.region rfl ?_
            refine Ops.val (Val.move ((hF64 5 rfl).trans (T.get_skip rfl ((hF59 5 rfl).trans (T.get_skip rfl (T.get_skip rfl (T.get_skip rfl (T.get_skip rfl (T.get_skip rfl (T.get_skip rfl (T.get_skip rfl (T.get_skip rfl (T.get_skip rfl (T.get_skip rfl (T.get_skip rfl (T.get_skip rfl ((hF23 5 rfl).trans (T.get_skip rfl ((hF18 5 rfl).trans (T.get_skip rfl (T.get_skip rfl (T.get_skip rfl (T.get_skip rfl (T.get_skip rfl (T.get_skip rfl (T.get_skip rfl (T.get_skip rfl (T.get_skip rfl g11)))))))))))))))))))))))))))) rfl ?_
            refine Ops.val (Val.iadd T.get_same rfl (c := ((i : Int) + 1)) (wrap64 (by omega) (by omega))) rfl ?_
            refine Ops.val (Val.assign T.get_same) rfl ?_
            refine Ops.nil ?_
            exact ⟨_, (by omega), i + 1, (by omega), rfl, T.get_same, ((T.get_skip rfl (T.get_skip rfl (T.get_skip rfl ((hF64 3 rfl).trans (T.get_skip rfl ((hF59 3 rfl).trans (T.get_skip rfl (T.get_skip rfl (T.get_skip rfl (T.get_skip rfl (T.get_skip rfl (T.get_skip rfl (T.get_skip rfl (T.get_skip rfl (T.get_skip rfl T.get_same))))))))))))))).trans (congrArg (fun z => some (V.i .i64 z)) (by first | rw [rcl_skip (s := s) (i := i) ⟨⟨by assumption, by assumption⟩, by assumption⟩] | (rw [rlen_nul (s := s) (i := i) (by assumption) (by assumption)]; omega) | rw [rlen_one (s := s) (i := i) (by assumption) (by assumption)]))), ((T.get_skip rfl (T.get_skip rfl (T.get_skip rfl ((hF64 4 rfl).trans (T.get_skip rfl ((hF59 4 rfl).trans (T.get_skip rfl (T.get_skip rfl (T.get_skip rfl (T.get_skip rfl (T.get_skip rfl (T.get_skip rfl (T.get_skip rfl (T.get_skip rfl (T.get_skip rfl (T.get_skip rfl (T.get_skip rfl (T.get_skip rfl ((hF23 4 rfl).trans (T.get_skip rfl ((hF18 4 rfl).trans (T.get_skip rfl (T.get_skip rfl (T.get_skip rfl (T.get_skip rfl (T.get_skip rfl (T.get_skip rfl (T.get_skip rfl (T.get_skip rfl (T.get_skip rfl g13)))))))))))))))))))))))))))))).trans (congrArg (fun z => some (V.i .i64 z)) (by first | rw [rcl_skip (s := s) (i := i) ⟨⟨by assumption, by assumption⟩, by assumption⟩] | rw [rends_yes (s := s) (i := i) (by assumption) (by omega)] | rw [rends_no (s := s) (i := i) (by assumption) (by omega)]))), fun t ht => (T.get_skip (el ht rfl) (T.get_skip (el ht rfl) (T.get_skip (el ht rfl) ((hF64 t (elW ht rfl)).trans (T.get_skip (el ht rfl) ((hF59 t (elW ht rfl)).trans (T.get_skip (el ht rfl) (T.get_skip (el ht rfl) (T.get_skip (el ht rfl) (T.get_skip (el ht rfl) (T.get_skip (el ht rfl) (T.get_skip (el ht rfl) (T.get_skip (el ht rfl) (T.get_skip (el ht rfl) (T.get_skip (el ht rfl) (T.get_skip (el ht rfl) (T.get_skip (el ht rfl) (T.get_skip (el ht rfl) ((hF23 t (elW ht rfl)).trans (T.get_skip (el ht rfl) ((hF18 t (elW ht rfl)).trans (T.get_skip (el ht rfl) (T.get_skip (el ht rfl) (T.get_skip (el ht rfl) (T.get_skip (el ht rfl) (T.get_skip (el ht rfl) (T.get_skip (el ht rfl) (T.get_skip (el ht rfl) (T.get_skip (el ht rfl) (T.get_skip (el ht rfl) (hW14 t ht))))))))))))))))))))))))))))))), rfl⟩
    · skip
      have p77 := of_decide_eq_false hc15
      refine Wp.exit ?_
      refine Wp.seq ?_
      refine Wp.region rfl ?_
      refine Ops.val (Val.move (T.get_skip rfl (T.get_skip rfl (T.get_skip rfl (T.get_skip rfl ((hW14 0 rfl).trans g6)))))) rfl ?_
      refine Ops.call (opndsC T.get_same opnds0) rfl (clean_ev _ (by first | omega | (simp; omega)) _ (by first | omega | (simp; omega))) ?_
      rintro _ st78 ⟨rfl, hs79⟩
      have hS := hS.then hs79 (Nat.le_refl _)
      refine Ops.val (Val.move T.get_same) rfl ?_
      refine Ops.val (Val.extract T.get_same rfl) rfl ?_
      refine Ops.val (Val.extract (T.get_skip rfl T.get_same) rfl) rfl ?_
      refine Ops.val (Val.assign (T.get_skip rfl T.get_same)) rfl ?_
      refine Ops.val (Val.assign (T.get_skip rfl T.get_same)) rfl ?_
      refine Ops.nil ?_
      refine Wp.seq ?_
      refine Wp.region rfl ?_
      refine Ops.val (Val.move (T.get_skip rfl T.get_same)) rfl ?_
      refine Ops.call (opndsC T.get_same opnds0) rfl (lines_ev _ (by omega) _ (by omega)) ?_
      rintro _ _ ⟨rfl, hq⟩
      obtain rfl := Eq.symm hq
      refine Ops.val (Val.move T.get_same) rfl ?_
      refine Ops.val (Val.extract T.get_same rfl) rfl ?_
      refine Ops.val (Val.extract (T.get_skip rfl T.get_same) rfl) rfl ?_
      refine Ops.val (Val.assign (T.get_skip rfl T.get_same)) rfl ?_
      refine Ops.val (Val.assign (T.get_skip rfl T.get_same)) rfl ?_
      refine Ops.nil ?_
      refine Wp.seq ?_
      refine Wp.region rfl ?_
      refine Ops.val (Val.move (T.get_skip rfl (T.get_skip rfl (T.get_skip rfl (T.get_skip rfl (T.get_skip rfl (T.get_skip rfl (T.get_skip rfl T.get_same)))))))) rfl ?_
      refine Ops.val (Val.ieql T.get_same rfl) rfl ?_
      refine Ops.val (Val.move T.get_same) rfl ?_
      refine Ops.cutN 3 [74, 75, 76] 76 (.b ((decide ((0 : Int) = 0)) && (decide (pErr (cleaned s) ((cleaned s).length : Int) = 0)))) ?_ (fun fr82 g80 hF81 => ?_)
      · rcases Bool.eq_false_or_eq_true (decide ((0 : Int) = 0)) with hg83 | hg83
        · skip
          have p84 := of_decide_eq_true hg83
          refine Ops.yes rfl T.get_same hg83 ?_
          refine Ops.val (Val.move (T.get_skip rfl (T.get_skip rfl (T.get_skip rfl T.get_same)))) rfl ?_
          refine Ops.yes rfl (T.get_skip rfl T.get_same) hg83 ?_
          refine Ops.val (Val.ieql T.get_same rfl) rfl ?_
          refine Ops.val (Val.pickT (T.get_skip rfl (T.get_skip rfl T.get_same)) hg83 T.get_same) rfl ?_
          exact Ops.nil ⟨T.get_same.trans (cutAT hg83), fun t ht => (T.get_skip (el ht rfl) (T.get_skip (el ht rfl) (T.get_skip (el ht rfl) rfl))), rfl⟩
        · skip
          refine Ops.no rfl T.get_same hg83 rfl ?_
          refine Ops.no rfl (T.get_skip rfl T.get_same) hg83 rfl ?_
          refine Ops.val (Val.pickF (T.get_skip rfl (T.get_skip rfl T.get_same)) hg83 rfl) rfl ?_
          exact Ops.nil ⟨T.get_same.trans (cutAF hg83), fun t ht => (T.get_skip (el ht rfl) (T.get_skip (el ht rfl) (T.get_skip (el ht rfl) rfl))), rfl⟩
      refine Ops.val (Val.move g80) rfl ?_
      refine Ops.cutN 5 [78, 79, 80, 81, 82] 82 (.b (((decide ((0 : Int) = 0)) && (decide (pErr (cleaned s) ((cleaned s).length : Int) = 0))) && (decide (((cleaned s).length : Int) = ((rcl s i).length : Int))))) ?_ (fun fr87 g85 hF86 => ?_)
      · rcases Bool.eq_false_or_eq_true ((decide ((0 : Int) = 0)) && (decide (pErr (cleaned s) ((cleaned s).length : Int) = 0))) with hg88 | hg88
        · skip
          have p90 := of_decide_eq_true (andL hg88)
          have p91 := of_decide_eq_true (andR hg88)
          refine Ops.yes rfl T.get_same hg88 ?_
          refine Ops.val (Val.move (T.get_skip rfl ((hF81 6 rfl).trans (T.get_skip rfl (T.get_skip rfl (T.get_skip rfl (T.get_skip rfl (T.get_skip rfl (T.get_skip rfl (T.get_skip rfl (T.get_skip rfl (T.get_skip rfl (T.get_skip rfl (T.get_skip rfl T.get_same)))))))))))))) rfl ?_
          refine Ops.yes rfl (T.get_skip rfl T.get_same) hg88 ?_
          refine Ops.val (Val.slen Try.underlying9 T.get_same) rfl ?_
          refine Ops.yes rfl (T.get_skip rfl (T.get_skip rfl T.get_same)) hg88 ?_
          refine Ops.val (Val.move (T.get_skip rfl (T.get_skip rfl (T.get_skip rfl ((hF81 3 rfl).trans (T.get_skip rfl (T.get_skip rfl (T.get_skip rfl (T.get_skip rfl (T.get_skip rfl (T.get_skip rfl (T.get_skip rfl (T.get_skip rfl (T.get_skip rfl (T.get_skip rfl (T.get_skip rfl (T.get_skip rfl (T.get_skip rfl (T.get_skip rfl (T.get_skip rfl (T.get_skip rfl (T.get_skip rfl (T.get_skip rfl (T.get_skip rfl (T.get_skip rfl (T.get_skip rfl g12)))))))))))))))))))))))))) rfl ?_
          refine Ops.yes rfl (T.get_skip rfl (T.get_skip rfl (T.get_skip rfl T.get_same))) hg88 ?_
          refine Ops.val (Val.ieql (T.get_skip rfl T.get_same) T.get_same) rfl ?_
          refine Ops.val (Val.pickT (T.get_skip rfl (T.get_skip rfl (T.get_skip rfl (T.get_skip rfl T.get_same)))) hg88 T.get_same) rfl ?_
          exact Ops.nil ⟨T.get_same.trans (cutAT hg88), fun t ht => (T.get_skip (el ht rfl) (T.get_skip (el ht rfl) (T.get_skip (el ht rfl) (T.get_skip (el ht rfl) (T.get_skip (el ht rfl) rfl))))), rfl⟩
        · skip
          refine Ops.no rfl T.get_same hg88 rfl ?_
          refine Ops.no rfl (T.get_skip rfl T.get_same) hg88 rfl ?_
          refine Ops.no rfl (T.get_skip rfl (T.get_skip rfl T.get_same)) hg88 rfl ?_
          refine Ops.no rfl (T.get_skip rfl (T.get_skip rfl (T.get_skip rfl T.get_same))) hg88 rfl ?_
          refine Ops.val (Val.pickF (T.get_skip rfl (T.get_skip rfl (T.get_skip rfl (T.get_skip rfl T.get_same)))) hg88 rfl) rfl ?_
          exact Ops.nil ⟨T.get_same.trans (cutAF hg88), fun t ht => (T.get_skip (el ht rfl) (T.get_skip (el ht rfl) (T.get_skip (el ht rfl) (T.get_skip (el ht rfl) (T.get_skip (el ht rfl) rfl))))), rfl⟩
      refine Ops.val (Val.move g85) rfl ?_
      refine Ops.cutN 4 [84, 85, 86, 87] 87 (.b ((((decide ((0 : Int) = 0)) && (decide (pErr (cleaned s) ((cleaned s).length : Int) = 0))) && (decide (((cleaned s).length : Int) = ((rcl s i).length : Int)))) && (decide (pRow (cleaned s) ((cleaned s).length : Int) = ((ends (rcl s i) : Int) + 1))))) ?_ (fun fr94 g92 hF93 => ?_)
      · rcases Bool.eq_false_or_eq_true (((decide ((0 : Int) = 0)) && (decide (pErr (cleaned s) ((cleaned s).length : Int) = 0))) && (decide (((cleaned s).length : Int) = ((rcl s i).length : Int)))) with hg95 | hg95
        · skip
          have p98 := of_decide_eq_true (andL (andL hg95))
          have p99 := of_decide_eq_true (andR (andL hg95))
          have p100 := of_decide_eq_true (andR hg95)
          refine Ops.yes rfl T.get_same hg95 ?_
          refine Ops.val (Val.move (T.get_skip rfl ((hF86 8 rfl).trans (T.get_skip rfl ((hF81 8 rfl).trans (T.get_skip rfl (T.get_skip rfl (T.get_skip rfl (T.get_skip rfl T.get_same))))))))) rfl ?_
          refine Ops.yes rfl (T.get_skip rfl T.get_same) hg95 ?_
          refine Ops.val (Val.move (T.get_skip rfl (T.get_skip rfl ((hF86 4 rfl).trans (T.get_skip rfl ((hF81 4 rfl).trans (T.get_skip rfl (T.get_skip rfl (T.get_skip rfl (T.get_skip rfl (T.get_skip rfl (T.get_skip rfl (T.get_skip rfl (T.get_skip rfl (T.get_skip rfl (T.get_skip rfl (T.get_skip rfl (T.get_skip rfl (T.get_skip rfl (T.get_skip rfl (T.get_skip rfl (T.get_skip rfl (T.get_skip rfl (T.get_skip rfl (T.get_skip rfl (T.get_skip rfl (T.get_skip rfl g13))))))))))))))))))))))))))) rfl ?_
          refine Ops.yes rfl (T.get_skip rfl (T.get_skip rfl T.get_same)) hg95 ?_
          refine Ops.val (Val.ieql (T.get_skip rfl T.get_same) T.get_same) rfl ?_
          refine Ops.val (Val.pickT (T.get_skip rfl (T.get_skip rfl (T.get_skip rfl T.get_same))) hg95 T.get_same) rfl ?_
          exact Ops.nil ⟨T.get_same.trans (cutAT hg95), fun t ht => (T.get_skip (el ht rfl) (T.get_skip (el ht rfl) (T.get_skip (el ht rfl) (T.get_skip (el ht rfl) rfl)))), rfl⟩
        · skip
          refine Ops.no rfl T.get_same hg95 rfl ?_
          refine Ops.no rfl (T.get_skip rfl T.get_same) hg95 rfl ?_
          refine Ops.no rfl (T.get_skip rfl (T.get_skip rfl T.get_same)) hg95 rfl ?_
          refine Ops.val (Val.pickF (T.get_skip rfl (T.get_skip rfl (T.get_skip rfl T.get_same))) hg95 rfl) rfl ?_
          exact Ops.nil ⟨T.get_same.trans (cutAF hg95), fun t ht => (T.get_skip (el ht rfl) (T.get_skip (el ht rfl) (T.get_skip (el ht rfl) (T.get_skip (el ht rfl) rfl)))), rfl⟩
      refine Ops.val (Val.move g92) rfl ?_
      refine Ops.cutN 2 [89, 90] 90 (.b (((((decide ((0 : Int) = 0)) && (decide (pErr (cleaned s) ((cleaned s).length : Int) = 0))) && (decide (((cleaned s).length : Int) = ((rcl s i).length : Int)))) && (decide (pRow (cleaned s) ((cleaned s).length : Int) = ((ends (rcl s i) : Int) + 1)))) && (true))) ?_ (fun fr103 g101 hF102 => ?_)
      · rcases Bool.eq_false_or_eq_true ((((decide ((0 : Int) = 0)) && (decide (pErr (cleaned s) ((cleaned s).length : Int) = 0))) && (decide (((cleaned s).length : Int) = ((rcl s i).length : Int)))) && (decide (pRow (cleaned s) ((cleaned s).length : Int) = ((ends (rcl s i) : Int) + 1)))) with hg104 | hg104
        · skip
          have p108 := of_decide_eq_true (andL (andL (andL hg104)))
          have p109 := of_decide_eq_true (andR (andL (andL hg104)))
          have p110 := of_decide_eq_true (andR (andL hg104))
          have p111 := of_decide_eq_true (andR hg104)
          refine Ops.yes rfl T.get_same hg104 ?_
          refine Ops.call opnds0 rfl (Ev.known rfl) ?_
          rintro _ _ ⟨rfl, hq⟩
          obtain rfl := Eq.symm hq
          refine Ops.val (Val.pickT (T.get_skip rfl T.get_same) hg104 T.get_same) rfl ?_
          exact Ops.nil ⟨T.get_same.trans (cutAT hg104), fun t ht => (T.get_skip (el ht rfl) (T.get_skip (el ht rfl) rfl)), rfl⟩
        · skip
          refine Ops.no rfl T.get_same hg104 rfl ?_
          refine Ops.val (Val.pickF (T.get_skip rfl T.get_same) hg104 rfl) rfl ?_
          exact Ops.nil ⟨T.get_same.trans (cutAF hg104), fun t ht => (T.get_skip (el ht rfl) (T.get_skip (el ht rfl) rfl)), rfl⟩
      refine Ops.val (Val.assign g101) rfl ?_
      refine Ops.nil ?_
      refine Wp.ret ?_
      show Vm.Fin Try.prog Try.f8 (fun v _ => v = .b true) .ret _ _
      refine Fin.one (.inr rfl) rfl T.get_same ?_
      have hik : i = s.length := by omega
      subst hik
      exact congrArg V.b (bytes_end (by omega))

end Go.Proofs.Ytonihkpcblfafaa
