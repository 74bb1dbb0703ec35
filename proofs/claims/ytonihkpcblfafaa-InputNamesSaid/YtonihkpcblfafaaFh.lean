/-
  Rows and columns, and the law of places, followed in the evaluator. Nothing is claimed here.
-/
import Derived.Test.YtonihkpcblfafaaFa
import Derived.Test.YtonihkpcblfafaaMc
namespace Go.Proofs.Ytonihkpcblfafaa
open Go.Vm Go.Lay1
variable {ro n : Nat}

theorem place_ev (s : List UInt8) (k : Int) (hs : s.length ≤ 1099511627776) (st : St) (hn : s.length + 200 ≤ n) : Ev Try.prog ov1 ro n 14 [(V.str (s)), (.i .i64 (k))] st (fun v st' => v = (.t [(.i .i64 (pRow s k)), (.i .i64 (pCol s k)), (.i .i64 (pErr s k))]) ∧ st' = st) := by
  obtain ⟨m, rfl⟩ : ∃ m, n = m + 60 := ⟨n - 60, by omega⟩
  refine Ev.enter rfl Try.func14 rfl rfl rfl (frame2 _ _) ?_
  refine Wp.seq ?_
  refine Wp.region rfl ?_
  refine Ops.val (Val.assign rfl) rfl ?_
  refine Ops.val (Val.assign rfl) rfl ?_
  refine Ops.val (Val.assign rfl) rfl ?_
  refine Ops.nil ?_
  refine Wp.seq ?_
  refine Wp.seq ?_
  refine Wp.region rfl ?_
  refine Ops.val (Val.move (T.get_skip rfl (T.get_skip rfl (T.get_skip rfl (T.get_skip rfl T.get_same))))) rfl ?_
  refine Ops.call (opndsC T.get_same opnds0) rfl (check_ev _ (by first | assumption | omega) _ (by omega)) ?_
  rintro _ _ ⟨rfl, hq⟩
  obtain rfl := Eq.symm hq
  refine Ops.val (Val.assign T.get_same) rfl ?_
  refine Ops.nil ?_
  refine Wp.seq ?_
  refine Wp.region rfl ?_
  refine Ops.val (Val.move T.get_same) rfl ?_
  refine Ops.val (Val.ineq T.get_same rfl) rfl ?_
  refine Ops.nil ?_
  refine Wp.cond T.get_same (fun hc1 => ?_) (fun hc1 => ?_)
  · skip
    have p2 := of_decide_eq_true hc1
    refine Wp.seq ?_
    refine Wp.region rfl ?_
    refine Ops.val (Val.move (T.get_skip rfl (T.get_skip rfl T.get_same))) rfl ?_
    refine Ops.val (Val.assign rfl) rfl ?_
    refine Ops.val (Val.assign rfl) rfl ?_
    refine Ops.val (Val.assign (T.get_skip rfl (T.get_skip rfl T.get_same))) rfl ?_
    refine Ops.nil ?_
    refine Wp.ret ?_
    show Vm.Fin Try.prog Try.f14 (fun v st' => v = (.t [(.i .i64 (pRow s k)), (.i .i64 (pCol s k)), (.i .i64 (pErr s k))]) ∧ st' = st) .ret _ _
    refine Fin.three (.inr rfl) rfl (T.get_skip rfl (T.get_skip rfl T.get_same)) (T.get_skip rfl T.get_same) T.get_same ?_
    exact ⟨by rw [(place_bad (s := s) (k := k) (by omega)).1, (place_bad (s := s) (k := k) (by omega)).2.1, (place_bad (s := s) (k := k) (by omega)).2.2], rfl⟩
  · skip
    have p3 := of_decide_eq_false hc1
    refine Wp.skip ?_
    refine Wp.seq ?_
    refine Wp.seq ?_
    refine Wp.region rfl ?_
    refine Ops.val (Val.move (T.get_skip rfl (T.get_skip rfl (T.get_skip rfl (T.get_skip rfl (T.get_skip rfl (T.get_skip rfl (T.get_skip rfl (T.get_skip rfl T.get_same))))))))) rfl ?_
    refine Ops.val (Val.lss T.get_same rfl) rfl ?_
    refine Ops.val (Val.move T.get_same) rfl ?_
    refine Ops.cutN 5 [17, 18, 19, 20, 21] 21 (.b ((decide (k < 0)) || (decide ((s.length : Int) < k)))) ?_ (fun fr6 g4 hF5 => ?_)
    · rcases Bool.eq_false_or_eq_true (decide (k < 0)) with hg7 | hg7
      · skip
        refine Ops.no rfl T.get_same hg7 rfl ?_
        refine Ops.no rfl (T.get_skip rfl T.get_same) hg7 rfl ?_
        refine Ops.no rfl (T.get_skip rfl (T.get_skip rfl T.get_same)) hg7 rfl ?_
        refine Ops.no rfl (T.get_skip rfl (T.get_skip rfl (T.get_skip rfl T.get_same))) hg7 rfl ?_
        refine Ops.val (Val.pickT (T.get_skip rfl (T.get_skip rfl (T.get_skip rfl (T.get_skip rfl T.get_same)))) hg7 rfl) rfl ?_
        exact Ops.nil ⟨T.get_same.trans (cutOT hg7), fun t ht => (T.get_skip (el ht rfl) (T.get_skip (el ht rfl) (T.get_skip (el ht rfl) (T.get_skip (el ht rfl) (T.get_skip (el ht rfl) rfl))))), rfl⟩
      · skip
        have p8 := of_decide_eq_false hg7
        refine Ops.yes rfl T.get_same hg7 ?_
        refine Ops.val (Val.move (T.get_skip rfl (T.get_skip rfl (T.get_skip rfl (T.get_skip rfl (T.get_skip rfl (T.get_skip rfl (T.get_skip rfl (T.get_skip rfl (T.get_skip rfl (T.get_skip rfl (T.get_skip rfl T.get_same)))))))))))) rfl ?_
        refine Ops.yes rfl (T.get_skip rfl T.get_same) hg7 ?_
        refine Ops.val (Val.move (T.get_skip rfl (T.get_skip rfl (T.get_skip rfl (T.get_skip rfl (T.get_skip rfl (T.get_skip rfl (T.get_skip rfl (T.get_skip rfl (T.get_skip rfl (T.get_skip rfl (T.get_skip rfl (T.get_skip rfl (T.get_skip rfl T.get_same)))))))))))))) rfl ?_
        refine Ops.yes rfl (T.get_skip rfl (T.get_skip rfl T.get_same)) hg7 ?_
        refine Ops.val (Val.slen Try.underlying9 T.get_same) rfl ?_
        refine Ops.yes rfl (T.get_skip rfl (T.get_skip rfl (T.get_skip rfl T.get_same))) hg7 ?_
        refine Ops.val (Val.gtr (T.get_skip rfl (T.get_skip rfl T.get_same)) T.get_same) rfl ?_
        refine Ops.val (Val.pickF (T.get_skip rfl (T.get_skip rfl (T.get_skip rfl (T.get_skip rfl T.get_same)))) hg7 T.get_same) rfl ?_
        exact Ops.nil ⟨T.get_same.trans (cutOF hg7), fun t ht => (T.get_skip (el ht rfl) (T.get_skip (el ht rfl) (T.get_skip (el ht rfl) (T.get_skip (el ht rfl) (T.get_skip (el ht rfl) rfl))))), rfl⟩
    refine Ops.nil ?_
    refine Wp.cond g4 (fun hc9 => ?_) (fun hc9 => ?_)
    · skip
      have p10 : ((k < 0) ∨ ((s.length : Int) < k)) := orT iffD iffD hc9
      refine Wp.seq ?_
      refine Wp.region rfl ?_
      refine Ops.val (Val.assign rfl) rfl ?_
      refine Ops.val (Val.assign rfl) rfl ?_
      refine Ops.val (Val.assign rfl) rfl ?_
      refine Ops.nil ?_
      refine Wp.ret ?_
      show Vm.Fin Try.prog Try.f14 (fun v st' => v = (.t [(.i .i64 (pRow s k)), (.i .i64 (pCol s k)), (.i .i64 (pErr s k))]) ∧ st' = st) .ret _ _
      refine Fin.three (.inr rfl) rfl (T.get_skip rfl (T.get_skip rfl T.get_same)) (T.get_skip rfl T.get_same) T.get_same ?_
      exact ⟨by rw [(place_out (s := s) (k := k) (by omega) (by omega)).1, (place_out (s := s) (k := k) (by omega) (by omega)).2.1, (place_out (s := s) (k := k) (by omega) (by omega)).2.2], rfl⟩
    · skip
      have p12 := of_decide_eq_false (orL hc9)
      have p13 := of_decide_eq_false (orR hc9)
      refine Wp.skip ?_
      refine Wp.seq ?_
      refine Wp.region rfl ?_
      refine Ops.val (Val.assign rfl) rfl ?_
      refine Ops.val (Val.assign rfl) rfl ?_
      refine Ops.nil ?_
      refine Wp.seq ?_
      refine Wp.seq ?_
      refine Wp.region rfl ?_
      refine Ops.val (Val.move (T.get_skip rfl (T.get_skip rfl ((hF5 1 rfl).trans (T.get_skip rfl (T.get_skip rfl (T.get_skip rfl (T.get_skip rfl (T.get_skip rfl (T.get_skip rfl (T.get_skip rfl (T.get_skip rfl (T.get_skip rfl (T.get_skip rfl (T.get_skip rfl T.get_same))))))))))))))) rfl ?_
      refine Ops.val (Val.move rfl) rfl ?_
      refine Ops.nil ?_
      refine Wp.block ?_
      refine Wp.rebase (fun fr14 hF15 => ?_)
      have g16 := (hF15 0).trans (T.get_skip rfl (T.get_skip rfl (T.get_skip rfl (T.get_skip rfl ((hF5 0 rfl).trans (T.get_skip rfl (T.get_skip rfl (T.get_skip rfl (T.get_skip rfl (T.get_skip rfl (T.get_skip rfl (T.get_skip rfl (T.get_skip rfl (T.get_skip rfl (T.get_skip rfl (T.get_skip rfl (T.get_skip rfl T.get_same)))))))))))))))))
      have g17 := (hF15 1).trans (T.get_skip rfl (T.get_skip rfl (T.get_skip rfl (T.get_skip rfl ((hF5 1 rfl).trans (T.get_skip rfl (T.get_skip rfl (T.get_skip rfl (T.get_skip rfl (T.get_skip rfl (T.get_skip rfl (T.get_skip rfl (T.get_skip rfl (T.get_skip rfl (T.get_skip rfl (T.get_skip rfl T.get_same))))))))))))))))
      have g18 := (hF15 6).trans (T.get_skip rfl (T.get_skip rfl (T.get_skip rfl (T.get_skip rfl ((hF5 6 rfl).trans (T.get_skip rfl (T.get_skip rfl (T.get_skip rfl (T.get_skip rfl (T.get_skip rfl (T.get_skip rfl (T.get_skip rfl (T.get_skip rfl T.get_same)))))))))))))
      have g19 := (hF15 7).trans (T.get_skip rfl (T.get_skip rfl (T.get_skip rfl (T.get_skip rfl ((hF5 7 rfl).trans (T.get_skip rfl (T.get_skip rfl (T.get_skip rfl (T.get_skip rfl (T.get_skip rfl T.get_same))))))))))
      have g20 := (hF15 9).trans (T.get_skip rfl (T.get_skip rfl (T.get_skip rfl (T.get_skip rfl ((hF5 9 rfl).trans (T.get_skip rfl (T.get_skip rfl (T.get_skip rfl (T.get_skip rfl (T.get_skip rfl (T.get_skip rfl (T.get_skip rfl T.get_same))))))))))))
      have g21 := (hF15 10).trans (T.get_skip rfl (T.get_skip rfl (T.get_skip rfl (T.get_skip rfl ((hF5 10 rfl).trans (T.get_skip rfl (T.get_skip rfl (T.get_skip rfl (T.get_skip rfl (T.get_skip rfl (T.get_skip rfl T.get_same)))))))))))
      have g22 := (hF15 11).trans (T.get_skip rfl (T.get_skip rfl (T.get_skip rfl (T.get_skip rfl ((hF5 11 rfl).trans (T.get_skip rfl (T.get_skip rfl (T.get_skip rfl (T.get_skip rfl T.get_same)))))))))
      have g23 := (hF15 12).trans (T.get_skip rfl (T.get_skip rfl (T.get_skip rfl (T.get_skip rfl ((hF5 12 rfl).trans (T.get_skip rfl (T.get_skip rfl (T.get_skip rfl T.get_same))))))))
      have g24 := (hF15 14).trans (T.get_skip rfl (T.get_skip rfl (T.get_skip rfl (T.get_skip rfl ((hF5 14 rfl).trans (T.get_skip rfl (T.get_skip rfl T.get_same)))))))
      have g25 := (hF15 15).trans (T.get_skip rfl (T.get_skip rfl (T.get_skip rfl (T.get_skip rfl ((hF5 15 rfl).trans (T.get_skip rfl T.get_same))))))
      have g26 := (hF15 16).trans (T.get_skip rfl (T.get_skip rfl (T.get_skip rfl (T.get_skip rfl ((hF5 16 rfl).trans T.get_same)))))
      have g27 := (hF15 21).trans (T.get_skip rfl (T.get_skip rfl (T.get_skip rfl (T.get_skip rfl g4))))
      have g28 := (hF15 22).trans (T.get_skip rfl T.get_same)
      refine Wp.loop (I := fun mm fr sx => ∃ (i : Nat), (i ≤ k.toNat) ∧ mm = k.toNat - i ∧ fr.get 23 = some (.i .i64 ((i : Int))) ∧ fr.get 4 = some (.i .i64 (((ends (s.take i) : Int) + 1))) ∧ fr.get 5 = some (.i .i64 ((col (s.take i) : Int))) ∧ (∀ t, [4, 5, 8, 23, 24, 25, 26, 27, 28, 29, 30, 31, 32, 33, 34].elem t = false → fr.get t = fr14.get t) ∧ st = sx) k.toNat (by omega) ⟨0, (by omega), rfl, (hF15 23).trans T.get_same, (hF15 4).trans (T.get_skip rfl (T.get_skip rfl (T.get_skip rfl T.get_same))), (hF15 5).trans (T.get_skip rfl (T.get_skip rfl T.get_same)), fun t _ => rfl, rfl⟩ (fun mm fr sx hI => ?_)
      obtain ⟨i, hi, rfl, g29, g30, g31, hW32, rfl⟩ := hI
      have hle := ends_le (s.take i)
      have hlc := col_le (s.take i)
      rw [List.length_take] at hle hlc
      refine Wp.seq ?_
      refine Wp.region rfl ?_
      refine Ops.val (Val.lss g29 ((hW32 22 rfl).trans g28)) rfl ?_
      refine Ops.nil ?_
      refine Wp.seq ?_
      refine Wp.cond T.get_same (fun hc33 => ?_) (fun hc33 => ?_)
      · skip
        have p34 := of_decide_eq_true hc33
        refine Wp.skip ?_
        refine Wp.seq ?_
        refine Wp.block ?_
        refine Wp.seq ?_
        refine Wp.region rfl ?_
        refine Ops.val (Val.move (T.get_skip rfl g29)) rfl ?_
        refine Ops.val (Val.assign T.get_same) rfl ?_
        refine Ops.nil ?_
        refine Wp.seq ?_
        refine Wp.region rfl ?_
        refine Ops.val (Val.move (T.get_skip rfl (T.get_skip rfl (T.get_skip rfl ((hW32 0 rfl).trans g16))))) rfl ?_
        refine Ops.val (Val.move (T.get_skip rfl T.get_same)) rfl ?_
        refine Ops.val (Val.sidx (i := i) Try.underlying9 (T.get_skip rfl T.get_same) T.get_same (by omega)) rfl ?_
        refine Ops.val (Val.ieql T.get_same rfl) rfl ?_
        refine Ops.nil ?_
        refine Wp.cond T.get_same (fun hc35 => ?_) (fun hc35 => ?_)
        · skip
          have p36 := of_decide_eq_true hc35
          refine Wp.region rfl ?_
          refine Ops.val (Val.move (T.get_skip rfl (T.get_skip rfl (T.get_skip rfl (T.get_skip rfl (T.get_skip rfl (T.get_skip rfl (T.get_skip rfl g30)))))))) rfl ?_
          refine Ops.val (Val.iadd T.get_same rfl (c := (((ends (s.take i) : Int) + 1) + 1)) (wrap64 (by omega) (by omega))) rfl ?_
          refine Ops.val (Val.assign T.get_same) rfl ?_
          refine Ops.val (Val.assign rfl) rfl ?_
          refine Ops.nil ?_
          refine Wp.region rfl ?_
          refine Ops.val (Val.iadd (T.get_skip rfl (T.get_skip rfl (T.get_skip rfl (T.get_skip rfl (T.get_skip rfl (T.get_skip rfl (T.get_skip rfl (T.get_skip rfl (T.get_skip rfl (T.get_skip rfl (T.get_skip rfl g29))))))))))) rfl (c := ((i : Int) + 1)) (wrap64 (by omega) (by omega))) rfl ?_
          refine Ops.val (Val.move T.get_same) rfl ?_
          refine Ops.nil ?_
          exact ⟨_, (by omega), i + 1, (by omega), rfl, T.get_same, ((T.get_skip rfl (T.get_skip rfl (T.get_skip rfl T.get_same))).trans (by first | (rw [ends_yes (by omega) (by assumption)]; rfl) | rw [ends_no (by omega) (by assumption)])), ((T.get_skip rfl (T.get_skip rfl T.get_same)).trans (by first | (rw [col_yes (by omega) (by assumption)]; rfl) | (rw [col_no (by omega) (by assumption)]; rfl))), fun t ht => (T.get_skip (el ht rfl) (T.get_skip (el ht rfl) (T.get_skip (el ht rfl) (T.get_skip (el ht rfl) (T.get_skip (el ht rfl) (T.get_skip (el ht rfl) (T.get_skip (el ht rfl) (T.get_skip (el ht rfl) (T.get_skip (el ht rfl) (T.get_skip (el ht rfl) (T.get_skip (el ht rfl) (T.get_skip (el ht rfl) (T.get_skip (el ht rfl) (hW32 t ht)))))))))))))), rfl⟩
        · skip
          have p37 := of_decide_eq_false hc35
          refine Wp.region rfl ?_
          refine Ops.val (Val.move (T.get_skip rfl (T.get_skip rfl (T.get_skip rfl (T.get_skip rfl (T.get_skip rfl (T.get_skip rfl (T.get_skip rfl g31)))))))) rfl ?_
          refine Ops.val (Val.iadd T.get_same rfl (c := ((col (s.take i) : Int) + 1)) (wrap64 (by omega) (by omega))) rfl ?_
          refine Ops.val (Val.assign T.get_same) rfl ?_
          refine Ops.nil ?_
          refine Wp.region rfl ?_
          refine Ops.val (Val.iadd (T.get_skip rfl (T.get_skip rfl (T.get_skip rfl (T.get_skip rfl (T.get_skip rfl (T.get_skip rfl (T.get_skip rfl (T.get_skip rfl (T.get_skip rfl (T.get_skip rfl g29)))))))))) rfl (c := ((i : Int) + 1)) (wrap64 (by omega) (by omega))) rfl ?_
          refine Ops.val (Val.move T.get_same) rfl ?_
          refine Ops.nil ?_
          exact ⟨_, (by omega), i + 1, (by omega), rfl, T.get_same, ((T.get_skip rfl (T.get_skip rfl (T.get_skip rfl (T.get_skip rfl (T.get_skip rfl (T.get_skip rfl (T.get_skip rfl (T.get_skip rfl (T.get_skip rfl (T.get_skip rfl (T.get_skip rfl (T.get_skip rfl g30)))))))))))).trans (by first | (rw [ends_yes (by omega) (by assumption)]; rfl) | rw [ends_no (by omega) (by assumption)])), ((T.get_skip rfl (T.get_skip rfl T.get_same)).trans (by first | (rw [col_yes (by omega) (by assumption)]; rfl) | (rw [col_no (by omega) (by assumption)]; rfl))), fun t ht => (T.get_skip (el ht rfl) (T.get_skip (el ht rfl) (T.get_skip (el ht rfl) (T.get_skip (el ht rfl) (T.get_skip (el ht rfl) (T.get_skip (el ht rfl) (T.get_skip (el ht rfl) (T.get_skip (el ht rfl) (T.get_skip (el ht rfl) (T.get_skip (el ht rfl) (T.get_skip (el ht rfl) (T.get_skip (el ht rfl) (hW32 t ht))))))))))))), rfl⟩
      · skip
        have p38 := of_decide_eq_false hc33
        refine Wp.exit ?_
        refine Wp.seq ?_
        refine Wp.region rfl ?_
        refine Ops.val (Val.move (T.get_skip rfl g30)) rfl ?_
        refine Ops.val (Val.move (T.get_skip rfl (T.get_skip rfl g31))) rfl ?_
        refine Ops.val (Val.assign (T.get_skip rfl T.get_same)) rfl ?_
        refine Ops.val (Val.assign (T.get_skip rfl T.get_same)) rfl ?_
        refine Ops.val (Val.assign rfl) rfl ?_
        refine Ops.nil ?_
        refine Wp.ret ?_
        show Vm.Fin Try.prog Try.f14 (fun v st' => v = (.t [(.i .i64 (pRow s k)), (.i .i64 (pCol s k)), (.i .i64 (pErr s k))]) ∧ st' = st) .ret _ _
        refine Fin.three (.inr rfl) rfl (T.get_skip rfl (T.get_skip rfl T.get_same)) (T.get_skip rfl T.get_same) T.get_same ?_
        have hik : i = k.toNat := by omega
        subst hik
        exact ⟨by rw [(place_in (s := s) (k := k) (by omega) (by omega)).1, (place_in (s := s) (k := k) (by omega) (by omega)).2.1, (place_in (s := s) (k := k) (by omega) (by omega)).2.2], rfl⟩

theorem lines_ev (s : List UInt8) (hs : s.length ≤ 1099511627776) (st : St) (hn : s.length + 400 ≤ n) : Ev Try.prog ov1 ro n 13 [(V.str (s))] st (fun v st' => v = (.t [(.i .i64 (pRow s (s.length : Int))), (.i .i64 (pErr s (s.length : Int)))]) ∧ st' = st) := by
  obtain ⟨m, rfl⟩ : ∃ m, n = m + 60 := ⟨n - 60, by omega⟩
  refine Ev.enter rfl Try.func13 rfl rfl rfl (frame1 _) ?_
  refine Wp.seq ?_
  refine Wp.region rfl ?_
  refine Ops.val (Val.assign rfl) rfl ?_
  refine Ops.val (Val.assign rfl) rfl ?_
  refine Ops.nil ?_
  refine Wp.seq ?_
  refine Wp.region rfl ?_
  refine Ops.val (Val.move (T.get_skip rfl (T.get_skip rfl T.get_same))) rfl ?_
  refine Ops.val (Val.move (T.get_skip rfl (T.get_skip rfl (T.get_skip rfl T.get_same)))) rfl ?_
  refine Ops.val (Val.slen Try.underlying9 T.get_same) rfl ?_
  refine Ops.call (opndsC (T.get_skip rfl (T.get_skip rfl T.get_same)) (opndsC T.get_same opnds0)) rfl (place_ev _ _ (by omega) _ (by omega)) ?_
  rintro _ _ ⟨rfl, hq⟩
  obtain rfl := Eq.symm hq
  refine Ops.val (Val.move T.get_same) rfl ?_
  refine Ops.val (Val.extract T.get_same rfl) rfl ?_
  refine Ops.val (Val.extract (T.get_skip rfl T.get_same) rfl) rfl ?_
  refine Ops.val (Val.extract (T.get_skip rfl (T.get_skip rfl T.get_same)) rfl) rfl ?_
  refine Ops.val (Val.assign (T.get_skip rfl (T.get_skip rfl T.get_same))) rfl ?_
  refine Ops.val (Val.assign (T.get_skip rfl (T.get_skip rfl T.get_same))) rfl ?_
  refine Ops.val (Val.assign (T.get_skip rfl (T.get_skip rfl T.get_same))) rfl ?_
  refine Ops.nil ?_
  refine Wp.seq ?_
  refine Wp.region rfl ?_
  refine Ops.val (Val.move (T.get_skip rfl (T.get_skip rfl T.get_same))) rfl ?_
  refine Ops.val (Val.move (T.get_skip rfl T.get_same)) rfl ?_
  refine Ops.val (Val.assign (T.get_skip rfl T.get_same)) rfl ?_
  refine Ops.val (Val.assign (T.get_skip rfl T.get_same)) rfl ?_
  refine Ops.nil ?_
  refine Wp.ret ?_
  show Vm.Fin Try.prog Try.f13 (fun v st' => v = (.t [(.i .i64 (pRow s (s.length : Int))), (.i .i64 (pErr s (s.length : Int)))]) ∧ st' = st) .ret _ _
  refine Fin.two (.inr rfl) rfl (T.get_skip rfl T.get_same) T.get_same ?_
  exact ⟨rfl, rfl⟩

theorem InputPlaces_ev (s : List UInt8) (k : Int) (st : St) (hn : 5000 ≤ n) : Ev Try.prog ov1 ro n 9 [(V.str (s)), (.i .i64 (k))] st (fun v _ => v = .b true) := by
  obtain ⟨m, rfl⟩ : ∃ m, n = m + 60 := ⟨n - 60, by omega⟩
  have hr := pRow_le s k
  have hc := pCol_le s k
  refine Ev.enter rfl Try.func9 rfl rfl rfl (frame2 _ _) ?_
  refine Wp.seq ?_
  refine Wp.region rfl ?_
  refine Ops.val (Val.assign rfl) rfl ?_
  refine Ops.nil ?_
  refine Wp.seq ?_
  refine Wp.seq ?_
  refine Wp.region rfl ?_
  refine Ops.val (Val.move (T.get_skip rfl (T.get_skip rfl T.get_same))) rfl ?_
  refine Ops.val (Val.slen Try.underlying9 T.get_same) rfl ?_
  refine Ops.val (Val.gtr T.get_same rfl) rfl ?_
  refine Ops.val (Val.move T.get_same) rfl ?_
  refine Ops.cutN 4 [23, 24, 25, 26] 26 (.b ((decide (500 < (s.length : Int))) || (decide (check s ≠ 0)))) ?_ (fun fr3 g1 hF2 => ?_)
  · rcases Bool.eq_false_or_eq_true (decide (500 < (s.length : Int))) with hg4 | hg4
    · skip
      refine Ops.no rfl T.get_same hg4 rfl ?_
      refine Ops.no rfl (T.get_skip rfl T.get_same) hg4 rfl ?_
      refine Ops.no rfl (T.get_skip rfl (T.get_skip rfl T.get_same)) hg4 rfl ?_
      refine Ops.val (Val.pickT (T.get_skip rfl (T.get_skip rfl (T.get_skip rfl T.get_same))) hg4 rfl) rfl ?_
      exact Ops.nil ⟨T.get_same.trans (cutOT hg4), fun t ht => (T.get_skip (el ht rfl) (T.get_skip (el ht rfl) (T.get_skip (el ht rfl) (T.get_skip (el ht rfl) rfl)))), rfl⟩
    · skip
      have p5 := of_decide_eq_false hg4
      refine Ops.yes rfl T.get_same hg4 ?_
      refine Ops.val (Val.move (T.get_skip rfl (T.get_skip rfl (T.get_skip rfl (T.get_skip rfl (T.get_skip rfl (T.get_skip rfl T.get_same))))))) rfl ?_
      refine Ops.yes rfl (T.get_skip rfl T.get_same) hg4 ?_
      refine Ops.call (opndsC T.get_same opnds0) rfl (rcheck_ev _ (by first | assumption | omega) _ (by omega)) ?_
      rintro _ _ ⟨rfl, hq⟩
      obtain rfl := Eq.symm hq
      refine Ops.yes rfl (T.get_skip rfl (T.get_skip rfl T.get_same)) hg4 ?_
      refine Ops.val (Val.ineq T.get_same rfl) rfl ?_
      refine Ops.val (Val.pickF (T.get_skip rfl (T.get_skip rfl (T.get_skip rfl T.get_same))) hg4 T.get_same) rfl ?_
      exact Ops.nil ⟨T.get_same.trans (cutOF hg4), fun t ht => (T.get_skip (el ht rfl) (T.get_skip (el ht rfl) (T.get_skip (el ht rfl) (T.get_skip (el ht rfl) rfl)))), rfl⟩
  refine Ops.nil ?_
  refine Wp.cond g1 (fun hc6 => ?_) (fun hc6 => ?_)
  · skip
    have p7 : ((500 < (s.length : Int)) ∨ (check s ≠ 0)) := orT iffD iffD hc6
    refine Wp.seq ?_
    refine Wp.region rfl ?_
    refine Ops.call opnds0 rfl (Ev.known rfl) ?_
    rintro _ _ ⟨rfl, hq⟩
    obtain rfl := Eq.symm hq
    refine Ops.val (Val.assign T.get_same) rfl ?_
    refine Ops.nil ?_
    refine Wp.ret ?_
    show Vm.Fin Try.prog Try.f9 (fun v _ => v = .b true) .ret _ _
    refine Fin.one (.inr rfl) rfl T.get_same ?_
    exact rfl
  · skip
    have p9 := of_decide_eq_false (orL hc6)
    have p10 := of_decide_eq_false (orR hc6)
    refine Wp.skip ?_
    refine Wp.seq ?_
    refine Wp.region rfl ?_
    refine Ops.val (Val.move ((hF2 0 rfl).trans (T.get_skip rfl (T.get_skip rfl (T.get_skip rfl (T.get_skip rfl (T.get_skip rfl (T.get_skip rfl T.get_same)))))))) rfl ?_
    refine Ops.call (opndsC T.get_same (opndsC rfl opnds0)) rfl (place_ev _ _ (by omega) _ (by omega)) ?_
    rintro _ _ ⟨rfl, hq⟩
    obtain rfl := Eq.symm hq
    refine Ops.val (Val.move T.get_same) rfl ?_
    refine Ops.val (Val.extract T.get_same rfl) rfl ?_
    refine Ops.val (Val.extract (T.get_skip rfl T.get_same) rfl) rfl ?_
    refine Ops.val (Val.extract (T.get_skip rfl (T.get_skip rfl T.get_same)) rfl) rfl ?_
    refine Ops.val (Val.assign (T.get_skip rfl (T.get_skip rfl T.get_same))) rfl ?_
    refine Ops.val (Val.assign (T.get_skip rfl (T.get_skip rfl T.get_same))) rfl ?_
    refine Ops.val (Val.assign (T.get_skip rfl (T.get_skip rfl T.get_same))) rfl ?_
    refine Ops.nil ?_
    refine Wp.seq ?_
    refine Wp.region rfl ?_
    refine Ops.val (Val.move (T.get_skip rfl (T.get_skip rfl (T.get_skip rfl (T.get_skip rfl (T.get_skip rfl (T.get_skip rfl (T.get_skip rfl (T.get_skip rfl (T.get_skip rfl ((hF2 0 rfl).trans (T.get_skip rfl (T.get_skip rfl (T.get_skip rfl (T.get_skip rfl (T.get_skip rfl (T.get_skip rfl T.get_same))))))))))))))))) rfl ?_
    refine Ops.val (Val.move (T.get_skip rfl (T.get_skip rfl (T.get_skip rfl (T.get_skip rfl (T.get_skip rfl (T.get_skip rfl (T.get_skip rfl (T.get_skip rfl (T.get_skip rfl (T.get_skip rfl ((hF2 0 rfl).trans (T.get_skip rfl (T.get_skip rfl (T.get_skip rfl (T.get_skip rfl (T.get_skip rfl (T.get_skip rfl T.get_same)))))))))))))))))) rfl ?_
    refine Ops.val (Val.slen Try.underlying9 T.get_same) rfl ?_
    refine Ops.call (opndsC (T.get_skip rfl (T.get_skip rfl T.get_same)) (opndsC T.get_same opnds0)) rfl (place_ev _ _ (by omega) _ (by omega)) ?_
    rintro _ _ ⟨rfl, hq⟩
    obtain rfl := Eq.symm hq
    refine Ops.val (Val.move T.get_same) rfl ?_
    refine Ops.val (Val.extract T.get_same rfl) rfl ?_
    refine Ops.val (Val.extract (T.get_skip rfl T.get_same) rfl) rfl ?_
    refine Ops.val (Val.extract (T.get_skip rfl (T.get_skip rfl T.get_same)) rfl) rfl ?_
    refine Ops.val (Val.assign (T.get_skip rfl (T.get_skip rfl T.get_same))) rfl ?_
    refine Ops.val (Val.assign (T.get_skip rfl (T.get_skip rfl T.get_same))) rfl ?_
    refine Ops.val (Val.assign (T.get_skip rfl (T.get_skip rfl T.get_same))) rfl ?_
    refine Ops.nil ?_
    refine Wp.seq ?_
    refine Wp.region rfl ?_
    refine Ops.val (Val.move (T.get_skip rfl (T.get_skip rfl (T.get_skip rfl (T.get_skip rfl (T.get_skip rfl (T.get_skip rfl (T.get_skip rfl (T.get_skip rfl (T.get_skip rfl (T.get_skip rfl (T.get_skip rfl (T.get_skip rfl (T.get_skip rfl (T.get_skip rfl (T.get_skip rfl (T.get_skip rfl (T.get_skip rfl (T.get_skip rfl (T.get_skip rfl (T.get_skip rfl ((hF2 0 rfl).trans (T.get_skip rfl (T.get_skip rfl (T.get_skip rfl (T.get_skip rfl (T.get_skip rfl (T.get_skip rfl T.get_same)))))))))))))))))))))))))))) rfl ?_
    refine Ops.call (opndsC T.get_same opnds0) rfl (lines_ev _ (by omega) _ (by omega)) ?_
    rintro _ _ ⟨rfl, hq⟩
    obtain rfl := Eq.symm hq
    refine Ops.val (Val.move T.get_same) rfl ?_
    refine Ops.val (Val.extract T.get_same rfl) rfl ?_
    refine Ops.val (Val.extract (T.get_skip rfl T.get_same) rfl) rfl ?_
    refine Ops.val (Val.assign (T.get_skip rfl T.get_same)) rfl ?_
    refine Ops.val (Val.assign (T.get_skip rfl T.get_same)) rfl ?_
    refine Ops.nil ?_
    refine Wp.seq ?_
    refine Wp.seq ?_
    refine Wp.region rfl ?_
    refine Ops.val (Val.move (T.get_skip rfl (T.get_skip rfl (T.get_skip rfl (T.get_skip rfl (T.get_skip rfl (T.get_skip rfl (T.get_skip rfl (T.get_skip rfl (T.get_skip rfl (T.get_skip rfl (T.get_skip rfl (T.get_skip rfl (T.get_skip rfl (T.get_skip rfl (T.get_skip rfl (T.get_skip rfl (T.get_skip rfl (T.get_skip rfl T.get_same))))))))))))))))))) rfl ?_
    refine Ops.val (Val.ineq T.get_same rfl) rfl ?_
    refine Ops.val (Val.move T.get_same) rfl ?_
    refine Ops.cutN 3 [50, 51, 52] 52 (.b ((decide (pErr s 0 ≠ 0)) || (decide (pErr s (s.length : Int) ≠ 0)))) ?_ (fun fr13 g11 hF12 => ?_)
    · rcases Bool.eq_false_or_eq_true (decide (pErr s 0 ≠ 0)) with hg14 | hg14
      · skip
        refine Ops.no rfl T.get_same hg14 rfl ?_
        refine Ops.no rfl (T.get_skip rfl T.get_same) hg14 rfl ?_
        refine Ops.val (Val.pickT (T.get_skip rfl (T.get_skip rfl T.get_same)) hg14 rfl) rfl ?_
        exact Ops.nil ⟨T.get_same.trans (cutOT hg14), fun t ht => (T.get_skip (el ht rfl) (T.get_skip (el ht rfl) (T.get_skip (el ht rfl) rfl))), rfl⟩
      · skip
        have p15 := of_decide_eq_false hg14
        refine Ops.yes rfl T.get_same hg14 ?_
        refine Ops.val (Val.move (T.get_skip rfl (T.get_skip rfl (T.get_skip rfl (T.get_skip rfl (T.get_skip rfl (T.get_skip rfl (T.get_skip rfl (T.get_skip rfl (T.get_skip rfl (T.get_skip rfl T.get_same))))))))))) rfl ?_
        refine Ops.yes rfl (T.get_skip rfl T.get_same) hg14 ?_
        refine Ops.val (Val.ineq T.get_same rfl) rfl ?_
        refine Ops.val (Val.pickF (T.get_skip rfl (T.get_skip rfl T.get_same)) hg14 T.get_same) rfl ?_
        exact Ops.nil ⟨T.get_same.trans (cutOF hg14), fun t ht => (T.get_skip (el ht rfl) (T.get_skip (el ht rfl) (T.get_skip (el ht rfl) rfl))), rfl⟩
    refine Ops.val (Val.move g11) rfl ?_
    refine Ops.cutN 3 [54, 55, 56] 56 (.b (((decide (pErr s 0 ≠ 0)) || (decide (pErr s (s.length : Int) ≠ 0))) || (decide (pErr s (s.length : Int) ≠ 0)))) ?_ (fun fr18 g16 hF17 => ?_)
    · rcases Bool.eq_false_or_eq_true ((decide (pErr s 0 ≠ 0)) || (decide (pErr s (s.length : Int) ≠ 0))) with hg19 | hg19
      · skip
        refine Ops.no rfl T.get_same hg19 rfl ?_
        refine Ops.no rfl (T.get_skip rfl T.get_same) hg19 rfl ?_
        refine Ops.val (Val.pickT (T.get_skip rfl (T.get_skip rfl T.get_same)) hg19 rfl) rfl ?_
        exact Ops.nil ⟨T.get_same.trans (cutOT hg19), fun t ht => (T.get_skip (el ht rfl) (T.get_skip (el ht rfl) (T.get_skip (el ht rfl) rfl))), rfl⟩
      · skip
        have p21 := of_decide_eq_false (orL hg19)
        have p22 := of_decide_eq_false (orR hg19)
        refine Ops.yes rfl T.get_same hg19 ?_
        refine Ops.val (Val.move (T.get_skip rfl ((hF12 12 rfl).trans (T.get_skip rfl (T.get_skip rfl (T.get_skip rfl T.get_same)))))) rfl ?_
        refine Ops.yes rfl (T.get_skip rfl T.get_same) hg19 ?_
        refine Ops.val (Val.ineq T.get_same rfl) rfl ?_
        refine Ops.val (Val.pickF (T.get_skip rfl (T.get_skip rfl T.get_same)) hg19 T.get_same) rfl ?_
        exact Ops.nil ⟨T.get_same.trans (cutOF hg19), fun t ht => (T.get_skip (el ht rfl) (T.get_skip (el ht rfl) (T.get_skip (el ht rfl) rfl))), rfl⟩
    refine Ops.val (Val.move g16) rfl ?_
    refine Ops.cutN 3 [58, 59, 60] 60 (.b ((((decide (pErr s 0 ≠ 0)) || (decide (pErr s (s.length : Int) ≠ 0))) || (decide (pErr s (s.length : Int) ≠ 0))) || (decide (pRow s 0 ≠ 1)))) ?_ (fun fr25 g23 hF24 => ?_)
    · rcases Bool.eq_false_or_eq_true (((decide (pErr s 0 ≠ 0)) || (decide (pErr s (s.length : Int) ≠ 0))) || (decide (pErr s (s.length : Int) ≠ 0))) with hg26 | hg26
      · skip
        refine Ops.no rfl T.get_same hg26 rfl ?_
        refine Ops.no rfl (T.get_skip rfl T.get_same) hg26 rfl ?_
        refine Ops.val (Val.pickT (T.get_skip rfl (T.get_skip rfl T.get_same)) hg26 rfl) rfl ?_
        exact Ops.nil ⟨T.get_same.trans (cutOT hg26), fun t ht => (T.get_skip (el ht rfl) (T.get_skip (el ht rfl) (T.get_skip (el ht rfl) rfl))), rfl⟩
      · skip
        have p29 := of_decide_eq_false (orL (orL hg26))
        have p30 := of_decide_eq_false (orR (orL hg26))
        have p31 := of_decide_eq_false (orR hg26)
        refine Ops.yes rfl T.get_same hg26 ?_
        refine Ops.val (Val.move (T.get_skip rfl ((hF17 5 rfl).trans (T.get_skip rfl ((hF12 5 rfl).trans (T.get_skip rfl (T.get_skip rfl (T.get_skip rfl (T.get_skip rfl (T.get_skip rfl (T.get_skip rfl (T.get_skip rfl (T.get_skip rfl (T.get_skip rfl (T.get_skip rfl (T.get_skip rfl (T.get_skip rfl (T.get_skip rfl (T.get_skip rfl (T.get_skip rfl (T.get_skip rfl (T.get_skip rfl (T.get_skip rfl (T.get_skip rfl (T.get_skip rfl (T.get_skip rfl (T.get_skip rfl (T.get_skip rfl T.get_same)))))))))))))))))))))))))))) rfl ?_
        refine Ops.yes rfl (T.get_skip rfl T.get_same) hg26 ?_
        refine Ops.val (Val.ineq T.get_same rfl) rfl ?_
        refine Ops.val (Val.pickF (T.get_skip rfl (T.get_skip rfl T.get_same)) hg26 T.get_same) rfl ?_
        exact Ops.nil ⟨T.get_same.trans (cutOF hg26), fun t ht => (T.get_skip (el ht rfl) (T.get_skip (el ht rfl) (T.get_skip (el ht rfl) rfl))), rfl⟩
    refine Ops.val (Val.move g23) rfl ?_
    refine Ops.cutN 3 [62, 63, 64] 64 (.b (((((decide (pErr s 0 ≠ 0)) || (decide (pErr s (s.length : Int) ≠ 0))) || (decide (pErr s (s.length : Int) ≠ 0))) || (decide (pRow s 0 ≠ 1))) || (decide (pCol s 0 ≠ 1)))) ?_ (fun fr34 g32 hF33 => ?_)
    · rcases Bool.eq_false_or_eq_true ((((decide (pErr s 0 ≠ 0)) || (decide (pErr s (s.length : Int) ≠ 0))) || (decide (pErr s (s.length : Int) ≠ 0))) || (decide (pRow s 0 ≠ 1))) with hg35 | hg35
      · skip
        refine Ops.no rfl T.get_same hg35 rfl ?_
        refine Ops.no rfl (T.get_skip rfl T.get_same) hg35 rfl ?_
        refine Ops.val (Val.pickT (T.get_skip rfl (T.get_skip rfl T.get_same)) hg35 rfl) rfl ?_
        exact Ops.nil ⟨T.get_same.trans (cutOT hg35), fun t ht => (T.get_skip (el ht rfl) (T.get_skip (el ht rfl) (T.get_skip (el ht rfl) rfl))), rfl⟩
      · skip
        have p39 := of_decide_eq_false (orL (orL (orL hg35)))
        have p40 := of_decide_eq_false (orR (orL (orL hg35)))
        have p41 := of_decide_eq_false (orR (orL hg35))
        have p42 := of_decide_eq_false (orR hg35)
        refine Ops.yes rfl T.get_same hg35 ?_
        refine Ops.val (Val.move (T.get_skip rfl ((hF24 6 rfl).trans (T.get_skip rfl ((hF17 6 rfl).trans (T.get_skip rfl ((hF12 6 rfl).trans (T.get_skip rfl (T.get_skip rfl (T.get_skip rfl (T.get_skip rfl (T.get_skip rfl (T.get_skip rfl (T.get_skip rfl (T.get_skip rfl (T.get_skip rfl (T.get_skip rfl (T.get_skip rfl (T.get_skip rfl (T.get_skip rfl (T.get_skip rfl (T.get_skip rfl (T.get_skip rfl (T.get_skip rfl (T.get_skip rfl (T.get_skip rfl (T.get_skip rfl (T.get_skip rfl (T.get_skip rfl T.get_same))))))))))))))))))))))))))))) rfl ?_
        refine Ops.yes rfl (T.get_skip rfl T.get_same) hg35 ?_
        refine Ops.val (Val.ineq T.get_same rfl) rfl ?_
        refine Ops.val (Val.pickF (T.get_skip rfl (T.get_skip rfl T.get_same)) hg35 T.get_same) rfl ?_
        exact Ops.nil ⟨T.get_same.trans (cutOF hg35), fun t ht => (T.get_skip (el ht rfl) (T.get_skip (el ht rfl) (T.get_skip (el ht rfl) rfl))), rfl⟩
    refine Ops.val (Val.move g32) rfl ?_
    refine Ops.cutN 4 [66, 67, 68, 69] 69 (.b ((((((decide (pErr s 0 ≠ 0)) || (decide (pErr s (s.length : Int) ≠ 0))) || (decide (pErr s (s.length : Int) ≠ 0))) || (decide (pRow s 0 ≠ 1))) || (decide (pCol s 0 ≠ 1))) || (decide (pRow s (s.length : Int) ≠ pRow s (s.length : Int))))) ?_ (fun fr45 g43 hF44 => ?_)
    · rcases Bool.eq_false_or_eq_true (((((decide (pErr s 0 ≠ 0)) || (decide (pErr s (s.length : Int) ≠ 0))) || (decide (pErr s (s.length : Int) ≠ 0))) || (decide (pRow s 0 ≠ 1))) || (decide (pCol s 0 ≠ 1))) with hg46 | hg46
      · skip
        refine Ops.no rfl T.get_same hg46 rfl ?_
        refine Ops.no rfl (T.get_skip rfl T.get_same) hg46 rfl ?_
        refine Ops.no rfl (T.get_skip rfl (T.get_skip rfl T.get_same)) hg46 rfl ?_
        refine Ops.val (Val.pickT (T.get_skip rfl (T.get_skip rfl (T.get_skip rfl T.get_same))) hg46 rfl) rfl ?_
        exact Ops.nil ⟨T.get_same.trans (cutOT hg46), fun t ht => (T.get_skip (el ht rfl) (T.get_skip (el ht rfl) (T.get_skip (el ht rfl) (T.get_skip (el ht rfl) rfl)))), rfl⟩
      · skip
        have p51 := of_decide_eq_false (orL (orL (orL (orL hg46))))
        have p52 := of_decide_eq_false (orR (orL (orL (orL hg46))))
        have p53 := of_decide_eq_false (orR (orL (orL hg46)))
        have p54 := of_decide_eq_false (orR (orL hg46))
        have p55 := of_decide_eq_false (orR hg46)
        refine Ops.yes rfl T.get_same hg46 ?_
        refine Ops.val (Val.move (T.get_skip rfl ((hF33 8 rfl).trans (T.get_skip rfl ((hF24 8 rfl).trans (T.get_skip rfl ((hF17 8 rfl).trans (T.get_skip rfl ((hF12 8 rfl).trans (T.get_skip rfl (T.get_skip rfl (T.get_skip rfl (T.get_skip rfl (T.get_skip rfl (T.get_skip rfl (T.get_skip rfl (T.get_skip rfl (T.get_skip rfl (T.get_skip rfl (T.get_skip rfl (T.get_skip rfl T.get_same))))))))))))))))))))) rfl ?_
        refine Ops.yes rfl (T.get_skip rfl T.get_same) hg46 ?_
        refine Ops.val (Val.move (T.get_skip rfl (T.get_skip rfl ((hF33 11 rfl).trans (T.get_skip rfl ((hF24 11 rfl).trans (T.get_skip rfl ((hF17 11 rfl).trans (T.get_skip rfl ((hF12 11 rfl).trans (T.get_skip rfl (T.get_skip rfl (T.get_skip rfl (T.get_skip rfl T.get_same)))))))))))))) rfl ?_
        refine Ops.yes rfl (T.get_skip rfl (T.get_skip rfl T.get_same)) hg46 ?_
        refine Ops.val (Val.ineq (T.get_skip rfl T.get_same) T.get_same) rfl ?_
        refine Ops.val (Val.pickF (T.get_skip rfl (T.get_skip rfl (T.get_skip rfl T.get_same))) hg46 T.get_same) rfl ?_
        exact Ops.nil ⟨T.get_same.trans (cutOF hg46), fun t ht => (T.get_skip (el ht rfl) (T.get_skip (el ht rfl) (T.get_skip (el ht rfl) (T.get_skip (el ht rfl) rfl)))), rfl⟩
    refine Ops.nil ?_
    refine Wp.cond g43 (fun hc56 => ?_) (fun hc56 => ?_)
    · skip
      have p57 : ((((((pErr s 0 ≠ 0) ∨ (pErr s (s.length : Int) ≠ 0)) ∨ (pErr s (s.length : Int) ≠ 0)) ∨ (pRow s 0 ≠ 1)) ∨ (pCol s 0 ≠ 1)) ∨ (pRow s (s.length : Int) ≠ pRow s (s.length : Int))) := orT (iffO (iffO (iffO (iffO iffD iffD) iffD) iffD) iffD) iffD hc56
      exact absurd p57 (by have q0 := place_zero (s := s) (by omega); have qn := (place_in (s := s) (k := (s.length : Int)) (by omega) (by omega)).2.2; omega)
    · skip
      have p63 := of_decide_eq_false (orL (orL (orL (orL (orL hc56)))))
      have p64 := of_decide_eq_false (orR (orL (orL (orL (orL hc56)))))
      have p65 := of_decide_eq_false (orR (orL (orL (orL hc56))))
      have p66 := of_decide_eq_false (orR (orL (orL hc56)))
      have p67 := of_decide_eq_false (orR (orL hc56))
      have p68 := of_decide_eq_false (orR hc56)
      refine Wp.skip ?_
      refine Wp.seq ?_
      refine Wp.seq ?_
      refine Wp.region rfl ?_
      refine Ops.val (Val.move ((hF44 1 rfl).trans (T.get_skip rfl ((hF33 1 rfl).trans (T.get_skip rfl ((hF24 1 rfl).trans (T.get_skip rfl ((hF17 1 rfl).trans (T.get_skip rfl ((hF12 1 rfl).trans (T.get_skip rfl (T.get_skip rfl (T.get_skip rfl (T.get_skip rfl (T.get_skip rfl (T.get_skip rfl (T.get_skip rfl (T.get_skip rfl (T.get_skip rfl (T.get_skip rfl (T.get_skip rfl (T.get_skip rfl (T.get_skip rfl (T.get_skip rfl (T.get_skip rfl (T.get_skip rfl (T.get_skip rfl (T.get_skip rfl (T.get_skip rfl (T.get_skip rfl (T.get_skip rfl (T.get_skip rfl (T.get_skip rfl (T.get_skip rfl (T.get_skip rfl (T.get_skip rfl (T.get_skip rfl (T.get_skip rfl (T.get_skip rfl (T.get_skip rfl ((hF2 1 rfl).trans (T.get_skip rfl (T.get_skip rfl (T.get_skip rfl (T.get_skip rfl (T.get_skip rfl T.get_same)))))))))))))))))))))))))))))))))))))))))))))) rfl ?_
      refine Ops.val (Val.lss T.get_same rfl) rfl ?_
      refine Ops.val (Val.move T.get_same) rfl ?_
      refine Ops.cutN 5 [73, 74, 75, 76, 77] 77 (.b ((decide (k < 0)) || (decide ((s.length : Int) ≤ k)))) ?_ (fun fr71 g69 hF70 => ?_)
      · rcases Bool.eq_false_or_eq_true (decide (k < 0)) with hg72 | hg72
        · skip
          refine Ops.no rfl T.get_same hg72 rfl ?_
          refine Ops.no rfl (T.get_skip rfl T.get_same) hg72 rfl ?_
          refine Ops.no rfl (T.get_skip rfl (T.get_skip rfl T.get_same)) hg72 rfl ?_
          refine Ops.no rfl (T.get_skip rfl (T.get_skip rfl (T.get_skip rfl T.get_same))) hg72 rfl ?_
          refine Ops.val (Val.pickT (T.get_skip rfl (T.get_skip rfl (T.get_skip rfl (T.get_skip rfl T.get_same)))) hg72 rfl) rfl ?_
          exact Ops.nil ⟨T.get_same.trans (cutOT hg72), fun t ht => (T.get_skip (el ht rfl) (T.get_skip (el ht rfl) (T.get_skip (el ht rfl) (T.get_skip (el ht rfl) (T.get_skip (el ht rfl) rfl))))), rfl⟩
        · skip
          have p73 := of_decide_eq_false hg72
          refine Ops.yes rfl T.get_same hg72 ?_
          refine Ops.val (Val.move (T.get_skip rfl (T.get_skip rfl (T.get_skip rfl ((hF44 1 rfl).trans (T.get_skip rfl ((hF33 1 rfl).trans (T.get_skip rfl ((hF24 1 rfl).trans (T.get_skip rfl ((hF17 1 rfl).trans (T.get_skip rfl ((hF12 1 rfl).trans (T.get_skip rfl (T.get_skip rfl (T.get_skip rfl (T.get_skip rfl (T.get_skip rfl (T.get_skip rfl (T.get_skip rfl (T.get_skip rfl (T.get_skip rfl (T.get_skip rfl (T.get_skip rfl (T.get_skip rfl (T.get_skip rfl (T.get_skip rfl (T.get_skip rfl (T.get_skip rfl (T.get_skip rfl (T.get_skip rfl (T.get_skip rfl (T.get_skip rfl (T.get_skip rfl (T.get_skip rfl (T.get_skip rfl (T.get_skip rfl (T.get_skip rfl (T.get_skip rfl (T.get_skip rfl (T.get_skip rfl (T.get_skip rfl (T.get_skip rfl ((hF2 1 rfl).trans (T.get_skip rfl (T.get_skip rfl (T.get_skip rfl (T.get_skip rfl (T.get_skip rfl T.get_same))))))))))))))))))))))))))))))))))))))))))))))))) rfl ?_
          refine Ops.yes rfl (T.get_skip rfl T.get_same) hg72 ?_
          refine Ops.val (Val.move (T.get_skip rfl (T.get_skip rfl (T.get_skip rfl (T.get_skip rfl ((hF44 0 rfl).trans (T.get_skip rfl ((hF33 0 rfl).trans (T.get_skip rfl ((hF24 0 rfl).trans (T.get_skip rfl ((hF17 0 rfl).trans (T.get_skip rfl ((hF12 0 rfl).trans (T.get_skip rfl (T.get_skip rfl (T.get_skip rfl (T.get_skip rfl (T.get_skip rfl (T.get_skip rfl (T.get_skip rfl (T.get_skip rfl (T.get_skip rfl (T.get_skip rfl (T.get_skip rfl (T.get_skip rfl (T.get_skip rfl (T.get_skip rfl (T.get_skip rfl (T.get_skip rfl (T.get_skip rfl (T.get_skip rfl (T.get_skip rfl (T.get_skip rfl (T.get_skip rfl (T.get_skip rfl (T.get_skip rfl (T.get_skip rfl (T.get_skip rfl (T.get_skip rfl (T.get_skip rfl (T.get_skip rfl (T.get_skip rfl (T.get_skip rfl ((hF2 0 rfl).trans (T.get_skip rfl (T.get_skip rfl (T.get_skip rfl (T.get_skip rfl (T.get_skip rfl (T.get_skip rfl T.get_same))))))))))))))))))))))))))))))))))))))))))))))))))) rfl ?_
          refine Ops.yes rfl (T.get_skip rfl (T.get_skip rfl T.get_same)) hg72 ?_
          refine Ops.val (Val.slen Try.underlying9 T.get_same) rfl ?_
          refine Ops.yes rfl (T.get_skip rfl (T.get_skip rfl (T.get_skip rfl T.get_same))) hg72 ?_
          refine Ops.val (Val.geq (T.get_skip rfl (T.get_skip rfl T.get_same)) T.get_same) rfl ?_
          refine Ops.val (Val.pickF (T.get_skip rfl (T.get_skip rfl (T.get_skip rfl (T.get_skip rfl T.get_same)))) hg72 T.get_same) rfl ?_
          exact Ops.nil ⟨T.get_same.trans (cutOF hg72), fun t ht => (T.get_skip (el ht rfl) (T.get_skip (el ht rfl) (T.get_skip (el ht rfl) (T.get_skip (el ht rfl) (T.get_skip (el ht rfl) rfl))))), rfl⟩
      refine Ops.nil ?_
      refine Wp.cond g69 (fun hc74 => ?_) (fun hc74 => ?_)
      · skip
        have p75 : ((k < 0) ∨ ((s.length : Int) ≤ k)) := orT iffD iffD hc74
        refine Wp.seq ?_
        refine Wp.region rfl ?_
        refine Ops.call opnds0 rfl (Ev.known rfl) ?_
        rintro _ _ ⟨rfl, hq⟩
        obtain rfl := Eq.symm hq
        refine Ops.val (Val.assign T.get_same) rfl ?_
        refine Ops.nil ?_
        refine Wp.ret ?_
        show Vm.Fin Try.prog Try.f9 (fun v _ => v = .b true) .ret _ _
        refine Fin.one (.inr rfl) rfl T.get_same ?_
        exact rfl
      · skip
        have p77 := of_decide_eq_false (orL hc74)
        have p78 := of_decide_eq_false (orR hc74)
        refine Wp.skip ?_
        refine Wp.seq ?_
        refine Wp.region rfl ?_
        refine Ops.val (Val.move ((hF70 0 rfl).trans (T.get_skip rfl (T.get_skip rfl (T.get_skip rfl ((hF44 0 rfl).trans (T.get_skip rfl ((hF33 0 rfl).trans (T.get_skip rfl ((hF24 0 rfl).trans (T.get_skip rfl ((hF17 0 rfl).trans (T.get_skip rfl ((hF12 0 rfl).trans (T.get_skip rfl (T.get_skip rfl (T.get_skip rfl (T.get_skip rfl (T.get_skip rfl (T.get_skip rfl (T.get_skip rfl (T.get_skip rfl (T.get_skip rfl (T.get_skip rfl (T.get_skip rfl (T.get_skip rfl (T.get_skip rfl (T.get_skip rfl (T.get_skip rfl (T.get_skip rfl (T.get_skip rfl (T.get_skip rfl (T.get_skip rfl (T.get_skip rfl (T.get_skip rfl (T.get_skip rfl (T.get_skip rfl (T.get_skip rfl (T.get_skip rfl (T.get_skip rfl (T.get_skip rfl (T.get_skip rfl (T.get_skip rfl (T.get_skip rfl ((hF2 0 rfl).trans (T.get_skip rfl (T.get_skip rfl (T.get_skip rfl (T.get_skip rfl (T.get_skip rfl (T.get_skip rfl T.get_same))))))))))))))))))))))))))))))))))))))))))))))))))) rfl ?_
        refine Ops.val (Val.move (T.get_skip rfl ((hF70 1 rfl).trans (T.get_skip rfl (T.get_skip rfl (T.get_skip rfl ((hF44 1 rfl).trans (T.get_skip rfl ((hF33 1 rfl).trans (T.get_skip rfl ((hF24 1 rfl).trans (T.get_skip rfl ((hF17 1 rfl).trans (T.get_skip rfl ((hF12 1 rfl).trans (T.get_skip rfl (T.get_skip rfl (T.get_skip rfl (T.get_skip rfl (T.get_skip rfl (T.get_skip rfl (T.get_skip rfl (T.get_skip rfl (T.get_skip rfl (T.get_skip rfl (T.get_skip rfl (T.get_skip rfl (T.get_skip rfl (T.get_skip rfl (T.get_skip rfl (T.get_skip rfl (T.get_skip rfl (T.get_skip rfl (T.get_skip rfl (T.get_skip rfl (T.get_skip rfl (T.get_skip rfl (T.get_skip rfl (T.get_skip rfl (T.get_skip rfl (T.get_skip rfl (T.get_skip rfl (T.get_skip rfl (T.get_skip rfl (T.get_skip rfl ((hF2 1 rfl).trans (T.get_skip rfl (T.get_skip rfl (T.get_skip rfl (T.get_skip rfl (T.get_skip rfl T.get_same))))))))))))))))))))))))))))))))))))))))))))))))))) rfl ?_
        refine Ops.call (opndsC (T.get_skip rfl T.get_same) (opndsC T.get_same opnds0)) rfl (place_ev _ _ (by omega) _ (by omega)) ?_
        rintro _ _ ⟨rfl, hq⟩
        obtain rfl := Eq.symm hq
        refine Ops.val (Val.move T.get_same) rfl ?_
        refine Ops.val (Val.extract T.get_same rfl) rfl ?_
        refine Ops.val (Val.extract (T.get_skip rfl T.get_same) rfl) rfl ?_
        refine Ops.val (Val.extract (T.get_skip rfl (T.get_skip rfl T.get_same)) rfl) rfl ?_
        refine Ops.val (Val.assign (T.get_skip rfl (T.get_skip rfl T.get_same))) rfl ?_
        refine Ops.val (Val.assign (T.get_skip rfl (T.get_skip rfl T.get_same))) rfl ?_
        refine Ops.val (Val.assign (T.get_skip rfl (T.get_skip rfl T.get_same))) rfl ?_
        refine Ops.nil ?_
        refine Wp.seq ?_
        refine Wp.region rfl ?_
        refine Ops.val (Val.move (T.get_skip rfl (T.get_skip rfl (T.get_skip rfl (T.get_skip rfl (T.get_skip rfl (T.get_skip rfl (T.get_skip rfl (T.get_skip rfl (T.get_skip rfl (T.get_skip rfl ((hF70 0 rfl).trans (T.get_skip rfl (T.get_skip rfl (T.get_skip rfl ((hF44 0 rfl).trans (T.get_skip rfl ((hF33 0 rfl).trans (T.get_skip rfl ((hF24 0 rfl).trans (T.get_skip rfl ((hF17 0 rfl).trans (T.get_skip rfl ((hF12 0 rfl).trans (T.get_skip rfl (T.get_skip rfl (T.get_skip rfl (T.get_skip rfl (T.get_skip rfl (T.get_skip rfl (T.get_skip rfl (T.get_skip rfl (T.get_skip rfl (T.get_skip rfl (T.get_skip rfl (T.get_skip rfl (T.get_skip rfl (T.get_skip rfl (T.get_skip rfl (T.get_skip rfl (T.get_skip rfl (T.get_skip rfl (T.get_skip rfl (T.get_skip rfl (T.get_skip rfl (T.get_skip rfl (T.get_skip rfl (T.get_skip rfl (T.get_skip rfl (T.get_skip rfl (T.get_skip rfl (T.get_skip rfl (T.get_skip rfl (T.get_skip rfl ((hF2 0 rfl).trans (T.get_skip rfl (T.get_skip rfl (T.get_skip rfl (T.get_skip rfl (T.get_skip rfl (T.get_skip rfl T.get_same))))))))))))))))))))))))))))))))))))))))))))))))))))))))))))) rfl ?_
        refine Ops.val (Val.move (T.get_skip rfl (T.get_skip rfl (T.get_skip rfl (T.get_skip rfl (T.get_skip rfl (T.get_skip rfl (T.get_skip rfl (T.get_skip rfl (T.get_skip rfl (T.get_skip rfl (T.get_skip rfl ((hF70 1 rfl).trans (T.get_skip rfl (T.get_skip rfl (T.get_skip rfl ((hF44 1 rfl).trans (T.get_skip rfl ((hF33 1 rfl).trans (T.get_skip rfl ((hF24 1 rfl).trans (T.get_skip rfl ((hF17 1 rfl).trans (T.get_skip rfl ((hF12 1 rfl).trans (T.get_skip rfl (T.get_skip rfl (T.get_skip rfl (T.get_skip rfl (T.get_skip rfl (T.get_skip rfl (T.get_skip rfl (T.get_skip rfl (T.get_skip rfl (T.get_skip rfl (T.get_skip rfl (T.get_skip rfl (T.get_skip rfl (T.get_skip rfl (T.get_skip rfl (T.get_skip rfl (T.get_skip rfl (T.get_skip rfl (T.get_skip rfl (T.get_skip rfl (T.get_skip rfl (T.get_skip rfl (T.get_skip rfl (T.get_skip rfl (T.get_skip rfl (T.get_skip rfl (T.get_skip rfl (T.get_skip rfl (T.get_skip rfl (T.get_skip rfl ((hF2 1 rfl).trans (T.get_skip rfl (T.get_skip rfl (T.get_skip rfl (T.get_skip rfl (T.get_skip rfl T.get_same))))))))))))))))))))))))))))))))))))))))))))))))))))))))))))) rfl ?_
        refine Ops.val (Val.iadd T.get_same rfl (c := (k + 1)) (wrap64 (by omega) (by omega))) rfl ?_
        refine Ops.call (opndsC (T.get_skip rfl (T.get_skip rfl T.get_same)) (opndsC T.get_same opnds0)) rfl (place_ev _ _ (by omega) _ (by omega)) ?_
        rintro _ _ ⟨rfl, hq⟩
        obtain rfl := Eq.symm hq
        refine Ops.val (Val.move T.get_same) rfl ?_
        refine Ops.val (Val.extract T.get_same rfl) rfl ?_
        refine Ops.val (Val.extract (T.get_skip rfl T.get_same) rfl) rfl ?_
        refine Ops.val (Val.extract (T.get_skip rfl (T.get_skip rfl T.get_same)) rfl) rfl ?_
        refine Ops.val (Val.assign (T.get_skip rfl (T.get_skip rfl T.get_same))) rfl ?_
        refine Ops.val (Val.assign (T.get_skip rfl (T.get_skip rfl T.get_same))) rfl ?_
        refine Ops.val (Val.assign (T.get_skip rfl (T.get_skip rfl T.get_same))) rfl ?_
        refine Ops.nil ?_
        refine Wp.seq ?_
        refine Wp.seq ?_
        refine Wp.region rfl ?_
        refine Ops.val (Val.move (T.get_skip rfl (T.get_skip rfl (T.get_skip rfl (T.get_skip rfl (T.get_skip rfl (T.get_skip rfl (T.get_skip rfl (T.get_skip rfl (T.get_skip rfl (T.get_skip rfl (T.get_skip rfl T.get_same)))))))))))) rfl ?_
        refine Ops.val (Val.ineq T.get_same rfl) rfl ?_
        refine Ops.val (Val.move T.get_same) rfl ?_
        refine Ops.cutN 3 [97, 98, 99] 99 (.b ((decide (pErr s k ≠ 0)) || (decide (pErr s (k + 1) ≠ 0)))) ?_ (fun fr81 g79 hF80 => ?_)
        · rcases Bool.eq_false_or_eq_true (decide (pErr s k ≠ 0)) with hg82 | hg82
          · skip
            refine Ops.no rfl T.get_same hg82 rfl ?_
            refine Ops.no rfl (T.get_skip rfl T.get_same) hg82 rfl ?_
            refine Ops.val (Val.pickT (T.get_skip rfl (T.get_skip rfl T.get_same)) hg82 rfl) rfl ?_
            exact Ops.nil ⟨T.get_same.trans (cutOT hg82), fun t ht => (T.get_skip (el ht rfl) (T.get_skip (el ht rfl) (T.get_skip (el ht rfl) rfl))), rfl⟩
          · skip
            have p83 := of_decide_eq_false hg82
            refine Ops.yes rfl T.get_same hg82 ?_
            refine Ops.val (Val.move (T.get_skip rfl (T.get_skip rfl (T.get_skip rfl T.get_same)))) rfl ?_
            refine Ops.yes rfl (T.get_skip rfl T.get_same) hg82 ?_
            refine Ops.val (Val.ineq T.get_same rfl) rfl ?_
            refine Ops.val (Val.pickF (T.get_skip rfl (T.get_skip rfl T.get_same)) hg82 T.get_same) rfl ?_
            exact Ops.nil ⟨T.get_same.trans (cutOF hg82), fun t ht => (T.get_skip (el ht rfl) (T.get_skip (el ht rfl) (T.get_skip (el ht rfl) rfl))), rfl⟩
        refine Ops.nil ?_
        refine Wp.cond g79 (fun hc84 => ?_) (fun hc84 => ?_)
        · skip
          have p85 : ((pErr s k ≠ 0) ∨ (pErr s (k + 1) ≠ 0)) := orT iffD iffD hc84
          exact absurd p85 (by have q0 := (place_in (s := s) (k := k) (by omega) (by omega)).2.2; have qn := (place_in (s := s) (k := k + 1) (by omega) (by omega)).2.2; omega)
        · skip
          have p87 := of_decide_eq_false (orL hc84)
          have p88 := of_decide_eq_false (orR hc84)
          refine Wp.skip ?_
          refine Wp.seq ?_
          refine Wp.seq ?_
          refine Wp.region rfl ?_
          refine Ops.val (Val.move ((hF80 0 rfl).trans (T.get_skip rfl (T.get_skip rfl (T.get_skip rfl (T.get_skip rfl (T.get_skip rfl (T.get_skip rfl (T.get_skip rfl (T.get_skip rfl (T.get_skip rfl (T.get_skip rfl (T.get_skip rfl (T.get_skip rfl (T.get_skip rfl (T.get_skip rfl (T.get_skip rfl (T.get_skip rfl (T.get_skip rfl (T.get_skip rfl (T.get_skip rfl (T.get_skip rfl (T.get_skip rfl (T.get_skip rfl (T.get_skip rfl (T.get_skip rfl ((hF70 0 rfl).trans (T.get_skip rfl (T.get_skip rfl (T.get_skip rfl ((hF44 0 rfl).trans (T.get_skip rfl ((hF33 0 rfl).trans (T.get_skip rfl ((hF24 0 rfl).trans (T.get_skip rfl ((hF17 0 rfl).trans (T.get_skip rfl ((hF12 0 rfl).trans (T.get_skip rfl (T.get_skip rfl (T.get_skip rfl (T.get_skip rfl (T.get_skip rfl (T.get_skip rfl (T.get_skip rfl (T.get_skip rfl (T.get_skip rfl (T.get_skip rfl (T.get_skip rfl (T.get_skip rfl (T.get_skip rfl (T.get_skip rfl (T.get_skip rfl (T.get_skip rfl (T.get_skip rfl (T.get_skip rfl (T.get_skip rfl (T.get_skip rfl (T.get_skip rfl (T.get_skip rfl (T.get_skip rfl (T.get_skip rfl (T.get_skip rfl (T.get_skip rfl (T.get_skip rfl (T.get_skip rfl (T.get_skip rfl (T.get_skip rfl ((hF2 0 rfl).trans (T.get_skip rfl (T.get_skip rfl (T.get_skip rfl (T.get_skip rfl (T.get_skip rfl (T.get_skip rfl T.get_same)))))))))))))))))))))))))))))))))))))))))))))))))))))))))))))))))))))))))))) rfl ?_
          refine Ops.val (Val.move (T.get_skip rfl ((hF80 1 rfl).trans (T.get_skip rfl (T.get_skip rfl (T.get_skip rfl (T.get_skip rfl (T.get_skip rfl (T.get_skip rfl (T.get_skip rfl (T.get_skip rfl (T.get_skip rfl (T.get_skip rfl (T.get_skip rfl (T.get_skip rfl (T.get_skip rfl (T.get_skip rfl (T.get_skip rfl (T.get_skip rfl (T.get_skip rfl (T.get_skip rfl (T.get_skip rfl (T.get_skip rfl (T.get_skip rfl (T.get_skip rfl (T.get_skip rfl (T.get_skip rfl ((hF70 1 rfl).trans (T.get_skip rfl (T.get_skip rfl (T.get_skip rfl ((hF44 1 rfl).trans (T.get_skip rfl ((hF33 1 rfl).trans (T.get_skip rfl ((hF24 1 rfl).trans (T.get_skip rfl ((hF17 1 rfl).trans (T.get_skip rfl ((hF12 1 rfl).trans (T.get_skip rfl (T.get_skip rfl (T.get_skip rfl (T.get_skip rfl (T.get_skip rfl (T.get_skip rfl (T.get_skip rfl (T.get_skip rfl (T.get_skip rfl (T.get_skip rfl (T.get_skip rfl (T.get_skip rfl (T.get_skip rfl (T.get_skip rfl (T.get_skip rfl (T.get_skip rfl (T.get_skip rfl (T.get_skip rfl (T.get_skip rfl (T.get_skip rfl (T.get_skip rfl (T.get_skip rfl (T.get_skip rfl (T.get_skip rfl (T.get_skip rfl (T.get_skip rfl (T.get_skip rfl (T.get_skip rfl (T.get_skip rfl (T.get_skip rfl ((hF2 1 rfl).trans (T.get_skip rfl (T.get_skip rfl (T.get_skip rfl (T.get_skip rfl (T.get_skip rfl T.get_same)))))))))))))))))))))))))))))))))))))))))))))))))))))))))))))))))))))))))))) rfl ?_
          refine Ops.val (Val.sidx (i := (k).toNat) Try.underlying9 (T.get_skip rfl T.get_same) (T.get_same.trans (by rw [Int.toNat_of_nonneg (a := k) (by omega)])) (by omega)) rfl ?_
          refine Ops.val (Val.ieql T.get_same rfl) rfl ?_
          refine Ops.nil ?_
          refine Wp.cond T.get_same (fun hc89 => ?_) (fun hc89 => ?_)
          · skip
            have p90 := of_decide_eq_true hc89
            refine Wp.seq ?_
            refine Wp.region rfl ?_
            refine Ops.val (Val.move (T.get_skip rfl (T.get_skip rfl (T.get_skip rfl (T.get_skip rfl ((hF80 16 rfl).trans (T.get_skip rfl (T.get_skip rfl (T.get_skip rfl (T.get_skip rfl (T.get_skip rfl T.get_same))))))))))) rfl ?_
            refine Ops.val (Val.move (T.get_skip rfl (T.get_skip rfl (T.get_skip rfl (T.get_skip rfl (T.get_skip rfl ((hF80 13 rfl).trans (T.get_skip rfl (T.get_skip rfl (T.get_skip rfl (T.get_skip rfl (T.get_skip rfl (T.get_skip rfl (T.get_skip rfl (T.get_skip rfl (T.get_skip rfl (T.get_skip rfl (T.get_skip rfl (T.get_skip rfl (T.get_skip rfl (T.get_skip rfl (T.get_skip rfl (T.get_skip rfl T.get_same))))))))))))))))))))))) rfl ?_
            refine Ops.val (Val.iadd T.get_same rfl (c := (pRow s k + 1)) (wrap64 (by omega) (by omega))) rfl ?_
            refine Ops.val (Val.ieql (T.get_skip rfl (T.get_skip rfl T.get_same)) T.get_same) rfl ?_
            refine Ops.val (Val.move T.get_same) rfl ?_
            refine Ops.cutN 3 [109, 110, 111] 111 (.b ((decide (pRow s (k + 1) = (pRow s k + 1))) && (decide (pCol s (k + 1) = 1)))) ?_ (fun fr93 g91 hF92 => ?_)
            · rcases Bool.eq_false_or_eq_true (decide (pRow s (k + 1) = (pRow s k + 1))) with hg94 | hg94
              · skip
                have p95 := of_decide_eq_true hg94
                refine Ops.yes rfl T.get_same hg94 ?_
                refine Ops.val (Val.move (T.get_skip rfl (T.get_skip rfl (T.get_skip rfl (T.get_skip rfl (T.get_skip rfl (T.get_skip rfl (T.get_skip rfl (T.get_skip rfl (T.get_skip rfl ((hF80 17 rfl).trans (T.get_skip rfl (T.get_skip rfl (T.get_skip rfl (T.get_skip rfl T.get_same))))))))))))))) rfl ?_
                refine Ops.yes rfl (T.get_skip rfl T.get_same) hg94 ?_
                refine Ops.val (Val.ieql T.get_same rfl) rfl ?_
                refine Ops.val (Val.pickT (T.get_skip rfl (T.get_skip rfl T.get_same)) hg94 T.get_same) rfl ?_
                exact Ops.nil ⟨T.get_same.trans (cutAT hg94), fun t ht => (T.get_skip (el ht rfl) (T.get_skip (el ht rfl) (T.get_skip (el ht rfl) rfl))), rfl⟩
              · skip
                refine Ops.no rfl T.get_same hg94 rfl ?_
                refine Ops.no rfl (T.get_skip rfl T.get_same) hg94 rfl ?_
                refine Ops.val (Val.pickF (T.get_skip rfl (T.get_skip rfl T.get_same)) hg94 rfl) rfl ?_
                exact Ops.nil ⟨T.get_same.trans (cutAF hg94), fun t ht => (T.get_skip (el ht rfl) (T.get_skip (el ht rfl) (T.get_skip (el ht rfl) rfl))), rfl⟩
            refine Ops.val (Val.move g91) rfl ?_
            refine Ops.cutN 2 [113, 114] 114 (.b (((decide (pRow s (k + 1) = (pRow s k + 1))) && (decide (pCol s (k + 1) = 1))) && (true))) ?_ (fun fr98 g96 hF97 => ?_)
            · rcases Bool.eq_false_or_eq_true ((decide (pRow s (k + 1) = (pRow s k + 1))) && (decide (pCol s (k + 1) = 1))) with hg99 | hg99
              · skip
                have p101 := of_decide_eq_true (andL hg99)
                have p102 := of_decide_eq_true (andR hg99)
                refine Ops.yes rfl T.get_same hg99 ?_
                refine Ops.call opnds0 rfl (Ev.known rfl) ?_
                rintro _ _ ⟨rfl, hq⟩
                obtain rfl := Eq.symm hq
                refine Ops.val (Val.pickT (T.get_skip rfl T.get_same) hg99 T.get_same) rfl ?_
                exact Ops.nil ⟨T.get_same.trans (cutAT hg99), fun t ht => (T.get_skip (el ht rfl) (T.get_skip (el ht rfl) rfl)), rfl⟩
              · skip
                refine Ops.no rfl T.get_same hg99 rfl ?_
                refine Ops.val (Val.pickF (T.get_skip rfl T.get_same) hg99 rfl) rfl ?_
                exact Ops.nil ⟨T.get_same.trans (cutAF hg99), fun t ht => (T.get_skip (el ht rfl) (T.get_skip (el ht rfl) rfl)), rfl⟩
            refine Ops.val (Val.assign g96) rfl ?_
            refine Ops.nil ?_
            refine Wp.ret ?_
            show Vm.Fin Try.prog Try.f9 (fun v _ => v = .b true) .ret _ _
            refine Fin.one (.inr rfl) rfl T.get_same ?_
            exact congrArg V.b (by first | exact places_lf (by omega) (by omega) (by omega) (by assumption) | exact places_no (by omega) (by omega) (by omega) (by assumption))
          · skip
            have p103 := of_decide_eq_false hc89
            refine Wp.skip ?_
            refine Wp.seq ?_
            refine Wp.region rfl ?_
            refine Ops.val (Val.move (T.get_skip rfl (T.get_skip rfl (T.get_skip rfl (T.get_skip rfl ((hF80 16 rfl).trans (T.get_skip rfl (T.get_skip rfl (T.get_skip rfl (T.get_skip rfl (T.get_skip rfl T.get_same))))))))))) rfl ?_
            refine Ops.val (Val.move (T.get_skip rfl (T.get_skip rfl (T.get_skip rfl (T.get_skip rfl (T.get_skip rfl ((hF80 13 rfl).trans (T.get_skip rfl (T.get_skip rfl (T.get_skip rfl (T.get_skip rfl (T.get_skip rfl (T.get_skip rfl (T.get_skip rfl (T.get_skip rfl (T.get_skip rfl (T.get_skip rfl (T.get_skip rfl (T.get_skip rfl (T.get_skip rfl (T.get_skip rfl (T.get_skip rfl (T.get_skip rfl T.get_same))))))))))))))))))))))) rfl ?_
            refine Ops.val (Val.ieql (T.get_skip rfl T.get_same) T.get_same) rfl ?_
            refine Ops.val (Val.move T.get_same) rfl ?_
            refine Ops.cutN 5 [119, 120, 121, 122, 123] 123 (.b ((decide (pRow s (k + 1) = pRow s k)) && (decide (pCol s (k + 1) = (pCol s k + 1))))) ?_ (fun fr106 g104 hF105 => ?_)
            · rcases Bool.eq_false_or_eq_true (decide (pRow s (k + 1) = pRow s k)) with hg107 | hg107
              · skip
                have p108 := of_decide_eq_true hg107
                refine Ops.yes rfl T.get_same hg107 ?_
                refine Ops.val (Val.move (T.get_skip rfl (T.get_skip rfl (T.get_skip rfl (T.get_skip rfl (T.get_skip rfl (T.get_skip rfl (T.get_skip rfl (T.get_skip rfl ((hF80 17 rfl).trans (T.get_skip rfl (T.get_skip rfl (T.get_skip rfl (T.get_skip rfl T.get_same)))))))))))))) rfl ?_
                refine Ops.yes rfl (T.get_skip rfl T.get_same) hg107 ?_
                refine Ops.val (Val.move (T.get_skip rfl (T.get_skip rfl (T.get_skip rfl (T.get_skip rfl (T.get_skip rfl (T.get_skip rfl (T.get_skip rfl (T.get_skip rfl (T.get_skip rfl ((hF80 14 rfl).trans (T.get_skip rfl (T.get_skip rfl (T.get_skip rfl (T.get_skip rfl (T.get_skip rfl (T.get_skip rfl (T.get_skip rfl (T.get_skip rfl (T.get_skip rfl (T.get_skip rfl (T.get_skip rfl (T.get_skip rfl (T.get_skip rfl (T.get_skip rfl (T.get_skip rfl T.get_same)))))))))))))))))))))))))) rfl ?_
                refine Ops.yes rfl (T.get_skip rfl (T.get_skip rfl T.get_same)) hg107 ?_
                refine Ops.val (Val.iadd T.get_same rfl (c := (pCol s k + 1)) (wrap64 (by omega) (by omega))) rfl ?_
                refine Ops.yes rfl (T.get_skip rfl (T.get_skip rfl (T.get_skip rfl T.get_same))) hg107 ?_
                refine Ops.val (Val.ieql (T.get_skip rfl (T.get_skip rfl T.get_same)) T.get_same) rfl ?_
                refine Ops.val (Val.pickT (T.get_skip rfl (T.get_skip rfl (T.get_skip rfl (T.get_skip rfl T.get_same)))) hg107 T.get_same) rfl ?_
                exact Ops.nil ⟨T.get_same.trans (cutAT hg107), fun t ht => (T.get_skip (el ht rfl) (T.get_skip (el ht rfl) (T.get_skip (el ht rfl) (T.get_skip (el ht rfl) (T.get_skip (el ht rfl) rfl))))), rfl⟩
              · skip
                refine Ops.no rfl T.get_same hg107 rfl ?_
                refine Ops.no rfl (T.get_skip rfl T.get_same) hg107 rfl ?_
                refine Ops.no rfl (T.get_skip rfl (T.get_skip rfl T.get_same)) hg107 rfl ?_
                refine Ops.no rfl (T.get_skip rfl (T.get_skip rfl (T.get_skip rfl T.get_same))) hg107 rfl ?_
                refine Ops.val (Val.pickF (T.get_skip rfl (T.get_skip rfl (T.get_skip rfl (T.get_skip rfl T.get_same)))) hg107 rfl) rfl ?_
                exact Ops.nil ⟨T.get_same.trans (cutAF hg107), fun t ht => (T.get_skip (el ht rfl) (T.get_skip (el ht rfl) (T.get_skip (el ht rfl) (T.get_skip (el ht rfl) (T.get_skip (el ht rfl) rfl))))), rfl⟩
            refine Ops.val (Val.move g104) rfl ?_
            refine Ops.cutN 2 [125, 126] 126 (.b (((decide (pRow s (k + 1) = pRow s k)) && (decide (pCol s (k + 1) = (pCol s k + 1)))) && (true))) ?_ (fun fr111 g109 hF110 => ?_)
            · rcases Bool.eq_false_or_eq_true ((decide (pRow s (k + 1) = pRow s k)) && (decide (pCol s (k + 1) = (pCol s k + 1)))) with hg112 | hg112
              · skip
                have p114 := of_decide_eq_true (andL hg112)
                have p115 := of_decide_eq_true (andR hg112)
                refine Ops.yes rfl T.get_same hg112 ?_
                refine Ops.call opnds0 rfl (Ev.known rfl) ?_
                rintro _ _ ⟨rfl, hq⟩
                obtain rfl := Eq.symm hq
                refine Ops.val (Val.pickT (T.get_skip rfl T.get_same) hg112 T.get_same) rfl ?_
                exact Ops.nil ⟨T.get_same.trans (cutAT hg112), fun t ht => (T.get_skip (el ht rfl) (T.get_skip (el ht rfl) rfl)), rfl⟩
              · skip
                refine Ops.no rfl T.get_same hg112 rfl ?_
                refine Ops.val (Val.pickF (T.get_skip rfl T.get_same) hg112 rfl) rfl ?_
                exact Ops.nil ⟨T.get_same.trans (cutAF hg112), fun t ht => (T.get_skip (el ht rfl) (T.get_skip (el ht rfl) rfl)), rfl⟩
            refine Ops.val (Val.assign g109) rfl ?_
            refine Ops.nil ?_
            refine Wp.ret ?_
            show Vm.Fin Try.prog Try.f9 (fun v _ => v = .b true) .ret _ _
            refine Fin.one (.inr rfl) rfl T.get_same ?_
            exact congrArg V.b (by first | exact places_lf (by omega) (by omega) (by omega) (by assumption) | exact places_no (by omega) (by omega) (by omega) (by assumption))

end Go.Proofs.Ytonihkpcblfafaa
