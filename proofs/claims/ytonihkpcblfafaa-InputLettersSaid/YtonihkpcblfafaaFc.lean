/-
  Alike of the referee, and the law of small letters, followed in the evaluator. Nothing is claimed here.
-/
import Derived.Test.YtonihkpcblfafaaFb
namespace Go.Proofs.Ytonihkpcblfafaa
open Go.Vm Go.Lay1
variable {n : Nat}

theorem ralike_ev (a b : List UInt8) (ha : a.length ≤ 1099511627776) (hb : b.length ≤ 1099511627776) (st : St) (hn : a.length + b.length + 300 ≤ n) : Ev Try.prog ov1 0 n 24 [(V.str (a)), (V.str (b))] st (fun v st' => v = .b (alikeL a b) ∧ Sub st.nx st st') := by
  obtain ⟨m, rfl⟩ : ∃ m, n = m + 60 := ⟨n - 60, by omega⟩
  have hS := Sub.refl st.nx st
  refine Ev.enter rfl Try.func24 rfl rfl rfl (frame2 _ _) ?_
  refine Wp.seq ?_
  refine Wp.region rfl ?_
  refine Ops.val (Val.assign rfl) rfl ?_
  refine Ops.nil ?_
  refine Wp.seq ?_
  refine Wp.region rfl ?_
  refine Ops.val (Val.move (T.get_skip rfl (T.get_skip rfl T.get_same))) rfl ?_
  refine Ops.call (opndsC T.get_same opnds0) rfl (rlower_ev _ (by first | assumption | omega | (simp [lowL_len]; omega)) _ (by first | omega | (simp [lowL_len]; omega))) ?_
  rintro _ st1 ⟨rfl, hs2⟩
  have hS := hS.then hs2 (Nat.le_refl _)
  refine Ops.val (Val.move (T.get_skip rfl (T.get_skip rfl (T.get_skip rfl T.get_same)))) rfl ?_
  refine Ops.call (opndsC T.get_same opnds0) rfl (rlower_ev _ (by first | assumption | omega | (simp [lowL_len]; omega)) _ (by first | omega | (simp [lowL_len]; omega))) ?_
  rintro _ st3 ⟨rfl, hs4⟩
  have hS := hS.then hs4 (Nat.le_refl _)
  refine Ops.val (Val.seql (T.get_skip rfl (T.get_skip rfl T.get_same)) T.get_same) rfl ?_
  refine Ops.val (Val.assign T.get_same) rfl ?_
  refine Ops.nil ?_
  refine Wp.ret ?_
  show Vm.Fin Try.prog Try.f24 (fun v st' => v = .b (alikeL a b) ∧ Sub st.nx st st') .ret _ _
  refine Fin.one (.inr rfl) rfl T.get_same ?_
  exact ⟨rfl, hS⟩

theorem InputSmall_ev (a b : List UInt8) (st : St) (hn : 1500 ≤ n) : Ev Try.prog ov1 0 n 5 [(V.str (a)), (V.str (b))] st (fun v _ => v = .b true) := by
  obtain ⟨m, rfl⟩ : ∃ m, n = m + 60 := ⟨n - 60, by omega⟩
  have hS := Sub.refl st.nx st
  refine Ev.enter rfl Try.func5 rfl rfl rfl (frame2 _ _) ?_
  refine Wp.seq ?_
  refine Wp.region rfl ?_
  refine Ops.val (Val.assign rfl) rfl ?_
  refine Ops.nil ?_
  refine Wp.seq ?_
  refine Wp.seq ?_
  refine Wp.region rfl ?_
  refine Ops.val (Val.move (T.get_skip rfl (T.get_skip rfl T.get_same))) rfl ?_
  refine Ops.val (Val.slen Try.underlying9 T.get_same) rfl ?_
  refine Ops.val (Val.gtr T.get_same rfl) rfl ?_
  refine Ops.val (Val.move T.get_same) rfl ?_
  refine Ops.cutN 4 [9, 10, 11, 12] 12 (.b ((decide (500 < (a.length : Int))) || (decide (500 < (b.length : Int))))) ?_ (fun fr3 g1 hF2 => ?_)
  · rcases Bool.eq_false_or_eq_true (decide (500 < (a.length : Int))) with hg4 | hg4
    · skip
      refine Ops.no rfl T.get_same hg4 rfl ?_
      refine Ops.no rfl (T.get_skip rfl T.get_same) hg4 rfl ?_
      refine Ops.no rfl (T.get_skip rfl (T.get_skip rfl T.get_same)) hg4 rfl ?_
      refine Ops.val (Val.pickT (T.get_skip rfl (T.get_skip rfl (T.get_skip rfl T.get_same))) hg4 rfl) rfl ?_
      exact Ops.nil ⟨T.get_same.trans (cutOT hg4), fun t ht => (T.get_skip (el ht rfl) (T.get_skip (el ht rfl) (T.get_skip (el ht rfl) (T.get_skip (el ht rfl) rfl)))), rfl⟩
    · skip
      have p5 := of_decide_eq_false hg4
      refine Ops.yes rfl T.get_same hg4 ?_
      refine Ops.val (Val.move (T.get_skip rfl (T.get_skip rfl (T.get_skip rfl (T.get_skip rfl (T.get_skip rfl T.get_same)))))) rfl ?_
      refine Ops.yes rfl (T.get_skip rfl T.get_same) hg4 ?_
      refine Ops.val (Val.slen Try.underlying9 T.get_same) rfl ?_
      refine Ops.yes rfl (T.get_skip rfl (T.get_skip rfl T.get_same)) hg4 ?_
      refine Ops.val (Val.gtr T.get_same rfl) rfl ?_
      refine Ops.val (Val.pickF (T.get_skip rfl (T.get_skip rfl (T.get_skip rfl T.get_same))) hg4 T.get_same) rfl ?_
      exact Ops.nil ⟨T.get_same.trans (cutOF hg4), fun t ht => (T.get_skip (el ht rfl) (T.get_skip (el ht rfl) (T.get_skip (el ht rfl) (T.get_skip (el ht rfl) rfl)))), rfl⟩
  refine Ops.nil ?_
  refine Wp.cond g1 (fun hc6 => ?_) (fun hc6 => ?_)
  · skip
    have p7 : ((500 < (a.length : Int)) ∨ (500 < (b.length : Int))) := orT iffD iffD hc6
    refine Wp.seq ?_
    refine Wp.region rfl ?_
    refine Ops.val (Val.assign rfl) rfl ?_
    refine Ops.nil ?_
    refine Wp.ret ?_
    show Vm.Fin Try.prog Try.f5 (fun v _ => v = .b true) .ret _ _
    refine Fin.one (.inr rfl) rfl T.get_same ?_
    exact rfl
  · skip
    have p9 := of_decide_eq_false (orL hc6)
    have p10 := of_decide_eq_false (orR hc6)
    refine Wp.skip ?_
    refine Wp.seq ?_
    refine Wp.region rfl ?_
    refine Ops.val (Val.move ((hF2 0 rfl).trans (T.get_skip rfl (T.get_skip rfl (T.get_skip rfl (T.get_skip rfl (T.get_skip rfl (T.get_skip rfl T.get_same)))))))) rfl ?_
    refine Ops.call (opndsC T.get_same opnds0) rfl (lower_ev _ (by first | assumption | omega | (simp [lowL_len]; omega)) _ (by first | omega | (simp [lowL_len]; omega))) ?_
    rintro _ st11 ⟨rfl, hs12⟩
    have hS := hS.then hs12 (Nat.le_refl _)
    refine Ops.val (Val.move (T.get_skip rfl (T.get_skip rfl ((hF2 0 rfl).trans (T.get_skip rfl (T.get_skip rfl (T.get_skip rfl (T.get_skip rfl (T.get_skip rfl (T.get_skip rfl T.get_same)))))))))) rfl ?_
    refine Ops.call (opndsC T.get_same opnds0) rfl (rlower_ev _ (by first | assumption | omega | (simp [lowL_len]; omega)) _ (by first | omega | (simp [lowL_len]; omega))) ?_
    rintro _ st13 ⟨rfl, hs14⟩
    have hS := hS.then hs14 (Nat.le_refl _)
    refine Ops.val (Val.seql (T.get_skip rfl (T.get_skip rfl T.get_same)) T.get_same) rfl ?_
    refine Ops.val (Val.move T.get_same) rfl ?_
    rcases Bool.eq_false_or_eq_true ((lowL a) == (lowL a)) with hg15 | hg15
    · skip
      have p16 : ((lowL a) = (lowL a)) := beqT hg15
      refine Ops.yes rfl T.get_same hg15 ?_
      refine Ops.val (Val.move (T.get_skip rfl (T.get_skip rfl (T.get_skip rfl (T.get_skip rfl (T.get_skip rfl (T.get_skip rfl ((hF2 0 rfl).trans (T.get_skip rfl (T.get_skip rfl (T.get_skip rfl (T.get_skip rfl (T.get_skip rfl (T.get_skip rfl T.get_same)))))))))))))) rfl ?_
      refine Ops.yes rfl (T.get_skip rfl T.get_same) hg15 ?_
      refine Ops.val (Val.move (T.get_skip rfl (T.get_skip rfl (T.get_skip rfl (T.get_skip rfl (T.get_skip rfl (T.get_skip rfl (T.get_skip rfl ((hF2 1 rfl).trans (T.get_skip rfl (T.get_skip rfl (T.get_skip rfl (T.get_skip rfl (T.get_skip rfl T.get_same)))))))))))))) rfl ?_
      refine Ops.yes rfl (T.get_skip rfl (T.get_skip rfl T.get_same)) hg15 ?_
      refine Ops.call (opndsC (T.get_skip rfl T.get_same) (opndsC T.get_same opnds0)) rfl (alike_ev _ _ (by first | assumption | omega | (simp; omega)) _ (by omega)) ?_
      rintro _ _ ⟨rfl, hq⟩
      obtain rfl := Eq.symm hq
      refine Ops.yes rfl (T.get_skip rfl (T.get_skip rfl (T.get_skip rfl T.get_same))) hg15 ?_
      refine Ops.val (Val.move (T.get_skip rfl (T.get_skip rfl (T.get_skip rfl (T.get_skip rfl (T.get_skip rfl (T.get_skip rfl (T.get_skip rfl (T.get_skip rfl (T.get_skip rfl ((hF2 0 rfl).trans (T.get_skip rfl (T.get_skip rfl (T.get_skip rfl (T.get_skip rfl (T.get_skip rfl (T.get_skip rfl T.get_same))))))))))))))))) rfl ?_
      refine Ops.yes rfl (T.get_skip rfl (T.get_skip rfl (T.get_skip rfl (T.get_skip rfl T.get_same)))) hg15 ?_
      refine Ops.val (Val.move (T.get_skip rfl (T.get_skip rfl (T.get_skip rfl (T.get_skip rfl (T.get_skip rfl (T.get_skip rfl (T.get_skip rfl (T.get_skip rfl (T.get_skip rfl (T.get_skip rfl ((hF2 1 rfl).trans (T.get_skip rfl (T.get_skip rfl (T.get_skip rfl (T.get_skip rfl (T.get_skip rfl T.get_same))))))))))))))))) rfl ?_
      refine Ops.yes rfl (T.get_skip rfl (T.get_skip rfl (T.get_skip rfl (T.get_skip rfl (T.get_skip rfl T.get_same))))) hg15 ?_
      refine Ops.call (opndsC (T.get_skip rfl T.get_same) (opndsC T.get_same opnds0)) rfl (ralike_ev _ _ (by omega) (by omega) _ (by omega)) ?_
      rintro _ st17 ⟨rfl, hs18⟩
      have hS := hS.then hs18 (Nat.le_refl _)
      refine Ops.yes rfl (T.get_skip rfl (T.get_skip rfl (T.get_skip rfl (T.get_skip rfl (T.get_skip rfl (T.get_skip rfl T.get_same)))))) hg15 ?_
      refine Ops.val (Val.beql Try.underlying4 (T.get_skip rfl (T.get_skip rfl (T.get_skip rfl T.get_same))) T.get_same) rfl ?_
      refine Ops.val (Val.pickT (T.get_skip rfl (T.get_skip rfl (T.get_skip rfl (T.get_skip rfl (T.get_skip rfl (T.get_skip rfl (T.get_skip rfl T.get_same))))))) hg15 T.get_same) rfl ?_
      refine Ops.val (Val.assign T.get_same) rfl ?_
      refine Ops.nil ?_
      refine Wp.ret ?_
      show Vm.Fin Try.prog Try.f5 (fun v _ => v = .b true) .ret _ _
      refine Fin.one (.inr rfl) rfl T.get_same ?_
      exact congrArg V.b (by first | rfl | exact beq_self_eq_true _)
    · skip
      have p19 : ¬ ((lowL a) = (lowL a)) := beqF hg15
      exact absurd rfl p19

end Go.Proofs.Ytonihkpcblfafaa
