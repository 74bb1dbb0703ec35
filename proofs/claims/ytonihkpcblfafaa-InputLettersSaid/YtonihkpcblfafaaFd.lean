/-
  The law of letters, followed in the evaluator. Nothing is claimed here.
-/
import Derived.Test.YtonihkpcblfafaaFc
namespace Go.Proofs.Ytonihkpcblfafaa
open Go.Vm Go.Lay1
variable {n : Nat}

theorem InputLetters_ev (a b c : List UInt8) (st : St) (hn : 5000 ≤ n) : Ev Try.prog ov1 0 n 10 [(V.str (a)), (V.str (b)), (V.str (c))] st (fun v _ => v = .b true) := by
  obtain ⟨m, rfl⟩ : ∃ m, n = m + 60 := ⟨n - 60, by omega⟩
  have hS := Sub.refl st.nx st
  have hll : (lowL a).length = a.length := lowL_len a
  refine Ev.enter rfl Try.func10 rfl rfl rfl (frame3 _ _ _) ?_
  refine Wp.seq ?_
  refine Wp.region rfl ?_
  refine Ops.val (Val.assign rfl) rfl ?_
  refine Ops.nil ?_
  refine Wp.seq ?_
  refine Wp.seq ?_
  refine Wp.region rfl ?_
  refine Ops.val (Val.move (T.get_skip rfl (T.get_skip rfl (T.get_skip rfl T.get_same)))) rfl ?_
  refine Ops.val (Val.slen Try.underlying9 T.get_same) rfl ?_
  refine Ops.val (Val.gtr T.get_same rfl) rfl ?_
  refine Ops.val (Val.move T.get_same) rfl ?_
  refine Ops.cutN 4 [16, 17, 18, 19] 19 (.b ((decide (500 < (a.length : Int))) || (decide (500 < (b.length : Int))))) ?_ (fun fr3 g1 hF2 => ?_)
  · rcases Bool.eq_false_or_eq_true (decide (500 < (a.length : Int))) with hg4 | hg4
    · skip
      refine Ops.no rfl T.get_same hg4 rfl ?_
      refine Ops.no rfl (T.get_skip rfl T.get_same) hg4 rfl ?_
      refine Ops.no rfl (T.get_skip rfl (T.get_skip rfl T.get_same)) hg4 rfl ?_
      refine Ops.val (Val.pickT (T.get_skip rfl (T.get_skip rfl (T.get_skip rfl T.get_same))) hg4 rfl) rfl ?_
      exact Ops.nil ⟨T.get_same.trans (cutOT hg4), fun t ht => (T.get_skip (el ht rfl) (T.get_skip (el ht rfl) (T.get_skip (el ht rfl) (T.get_skip (el ht rfl) rfl)))), rfl⟩
    · skip
      have p5 := of_decide_eq_false hg4
      refine Ops.yes rfl T.get_same hg4 ?_
      refine Ops.val (Val.move (T.get_skip rfl (T.get_skip rfl (T.get_skip rfl (T.get_skip rfl (T.get_skip rfl (T.get_skip rfl T.get_same))))))) rfl ?_
      refine Ops.yes rfl (T.get_skip rfl T.get_same) hg4 ?_
      refine Ops.val (Val.slen Try.underlying9 T.get_same) rfl ?_
      refine Ops.yes rfl (T.get_skip rfl (T.get_skip rfl T.get_same)) hg4 ?_
      refine Ops.val (Val.gtr T.get_same rfl) rfl ?_
      refine Ops.val (Val.pickF (T.get_skip rfl (T.get_skip rfl (T.get_skip rfl T.get_same))) hg4 T.get_same) rfl ?_
      exact Ops.nil ⟨T.get_same.trans (cutOF hg4), fun t ht => (T.get_skip (el ht rfl) (T.get_skip (el ht rfl) (T.get_skip (el ht rfl) (T.get_skip (el ht rfl) rfl)))), rfl⟩
  refine Ops.val (Val.move g1) rfl ?_
  refine Ops.cutN 4 [21, 22, 23, 24] 24 (.b (((decide (500 < (a.length : Int))) || (decide (500 < (b.length : Int)))) || (decide (500 < (c.length : Int))))) ?_ (fun fr8 g6 hF7 => ?_)
  · rcases Bool.eq_false_or_eq_true ((decide (500 < (a.length : Int))) || (decide (500 < (b.length : Int)))) with hg9 | hg9
    · skip
      refine Ops.no rfl T.get_same hg9 rfl ?_
      refine Ops.no rfl (T.get_skip rfl T.get_same) hg9 rfl ?_
      refine Ops.no rfl (T.get_skip rfl (T.get_skip rfl T.get_same)) hg9 rfl ?_
      refine Ops.val (Val.pickT (T.get_skip rfl (T.get_skip rfl (T.get_skip rfl T.get_same))) hg9 rfl) rfl ?_
      exact Ops.nil ⟨T.get_same.trans (cutOT hg9), fun t ht => (T.get_skip (el ht rfl) (T.get_skip (el ht rfl) (T.get_skip (el ht rfl) (T.get_skip (el ht rfl) rfl)))), rfl⟩
    · skip
      have p11 := of_decide_eq_false (orL hg9)
      have p12 := of_decide_eq_false (orR hg9)
      refine Ops.yes rfl T.get_same hg9 ?_
      refine Ops.val (Val.move (T.get_skip rfl ((hF2 2 rfl).trans (T.get_skip rfl (T.get_skip rfl (T.get_skip rfl (T.get_skip rfl (T.get_skip rfl T.get_same)))))))) rfl ?_
      refine Ops.yes rfl (T.get_skip rfl T.get_same) hg9 ?_
      refine Ops.val (Val.slen Try.underlying9 T.get_same) rfl ?_
      refine Ops.yes rfl (T.get_skip rfl (T.get_skip rfl T.get_same)) hg9 ?_
      refine Ops.val (Val.gtr T.get_same rfl) rfl ?_
      refine Ops.val (Val.pickF (T.get_skip rfl (T.get_skip rfl (T.get_skip rfl T.get_same))) hg9 T.get_same) rfl ?_
      exact Ops.nil ⟨T.get_same.trans (cutOF hg9), fun t ht => (T.get_skip (el ht rfl) (T.get_skip (el ht rfl) (T.get_skip (el ht rfl) (T.get_skip (el ht rfl) rfl)))), rfl⟩
  refine Ops.nil ?_
  refine Wp.cond g6 (fun hc13 => ?_) (fun hc13 => ?_)
  · skip
    have p14 : (((500 < (a.length : Int)) ∨ (500 < (b.length : Int))) ∨ (500 < (c.length : Int))) := orT (iffO iffD iffD) iffD hc13
    refine Wp.seq ?_
    refine Wp.region rfl ?_
    refine Ops.call opnds0 rfl (Ev.known rfl) ?_
    rintro _ _ ⟨rfl, hq⟩
    obtain rfl := Eq.symm hq
    refine Ops.val (Val.assign T.get_same) rfl ?_
    refine Ops.nil ?_
    refine Wp.ret ?_
    show Vm.Fin Try.prog Try.f10 (fun v _ => v = .b true) .ret _ _
    refine Fin.one (.inr rfl) rfl T.get_same ?_
    exact rfl
  · skip
    have p17 := of_decide_eq_false (orL (orL hc13))
    have p18 := of_decide_eq_false (orR (orL hc13))
    have p19 := of_decide_eq_false (orR hc13)
    refine Wp.skip ?_
    refine Wp.seq ?_
    refine Wp.region rfl ?_
    refine Ops.val (Val.move ((hF7 0 rfl).trans (T.get_skip rfl ((hF2 0 rfl).trans (T.get_skip rfl (T.get_skip rfl (T.get_skip rfl (T.get_skip rfl (T.get_skip rfl (T.get_skip rfl (T.get_skip rfl T.get_same))))))))))) rfl ?_
    refine Ops.call (opndsC T.get_same opnds0) rfl (lower_ev _ (by first | assumption | omega | (simp [lowL_len]; omega)) _ (by first | omega | (simp [lowL_len]; omega))) ?_
    rintro _ st20 ⟨rfl, hs21⟩
    have hS := hS.then hs21 (Nat.le_refl _)
    refine Ops.val (Val.assign T.get_same) rfl ?_
    refine Ops.nil ?_
    refine Wp.seq ?_
    refine Wp.seq ?_
    refine Wp.region rfl ?_
    refine Ops.val (Val.move T.get_same) rfl ?_
    refine Ops.call (opndsC T.get_same opnds0) rfl (lower_ev _ (by first | assumption | omega | (simp [lowL_len]; omega)) _ (by first | omega | (simp [lowL_len]; omega))) ?_
    rintro _ st22 ⟨rfl, hs23⟩
    have hS := hS.then hs23 (Nat.le_refl _)
    refine Ops.val (Val.move (T.get_skip rfl (T.get_skip rfl T.get_same))) rfl ?_
    refine Ops.val (Val.sneq (T.get_skip rfl T.get_same) T.get_same) rfl ?_
    refine Ops.val (Val.move T.get_same) rfl ?_
    refine Ops.cutN 6 [33, 34, 35, 36, 37, 38] 38 (.b ((!((lowL (lowL a)) == (lowL a))) || (decide (((lowL a).length : Int) ≠ (a.length : Int))))) ?_ (fun fr26 g24 hF25 => ?_)
    · rcases Bool.eq_false_or_eq_true (!((lowL (lowL a)) == (lowL a))) with hg27 | hg27
      · skip
        refine Ops.no rfl T.get_same hg27 rfl ?_
        refine Ops.no rfl (T.get_skip rfl T.get_same) hg27 rfl ?_
        refine Ops.no rfl (T.get_skip rfl (T.get_skip rfl T.get_same)) hg27 rfl ?_
        refine Ops.no rfl (T.get_skip rfl (T.get_skip rfl (T.get_skip rfl T.get_same))) hg27 rfl ?_
        refine Ops.no rfl (T.get_skip rfl (T.get_skip rfl (T.get_skip rfl (T.get_skip rfl T.get_same)))) hg27 rfl ?_
        refine Ops.val (Val.pickT (T.get_skip rfl (T.get_skip rfl (T.get_skip rfl (T.get_skip rfl (T.get_skip rfl T.get_same))))) hg27 rfl) rfl ?_
        exact Ops.nil ⟨T.get_same.trans (cutOT hg27), fun t ht => (T.get_skip (el ht rfl) (T.get_skip (el ht rfl) (T.get_skip (el ht rfl) (T.get_skip (el ht rfl) (T.get_skip (el ht rfl) (T.get_skip (el ht rfl) rfl)))))), rfl⟩
      · skip
        have p29 : ((lowL (lowL a)) = (lowL a)) := beqT (notB hg27)
        refine Ops.yes rfl T.get_same hg27 ?_
        refine Ops.val (Val.move (T.get_skip rfl (T.get_skip rfl (T.get_skip rfl (T.get_skip rfl (T.get_skip rfl T.get_same)))))) rfl ?_
        refine Ops.yes rfl (T.get_skip rfl T.get_same) hg27 ?_
        refine Ops.val (Val.slen Try.underlying9 T.get_same) rfl ?_
        refine Ops.yes rfl (T.get_skip rfl (T.get_skip rfl T.get_same)) hg27 ?_
        refine Ops.val (Val.move (T.get_skip rfl (T.get_skip rfl (T.get_skip rfl (T.get_skip rfl (T.get_skip rfl (T.get_skip rfl (T.get_skip rfl (T.get_skip rfl (T.get_skip rfl (T.get_skip rfl ((hF7 0 rfl).trans (T.get_skip rfl ((hF2 0 rfl).trans (T.get_skip rfl (T.get_skip rfl (T.get_skip rfl (T.get_skip rfl (T.get_skip rfl (T.get_skip rfl (T.get_skip rfl T.get_same))))))))))))))))))))) rfl ?_
        refine Ops.yes rfl (T.get_skip rfl (T.get_skip rfl (T.get_skip rfl T.get_same))) hg27 ?_
        refine Ops.val (Val.slen Try.underlying9 T.get_same) rfl ?_
        refine Ops.yes rfl (T.get_skip rfl (T.get_skip rfl (T.get_skip rfl (T.get_skip rfl T.get_same)))) hg27 ?_
        refine Ops.val (Val.ineq (T.get_skip rfl (T.get_skip rfl T.get_same)) T.get_same) rfl ?_
        refine Ops.val (Val.pickF (T.get_skip rfl (T.get_skip rfl (T.get_skip rfl (T.get_skip rfl (T.get_skip rfl T.get_same))))) hg27 T.get_same) rfl ?_
        exact Ops.nil ⟨T.get_same.trans (cutOF hg27), fun t ht => (T.get_skip (el ht rfl) (T.get_skip (el ht rfl) (T.get_skip (el ht rfl) (T.get_skip (el ht rfl) (T.get_skip (el ht rfl) (T.get_skip (el ht rfl) rfl)))))), rfl⟩
    refine Ops.val (Val.move g24) rfl ?_
    rcases Bool.eq_false_or_eq_true ((!((lowL (lowL a)) == (lowL a))) || (decide (((lowL a).length : Int) ≠ (a.length : Int)))) with hg30 | hg30
    · skip
      have p31 : ((¬ ((lowL (lowL a)) = (lowL a))) ∨ (((lowL a).length : Int) ≠ (a.length : Int))) := orT (iffN iffE) iffD hg30
      exact (p31.elim (fun q => q (lowL_lowL a)) (fun q => q (by rw [lowL_len]))).elim
    · skip
      have p34 : ((lowL (lowL a)) = (lowL a)) := beqT (notB (orL hg30))
      have p35 := of_decide_eq_false (orR hg30)
      refine Ops.yes rfl T.get_same hg30 ?_
      refine Ops.val (Val.move (T.get_skip rfl ((hF25 0 rfl).trans (T.get_skip rfl (T.get_skip rfl (T.get_skip rfl (T.get_skip rfl (T.get_skip rfl (T.get_skip rfl (T.get_skip rfl (T.get_skip rfl ((hF7 0 rfl).trans (T.get_skip rfl ((hF2 0 rfl).trans (T.get_skip rfl (T.get_skip rfl (T.get_skip rfl (T.get_skip rfl (T.get_skip rfl (T.get_skip rfl (T.get_skip rfl T.get_same))))))))))))))))))))) rfl ?_
      refine Ops.yes rfl (T.get_skip rfl T.get_same) hg30 ?_
      refine Ops.val (Val.move (T.get_skip rfl (T.get_skip rfl ((hF25 1 rfl).trans (T.get_skip rfl (T.get_skip rfl (T.get_skip rfl (T.get_skip rfl (T.get_skip rfl (T.get_skip rfl (T.get_skip rfl (T.get_skip rfl ((hF7 1 rfl).trans (T.get_skip rfl ((hF2 1 rfl).trans (T.get_skip rfl (T.get_skip rfl (T.get_skip rfl (T.get_skip rfl (T.get_skip rfl (T.get_skip rfl T.get_same))))))))))))))))))))) rfl ?_
      refine Ops.yes rfl (T.get_skip rfl (T.get_skip rfl T.get_same)) hg30 ?_
      refine Ops.val (Val.sadd (T.get_skip rfl T.get_same) T.get_same (by first | omega | (simp [Lay1.lowL_len]; omega))) rfl ?_
      refine Ops.yes rfl (T.get_skip rfl (T.get_skip rfl (T.get_skip rfl T.get_same))) hg30 ?_
      refine Ops.call (opndsC T.get_same opnds0) rfl (lower_ev _ (by first | assumption | omega | (simp [lowL_len]; omega)) _ (by first | omega | (simp [lowL_len]; omega))) ?_
      rintro _ st36 ⟨rfl, hs37⟩
      have hS := hS.then hs37 (Nat.le_refl _)
      refine Ops.yes rfl (T.get_skip rfl (T.get_skip rfl (T.get_skip rfl (T.get_skip rfl T.get_same)))) hg30 ?_
      refine Ops.val (Val.move (T.get_skip rfl (T.get_skip rfl (T.get_skip rfl (T.get_skip rfl (T.get_skip rfl ((hF25 7 rfl).trans (T.get_skip rfl (T.get_skip rfl (T.get_skip rfl (T.get_skip rfl (T.get_skip rfl T.get_same)))))))))))) rfl ?_
      refine Ops.yes rfl (T.get_skip rfl (T.get_skip rfl (T.get_skip rfl (T.get_skip rfl (T.get_skip rfl T.get_same))))) hg30 ?_
      refine Ops.val (Val.move (T.get_skip rfl (T.get_skip rfl (T.get_skip rfl (T.get_skip rfl (T.get_skip rfl (T.get_skip rfl ((hF25 1 rfl).trans (T.get_skip rfl (T.get_skip rfl (T.get_skip rfl (T.get_skip rfl (T.get_skip rfl (T.get_skip rfl (T.get_skip rfl (T.get_skip rfl ((hF7 1 rfl).trans (T.get_skip rfl ((hF2 1 rfl).trans (T.get_skip rfl (T.get_skip rfl (T.get_skip rfl (T.get_skip rfl (T.get_skip rfl (T.get_skip rfl T.get_same))))))))))))))))))))))))) rfl ?_
      refine Ops.yes rfl (T.get_skip rfl (T.get_skip rfl (T.get_skip rfl (T.get_skip rfl (T.get_skip rfl (T.get_skip rfl T.get_same)))))) hg30 ?_
      refine Ops.call (opndsC T.get_same opnds0) rfl (lower_ev _ (by first | assumption | omega | (simp [lowL_len]; omega)) _ (by first | omega | (simp [lowL_len]; omega))) ?_
      rintro _ st38 ⟨rfl, hs39⟩
      have hS := hS.then hs39 (Nat.le_refl _)
      refine Ops.yes rfl (T.get_skip rfl (T.get_skip rfl (T.get_skip rfl (T.get_skip rfl (T.get_skip rfl (T.get_skip rfl (T.get_skip rfl T.get_same))))))) hg30 ?_
      refine Ops.val (Val.sadd (T.get_skip rfl (T.get_skip rfl T.get_same)) T.get_same (by first | omega | (simp [Lay1.lowL_len]; omega))) rfl ?_
      refine Ops.yes rfl (T.get_skip rfl (T.get_skip rfl (T.get_skip rfl (T.get_skip rfl (T.get_skip rfl (T.get_skip rfl (T.get_skip rfl (T.get_skip rfl T.get_same)))))))) hg30 ?_
      refine Ops.val (Val.sneq (T.get_skip rfl (T.get_skip rfl (T.get_skip rfl (T.get_skip rfl T.get_same)))) T.get_same) rfl ?_
      refine Ops.val (Val.pickF (T.get_skip rfl (T.get_skip rfl (T.get_skip rfl (T.get_skip rfl (T.get_skip rfl (T.get_skip rfl (T.get_skip rfl (T.get_skip rfl (T.get_skip rfl T.get_same))))))))) hg30 T.get_same) rfl ?_
      refine Ops.val (Val.move T.get_same) rfl ?_
      refine Ops.cutN 5 [51, 52, 53, 54, 55] 55 (.b ((!((lowL (a ++ b)) == ((lowL a) ++ (lowL b)))) || (!(alikeL a (lowL a))))) ?_ (fun fr42 g40 hF41 => ?_)
      · rcases Bool.eq_false_or_eq_true (!((lowL (a ++ b)) == ((lowL a) ++ (lowL b)))) with hg43 | hg43
        · skip
          refine Ops.no rfl T.get_same hg43 rfl ?_
          refine Ops.no rfl (T.get_skip rfl T.get_same) hg43 rfl ?_
          refine Ops.no rfl (T.get_skip rfl (T.get_skip rfl T.get_same)) hg43 rfl ?_
          refine Ops.no rfl (T.get_skip rfl (T.get_skip rfl (T.get_skip rfl T.get_same))) hg43 rfl ?_
          refine Ops.val (Val.pickT (T.get_skip rfl (T.get_skip rfl (T.get_skip rfl (T.get_skip rfl T.get_same)))) hg43 rfl) rfl ?_
          exact Ops.nil ⟨T.get_same.trans (cutOT hg43), fun t ht => (T.get_skip (el ht rfl) (T.get_skip (el ht rfl) (T.get_skip (el ht rfl) (T.get_skip (el ht rfl) (T.get_skip (el ht rfl) rfl))))), rfl⟩
        · skip
          have p45 : ((lowL (a ++ b)) = ((lowL a) ++ (lowL b))) := beqT (notB hg43)
          refine Ops.yes rfl T.get_same hg43 ?_
          refine Ops.val (Val.move (T.get_skip rfl (T.get_skip rfl (T.get_skip rfl (T.get_skip rfl (T.get_skip rfl (T.get_skip rfl (T.get_skip rfl (T.get_skip rfl (T.get_skip rfl (T.get_skip rfl (T.get_skip rfl (T.get_skip rfl ((hF25 0 rfl).trans (T.get_skip rfl (T.get_skip rfl (T.get_skip rfl (T.get_skip rfl (T.get_skip rfl (T.get_skip rfl (T.get_skip rfl (T.get_skip rfl ((hF7 0 rfl).trans (T.get_skip rfl ((hF2 0 rfl).trans (T.get_skip rfl (T.get_skip rfl (T.get_skip rfl (T.get_skip rfl (T.get_skip rfl (T.get_skip rfl (T.get_skip rfl T.get_same)))))))))))))))))))))))))))))))) rfl ?_
          refine Ops.yes rfl (T.get_skip rfl T.get_same) hg43 ?_
          refine Ops.val (Val.move (T.get_skip rfl (T.get_skip rfl (T.get_skip rfl (T.get_skip rfl (T.get_skip rfl (T.get_skip rfl (T.get_skip rfl (T.get_skip rfl (T.get_skip rfl (T.get_skip rfl (T.get_skip rfl (T.get_skip rfl (T.get_skip rfl ((hF25 7 rfl).trans (T.get_skip rfl (T.get_skip rfl (T.get_skip rfl (T.get_skip rfl (T.get_skip rfl T.get_same)))))))))))))))))))) rfl ?_
          refine Ops.yes rfl (T.get_skip rfl (T.get_skip rfl T.get_same)) hg43 ?_
          refine Ops.call (opndsC (T.get_skip rfl T.get_same) (opndsC T.get_same opnds0)) rfl (alike_ev _ _ (by first | assumption | omega | (simp; omega)) _ (by omega)) ?_
          rintro _ _ ⟨rfl, hq⟩
          obtain rfl := Eq.symm hq
          refine Ops.yes rfl (T.get_skip rfl (T.get_skip rfl (T.get_skip rfl T.get_same))) hg43 ?_
          refine Ops.val (Val.not T.get_same) rfl ?_
          refine Ops.val (Val.pickF (T.get_skip rfl (T.get_skip rfl (T.get_skip rfl (T.get_skip rfl T.get_same)))) hg43 T.get_same) rfl ?_
          exact Ops.nil ⟨T.get_same.trans (cutOF hg43), fun t ht => (T.get_skip (el ht rfl) (T.get_skip (el ht rfl) (T.get_skip (el ht rfl) (T.get_skip (el ht rfl) (T.get_skip (el ht rfl) rfl))))), rfl⟩
      refine Ops.nil ?_
      refine Wp.cond g40 (fun hc46 => ?_) (fun hc46 => ?_)
      · skip
        have p47 : ((¬ ((lowL (a ++ b)) = ((lowL a) ++ (lowL b)))) ∨ (¬ ((alikeL a (lowL a)) = true))) := orT (iffN iffE) (iffN Iff.rfl) hc46
        exact (p47.elim (fun q => q (lowL_app a b)) (fun q => q (alike_low a))).elim
      · skip
        have p50 : ((lowL (a ++ b)) = ((lowL a) ++ (lowL b))) := beqT (notB (orL hc46))
        have p52 := (notB (orR hc46))
        refine Wp.skip ?_
        refine Wp.seq ?_
        refine Wp.seq ?_
        refine Wp.region rfl ?_
        refine Ops.val (Val.assign rfl) rfl ?_
        refine Ops.nil ?_
        refine Wp.block ?_
        refine Wp.rebase (fun fr53 hF54 => ?_)
        have g55 := (hF54 0).trans (T.get_skip rfl ((hF41 0 rfl).trans (T.get_skip rfl (T.get_skip rfl (T.get_skip rfl (T.get_skip rfl (T.get_skip rfl (T.get_skip rfl (T.get_skip rfl (T.get_skip rfl (T.get_skip rfl (T.get_skip rfl (T.get_skip rfl (T.get_skip rfl ((hF25 0 rfl).trans (T.get_skip rfl (T.get_skip rfl (T.get_skip rfl (T.get_skip rfl (T.get_skip rfl (T.get_skip rfl (T.get_skip rfl (T.get_skip rfl ((hF7 0 rfl).trans (T.get_skip rfl ((hF2 0 rfl).trans (T.get_skip rfl (T.get_skip rfl (T.get_skip rfl (T.get_skip rfl (T.get_skip rfl (T.get_skip rfl (T.get_skip rfl T.get_same)))))))))))))))))))))))))))))))))
        have g56 := (hF54 1).trans (T.get_skip rfl ((hF41 1 rfl).trans (T.get_skip rfl (T.get_skip rfl (T.get_skip rfl (T.get_skip rfl (T.get_skip rfl (T.get_skip rfl (T.get_skip rfl (T.get_skip rfl (T.get_skip rfl (T.get_skip rfl (T.get_skip rfl (T.get_skip rfl ((hF25 1 rfl).trans (T.get_skip rfl (T.get_skip rfl (T.get_skip rfl (T.get_skip rfl (T.get_skip rfl (T.get_skip rfl (T.get_skip rfl (T.get_skip rfl ((hF7 1 rfl).trans (T.get_skip rfl ((hF2 1 rfl).trans (T.get_skip rfl (T.get_skip rfl (T.get_skip rfl (T.get_skip rfl (T.get_skip rfl (T.get_skip rfl T.get_same))))))))))))))))))))))))))))))))
        have g57 := (hF54 2).trans (T.get_skip rfl ((hF41 2 rfl).trans (T.get_skip rfl (T.get_skip rfl (T.get_skip rfl (T.get_skip rfl (T.get_skip rfl (T.get_skip rfl (T.get_skip rfl (T.get_skip rfl (T.get_skip rfl (T.get_skip rfl (T.get_skip rfl (T.get_skip rfl ((hF25 2 rfl).trans (T.get_skip rfl (T.get_skip rfl (T.get_skip rfl (T.get_skip rfl (T.get_skip rfl (T.get_skip rfl (T.get_skip rfl (T.get_skip rfl ((hF7 2 rfl).trans (T.get_skip rfl ((hF2 2 rfl).trans (T.get_skip rfl (T.get_skip rfl (T.get_skip rfl (T.get_skip rfl (T.get_skip rfl T.get_same)))))))))))))))))))))))))))))))
        have g58 := (hF54 7).trans (T.get_skip rfl ((hF41 7 rfl).trans (T.get_skip rfl (T.get_skip rfl (T.get_skip rfl (T.get_skip rfl (T.get_skip rfl (T.get_skip rfl (T.get_skip rfl (T.get_skip rfl (T.get_skip rfl (T.get_skip rfl (T.get_skip rfl (T.get_skip rfl ((hF25 7 rfl).trans (T.get_skip rfl (T.get_skip rfl (T.get_skip rfl (T.get_skip rfl (T.get_skip rfl T.get_same))))))))))))))))))))
        have g59 := (hF54 12).trans (T.get_skip rfl ((hF41 12 rfl).trans (T.get_skip rfl (T.get_skip rfl (T.get_skip rfl (T.get_skip rfl (T.get_skip rfl (T.get_skip rfl (T.get_skip rfl (T.get_skip rfl (T.get_skip rfl (T.get_skip rfl (T.get_skip rfl (T.get_skip rfl ((hF25 12 rfl).trans (T.get_skip rfl (T.get_skip rfl (T.get_skip rfl (T.get_skip rfl (T.get_skip rfl (T.get_skip rfl (T.get_skip rfl (T.get_skip rfl ((hF7 12 rfl).trans (T.get_skip rfl ((hF2 12 rfl).trans (T.get_skip rfl (T.get_skip rfl (T.get_skip rfl T.get_same)))))))))))))))))))))))))))))
        have g60 := (hF54 13).trans (T.get_skip rfl ((hF41 13 rfl).trans (T.get_skip rfl (T.get_skip rfl (T.get_skip rfl (T.get_skip rfl (T.get_skip rfl (T.get_skip rfl (T.get_skip rfl (T.get_skip rfl (T.get_skip rfl (T.get_skip rfl (T.get_skip rfl (T.get_skip rfl ((hF25 13 rfl).trans (T.get_skip rfl (T.get_skip rfl (T.get_skip rfl (T.get_skip rfl (T.get_skip rfl (T.get_skip rfl (T.get_skip rfl (T.get_skip rfl ((hF7 13 rfl).trans (T.get_skip rfl ((hF2 13 rfl).trans (T.get_skip rfl (T.get_skip rfl T.get_same))))))))))))))))))))))))))))
        have g61 := (hF54 14).trans (T.get_skip rfl ((hF41 14 rfl).trans (T.get_skip rfl (T.get_skip rfl (T.get_skip rfl (T.get_skip rfl (T.get_skip rfl (T.get_skip rfl (T.get_skip rfl (T.get_skip rfl (T.get_skip rfl (T.get_skip rfl (T.get_skip rfl (T.get_skip rfl ((hF25 14 rfl).trans (T.get_skip rfl (T.get_skip rfl (T.get_skip rfl (T.get_skip rfl (T.get_skip rfl (T.get_skip rfl (T.get_skip rfl (T.get_skip rfl ((hF7 14 rfl).trans (T.get_skip rfl ((hF2 14 rfl).trans (T.get_skip rfl T.get_same)))))))))))))))))))))))))))
        have g62 := (hF54 15).trans (T.get_skip rfl ((hF41 15 rfl).trans (T.get_skip rfl (T.get_skip rfl (T.get_skip rfl (T.get_skip rfl (T.get_skip rfl (T.get_skip rfl (T.get_skip rfl (T.get_skip rfl (T.get_skip rfl (T.get_skip rfl (T.get_skip rfl (T.get_skip rfl ((hF25 15 rfl).trans (T.get_skip rfl (T.get_skip rfl (T.get_skip rfl (T.get_skip rfl (T.get_skip rfl (T.get_skip rfl (T.get_skip rfl (T.get_skip rfl ((hF7 15 rfl).trans (T.get_skip rfl ((hF2 15 rfl).trans T.get_same))))))))))))))))))))))))))
        have g63 := (hF54 19).trans (T.get_skip rfl ((hF41 19 rfl).trans (T.get_skip rfl (T.get_skip rfl (T.get_skip rfl (T.get_skip rfl (T.get_skip rfl (T.get_skip rfl (T.get_skip rfl (T.get_skip rfl (T.get_skip rfl (T.get_skip rfl (T.get_skip rfl (T.get_skip rfl ((hF25 19 rfl).trans (T.get_skip rfl (T.get_skip rfl (T.get_skip rfl (T.get_skip rfl (T.get_skip rfl (T.get_skip rfl (T.get_skip rfl (T.get_skip rfl ((hF7 19 rfl).trans (T.get_skip rfl g1)))))))))))))))))))))))))
        have g64 := (hF54 20).trans (T.get_skip rfl ((hF41 20 rfl).trans (T.get_skip rfl (T.get_skip rfl (T.get_skip rfl (T.get_skip rfl (T.get_skip rfl (T.get_skip rfl (T.get_skip rfl (T.get_skip rfl (T.get_skip rfl (T.get_skip rfl (T.get_skip rfl (T.get_skip rfl ((hF25 20 rfl).trans (T.get_skip rfl (T.get_skip rfl (T.get_skip rfl (T.get_skip rfl (T.get_skip rfl (T.get_skip rfl (T.get_skip rfl (T.get_skip rfl ((hF7 20 rfl).trans T.get_same))))))))))))))))))))))))
        have g65 := (hF54 24).trans (T.get_skip rfl ((hF41 24 rfl).trans (T.get_skip rfl (T.get_skip rfl (T.get_skip rfl (T.get_skip rfl (T.get_skip rfl (T.get_skip rfl (T.get_skip rfl (T.get_skip rfl (T.get_skip rfl (T.get_skip rfl (T.get_skip rfl (T.get_skip rfl ((hF25 24 rfl).trans (T.get_skip rfl (T.get_skip rfl (T.get_skip rfl (T.get_skip rfl (T.get_skip rfl (T.get_skip rfl (T.get_skip rfl (T.get_skip rfl g6)))))))))))))))))))))))
        have g66 := (hF54 26).trans (T.get_skip rfl ((hF41 26 rfl).trans (T.get_skip rfl (T.get_skip rfl (T.get_skip rfl (T.get_skip rfl (T.get_skip rfl (T.get_skip rfl (T.get_skip rfl (T.get_skip rfl (T.get_skip rfl (T.get_skip rfl (T.get_skip rfl (T.get_skip rfl ((hF25 26 rfl).trans (T.get_skip rfl (T.get_skip rfl (T.get_skip rfl (T.get_skip rfl (T.get_skip rfl (T.get_skip rfl (T.get_skip rfl T.get_same))))))))))))))))))))))
        have g67 := (hF54 27).trans (T.get_skip rfl ((hF41 27 rfl).trans (T.get_skip rfl (T.get_skip rfl (T.get_skip rfl (T.get_skip rfl (T.get_skip rfl (T.get_skip rfl (T.get_skip rfl (T.get_skip rfl (T.get_skip rfl (T.get_skip rfl (T.get_skip rfl (T.get_skip rfl ((hF25 27 rfl).trans (T.get_skip rfl (T.get_skip rfl (T.get_skip rfl (T.get_skip rfl (T.get_skip rfl (T.get_skip rfl T.get_same)))))))))))))))))))))
        have g68 := (hF54 28).trans (T.get_skip rfl ((hF41 28 rfl).trans (T.get_skip rfl (T.get_skip rfl (T.get_skip rfl (T.get_skip rfl (T.get_skip rfl (T.get_skip rfl (T.get_skip rfl (T.get_skip rfl (T.get_skip rfl (T.get_skip rfl (T.get_skip rfl (T.get_skip rfl ((hF25 28 rfl).trans (T.get_skip rfl (T.get_skip rfl (T.get_skip rfl (T.get_skip rfl T.get_same)))))))))))))))))))
        have g69 := (hF54 29).trans (T.get_skip rfl ((hF41 29 rfl).trans (T.get_skip rfl (T.get_skip rfl (T.get_skip rfl (T.get_skip rfl (T.get_skip rfl (T.get_skip rfl (T.get_skip rfl (T.get_skip rfl (T.get_skip rfl (T.get_skip rfl (T.get_skip rfl (T.get_skip rfl ((hF25 29 rfl).trans (T.get_skip rfl (T.get_skip rfl (T.get_skip rfl T.get_same))))))))))))))))))
        have g70 := (hF54 30).trans (T.get_skip rfl ((hF41 30 rfl).trans (T.get_skip rfl (T.get_skip rfl (T.get_skip rfl (T.get_skip rfl (T.get_skip rfl (T.get_skip rfl (T.get_skip rfl (T.get_skip rfl (T.get_skip rfl (T.get_skip rfl (T.get_skip rfl (T.get_skip rfl ((hF25 30 rfl).trans (T.get_skip rfl (T.get_skip rfl T.get_same)))))))))))))))))
        have g71 := (hF54 31).trans (T.get_skip rfl ((hF41 31 rfl).trans (T.get_skip rfl (T.get_skip rfl (T.get_skip rfl (T.get_skip rfl (T.get_skip rfl (T.get_skip rfl (T.get_skip rfl (T.get_skip rfl (T.get_skip rfl (T.get_skip rfl (T.get_skip rfl (T.get_skip rfl ((hF25 31 rfl).trans (T.get_skip rfl T.get_same))))))))))))))))
        have g72 := (hF54 32).trans (T.get_skip rfl ((hF41 32 rfl).trans (T.get_skip rfl (T.get_skip rfl (T.get_skip rfl (T.get_skip rfl (T.get_skip rfl (T.get_skip rfl (T.get_skip rfl (T.get_skip rfl (T.get_skip rfl (T.get_skip rfl (T.get_skip rfl (T.get_skip rfl ((hF25 32 rfl).trans T.get_same)))))))))))))))
        have g73 := (hF54 38).trans (T.get_skip rfl ((hF41 38 rfl).trans (T.get_skip rfl (T.get_skip rfl (T.get_skip rfl (T.get_skip rfl (T.get_skip rfl (T.get_skip rfl (T.get_skip rfl (T.get_skip rfl (T.get_skip rfl (T.get_skip rfl (T.get_skip rfl (T.get_skip rfl g24))))))))))))))
        have g74 := (hF54 39).trans (T.get_skip rfl ((hF41 39 rfl).trans (T.get_skip rfl (T.get_skip rfl (T.get_skip rfl (T.get_skip rfl (T.get_skip rfl (T.get_skip rfl (T.get_skip rfl (T.get_skip rfl (T.get_skip rfl (T.get_skip rfl (T.get_skip rfl T.get_same)))))))))))))
        have g75 := (hF54 40).trans (T.get_skip rfl ((hF41 40 rfl).trans (T.get_skip rfl (T.get_skip rfl (T.get_skip rfl (T.get_skip rfl (T.get_skip rfl (T.get_skip rfl (T.get_skip rfl (T.get_skip rfl (T.get_skip rfl (T.get_skip rfl T.get_same))))))))))))
        have g76 := (hF54 41).trans (T.get_skip rfl ((hF41 41 rfl).trans (T.get_skip rfl (T.get_skip rfl (T.get_skip rfl (T.get_skip rfl (T.get_skip rfl (T.get_skip rfl (T.get_skip rfl (T.get_skip rfl (T.get_skip rfl T.get_same)))))))))))
        have g77 := (hF54 42).trans (T.get_skip rfl ((hF41 42 rfl).trans (T.get_skip rfl (T.get_skip rfl (T.get_skip rfl (T.get_skip rfl (T.get_skip rfl (T.get_skip rfl (T.get_skip rfl (T.get_skip rfl T.get_same))))))))))
        have g78 := (hF54 43).trans (T.get_skip rfl ((hF41 43 rfl).trans (T.get_skip rfl (T.get_skip rfl (T.get_skip rfl (T.get_skip rfl (T.get_skip rfl (T.get_skip rfl (T.get_skip rfl T.get_same)))))))))
        have g79 := (hF54 44).trans (T.get_skip rfl ((hF41 44 rfl).trans (T.get_skip rfl (T.get_skip rfl (T.get_skip rfl (T.get_skip rfl (T.get_skip rfl (T.get_skip rfl T.get_same))))))))
        have g80 := (hF54 45).trans (T.get_skip rfl ((hF41 45 rfl).trans (T.get_skip rfl (T.get_skip rfl (T.get_skip rfl (T.get_skip rfl (T.get_skip rfl T.get_same)))))))
        have g81 := (hF54 46).trans (T.get_skip rfl ((hF41 46 rfl).trans (T.get_skip rfl (T.get_skip rfl (T.get_skip rfl (T.get_skip rfl T.get_same))))))
        have g82 := (hF54 47).trans (T.get_skip rfl ((hF41 47 rfl).trans (T.get_skip rfl (T.get_skip rfl (T.get_skip rfl T.get_same)))))
        have g83 := (hF54 48).trans (T.get_skip rfl ((hF41 48 rfl).trans (T.get_skip rfl (T.get_skip rfl T.get_same))))
        have g84 := (hF54 49).trans (T.get_skip rfl ((hF41 49 rfl).trans (T.get_skip rfl T.get_same)))
        have g85 := (hF54 50).trans (T.get_skip rfl ((hF41 50 rfl).trans T.get_same))
        have g86 := (hF54 55).trans (T.get_skip rfl g40)
        refine Wp.loop (I := fun k fr sx => ∃ (i : Nat), (i ≤ a.length) ∧ k = a.length - i ∧ fr.get 8 = some (.i .i64 ((i : Int))) ∧ (∀ t, [6, 8, 56, 57, 58, 59, 60, 61, 62, 63, 64, 65, 66, 67, 68, 69, 70, 71, 72, 73, 74, 75, 76, 77, 78, 79, 80, 81, 82, 83, 84, 85, 86, 87, 88, 89, 90, 91, 92, 93, 94, 95, 96, 97, 98, 99, 100, 101, 102, 103, 104, 105, 106, 107, 108, 109, 110, 111].elem t = false → fr.get t = fr53.get t) ∧ st38 = sx) a.length (by omega) ⟨0, (by omega), rfl, (hF54 8).trans T.get_same, fun t _ => rfl, rfl⟩ (fun k fr sx hI => ?_)
        obtain ⟨i, hi, rfl, g87, hW88, rfl⟩ := hI
        refine Wp.seq ?_
        refine Wp.seq ?_
        refine Wp.region rfl ?_
        refine Ops.val (Val.move g87) rfl ?_
        refine Ops.val (Val.move (T.get_skip rfl ((hW88 0 rfl).trans g55))) rfl ?_
        refine Ops.val (Val.slen Try.underlying9 T.get_same) rfl ?_
        refine Ops.val (Val.lss (T.get_skip rfl (T.get_skip rfl T.get_same)) T.get_same) rfl ?_
        refine Ops.nil ?_
        refine Wp.cond T.get_same (fun hc89 => ?_) (fun hc89 => ?_)
        · skip
          have p90 := of_decide_eq_true hc89
          refine Wp.skip ?_
          refine Wp.seq ?_
          refine Wp.block ?_
          refine Wp.seq ?_
          refine Wp.regionQ (by decide +kernel) rfl ?_
          refine OpsQ.val (Val.move (T.get_skip rfl (T.get_skip rfl (T.get_skip rfl (T.get_skip rfl ((hW88 7 rfl).trans g58)))))) rfl ?_
          refine OpsQ.val (Val.move (T.get_skip rfl (T.get_skip rfl (T.get_skip rfl (T.get_skip rfl (T.get_skip rfl g87)))))) rfl ?_
          refine OpsQ.val (Val.sidx (i := i) Try.underlying9 (T.get_skip rfl T.get_same) T.get_same (by omega)) rfl ?_
          refine OpsQ.val (Val.move (T.get_skip rfl (T.get_skip rfl (T.get_skip rfl (T.get_skip rfl (T.get_skip rfl (T.get_skip rfl (T.get_skip rfl ((hW88 0 rfl).trans g55))))))))) rfl ?_
          refine OpsQ.val (Val.move (T.get_skip rfl (T.get_skip rfl (T.get_skip rfl (T.get_skip rfl (T.get_skip rfl (T.get_skip rfl (T.get_skip rfl (T.get_skip rfl g87))))))))) rfl ?_
          refine OpsQ.val (Val.sidx (i := i) Try.underlying9 (T.get_skip rfl T.get_same) T.get_same (by omega)) rfl ?_
          refine OpsQ.val (Val.ineq (T.get_skip rfl (T.get_skip rfl (T.get_skip rfl T.get_same))) T.get_same) rfl ?_
          refine OpsQ.val (Val.move T.get_same) rfl ?_
          refine OpsQ.cutN 21 [70, 71, 72, 73, 74, 75, 76, 77, 78, 79, 80, 81, 82, 83, 84, 85, 86, 87, 88, 89, 90] 90 (.b ((decide ((((lowL a).getD i 0).toNat : Int) ≠ ((a.getD i 0).toNat : Int))) && (((decide (((a.getD i 0).toNat : Int) < 65)) || (decide (90 < ((a.getD i 0).toNat : Int)))) || (decide ((((lowL a).getD i 0).toNat : Int) ≠ (((a.getD i 0).toNat : Int) + 32)))))) ?_ (fun fr93 g91 hF92 => ?_)
          · rcases Bool.eq_false_or_eq_true (decide ((((lowL a).getD i 0).toNat : Int) ≠ ((a.getD i 0).toNat : Int))) with hg94 | hg94
            · skip
              have p95 := of_decide_eq_true hg94
              refine OpsQ.yes rfl T.get_same hg94 ?_
              refine OpsQ.val (Val.move (T.get_skip rfl (T.get_skip rfl (T.get_skip rfl (T.get_skip rfl (T.get_skip rfl (T.get_skip rfl (T.get_skip rfl (T.get_skip rfl (T.get_skip rfl (T.get_skip rfl (T.get_skip rfl (T.get_skip rfl ((hW88 0 rfl).trans g55)))))))))))))) rfl ?_
              refine OpsQ.yes rfl (T.get_skip rfl T.get_same) hg94 ?_
              refine OpsQ.val (Val.move (T.get_skip rfl (T.get_skip rfl (T.get_skip rfl (T.get_skip rfl (T.get_skip rfl (T.get_skip rfl (T.get_skip rfl (T.get_skip rfl (T.get_skip rfl (T.get_skip rfl (T.get_skip rfl (T.get_skip rfl (T.get_skip rfl g87)))))))))))))) rfl ?_
              refine OpsQ.yes rfl (T.get_skip rfl (T.get_skip rfl T.get_same)) hg94 ?_
              refine OpsQ.val (Val.sidx (i := i) Try.underlying9 (T.get_skip rfl T.get_same) T.get_same (by omega)) rfl ?_
              refine OpsQ.yes rfl (T.get_skip rfl (T.get_skip rfl (T.get_skip rfl T.get_same))) hg94 ?_
              refine OpsQ.val (Val.lss T.get_same rfl) rfl ?_
              refine OpsQ.yes rfl (T.get_skip rfl (T.get_skip rfl (T.get_skip rfl (T.get_skip rfl T.get_same)))) hg94 ?_
              refine OpsQ.val (Val.move T.get_same) rfl ?_
              refine OpsQ.cutN 5 [75, 76, 77, 78, 79] 79 (.b ((decide (((a.getD i 0).toNat : Int) < 65)) || (decide (90 < ((a.getD i 0).toNat : Int))))) ?_ (fun fr98 g96 hF97 => ?_)
              · rcases Bool.eq_false_or_eq_true (decide (((a.getD i 0).toNat : Int) < 65)) with hg99 | hg99
                · skip
                  refine OpsQ.no rfl T.get_same hg99 rfl ?_
                  refine OpsQ.no rfl (T.get_skip rfl T.get_same) hg99 rfl ?_
                  refine OpsQ.no rfl (T.get_skip rfl (T.get_skip rfl T.get_same)) hg99 rfl ?_
                  refine OpsQ.no rfl (T.get_skip rfl (T.get_skip rfl (T.get_skip rfl T.get_same))) hg99 rfl ?_
                  refine OpsQ.yes rfl (T.get_skip rfl (T.get_skip rfl (T.get_skip rfl (T.get_skip rfl (T.get_skip rfl (T.get_skip rfl (T.get_skip rfl (T.get_skip rfl (T.get_skip rfl T.get_same))))))))) hg94 ?_
                  refine OpsQ.val (Val.pickT (T.get_skip rfl (T.get_skip rfl (T.get_skip rfl (T.get_skip rfl T.get_same)))) hg99 rfl) rfl ?_
                  exact OpsQ.nil ⟨T.get_same.trans (cutOT hg99), fun t ht => (T.get_skip (el ht rfl) (T.get_skip (el ht rfl) (T.get_skip (el ht rfl) (T.get_skip (el ht rfl) (T.get_skip (el ht rfl) rfl)))))⟩
                · skip
                  have p100 := of_decide_eq_false hg99
                  refine OpsQ.yes rfl T.get_same hg99 ?_
                  refine OpsQ.val (Val.move (T.get_skip rfl (T.get_skip rfl (T.get_skip rfl (T.get_skip rfl (T.get_skip rfl (T.get_skip rfl (T.get_skip rfl (T.get_skip rfl (T.get_skip rfl (T.get_skip rfl (T.get_skip rfl (T.get_skip rfl (T.get_skip rfl (T.get_skip rfl (T.get_skip rfl (T.get_skip rfl (T.get_skip rfl ((hW88 0 rfl).trans g55))))))))))))))))))) rfl ?_
                  refine OpsQ.yes rfl (T.get_skip rfl T.get_same) hg99 ?_
                  refine OpsQ.val (Val.move (T.get_skip rfl (T.get_skip rfl (T.get_skip rfl (T.get_skip rfl (T.get_skip rfl (T.get_skip rfl (T.get_skip rfl (T.get_skip rfl (T.get_skip rfl (T.get_skip rfl (T.get_skip rfl (T.get_skip rfl (T.get_skip rfl (T.get_skip rfl (T.get_skip rfl (T.get_skip rfl (T.get_skip rfl (T.get_skip rfl g87))))))))))))))))))) rfl ?_
                  refine OpsQ.yes rfl (T.get_skip rfl (T.get_skip rfl T.get_same)) hg99 ?_
                  refine OpsQ.val (Val.sidx (i := i) Try.underlying9 (T.get_skip rfl T.get_same) T.get_same (by omega)) rfl ?_
                  refine OpsQ.yes rfl (T.get_skip rfl (T.get_skip rfl (T.get_skip rfl T.get_same))) hg99 ?_
                  refine OpsQ.val (Val.gtr T.get_same rfl) rfl ?_
                  refine OpsQ.yes rfl (T.get_skip rfl (T.get_skip rfl (T.get_skip rfl (T.get_skip rfl (T.get_skip rfl (T.get_skip rfl (T.get_skip rfl (T.get_skip rfl (T.get_skip rfl T.get_same))))))))) hg94 ?_
                  refine OpsQ.val (Val.pickF (T.get_skip rfl (T.get_skip rfl (T.get_skip rfl (T.get_skip rfl T.get_same)))) hg99 T.get_same) rfl ?_
                  exact OpsQ.nil ⟨T.get_same.trans (cutOF hg99), fun t ht => (T.get_skip (el ht rfl) (T.get_skip (el ht rfl) (T.get_skip (el ht rfl) (T.get_skip (el ht rfl) (T.get_skip (el ht rfl) rfl)))))⟩
              refine OpsQ.yes rfl ((hF97 69 rfl).trans (T.get_skip rfl (T.get_skip rfl (T.get_skip rfl (T.get_skip rfl (T.get_skip rfl T.get_same)))))) hg94 ?_
              refine OpsQ.val (Val.move g96) rfl ?_
              refine OpsQ.cutN 9 [81, 82, 83, 84, 85, 86, 87, 88, 89] 89 (.b (((decide (((a.getD i 0).toNat : Int) < 65)) || (decide (90 < ((a.getD i 0).toNat : Int)))) || (decide ((((lowL a).getD i 0).toNat : Int) ≠ (((a.getD i 0).toNat : Int) + 32))))) ?_ (fun fr103 g101 hF102 => ?_)
              · rcases Bool.eq_false_or_eq_true ((decide (((a.getD i 0).toNat : Int) < 65)) || (decide (90 < ((a.getD i 0).toNat : Int)))) with hg104 | hg104
                · skip
                  refine OpsQ.no rfl T.get_same hg104 rfl ?_
                  refine OpsQ.no rfl (T.get_skip rfl T.get_same) hg104 rfl ?_
                  refine OpsQ.no rfl (T.get_skip rfl (T.get_skip rfl T.get_same)) hg104 rfl ?_
                  refine OpsQ.no rfl (T.get_skip rfl (T.get_skip rfl (T.get_skip rfl T.get_same))) hg104 rfl ?_
                  refine OpsQ.no rfl (T.get_skip rfl (T.get_skip rfl (T.get_skip rfl (T.get_skip rfl T.get_same)))) hg104 rfl ?_
                  refine OpsQ.no rfl (T.get_skip rfl (T.get_skip rfl (T.get_skip rfl (T.get_skip rfl (T.get_skip rfl T.get_same))))) hg104 rfl ?_
                  refine OpsQ.no rfl (T.get_skip rfl (T.get_skip rfl (T.get_skip rfl (T.get_skip rfl (T.get_skip rfl (T.get_skip rfl T.get_same)))))) hg104 rfl ?_
                  refine OpsQ.no rfl (T.get_skip rfl (T.get_skip rfl (T.get_skip rfl (T.get_skip rfl (T.get_skip rfl (T.get_skip rfl (T.get_skip rfl T.get_same))))))) hg104 rfl ?_
                  refine OpsQ.yes rfl (T.get_skip rfl (T.get_skip rfl (T.get_skip rfl (T.get_skip rfl (T.get_skip rfl (T.get_skip rfl (T.get_skip rfl (T.get_skip rfl (T.get_skip rfl ((hF97 69 rfl).trans (T.get_skip rfl (T.get_skip rfl (T.get_skip rfl (T.get_skip rfl (T.get_skip rfl T.get_same))))))))))))))) hg94 ?_
                  refine OpsQ.val (Val.pickT (T.get_skip rfl (T.get_skip rfl (T.get_skip rfl (T.get_skip rfl (T.get_skip rfl (T.get_skip rfl (T.get_skip rfl (T.get_skip rfl T.get_same)))))))) hg104 rfl) rfl ?_
                  exact OpsQ.nil ⟨T.get_same.trans (cutOT hg104), fun t ht => (T.get_skip (el ht rfl) (T.get_skip (el ht rfl) (T.get_skip (el ht rfl) (T.get_skip (el ht rfl) (T.get_skip (el ht rfl) (T.get_skip (el ht rfl) (T.get_skip (el ht rfl) (T.get_skip (el ht rfl) (T.get_skip (el ht rfl) rfl)))))))))⟩
                · skip
                  have p106 := of_decide_eq_false (orL hg104)
                  have p107 := of_decide_eq_false (orR hg104)
                  refine OpsQ.yes rfl T.get_same hg104 ?_
                  refine OpsQ.val (Val.move (T.get_skip rfl ((hF97 7 rfl).trans (T.get_skip rfl (T.get_skip rfl (T.get_skip rfl (T.get_skip rfl (T.get_skip rfl (T.get_skip rfl (T.get_skip rfl (T.get_skip rfl (T.get_skip rfl (T.get_skip rfl (T.get_skip rfl (T.get_skip rfl (T.get_skip rfl (T.get_skip rfl (T.get_skip rfl (T.get_skip rfl (T.get_skip rfl ((hW88 7 rfl).trans g58))))))))))))))))))))) rfl ?_
                  refine OpsQ.yes rfl (T.get_skip rfl T.get_same) hg104 ?_
                  refine OpsQ.val (Val.move (T.get_skip rfl (T.get_skip rfl ((hF97 8 rfl).trans (T.get_skip rfl (T.get_skip rfl (T.get_skip rfl (T.get_skip rfl (T.get_skip rfl (T.get_skip rfl (T.get_skip rfl (T.get_skip rfl (T.get_skip rfl (T.get_skip rfl (T.get_skip rfl (T.get_skip rfl (T.get_skip rfl (T.get_skip rfl (T.get_skip rfl (T.get_skip rfl (T.get_skip rfl g87))))))))))))))))))))) rfl ?_
                  refine OpsQ.yes rfl (T.get_skip rfl (T.get_skip rfl T.get_same)) hg104 ?_
                  refine OpsQ.val (Val.sidx (i := i) Try.underlying9 (T.get_skip rfl T.get_same) T.get_same (by omega)) rfl ?_
                  refine OpsQ.yes rfl (T.get_skip rfl (T.get_skip rfl (T.get_skip rfl T.get_same))) hg104 ?_
                  refine OpsQ.val (Val.move (T.get_skip rfl (T.get_skip rfl (T.get_skip rfl (T.get_skip rfl ((hF97 0 rfl).trans (T.get_skip rfl (T.get_skip rfl (T.get_skip rfl (T.get_skip rfl (T.get_skip rfl (T.get_skip rfl (T.get_skip rfl (T.get_skip rfl (T.get_skip rfl (T.get_skip rfl (T.get_skip rfl (T.get_skip rfl (T.get_skip rfl (T.get_skip rfl (T.get_skip rfl (T.get_skip rfl (T.get_skip rfl ((hW88 0 rfl).trans g55)))))))))))))))))))))))) rfl ?_
                  refine OpsQ.yes rfl (T.get_skip rfl (T.get_skip rfl (T.get_skip rfl (T.get_skip rfl T.get_same)))) hg104 ?_
                  refine OpsQ.val (Val.move (T.get_skip rfl (T.get_skip rfl (T.get_skip rfl (T.get_skip rfl (T.get_skip rfl ((hF97 8 rfl).trans (T.get_skip rfl (T.get_skip rfl (T.get_skip rfl (T.get_skip rfl (T.get_skip rfl (T.get_skip rfl (T.get_skip rfl (T.get_skip rfl (T.get_skip rfl (T.get_skip rfl (T.get_skip rfl (T.get_skip rfl (T.get_skip rfl (T.get_skip rfl (T.get_skip rfl (T.get_skip rfl (T.get_skip rfl g87)))))))))))))))))))))))) rfl ?_
                  refine OpsQ.yes rfl (T.get_skip rfl (T.get_skip rfl (T.get_skip rfl (T.get_skip rfl (T.get_skip rfl T.get_same))))) hg104 ?_
                  refine OpsQ.val (Val.sidx (i := i) Try.underlying9 (T.get_skip rfl T.get_same) T.get_same (by omega)) rfl ?_
                  refine OpsQ.yes rfl (T.get_skip rfl (T.get_skip rfl (T.get_skip rfl (T.get_skip rfl (T.get_skip rfl (T.get_skip rfl T.get_same)))))) hg104 ?_
                  refine OpsQ.val (Val.iadd T.get_same rfl (c := (((a.getD i 0).toNat : Int) + 32)) (wrapu8 (by omega) (by omega))) rfl ?_
                  refine OpsQ.yes rfl (T.get_skip rfl (T.get_skip rfl (T.get_skip rfl (T.get_skip rfl (T.get_skip rfl (T.get_skip rfl (T.get_skip rfl T.get_same))))))) hg104 ?_
                  refine OpsQ.val (Val.ineq (T.get_skip rfl (T.get_skip rfl (T.get_skip rfl (T.get_skip rfl T.get_same)))) T.get_same) rfl ?_
                  refine OpsQ.yes rfl (T.get_skip rfl (T.get_skip rfl (T.get_skip rfl (T.get_skip rfl (T.get_skip rfl (T.get_skip rfl (T.get_skip rfl (T.get_skip rfl (T.get_skip rfl ((hF97 69 rfl).trans (T.get_skip rfl (T.get_skip rfl (T.get_skip rfl (T.get_skip rfl (T.get_skip rfl T.get_same))))))))))))))) hg94 ?_
                  refine OpsQ.val (Val.pickF (T.get_skip rfl (T.get_skip rfl (T.get_skip rfl (T.get_skip rfl (T.get_skip rfl (T.get_skip rfl (T.get_skip rfl (T.get_skip rfl T.get_same)))))))) hg104 T.get_same) rfl ?_
                  exact OpsQ.nil ⟨T.get_same.trans (cutOF hg104), fun t ht => (T.get_skip (el ht rfl) (T.get_skip (el ht rfl) (T.get_skip (el ht rfl) (T.get_skip (el ht rfl) (T.get_skip (el ht rfl) (T.get_skip (el ht rfl) (T.get_skip (el ht rfl) (T.get_skip (el ht rfl) (T.get_skip (el ht rfl) rfl)))))))))⟩
              refine OpsQ.val (Val.pickT ((hF102 69 rfl).trans (T.get_skip rfl ((hF97 69 rfl).trans (T.get_skip rfl (T.get_skip rfl (T.get_skip rfl (T.get_skip rfl (T.get_skip rfl T.get_same)))))))) hg94 g101) rfl ?_
              exact OpsQ.nil ⟨T.get_same.trans (cutAT hg94), fun t ht => (T.get_skip (el ht rfl) ((hF102 t (elW ht rfl)).trans (T.get_skip (el ht rfl) ((hF97 t (elW ht rfl)).trans (T.get_skip (el ht rfl) (T.get_skip (el ht rfl) (T.get_skip (el ht rfl) (T.get_skip (el ht rfl) (T.get_skip (el ht rfl) rfl)))))))))⟩
            · skip
              refine OpsQ.no rfl T.get_same hg94 rfl ?_
              refine OpsQ.no rfl (T.get_skip rfl T.get_same) hg94 rfl ?_
              refine OpsQ.no rfl (T.get_skip rfl (T.get_skip rfl T.get_same)) hg94 rfl ?_
              refine OpsQ.no rfl (T.get_skip rfl (T.get_skip rfl (T.get_skip rfl T.get_same))) hg94 rfl ?_
              refine OpsQ.no rfl (T.get_skip rfl (T.get_skip rfl (T.get_skip rfl (T.get_skip rfl T.get_same)))) hg94 rfl ?_
              refine OpsQ.off rfl T.get_same rfl ?_
              refine OpsQ.off rfl (T.get_skip rfl T.get_same) rfl ?_
              refine OpsQ.off rfl (T.get_skip rfl (T.get_skip rfl T.get_same)) rfl ?_
              refine OpsQ.off rfl (T.get_skip rfl (T.get_skip rfl (T.get_skip rfl T.get_same))) rfl ?_
              refine OpsQ.no rfl (T.get_skip rfl (T.get_skip rfl (T.get_skip rfl (T.get_skip rfl (T.get_skip rfl (T.get_skip rfl (T.get_skip rfl (T.get_skip rfl (T.get_skip rfl T.get_same))))))))) hg94 rfl ?_
              refine OpsQ.no rfl (T.get_skip rfl (T.get_skip rfl (T.get_skip rfl (T.get_skip rfl (T.get_skip rfl (T.get_skip rfl (T.get_skip rfl (T.get_skip rfl (T.get_skip rfl (T.get_skip rfl T.get_same)))))))))) hg94 rfl ?_
              refine OpsQ.off rfl T.get_same rfl ?_
              refine OpsQ.off rfl (T.get_skip rfl T.get_same) rfl ?_
              refine OpsQ.off rfl (T.get_skip rfl (T.get_skip rfl T.get_same)) rfl ?_
              refine OpsQ.off rfl (T.get_skip rfl (T.get_skip rfl (T.get_skip rfl T.get_same))) rfl ?_
              refine OpsQ.off rfl (T.get_skip rfl (T.get_skip rfl (T.get_skip rfl (T.get_skip rfl T.get_same)))) rfl ?_
              refine OpsQ.off rfl (T.get_skip rfl (T.get_skip rfl (T.get_skip rfl (T.get_skip rfl (T.get_skip rfl T.get_same))))) rfl ?_
              refine OpsQ.off rfl (T.get_skip rfl (T.get_skip rfl (T.get_skip rfl (T.get_skip rfl (T.get_skip rfl (T.get_skip rfl T.get_same)))))) rfl ?_
              refine OpsQ.off rfl (T.get_skip rfl (T.get_skip rfl (T.get_skip rfl (T.get_skip rfl (T.get_skip rfl (T.get_skip rfl (T.get_skip rfl T.get_same))))))) rfl ?_
              refine OpsQ.no rfl (T.get_skip rfl (T.get_skip rfl (T.get_skip rfl (T.get_skip rfl (T.get_skip rfl (T.get_skip rfl (T.get_skip rfl (T.get_skip rfl (T.get_skip rfl (T.get_skip rfl (T.get_skip rfl (T.get_skip rfl (T.get_skip rfl (T.get_skip rfl (T.get_skip rfl (T.get_skip rfl (T.get_skip rfl (T.get_skip rfl (T.get_skip rfl T.get_same))))))))))))))))))) hg94 rfl ?_
              refine OpsQ.val (Val.pickF (T.get_skip rfl (T.get_skip rfl (T.get_skip rfl (T.get_skip rfl (T.get_skip rfl (T.get_skip rfl (T.get_skip rfl (T.get_skip rfl (T.get_skip rfl (T.get_skip rfl (T.get_skip rfl (T.get_skip rfl (T.get_skip rfl (T.get_skip rfl (T.get_skip rfl (T.get_skip rfl (T.get_skip rfl (T.get_skip rfl (T.get_skip rfl (T.get_skip rfl T.get_same)))))))))))))))))))) hg94 rfl) rfl ?_
              exact OpsQ.nil ⟨T.get_same.trans (cutAF hg94), fun t ht => (T.get_skip (el ht rfl) (T.get_skip (el ht rfl) (T.get_skip (el ht rfl) (T.get_skip (el ht rfl) (T.get_skip (el ht rfl) (T.get_skip (el ht rfl) (T.get_skip (el ht rfl) (T.get_skip (el ht rfl) (T.get_skip (el ht rfl) (T.get_skip (el ht rfl) (T.get_skip (el ht rfl) (T.get_skip (el ht rfl) (T.get_skip (el ht rfl) (T.get_skip (el ht rfl) (T.get_skip (el ht rfl) (T.get_skip (el ht rfl) (T.get_skip (el ht rfl) (T.get_skip (el ht rfl) (T.get_skip (el ht rfl) (T.get_skip (el ht rfl) (T.get_skip (el ht rfl) rfl)))))))))))))))))))))⟩
          refine OpsQ.val (Val.move g91) rfl ?_
          refine OpsQ.cutN 20 [92, 93, 94, 95, 96, 97, 98, 99, 100, 101, 102, 103, 104, 105, 106, 107, 108, 109, 110, 111] 111 (.b (((decide ((((lowL a).getD i 0).toNat : Int) ≠ ((a.getD i 0).toNat : Int))) && (((decide (((a.getD i 0).toNat : Int) < 65)) || (decide (90 < ((a.getD i 0).toNat : Int)))) || (decide ((((lowL a).getD i 0).toNat : Int) ≠ (((a.getD i 0).toNat : Int) + 32))))) || (((decide (65 ≤ ((a.getD i 0).toNat : Int))) && (decide (((a.getD i 0).toNat : Int) ≤ 90))) && (decide ((((lowL a).getD i 0).toNat : Int) = ((a.getD i 0).toNat : Int)))))) ?_ (fun fr110 g108 hF109 => ?_)
          · rcases Bool.eq_false_or_eq_true ((decide ((((lowL a).getD i 0).toNat : Int) ≠ ((a.getD i 0).toNat : Int))) && (((decide (((a.getD i 0).toNat : Int) < 65)) || (decide (90 < ((a.getD i 0).toNat : Int)))) || (decide ((((lowL a).getD i 0).toNat : Int) ≠ (((a.getD i 0).toNat : Int) + 32))))) with hg111 | hg111
            · skip
              refine OpsQ.no rfl T.get_same hg111 rfl ?_
              refine OpsQ.no rfl (T.get_skip rfl T.get_same) hg111 rfl ?_
              refine OpsQ.no rfl (T.get_skip rfl (T.get_skip rfl T.get_same)) hg111 rfl ?_
              refine OpsQ.no rfl (T.get_skip rfl (T.get_skip rfl (T.get_skip rfl T.get_same))) hg111 rfl ?_
              refine OpsQ.no rfl (T.get_skip rfl (T.get_skip rfl (T.get_skip rfl (T.get_skip rfl T.get_same)))) hg111 rfl ?_
              refine OpsQ.off rfl T.get_same rfl ?_
              refine OpsQ.off rfl (T.get_skip rfl T.get_same) rfl ?_
              refine OpsQ.off rfl (T.get_skip rfl (T.get_skip rfl T.get_same)) rfl ?_
              refine OpsQ.off rfl (T.get_skip rfl (T.get_skip rfl (T.get_skip rfl T.get_same))) rfl ?_
              refine OpsQ.no rfl (T.get_skip rfl (T.get_skip rfl (T.get_skip rfl (T.get_skip rfl (T.get_skip rfl (T.get_skip rfl (T.get_skip rfl (T.get_skip rfl (T.get_skip rfl T.get_same))))))))) hg111 rfl ?_
              refine OpsQ.no rfl (T.get_skip rfl (T.get_skip rfl (T.get_skip rfl (T.get_skip rfl (T.get_skip rfl (T.get_skip rfl (T.get_skip rfl (T.get_skip rfl (T.get_skip rfl (T.get_skip rfl T.get_same)))))))))) hg111 rfl ?_
              refine OpsQ.off rfl T.get_same rfl ?_
              refine OpsQ.off rfl (T.get_skip rfl T.get_same) rfl ?_
              refine OpsQ.off rfl (T.get_skip rfl (T.get_skip rfl T.get_same)) rfl ?_
              refine OpsQ.off rfl (T.get_skip rfl (T.get_skip rfl (T.get_skip rfl T.get_same))) rfl ?_
              refine OpsQ.off rfl (T.get_skip rfl (T.get_skip rfl (T.get_skip rfl (T.get_skip rfl T.get_same)))) rfl ?_
              refine OpsQ.off rfl (T.get_skip rfl (T.get_skip rfl (T.get_skip rfl (T.get_skip rfl (T.get_skip rfl T.get_same))))) rfl ?_
              refine OpsQ.off rfl (T.get_skip rfl (T.get_skip rfl (T.get_skip rfl (T.get_skip rfl (T.get_skip rfl (T.get_skip rfl T.get_same)))))) rfl ?_
              refine OpsQ.no rfl (T.get_skip rfl (T.get_skip rfl (T.get_skip rfl (T.get_skip rfl (T.get_skip rfl (T.get_skip rfl (T.get_skip rfl (T.get_skip rfl (T.get_skip rfl (T.get_skip rfl (T.get_skip rfl (T.get_skip rfl (T.get_skip rfl (T.get_skip rfl (T.get_skip rfl (T.get_skip rfl (T.get_skip rfl (T.get_skip rfl T.get_same)))))))))))))))))) hg111 rfl ?_
              refine OpsQ.val (Val.pickT (T.get_skip rfl (T.get_skip rfl (T.get_skip rfl (T.get_skip rfl (T.get_skip rfl (T.get_skip rfl (T.get_skip rfl (T.get_skip rfl (T.get_skip rfl (T.get_skip rfl (T.get_skip rfl (T.get_skip rfl (T.get_skip rfl (T.get_skip rfl (T.get_skip rfl (T.get_skip rfl (T.get_skip rfl (T.get_skip rfl (T.get_skip rfl T.get_same))))))))))))))))))) hg111 rfl) rfl ?_
              exact OpsQ.nil ⟨T.get_same.trans (cutOT hg111), fun t ht => (T.get_skip (el ht rfl) (T.get_skip (el ht rfl) (T.get_skip (el ht rfl) (T.get_skip (el ht rfl) (T.get_skip (el ht rfl) (T.get_skip (el ht rfl) (T.get_skip (el ht rfl) (T.get_skip (el ht rfl) (T.get_skip (el ht rfl) (T.get_skip (el ht rfl) (T.get_skip (el ht rfl) (T.get_skip (el ht rfl) (T.get_skip (el ht rfl) (T.get_skip (el ht rfl) (T.get_skip (el ht rfl) (T.get_skip (el ht rfl) (T.get_skip (el ht rfl) (T.get_skip (el ht rfl) (T.get_skip (el ht rfl) (T.get_skip (el ht rfl) rfl))))))))))))))))))))⟩
            · skip
              have p112 : ¬ (((((lowL a).getD i 0).toNat : Int) ≠ ((a.getD i 0).toNat : Int)) ∧ (((((a.getD i 0).toNat : Int) < 65) ∨ (90 < ((a.getD i 0).toNat : Int))) ∨ ((((lowL a).getD i 0).toNat : Int) ≠ (((a.getD i 0).toNat : Int) + 32)))) := andF iffD (iffO (iffO iffD iffD) iffD) hg111
              refine OpsQ.yes rfl T.get_same hg111 ?_
              refine OpsQ.val (Val.move (T.get_skip rfl ((hF92 0 rfl).trans (T.get_skip rfl (T.get_skip rfl (T.get_skip rfl (T.get_skip rfl (T.get_skip rfl (T.get_skip rfl (T.get_skip rfl (T.get_skip rfl (T.get_skip rfl (T.get_skip rfl (T.get_skip rfl (T.get_skip rfl ((hW88 0 rfl).trans g55)))))))))))))))) rfl ?_
              refine OpsQ.yes rfl (T.get_skip rfl T.get_same) hg111 ?_
              refine OpsQ.val (Val.move (T.get_skip rfl (T.get_skip rfl ((hF92 8 rfl).trans (T.get_skip rfl (T.get_skip rfl (T.get_skip rfl (T.get_skip rfl (T.get_skip rfl (T.get_skip rfl (T.get_skip rfl (T.get_skip rfl (T.get_skip rfl (T.get_skip rfl (T.get_skip rfl (T.get_skip rfl g87)))))))))))))))) rfl ?_
              refine OpsQ.yes rfl (T.get_skip rfl (T.get_skip rfl T.get_same)) hg111 ?_
              refine OpsQ.val (Val.sidx (i := i) Try.underlying9 (T.get_skip rfl T.get_same) T.get_same (by omega)) rfl ?_
              refine OpsQ.yes rfl (T.get_skip rfl (T.get_skip rfl (T.get_skip rfl T.get_same))) hg111 ?_
              refine OpsQ.val (Val.geq T.get_same rfl) rfl ?_
              refine OpsQ.yes rfl (T.get_skip rfl (T.get_skip rfl (T.get_skip rfl (T.get_skip rfl T.get_same)))) hg111 ?_
              refine OpsQ.val (Val.move T.get_same) rfl ?_
              refine OpsQ.cutN 5 [97, 98, 99, 100, 101] 101 (.b ((decide (65 ≤ ((a.getD i 0).toNat : Int))) && (decide (((a.getD i 0).toNat : Int) ≤ 90)))) ?_ (fun fr115 g113 hF114 => ?_)
              · rcases Bool.eq_false_or_eq_true (decide (65 ≤ ((a.getD i 0).toNat : Int))) with hg116 | hg116
                · skip
                  have p117 := of_decide_eq_true hg116
                  refine OpsQ.yes rfl T.get_same hg116 ?_
                  refine OpsQ.val (Val.move (T.get_skip rfl (T.get_skip rfl (T.get_skip rfl (T.get_skip rfl (T.get_skip rfl (T.get_skip rfl ((hF92 0 rfl).trans (T.get_skip rfl (T.get_skip rfl (T.get_skip rfl (T.get_skip rfl (T.get_skip rfl (T.get_skip rfl (T.get_skip rfl (T.get_skip rfl (T.get_skip rfl (T.get_skip rfl (T.get_skip rfl (T.get_skip rfl ((hW88 0 rfl).trans g55))))))))))))))))))))) rfl ?_
                  refine OpsQ.yes rfl (T.get_skip rfl T.get_same) hg116 ?_
                  refine OpsQ.val (Val.move (T.get_skip rfl (T.get_skip rfl (T.get_skip rfl (T.get_skip rfl (T.get_skip rfl (T.get_skip rfl (T.get_skip rfl ((hF92 8 rfl).trans (T.get_skip rfl (T.get_skip rfl (T.get_skip rfl (T.get_skip rfl (T.get_skip rfl (T.get_skip rfl (T.get_skip rfl (T.get_skip rfl (T.get_skip rfl (T.get_skip rfl (T.get_skip rfl (T.get_skip rfl g87))))))))))))))))))))) rfl ?_
                  refine OpsQ.yes rfl (T.get_skip rfl (T.get_skip rfl T.get_same)) hg116 ?_
                  refine OpsQ.val (Val.sidx (i := i) Try.underlying9 (T.get_skip rfl T.get_same) T.get_same (by omega)) rfl ?_
                  refine OpsQ.yes rfl (T.get_skip rfl (T.get_skip rfl (T.get_skip rfl T.get_same))) hg116 ?_
                  refine OpsQ.val (Val.leq T.get_same rfl) rfl ?_
                  refine OpsQ.yes rfl (T.get_skip rfl (T.get_skip rfl (T.get_skip rfl (T.get_skip rfl (T.get_skip rfl (T.get_skip rfl (T.get_skip rfl (T.get_skip rfl (T.get_skip rfl T.get_same))))))))) hg111 ?_
                  refine OpsQ.val (Val.pickT (T.get_skip rfl (T.get_skip rfl (T.get_skip rfl (T.get_skip rfl T.get_same)))) hg116 T.get_same) rfl ?_
                  exact OpsQ.nil ⟨T.get_same.trans (cutAT hg116), fun t ht => (T.get_skip (el ht rfl) (T.get_skip (el ht rfl) (T.get_skip (el ht rfl) (T.get_skip (el ht rfl) (T.get_skip (el ht rfl) rfl)))))⟩
                · skip
                  refine OpsQ.no rfl T.get_same hg116 rfl ?_
                  refine OpsQ.no rfl (T.get_skip rfl T.get_same) hg116 rfl ?_
                  refine OpsQ.no rfl (T.get_skip rfl (T.get_skip rfl T.get_same)) hg116 rfl ?_
                  refine OpsQ.no rfl (T.get_skip rfl (T.get_skip rfl (T.get_skip rfl T.get_same))) hg116 rfl ?_
                  refine OpsQ.yes rfl (T.get_skip rfl (T.get_skip rfl (T.get_skip rfl (T.get_skip rfl (T.get_skip rfl (T.get_skip rfl (T.get_skip rfl (T.get_skip rfl (T.get_skip rfl T.get_same))))))))) hg111 ?_
                  refine OpsQ.val (Val.pickF (T.get_skip rfl (T.get_skip rfl (T.get_skip rfl (T.get_skip rfl T.get_same)))) hg116 rfl) rfl ?_
                  exact OpsQ.nil ⟨T.get_same.trans (cutAF hg116), fun t ht => (T.get_skip (el ht rfl) (T.get_skip (el ht rfl) (T.get_skip (el ht rfl) (T.get_skip (el ht rfl) (T.get_skip (el ht rfl) rfl)))))⟩
              refine OpsQ.yes rfl ((hF114 91 rfl).trans (T.get_skip rfl (T.get_skip rfl (T.get_skip rfl (T.get_skip rfl (T.get_skip rfl T.get_same)))))) hg111 ?_
              refine OpsQ.val (Val.move g113) rfl ?_
              refine OpsQ.cutN 8 [103, 104, 105, 106, 107, 108, 109, 110] 110 (.b (((decide (65 ≤ ((a.getD i 0).toNat : Int))) && (decide (((a.getD i 0).toNat : Int) ≤ 90))) && (decide ((((lowL a).getD i 0).toNat : Int) = ((a.getD i 0).toNat : Int))))) ?_ (fun fr120 g118 hF119 => ?_)
              · rcases Bool.eq_false_or_eq_true ((decide (65 ≤ ((a.getD i 0).toNat : Int))) && (decide (((a.getD i 0).toNat : Int) ≤ 90))) with hg121 | hg121
                · skip
                  have p123 := of_decide_eq_true (andL hg121)
                  have p124 := of_decide_eq_true (andR hg121)
                  refine OpsQ.yes rfl T.get_same hg121 ?_
                  refine OpsQ.val (Val.move (T.get_skip rfl ((hF114 7 rfl).trans (T.get_skip rfl (T.get_skip rfl (T.get_skip rfl (T.get_skip rfl (T.get_skip rfl (T.get_skip rfl ((hF92 7 rfl).trans (T.get_skip rfl (T.get_skip rfl (T.get_skip rfl (T.get_skip rfl (T.get_skip rfl (T.get_skip rfl (T.get_skip rfl (T.get_skip rfl (T.get_skip rfl (T.get_skip rfl (T.get_skip rfl (T.get_skip rfl ((hW88 7 rfl).trans g58))))))))))))))))))))))) rfl ?_
                  refine OpsQ.yes rfl (T.get_skip rfl T.get_same) hg121 ?_
                  refine OpsQ.val (Val.move (T.get_skip rfl (T.get_skip rfl ((hF114 8 rfl).trans (T.get_skip rfl (T.get_skip rfl (T.get_skip rfl (T.get_skip rfl (T.get_skip rfl (T.get_skip rfl ((hF92 8 rfl).trans (T.get_skip rfl (T.get_skip rfl (T.get_skip rfl (T.get_skip rfl (T.get_skip rfl (T.get_skip rfl (T.get_skip rfl (T.get_skip rfl (T.get_skip rfl (T.get_skip rfl (T.get_skip rfl (T.get_skip rfl g87))))))))))))))))))))))) rfl ?_
                  refine OpsQ.yes rfl (T.get_skip rfl (T.get_skip rfl T.get_same)) hg121 ?_
                  refine OpsQ.val (Val.sidx (i := i) Try.underlying9 (T.get_skip rfl T.get_same) T.get_same (by omega)) rfl ?_
                  refine OpsQ.yes rfl (T.get_skip rfl (T.get_skip rfl (T.get_skip rfl T.get_same))) hg121 ?_
                  refine OpsQ.val (Val.move (T.get_skip rfl (T.get_skip rfl (T.get_skip rfl (T.get_skip rfl ((hF114 0 rfl).trans (T.get_skip rfl (T.get_skip rfl (T.get_skip rfl (T.get_skip rfl (T.get_skip rfl (T.get_skip rfl ((hF92 0 rfl).trans (T.get_skip rfl (T.get_skip rfl (T.get_skip rfl (T.get_skip rfl (T.get_skip rfl (T.get_skip rfl (T.get_skip rfl (T.get_skip rfl (T.get_skip rfl (T.get_skip rfl (T.get_skip rfl (T.get_skip rfl ((hW88 0 rfl).trans g55)))))))))))))))))))))))))) rfl ?_
                  refine OpsQ.yes rfl (T.get_skip rfl (T.get_skip rfl (T.get_skip rfl (T.get_skip rfl T.get_same)))) hg121 ?_
                  refine OpsQ.val (Val.move (T.get_skip rfl (T.get_skip rfl (T.get_skip rfl (T.get_skip rfl (T.get_skip rfl ((hF114 8 rfl).trans (T.get_skip rfl (T.get_skip rfl (T.get_skip rfl (T.get_skip rfl (T.get_skip rfl (T.get_skip rfl ((hF92 8 rfl).trans (T.get_skip rfl (T.get_skip rfl (T.get_skip rfl (T.get_skip rfl (T.get_skip rfl (T.get_skip rfl (T.get_skip rfl (T.get_skip rfl (T.get_skip rfl (T.get_skip rfl (T.get_skip rfl (T.get_skip rfl g87)))))))))))))))))))))))))) rfl ?_
                  refine OpsQ.yes rfl (T.get_skip rfl (T.get_skip rfl (T.get_skip rfl (T.get_skip rfl (T.get_skip rfl T.get_same))))) hg121 ?_
                  refine OpsQ.val (Val.sidx (i := i) Try.underlying9 (T.get_skip rfl T.get_same) T.get_same (by omega)) rfl ?_
                  refine OpsQ.yes rfl (T.get_skip rfl (T.get_skip rfl (T.get_skip rfl (T.get_skip rfl (T.get_skip rfl (T.get_skip rfl T.get_same)))))) hg121 ?_
                  refine OpsQ.val (Val.ieql (T.get_skip rfl (T.get_skip rfl (T.get_skip rfl T.get_same))) T.get_same) rfl ?_
                  refine OpsQ.yes rfl (T.get_skip rfl (T.get_skip rfl (T.get_skip rfl (T.get_skip rfl (T.get_skip rfl (T.get_skip rfl (T.get_skip rfl (T.get_skip rfl ((hF114 91 rfl).trans (T.get_skip rfl (T.get_skip rfl (T.get_skip rfl (T.get_skip rfl (T.get_skip rfl T.get_same)))))))))))))) hg111 ?_
                  refine OpsQ.val (Val.pickT (T.get_skip rfl (T.get_skip rfl (T.get_skip rfl (T.get_skip rfl (T.get_skip rfl (T.get_skip rfl (T.get_skip rfl T.get_same))))))) hg121 T.get_same) rfl ?_
                  exact OpsQ.nil ⟨T.get_same.trans (cutAT hg121), fun t ht => (T.get_skip (el ht rfl) (T.get_skip (el ht rfl) (T.get_skip (el ht rfl) (T.get_skip (el ht rfl) (T.get_skip (el ht rfl) (T.get_skip (el ht rfl) (T.get_skip (el ht rfl) (T.get_skip (el ht rfl) rfl))))))))⟩
                · skip
                  refine OpsQ.no rfl T.get_same hg121 rfl ?_
                  refine OpsQ.no rfl (T.get_skip rfl T.get_same) hg121 rfl ?_
                  refine OpsQ.no rfl (T.get_skip rfl (T.get_skip rfl T.get_same)) hg121 rfl ?_
                  refine OpsQ.no rfl (T.get_skip rfl (T.get_skip rfl (T.get_skip rfl T.get_same))) hg121 rfl ?_
                  refine OpsQ.no rfl (T.get_skip rfl (T.get_skip rfl (T.get_skip rfl (T.get_skip rfl T.get_same)))) hg121 rfl ?_
                  refine OpsQ.no rfl (T.get_skip rfl (T.get_skip rfl (T.get_skip rfl (T.get_skip rfl (T.get_skip rfl T.get_same))))) hg121 rfl ?_
                  refine OpsQ.no rfl (T.get_skip rfl (T.get_skip rfl (T.get_skip rfl (T.get_skip rfl (T.get_skip rfl (T.get_skip rfl T.get_same)))))) hg121 rfl ?_
                  refine OpsQ.yes rfl (T.get_skip rfl (T.get_skip rfl (T.get_skip rfl (T.get_skip rfl (T.get_skip rfl (T.get_skip rfl (T.get_skip rfl (T.get_skip rfl ((hF114 91 rfl).trans (T.get_skip rfl (T.get_skip rfl (T.get_skip rfl (T.get_skip rfl (T.get_skip rfl T.get_same)))))))))))))) hg111 ?_
                  refine OpsQ.val (Val.pickF (T.get_skip rfl (T.get_skip rfl (T.get_skip rfl (T.get_skip rfl (T.get_skip rfl (T.get_skip rfl (T.get_skip rfl T.get_same))))))) hg121 rfl) rfl ?_
                  exact OpsQ.nil ⟨T.get_same.trans (cutAF hg121), fun t ht => (T.get_skip (el ht rfl) (T.get_skip (el ht rfl) (T.get_skip (el ht rfl) (T.get_skip (el ht rfl) (T.get_skip (el ht rfl) (T.get_skip (el ht rfl) (T.get_skip (el ht rfl) (T.get_skip (el ht rfl) rfl))))))))⟩
              refine OpsQ.val (Val.pickF ((hF119 91 rfl).trans (T.get_skip rfl ((hF114 91 rfl).trans (T.get_skip rfl (T.get_skip rfl (T.get_skip rfl (T.get_skip rfl (T.get_skip rfl T.get_same)))))))) hg111 g118) rfl ?_
              exact OpsQ.nil ⟨T.get_same.trans (cutOF hg111), fun t ht => (T.get_skip (el ht rfl) ((hF119 t (elW ht rfl)).trans (T.get_skip (el ht rfl) ((hF114 t (elW ht rfl)).trans (T.get_skip (el ht rfl) (T.get_skip (el ht rfl) (T.get_skip (el ht rfl) (T.get_skip (el ht rfl) (T.get_skip (el ht rfl) rfl)))))))))⟩
          refine OpsQ.nil ?_
          refine Wp.cond g108 (fun hc125 => ?_) (fun hc125 => ?_)
          · skip
            have p126 : ((((((lowL a).getD i 0).toNat : Int) ≠ ((a.getD i 0).toNat : Int)) ∧ (((((a.getD i 0).toNat : Int) < 65) ∨ (90 < ((a.getD i 0).toNat : Int))) ∨ ((((lowL a).getD i 0).toNat : Int) ≠ (((a.getD i 0).toNat : Int) + 32)))) ∨ (((65 ≤ ((a.getD i 0).toNat : Int)) ∧ (((a.getD i 0).toNat : Int) ≤ 90)) ∧ ((((lowL a).getD i 0).toNat : Int) = ((a.getD i 0).toNat : Int)))) := orT (iffA iffD (iffO (iffO iffD iffD) iffD)) (iffA (iffA iffD iffD) iffD) hc125
            exfalso
            have hl := lowL_get (s := a) (i := i) (by omega)
            by_cases hq : 65 ≤ ((a.getD i 0).toNat : Int) ∧ ((a.getD i 0).toNat : Int) ≤ 90
            · rw [low_yes hq] at hl; omega
            · rw [low_no hq] at hl; omega
          · skip
            have p128 : ¬ (((((lowL a).getD i 0).toNat : Int) ≠ ((a.getD i 0).toNat : Int)) ∧ (((((a.getD i 0).toNat : Int) < 65) ∨ (90 < ((a.getD i 0).toNat : Int))) ∨ ((((lowL a).getD i 0).toNat : Int) ≠ (((a.getD i 0).toNat : Int) + 32)))) := andF iffD (iffO (iffO iffD iffD) iffD) (orL hc125)
            have p129 : ¬ (((65 ≤ ((a.getD i 0).toNat : Int)) ∧ (((a.getD i 0).toNat : Int) ≤ 90)) ∧ ((((lowL a).getD i 0).toNat : Int) = ((a.getD i 0).toNat : Int))) := andF (iffA iffD iffD) iffD (orR hc125)
            refine Wp.skip ?_
            refine Wp.region rfl ?_
            refine Ops.val (Val.move ((hF109 8 rfl).trans (T.get_skip rfl ((hF92 8 rfl).trans (T.get_skip rfl (T.get_skip rfl (T.get_skip rfl (T.get_skip rfl (T.get_skip rfl (T.get_skip rfl (T.get_skip rfl (T.get_skip rfl (T.get_skip rfl (T.get_skip rfl (T.get_skip rfl (T.get_skip rfl g87)))))))))))))))) rfl ?_
            refine Ops.val (Val.iadd T.get_same rfl (c := ((i : Int) + 1)) (wrap64 (by omega) (by omega))) rfl ?_
            refine Ops.val (Val.assign T.get_same) rfl ?_
            refine Ops.nil ?_
            exact ⟨_, (by omega), i + 1, (by omega), rfl, T.get_same, fun t ht => (T.get_skip (el ht rfl) (T.get_skip (el ht rfl) (T.get_skip (el ht rfl) ((hF109 t (elW ht rfl)).trans (T.get_skip (el ht rfl) ((hF92 t (elW ht rfl)).trans (T.get_skip (el ht rfl) (T.get_skip (el ht rfl) (T.get_skip (el ht rfl) (T.get_skip (el ht rfl) (T.get_skip (el ht rfl) (T.get_skip (el ht rfl) (T.get_skip (el ht rfl) (T.get_skip (el ht rfl) (T.get_skip (el ht rfl) (T.get_skip (el ht rfl) (T.get_skip (el ht rfl) (T.get_skip (el ht rfl) (hW88 t ht))))))))))))))))))), rfl⟩
        · skip
          have p130 := of_decide_eq_false hc89
          refine Wp.exit ?_
          refine Wp.seq ?_
          refine Wp.region rfl ?_
          refine Ops.val (Val.move (T.get_skip rfl (T.get_skip rfl (T.get_skip rfl (T.get_skip rfl ((hW88 0 rfl).trans g55)))))) rfl ?_
          refine Ops.val (Val.move (T.get_skip rfl (T.get_skip rfl (T.get_skip rfl (T.get_skip rfl (T.get_skip rfl ((hW88 1 rfl).trans g56))))))) rfl ?_
          refine Ops.call (opndsC (T.get_skip rfl T.get_same) (opndsC T.get_same opnds0)) rfl (alike_ev _ _ (by first | assumption | omega | (simp; omega)) _ (by omega)) ?_
          rintro _ _ ⟨rfl, hq⟩
          obtain rfl := Eq.symm hq
          refine Ops.val (Val.move (T.get_skip rfl (T.get_skip rfl (T.get_skip rfl (T.get_skip rfl (T.get_skip rfl (T.get_skip rfl (T.get_skip rfl ((hW88 1 rfl).trans g56))))))))) rfl ?_
          refine Ops.val (Val.move (T.get_skip rfl (T.get_skip rfl (T.get_skip rfl (T.get_skip rfl (T.get_skip rfl (T.get_skip rfl (T.get_skip rfl (T.get_skip rfl ((hW88 2 rfl).trans g57)))))))))) rfl ?_
          refine Ops.call (opndsC (T.get_skip rfl T.get_same) (opndsC T.get_same opnds0)) rfl (alike_ev _ _ (by first | assumption | omega | (simp; omega)) _ (by omega)) ?_
          rintro _ _ ⟨rfl, hq⟩
          obtain rfl := Eq.symm hq
          refine Ops.val (Val.move (T.get_skip rfl (T.get_skip rfl (T.get_skip rfl (T.get_skip rfl (T.get_skip rfl (T.get_skip rfl (T.get_skip rfl (T.get_skip rfl (T.get_skip rfl (T.get_skip rfl ((hW88 0 rfl).trans g55)))))))))))) rfl ?_
          refine Ops.val (Val.move (T.get_skip rfl (T.get_skip rfl (T.get_skip rfl (T.get_skip rfl (T.get_skip rfl (T.get_skip rfl (T.get_skip rfl (T.get_skip rfl (T.get_skip rfl (T.get_skip rfl (T.get_skip rfl ((hW88 2 rfl).trans g57))))))))))))) rfl ?_
          refine Ops.call (opndsC (T.get_skip rfl T.get_same) (opndsC T.get_same opnds0)) rfl (alike_ev _ _ (by first | assumption | omega | (simp; omega)) _ (by omega)) ?_
          rintro _ _ ⟨rfl, hq⟩
          obtain rfl := Eq.symm hq
          refine Ops.val (Val.assign (T.get_skip rfl (T.get_skip rfl (T.get_skip rfl (T.get_skip rfl (T.get_skip rfl (T.get_skip rfl T.get_same))))))) rfl ?_
          refine Ops.val (Val.assign (T.get_skip rfl (T.get_skip rfl (T.get_skip rfl (T.get_skip rfl T.get_same))))) rfl ?_
          refine Ops.val (Val.assign (T.get_skip rfl (T.get_skip rfl T.get_same))) rfl ?_
          refine Ops.nil ?_
          refine Wp.seq ?_
          refine Wp.region rfl ?_
          refine Ops.val (Val.move (T.get_skip rfl (T.get_skip rfl T.get_same))) rfl ?_
          refine Ops.val (Val.move (T.get_skip rfl (T.get_skip rfl (T.get_skip rfl (T.get_skip rfl (T.get_skip rfl (T.get_skip rfl (T.get_skip rfl (T.get_skip rfl (T.get_skip rfl (T.get_skip rfl (T.get_skip rfl (T.get_skip rfl (T.get_skip rfl (T.get_skip rfl (T.get_skip rfl (T.get_skip rfl (T.get_skip rfl ((hW88 1 rfl).trans g56))))))))))))))))))) rfl ?_
          refine Ops.val (Val.move (T.get_skip rfl (T.get_skip rfl (T.get_skip rfl (T.get_skip rfl (T.get_skip rfl (T.get_skip rfl (T.get_skip rfl (T.get_skip rfl (T.get_skip rfl (T.get_skip rfl (T.get_skip rfl (T.get_skip rfl (T.get_skip rfl (T.get_skip rfl (T.get_skip rfl (T.get_skip rfl (T.get_skip rfl (T.get_skip rfl ((hW88 0 rfl).trans g55)))))))))))))))))))) rfl ?_
          refine Ops.call (opndsC (T.get_skip rfl T.get_same) (opndsC T.get_same opnds0)) rfl (alike_ev _ _ (by first | assumption | omega | (simp; omega)) _ (by omega)) ?_
          rintro _ _ ⟨rfl, hq⟩
          obtain rfl := Eq.symm hq
          refine Ops.val (Val.beql Try.underlying4 (T.get_skip rfl (T.get_skip rfl (T.get_skip rfl T.get_same))) T.get_same) rfl ?_
          refine Ops.val (Val.move T.get_same) rfl ?_
          rcases Bool.eq_false_or_eq_true ((alikeL a b) == (alikeL b a)) with hg131 | hg131
          · skip
            have p132 := hg131
            refine Ops.yes rfl T.get_same hg131 ?_
            refine Ops.val (Val.move (T.get_skip rfl (T.get_skip rfl (T.get_skip rfl (T.get_skip rfl (T.get_skip rfl (T.get_skip rfl (T.get_skip rfl (T.get_skip rfl T.get_same))))))))) rfl ?_
            refine Ops.yes rfl (T.get_skip rfl T.get_same) hg131 ?_
            refine Ops.val (Val.move (T.get_skip rfl (T.get_skip rfl (T.get_skip rfl (T.get_skip rfl (T.get_skip rfl (T.get_skip rfl (T.get_skip rfl (T.get_skip rfl (T.get_skip rfl (T.get_skip rfl (T.get_skip rfl (T.get_skip rfl (T.get_skip rfl (T.get_skip rfl (T.get_skip rfl (T.get_skip rfl (T.get_skip rfl (T.get_skip rfl (T.get_skip rfl (T.get_skip rfl (T.get_skip rfl (T.get_skip rfl (T.get_skip rfl ((hW88 7 rfl).trans g58))))))))))))))))))))))))) rfl ?_
            refine Ops.yes rfl (T.get_skip rfl (T.get_skip rfl T.get_same)) hg131 ?_
            refine Ops.val (Val.move (T.get_skip rfl (T.get_skip rfl (T.get_skip rfl (T.get_skip rfl (T.get_skip rfl (T.get_skip rfl (T.get_skip rfl (T.get_skip rfl (T.get_skip rfl (T.get_skip rfl (T.get_skip rfl (T.get_skip rfl (T.get_skip rfl (T.get_skip rfl (T.get_skip rfl (T.get_skip rfl (T.get_skip rfl (T.get_skip rfl (T.get_skip rfl (T.get_skip rfl (T.get_skip rfl (T.get_skip rfl (T.get_skip rfl (T.get_skip rfl ((hW88 1 rfl).trans g56)))))))))))))))))))))))))) rfl ?_
            refine Ops.yes rfl (T.get_skip rfl (T.get_skip rfl (T.get_skip rfl T.get_same))) hg131 ?_
            refine Ops.call (opndsC T.get_same opnds0) rfl (lower_ev _ (by first | assumption | omega | (simp [lowL_len]; omega)) _ (by first | omega | (simp [lowL_len]; omega))) ?_
            rintro _ st133 ⟨rfl, hs134⟩
            have hS := hS.then hs134 (Nat.le_refl _)
            refine Ops.yes rfl (T.get_skip rfl (T.get_skip rfl (T.get_skip rfl (T.get_skip rfl T.get_same)))) hg131 ?_
            refine Ops.val (Val.seql (T.get_skip rfl (T.get_skip rfl T.get_same)) T.get_same) rfl ?_
            refine Ops.yes rfl (T.get_skip rfl (T.get_skip rfl (T.get_skip rfl (T.get_skip rfl (T.get_skip rfl T.get_same))))) hg131 ?_
            refine Ops.val (Val.beql Try.underlying4 (T.get_skip rfl (T.get_skip rfl (T.get_skip rfl (T.get_skip rfl T.get_same)))) T.get_same) rfl ?_
            refine Ops.val (Val.pickT (T.get_skip rfl (T.get_skip rfl (T.get_skip rfl (T.get_skip rfl (T.get_skip rfl (T.get_skip rfl T.get_same)))))) hg131 T.get_same) rfl ?_
            refine Ops.val (Val.move T.get_same) rfl ?_
            refine Ops.cutN 8 [135, 136, 137, 138, 139, 140, 141, 142] 142 (.b (((alikeL a b) == ((lowL a) == (lowL b))) && ((!(alikeL a b)) || ((alikeL b c) == (alikeL a c))))) ?_ (fun fr137 g135 hF136 => ?_)
            · rcases Bool.eq_false_or_eq_true ((alikeL a b) == ((lowL a) == (lowL b))) with hg138 | hg138
              · skip
                have p139 := hg138
                refine Ops.yes rfl T.get_same hg138 ?_
                refine Ops.val (Val.move (T.get_skip rfl (T.get_skip rfl (T.get_skip rfl (T.get_skip rfl (T.get_skip rfl (T.get_skip rfl (T.get_skip rfl (T.get_skip rfl (T.get_skip rfl (T.get_skip rfl (T.get_skip rfl (T.get_skip rfl (T.get_skip rfl (T.get_skip rfl (T.get_skip rfl (T.get_skip rfl T.get_same))))))))))))))))) rfl ?_
                refine Ops.yes rfl (T.get_skip rfl T.get_same) hg138 ?_
                refine Ops.val (Val.not T.get_same) rfl ?_
                refine Ops.yes rfl (T.get_skip rfl (T.get_skip rfl T.get_same)) hg138 ?_
                refine Ops.val (Val.move T.get_same) rfl ?_
                refine Ops.cutN 4 [138, 139, 140, 141] 141 (.b ((!(alikeL a b)) || ((alikeL b c) == (alikeL a c)))) ?_ (fun fr142 g140 hF141 => ?_)
                · rcases Bool.eq_false_or_eq_true (!(alikeL a b)) with hg143 | hg143
                  · skip
                    refine Ops.no rfl T.get_same hg143 rfl ?_
                    refine Ops.no rfl (T.get_skip rfl T.get_same) hg143 rfl ?_
                    refine Ops.no rfl (T.get_skip rfl (T.get_skip rfl T.get_same)) hg143 rfl ?_
                    refine Ops.yes rfl (T.get_skip rfl (T.get_skip rfl (T.get_skip rfl (T.get_skip rfl (T.get_skip rfl (T.get_skip rfl T.get_same)))))) hg138 ?_
                    refine Ops.val (Val.pickT (T.get_skip rfl (T.get_skip rfl (T.get_skip rfl T.get_same))) hg143 rfl) rfl ?_
                    exact Ops.nil ⟨T.get_same.trans (cutOT hg143), fun t ht => (T.get_skip (el ht rfl) (T.get_skip (el ht rfl) (T.get_skip (el ht rfl) (T.get_skip (el ht rfl) rfl)))), rfl⟩
                  · skip
                    have p145 := (notB hg143)
                    refine Ops.yes rfl T.get_same hg143 ?_
                    refine Ops.val (Val.move (T.get_skip rfl (T.get_skip rfl (T.get_skip rfl (T.get_skip rfl (T.get_skip rfl (T.get_skip rfl (T.get_skip rfl (T.get_skip rfl (T.get_skip rfl (T.get_skip rfl (T.get_skip rfl (T.get_skip rfl (T.get_skip rfl (T.get_skip rfl (T.get_skip rfl (T.get_skip rfl (T.get_skip rfl (T.get_skip rfl T.get_same))))))))))))))))))) rfl ?_
                    refine Ops.yes rfl (T.get_skip rfl T.get_same) hg143 ?_
                    refine Ops.val (Val.move (T.get_skip rfl (T.get_skip rfl (T.get_skip rfl (T.get_skip rfl (T.get_skip rfl (T.get_skip rfl (T.get_skip rfl (T.get_skip rfl (T.get_skip rfl (T.get_skip rfl (T.get_skip rfl (T.get_skip rfl (T.get_skip rfl (T.get_skip rfl (T.get_skip rfl (T.get_skip rfl (T.get_skip rfl (T.get_skip rfl T.get_same))))))))))))))))))) rfl ?_
                    refine Ops.yes rfl (T.get_skip rfl (T.get_skip rfl T.get_same)) hg143 ?_
                    refine Ops.val (Val.beql Try.underlying4 (T.get_skip rfl T.get_same) T.get_same) rfl ?_
                    refine Ops.yes rfl (T.get_skip rfl (T.get_skip rfl (T.get_skip rfl (T.get_skip rfl (T.get_skip rfl (T.get_skip rfl T.get_same)))))) hg138 ?_
                    refine Ops.val (Val.pickF (T.get_skip rfl (T.get_skip rfl (T.get_skip rfl T.get_same))) hg143 T.get_same) rfl ?_
                    exact Ops.nil ⟨T.get_same.trans (cutOF hg143), fun t ht => (T.get_skip (el ht rfl) (T.get_skip (el ht rfl) (T.get_skip (el ht rfl) (T.get_skip (el ht rfl) rfl)))), rfl⟩
                refine Ops.val (Val.pickT ((hF141 134 rfl).trans (T.get_skip rfl (T.get_skip rfl (T.get_skip rfl T.get_same)))) hg138 g140) rfl ?_
                exact Ops.nil ⟨T.get_same.trans (cutAT hg138), fun t ht => (T.get_skip (el ht rfl) ((hF141 t (elW ht rfl)).trans (T.get_skip (el ht rfl) (T.get_skip (el ht rfl) (T.get_skip (el ht rfl) rfl))))), rfl⟩
              · skip
                refine Ops.no rfl T.get_same hg138 rfl ?_
                refine Ops.no rfl (T.get_skip rfl T.get_same) hg138 rfl ?_
                refine Ops.no rfl (T.get_skip rfl (T.get_skip rfl T.get_same)) hg138 rfl ?_
                refine Ops.off rfl T.get_same rfl ?_
                refine Ops.off rfl (T.get_skip rfl T.get_same) rfl ?_
                refine Ops.off rfl (T.get_skip rfl (T.get_skip rfl T.get_same)) rfl ?_
                refine Ops.no rfl (T.get_skip rfl (T.get_skip rfl (T.get_skip rfl (T.get_skip rfl (T.get_skip rfl (T.get_skip rfl T.get_same)))))) hg138 rfl ?_
                refine Ops.val (Val.pickF (T.get_skip rfl (T.get_skip rfl (T.get_skip rfl (T.get_skip rfl (T.get_skip rfl (T.get_skip rfl (T.get_skip rfl T.get_same))))))) hg138 rfl) rfl ?_
                exact Ops.nil ⟨T.get_same.trans (cutAF hg138), fun t ht => (T.get_skip (el ht rfl) (T.get_skip (el ht rfl) (T.get_skip (el ht rfl) (T.get_skip (el ht rfl) (T.get_skip (el ht rfl) (T.get_skip (el ht rfl) (T.get_skip (el ht rfl) (T.get_skip (el ht rfl) rfl)))))))), rfl⟩
            refine Ops.val (Val.move g135) rfl ?_
            refine Ops.cutN 2 [144, 145] 145 (.b ((((alikeL a b) == ((lowL a) == (lowL b))) && ((!(alikeL a b)) || ((alikeL b c) == (alikeL a c)))) && (true))) ?_ (fun fr148 g146 hF147 => ?_)
            · rcases Bool.eq_false_or_eq_true (((alikeL a b) == ((lowL a) == (lowL b))) && ((!(alikeL a b)) || ((alikeL b c) == (alikeL a c)))) with hg149 | hg149
              · skip
                have p151 := (andL hg149)
                have p152 : ((¬ ((alikeL a b) = true)) ∨ (((alikeL b c) == (alikeL a c)) = true)) := orT (iffN Iff.rfl) Iff.rfl (andR hg149)
                refine Ops.yes rfl T.get_same hg149 ?_
                refine Ops.call opnds0 rfl (Ev.known rfl) ?_
                rintro _ _ ⟨rfl, hq⟩
                obtain rfl := Eq.symm hq
                refine Ops.val (Val.pickT (T.get_skip rfl T.get_same) hg149 T.get_same) rfl ?_
                exact Ops.nil ⟨T.get_same.trans (cutAT hg149), fun t ht => (T.get_skip (el ht rfl) (T.get_skip (el ht rfl) rfl)), rfl⟩
              · skip
                refine Ops.no rfl T.get_same hg149 rfl ?_
                refine Ops.val (Val.pickF (T.get_skip rfl T.get_same) hg149 rfl) rfl ?_
                exact Ops.nil ⟨T.get_same.trans (cutAF hg149), fun t ht => (T.get_skip (el ht rfl) (T.get_skip (el ht rfl) rfl)), rfl⟩
            refine Ops.val (Val.assign g146) rfl ?_
            refine Ops.nil ?_
            refine Wp.ret ?_
            show Vm.Fin Try.prog Try.f10 (fun v _ => v = .b true) .ret _ _
            refine Fin.one (.inr rfl) rfl T.get_same ?_
            exact congrArg V.b (letters_end a b c)
          · skip
            have p153 := hg131
            exact absurd (by rw [alike_comm a b]; exact beq_self_eq_true _) (Bool.eq_false_iff.1 p153)

end Go.Proofs.Ytonihkpcblfafaa
