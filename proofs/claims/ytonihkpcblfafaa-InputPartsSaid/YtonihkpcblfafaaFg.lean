/-
  The law of parts, followed in the evaluator. Nothing is claimed here.
-/
import Derived.Test.YtonihkpcblfafaaFe
import Derived.Test.YtonihkpcblfafaaMb
namespace Go.Proofs.Ytonihkpcblfafaa
open Go.Vm Go.Lay1
variable {n : Nat}

theorem InputParts_ev (a b : List UInt8) (st : St) (hn : 9000 ≤ n) : Ev Try.prog ov1 0 n 7 [(V.str (a)), (V.str (b))] st (fun v _ => v = .b true) := by
  obtain ⟨m, rfl⟩ : ∃ m, n = m + 60 := ⟨n - 60, by omega⟩
  have hS := Sub.refl st.nx st
  have hca := cleaned_len a
  have hcb := cleaned_len b
  refine Ev.enter rfl Try.func7 rfl rfl rfl (frame2 _ _) ?_
  refine Wp.seq ?_
  refine Wp.region rfl ?_
  refine Ops.val (Val.assign rfl) rfl ?_
  refine Ops.nil ?_
  refine Wp.seq ?_
  refine Wp.seq ?_
  refine Wp.region rfl ?_
  refine Ops.val (Val.move (T.get_skip rfl (T.get_skip rfl T.get_same))) rfl ?_
  refine Ops.val (Val.slen Try.underlying9 T.get_same) rfl ?_
  refine Ops.val (Val.gtr T.get_same rfl) rfl ?_
  refine Ops.val (Val.move T.get_same) rfl ?_
  refine Ops.cutN 4 [15, 16, 17, 18] 18 (.b ((decide (500 < (a.length : Int))) || (decide (500 < (b.length : Int))))) ?_ (fun fr3 g1 hF2 => ?_)
  · rcases Bool.eq_false_or_eq_true (decide (500 < (a.length : Int))) with hg4 | hg4
    · skip
      refine Ops.no rfl T.get_same hg4 rfl ?_
      refine Ops.no rfl (T.get_skip rfl T.get_same) hg4 rfl ?_
      refine Ops.no rfl (T.get_skip rfl (T.get_skip rfl T.get_same)) hg4 rfl ?_
      refine Ops.val (Val.pickT (T.get_skip rfl (T.get_skip rfl (T.get_skip rfl T.get_same))) hg4 rfl) rfl ?_
      exact Ops.nil ⟨T.get_same.trans (cutOT hg4), fun t ht => (T.get_skip (el ht rfl) (T.get_skip (el ht rfl) (T.get_skip (el ht rfl) (T.get_skip (el ht rfl) rfl)))), rfl⟩
    · skip
      have p5 := of_decide_eq_false hg4
      refine Ops.yes rfl T.get_same hg4 ?_
      refine Ops.val (Val.move (T.get_skip rfl (T.get_skip rfl (T.get_skip rfl (T.get_skip rfl (T.get_skip rfl T.get_same)))))) rfl ?_
      refine Ops.yes rfl (T.get_skip rfl T.get_same) hg4 ?_
      refine Ops.val (Val.slen Try.underlying9 T.get_same) rfl ?_
      refine Ops.yes rfl (T.get_skip rfl (T.get_skip rfl T.get_same)) hg4 ?_
      refine Ops.val (Val.gtr T.get_same rfl) rfl ?_
      refine Ops.val (Val.pickF (T.get_skip rfl (T.get_skip rfl (T.get_skip rfl T.get_same))) hg4 T.get_same) rfl ?_
      exact Ops.nil ⟨T.get_same.trans (cutOF hg4), fun t ht => (T.get_skip (el ht rfl) (T.get_skip (el ht rfl) (T.get_skip (el ht rfl) (T.get_skip (el ht rfl) rfl)))), rfl⟩
  refine Ops.nil ?_
  refine Wp.cond g1 (fun hc6 => ?_) (fun hc6 => ?_)
  · skip
    have p7 : ((500 < (a.length : Int)) ∨ (500 < (b.length : Int))) := orT iffD iffD hc6
    refine Wp.seq ?_
    refine Wp.region rfl ?_
    refine Ops.call opnds0 rfl (Ev.known rfl) ?_
    rintro _ _ ⟨rfl, hq⟩
    obtain rfl := Eq.symm hq
    refine Ops.val (Val.assign T.get_same) rfl ?_
    refine Ops.nil ?_
    refine Wp.ret ?_
    show Vm.Fin Try.prog Try.f7 (fun v _ => v = .b true) .ret _ _
    refine Fin.one (.inr rfl) rfl T.get_same ?_
    exact rfl
  · skip
    have p9 := of_decide_eq_false (orL hc6)
    have p10 := of_decide_eq_false (orR hc6)
    refine Wp.skip ?_
    refine Wp.seq ?_
    refine Wp.region rfl ?_
    refine Ops.val (Val.move ((hF2 0 rfl).trans (T.get_skip rfl (T.get_skip rfl (T.get_skip rfl (T.get_skip rfl (T.get_skip rfl (T.get_skip rfl T.get_same)))))))) rfl ?_
    refine Ops.call (opndsC T.get_same opnds0) rfl (clean_ev _ (by first | omega | (simp; omega)) _ (by first | omega | (simp; omega))) ?_
    rintro _ st11 ⟨rfl, hs12⟩
    have hS := hS.then hs12 (Nat.le_refl _)
    refine Ops.val (Val.move T.get_same) rfl ?_
    refine Ops.val (Val.extract T.get_same rfl) rfl ?_
    refine Ops.val (Val.extract (T.get_skip rfl T.get_same) rfl) rfl ?_
    refine Ops.val (Val.assign (T.get_skip rfl T.get_same)) rfl ?_
    refine Ops.val (Val.assign (T.get_skip rfl T.get_same)) rfl ?_
    refine Ops.nil ?_
    refine Wp.seq ?_
    refine Wp.region rfl ?_
    refine Ops.val (Val.move (T.get_skip rfl (T.get_skip rfl (T.get_skip rfl (T.get_skip rfl (T.get_skip rfl (T.get_skip rfl (T.get_skip rfl ((hF2 1 rfl).trans (T.get_skip rfl (T.get_skip rfl (T.get_skip rfl (T.get_skip rfl (T.get_skip rfl T.get_same)))))))))))))) rfl ?_
    refine Ops.call (opndsC T.get_same opnds0) rfl (clean_ev _ (by first | omega | (simp; omega)) _ (by first | omega | (simp; omega))) ?_
    rintro _ st13 ⟨rfl, hs14⟩
    have hS := hS.then hs14 (Nat.le_refl _)
    refine Ops.val (Val.move T.get_same) rfl ?_
    refine Ops.val (Val.extract T.get_same rfl) rfl ?_
    refine Ops.val (Val.extract (T.get_skip rfl T.get_same) rfl) rfl ?_
    refine Ops.val (Val.assign (T.get_skip rfl T.get_same)) rfl ?_
    refine Ops.val (Val.assign (T.get_skip rfl T.get_same)) rfl ?_
    refine Ops.nil ?_
    refine Wp.seq ?_
    refine Wp.region rfl ?_
    refine Ops.val (Val.move (T.get_skip rfl (T.get_skip rfl (T.get_skip rfl (T.get_skip rfl (T.get_skip rfl (T.get_skip rfl (T.get_skip rfl (T.get_skip rfl (T.get_skip rfl (T.get_skip rfl (T.get_skip rfl (T.get_skip rfl (T.get_skip rfl (T.get_skip rfl ((hF2 0 rfl).trans (T.get_skip rfl (T.get_skip rfl (T.get_skip rfl (T.get_skip rfl (T.get_skip rfl (T.get_skip rfl T.get_same)))))))))))))))))))))) rfl ?_
    refine Ops.val (Val.move (T.get_skip rfl (T.get_skip rfl (T.get_skip rfl (T.get_skip rfl (T.get_skip rfl (T.get_skip rfl (T.get_skip rfl (T.get_skip rfl (T.get_skip rfl (T.get_skip rfl (T.get_skip rfl (T.get_skip rfl (T.get_skip rfl (T.get_skip rfl (T.get_skip rfl ((hF2 1 rfl).trans (T.get_skip rfl (T.get_skip rfl (T.get_skip rfl (T.get_skip rfl (T.get_skip rfl T.get_same)))))))))))))))))))))) rfl ?_
    refine Ops.val (Val.sadd (T.get_skip rfl T.get_same) T.get_same (by first | omega | (simp; omega))) rfl ?_
    refine Ops.call (opndsC T.get_same opnds0) rfl (clean_ev _ (by first | omega | (simp; omega)) _ (by first | omega | (simp; omega))) ?_
    rintro _ st15 ⟨rfl, hs16⟩
    have hS := hS.then hs16 (Nat.le_refl _)
    refine Ops.val (Val.move T.get_same) rfl ?_
    refine Ops.val (Val.extract T.get_same rfl) rfl ?_
    refine Ops.val (Val.extract (T.get_skip rfl T.get_same) rfl) rfl ?_
    refine Ops.val (Val.assign (T.get_skip rfl T.get_same)) rfl ?_
    refine Ops.val (Val.assign (T.get_skip rfl T.get_same)) rfl ?_
    refine Ops.nil ?_
    refine Wp.seq ?_
    refine Wp.seq ?_
    refine Wp.region rfl ?_
    refine Ops.val (Val.move (T.get_skip rfl (T.get_skip rfl (T.get_skip rfl (T.get_skip rfl (T.get_skip rfl (T.get_skip rfl (T.get_skip rfl (T.get_skip rfl (T.get_skip rfl (T.get_skip rfl (T.get_skip rfl (T.get_skip rfl (T.get_skip rfl (T.get_skip rfl (T.get_skip rfl (T.get_skip rfl T.get_same))))))))))))))))) rfl ?_
    refine Ops.val (Val.ineq T.get_same rfl) rfl ?_
    refine Ops.val (Val.move T.get_same) rfl ?_
    refine Ops.cutN 3 [40, 41, 42] 42 (.b ((decide ((0 : Int) ≠ 0)) || (decide ((0 : Int) ≠ 0)))) ?_ (fun fr19 g17 hF18 => ?_)
    · rcases Bool.eq_false_or_eq_true (decide ((0 : Int) ≠ 0)) with hg20 | hg20
      · skip
        refine Ops.no rfl T.get_same hg20 rfl ?_
        refine Ops.no rfl (T.get_skip rfl T.get_same) hg20 rfl ?_
        refine Ops.val (Val.pickT (T.get_skip rfl (T.get_skip rfl T.get_same)) hg20 rfl) rfl ?_
        exact Ops.nil ⟨T.get_same.trans (cutOT hg20), fun t ht => (T.get_skip (el ht rfl) (T.get_skip (el ht rfl) (T.get_skip (el ht rfl) rfl))), rfl⟩
      · skip
        have p21 := of_decide_eq_false hg20
        refine Ops.yes rfl T.get_same hg20 ?_
        refine Ops.val (Val.move (T.get_skip rfl (T.get_skip rfl (T.get_skip rfl (T.get_skip rfl (T.get_skip rfl (T.get_skip rfl (T.get_skip rfl (T.get_skip rfl (T.get_skip rfl (T.get_skip rfl (T.get_skip rfl (T.get_skip rfl T.get_same))))))))))))) rfl ?_
        refine Ops.yes rfl (T.get_skip rfl T.get_same) hg20 ?_
        refine Ops.val (Val.ineq T.get_same rfl) rfl ?_
        refine Ops.val (Val.pickF (T.get_skip rfl (T.get_skip rfl T.get_same)) hg20 T.get_same) rfl ?_
        exact Ops.nil ⟨T.get_same.trans (cutOF hg20), fun t ht => (T.get_skip (el ht rfl) (T.get_skip (el ht rfl) (T.get_skip (el ht rfl) rfl))), rfl⟩
    refine Ops.val (Val.move g17) rfl ?_
    refine Ops.cutN 3 [44, 45, 46] 46 (.b (((decide ((0 : Int) ≠ 0)) || (decide ((0 : Int) ≠ 0))) || (decide ((0 : Int) ≠ 0)))) ?_ (fun fr24 g22 hF23 => ?_)
    · rcases Bool.eq_false_or_eq_true ((decide ((0 : Int) ≠ 0)) || (decide ((0 : Int) ≠ 0))) with hg25 | hg25
      · skip
        refine Ops.no rfl T.get_same hg25 rfl ?_
        refine Ops.no rfl (T.get_skip rfl T.get_same) hg25 rfl ?_
        refine Ops.val (Val.pickT (T.get_skip rfl (T.get_skip rfl T.get_same)) hg25 rfl) rfl ?_
        exact Ops.nil ⟨T.get_same.trans (cutOT hg25), fun t ht => (T.get_skip (el ht rfl) (T.get_skip (el ht rfl) (T.get_skip (el ht rfl) rfl))), rfl⟩
      · skip
        have p27 := of_decide_eq_false (orL hg25)
        have p28 := of_decide_eq_false (orR hg25)
        refine Ops.yes rfl T.get_same hg25 ?_
        refine Ops.val (Val.move (T.get_skip rfl ((hF18 10 rfl).trans (T.get_skip rfl (T.get_skip rfl (T.get_skip rfl T.get_same)))))) rfl ?_
        refine Ops.yes rfl (T.get_skip rfl T.get_same) hg25 ?_
        refine Ops.val (Val.ineq T.get_same rfl) rfl ?_
        refine Ops.val (Val.pickF (T.get_skip rfl (T.get_skip rfl T.get_same)) hg25 T.get_same) rfl ?_
        exact Ops.nil ⟨T.get_same.trans (cutOF hg25), fun t ht => (T.get_skip (el ht rfl) (T.get_skip (el ht rfl) (T.get_skip (el ht rfl) rfl))), rfl⟩
    refine Ops.nil ?_
    refine Wp.cond g22 (fun hc29 => ?_) (fun hc29 => ?_)
    · skip
      have p30 : ((((0 : Int) ≠ 0) ∨ ((0 : Int) ≠ 0)) ∨ ((0 : Int) ≠ 0)) := orT (iffO iffD iffD) iffD hc29
      exact absurd p30 (by omega)
    · skip
      have p33 := of_decide_eq_false (orL (orL hc29))
      have p34 := of_decide_eq_false (orR (orL hc29))
      have p35 := of_decide_eq_false (orR hc29)
      refine Wp.skip ?_
      refine Wp.seq ?_
      refine Wp.seq ?_
      refine Wp.region rfl ?_
      refine Ops.val (Val.move ((hF23 0 rfl).trans (T.get_skip rfl ((hF18 0 rfl).trans (T.get_skip rfl (T.get_skip rfl (T.get_skip rfl (T.get_skip rfl (T.get_skip rfl (T.get_skip rfl (T.get_skip rfl (T.get_skip rfl (T.get_skip rfl (T.get_skip rfl (T.get_skip rfl (T.get_skip rfl (T.get_skip rfl (T.get_skip rfl (T.get_skip rfl (T.get_skip rfl (T.get_skip rfl (T.get_skip rfl (T.get_skip rfl (T.get_skip rfl (T.get_skip rfl (T.get_skip rfl (T.get_skip rfl (T.get_skip rfl (T.get_skip rfl (T.get_skip rfl ((hF2 0 rfl).trans (T.get_skip rfl (T.get_skip rfl (T.get_skip rfl (T.get_skip rfl (T.get_skip rfl (T.get_skip rfl T.get_same))))))))))))))))))))))))))))))))))))) rfl ?_
      refine Ops.val (Val.slen Try.underlying9 T.get_same) rfl ?_
      refine Ops.val (Val.gtr T.get_same rfl) rfl ?_
      refine Ops.val (Val.move T.get_same) rfl ?_
      refine Ops.cutN 4 [51, 52, 53, 54] 54 (.b ((decide (0 < (a.length : Int))) && (decide (0 < (b.length : Int))))) ?_ (fun fr38 g36 hF37 => ?_)
      · rcases Bool.eq_false_or_eq_true (decide (0 < (a.length : Int))) with hg39 | hg39
        · skip
          have p40 := of_decide_eq_true hg39
          refine Ops.yes rfl T.get_same hg39 ?_
          refine Ops.val (Val.move (T.get_skip rfl (T.get_skip rfl (T.get_skip rfl (T.get_skip rfl ((hF23 1 rfl).trans (T.get_skip rfl ((hF18 1 rfl).trans (T.get_skip rfl (T.get_skip rfl (T.get_skip rfl (T.get_skip rfl (T.get_skip rfl (T.get_skip rfl (T.get_skip rfl (T.get_skip rfl (T.get_skip rfl (T.get_skip rfl (T.get_skip rfl (T.get_skip rfl (T.get_skip rfl (T.get_skip rfl (T.get_skip rfl (T.get_skip rfl (T.get_skip rfl (T.get_skip rfl (T.get_skip rfl (T.get_skip rfl (T.get_skip rfl (T.get_skip rfl (T.get_skip rfl (T.get_skip rfl (T.get_skip rfl (T.get_skip rfl ((hF2 1 rfl).trans (T.get_skip rfl (T.get_skip rfl (T.get_skip rfl (T.get_skip rfl (T.get_skip rfl T.get_same)))))))))))))))))))))))))))))))))))))))) rfl ?_
          refine Ops.yes rfl (T.get_skip rfl T.get_same) hg39 ?_
          refine Ops.val (Val.slen Try.underlying9 T.get_same) rfl ?_
          refine Ops.yes rfl (T.get_skip rfl (T.get_skip rfl T.get_same)) hg39 ?_
          refine Ops.val (Val.gtr T.get_same rfl) rfl ?_
          refine Ops.val (Val.pickT (T.get_skip rfl (T.get_skip rfl (T.get_skip rfl T.get_same))) hg39 T.get_same) rfl ?_
          exact Ops.nil ⟨T.get_same.trans (cutAT hg39), fun t ht => (T.get_skip (el ht rfl) (T.get_skip (el ht rfl) (T.get_skip (el ht rfl) (T.get_skip (el ht rfl) rfl)))), rfl⟩
        · skip
          refine Ops.no rfl T.get_same hg39 rfl ?_
          refine Ops.no rfl (T.get_skip rfl T.get_same) hg39 rfl ?_
          refine Ops.no rfl (T.get_skip rfl (T.get_skip rfl T.get_same)) hg39 rfl ?_
          refine Ops.val (Val.pickF (T.get_skip rfl (T.get_skip rfl (T.get_skip rfl T.get_same))) hg39 rfl) rfl ?_
          exact Ops.nil ⟨T.get_same.trans (cutAF hg39), fun t ht => (T.get_skip (el ht rfl) (T.get_skip (el ht rfl) (T.get_skip (el ht rfl) (T.get_skip (el ht rfl) rfl)))), rfl⟩
      refine Ops.val (Val.move g36) rfl ?_
      refine Ops.cutN 7 [56, 57, 58, 59, 60, 61, 62] 62 (.b (((decide (0 < (a.length : Int))) && (decide (0 < (b.length : Int)))) && (decide (((a.getD ((((a.length : Int) - 1)).toNat) 0).toNat : Int) = 13)))) ?_ (fun fr43 g41 hF42 => ?_)
      · rcases Bool.eq_false_or_eq_true ((decide (0 < (a.length : Int))) && (decide (0 < (b.length : Int)))) with hg44 | hg44
        · skip
          have p46 := of_decide_eq_true (andL hg44)
          have p47 := of_decide_eq_true (andR hg44)
          refine Ops.yes rfl T.get_same hg44 ?_
          refine Ops.val (Val.move (T.get_skip rfl ((hF37 0 rfl).trans (T.get_skip rfl (T.get_skip rfl (T.get_skip rfl (T.get_skip rfl ((hF23 0 rfl).trans (T.get_skip rfl ((hF18 0 rfl).trans (T.get_skip rfl (T.get_skip rfl (T.get_skip rfl (T.get_skip rfl (T.get_skip rfl (T.get_skip rfl (T.get_skip rfl (T.get_skip rfl (T.get_skip rfl (T.get_skip rfl (T.get_skip rfl (T.get_skip rfl (T.get_skip rfl (T.get_skip rfl (T.get_skip rfl (T.get_skip rfl (T.get_skip rfl (T.get_skip rfl (T.get_skip rfl (T.get_skip rfl (T.get_skip rfl (T.get_skip rfl (T.get_skip rfl (T.get_skip rfl (T.get_skip rfl (T.get_skip rfl ((hF2 0 rfl).trans (T.get_skip rfl (T.get_skip rfl (T.get_skip rfl (T.get_skip rfl (T.get_skip rfl (T.get_skip rfl T.get_same))))))))))))))))))))))))))))))))))))))))))) rfl ?_
          refine Ops.yes rfl (T.get_skip rfl T.get_same) hg44 ?_
          refine Ops.val (Val.move (T.get_skip rfl (T.get_skip rfl ((hF37 0 rfl).trans (T.get_skip rfl (T.get_skip rfl (T.get_skip rfl (T.get_skip rfl ((hF23 0 rfl).trans (T.get_skip rfl ((hF18 0 rfl).trans (T.get_skip rfl (T.get_skip rfl (T.get_skip rfl (T.get_skip rfl (T.get_skip rfl (T.get_skip rfl (T.get_skip rfl (T.get_skip rfl (T.get_skip rfl (T.get_skip rfl (T.get_skip rfl (T.get_skip rfl (T.get_skip rfl (T.get_skip rfl (T.get_skip rfl (T.get_skip rfl (T.get_skip rfl (T.get_skip rfl (T.get_skip rfl (T.get_skip rfl (T.get_skip rfl (T.get_skip rfl (T.get_skip rfl (T.get_skip rfl (T.get_skip rfl (T.get_skip rfl ((hF2 0 rfl).trans (T.get_skip rfl (T.get_skip rfl (T.get_skip rfl (T.get_skip rfl (T.get_skip rfl (T.get_skip rfl T.get_same)))))))))))))))))))))))))))))))))))))))))))) rfl ?_
          refine Ops.yes rfl (T.get_skip rfl (T.get_skip rfl T.get_same)) hg44 ?_
          refine Ops.val (Val.slen Try.underlying9 T.get_same) rfl ?_
          refine Ops.yes rfl (T.get_skip rfl (T.get_skip rfl (T.get_skip rfl T.get_same))) hg44 ?_
          refine Ops.val (Val.isub T.get_same rfl (c := ((a.length : Int) - 1)) (wrap64 (by omega) (by omega))) rfl ?_
          refine Ops.yes rfl (T.get_skip rfl (T.get_skip rfl (T.get_skip rfl (T.get_skip rfl T.get_same)))) hg44 ?_
          refine Ops.val (Val.sidx (i := (((a.length : Int) - 1)).toNat) Try.underlying9 (T.get_skip rfl (T.get_skip rfl (T.get_skip rfl T.get_same))) (T.get_same.trans (by rw [Int.toNat_of_nonneg (a := ((a.length : Int) - 1)) (by omega)])) (by omega)) rfl ?_
          refine Ops.yes rfl (T.get_skip rfl (T.get_skip rfl (T.get_skip rfl (T.get_skip rfl (T.get_skip rfl T.get_same))))) hg44 ?_
          refine Ops.val (Val.ieql T.get_same rfl) rfl ?_
          refine Ops.val (Val.pickT (T.get_skip rfl (T.get_skip rfl (T.get_skip rfl (T.get_skip rfl (T.get_skip rfl (T.get_skip rfl T.get_same)))))) hg44 T.get_same) rfl ?_
          exact Ops.nil ⟨T.get_same.trans (cutAT hg44), fun t ht => (T.get_skip (el ht rfl) (T.get_skip (el ht rfl) (T.get_skip (el ht rfl) (T.get_skip (el ht rfl) (T.get_skip (el ht rfl) (T.get_skip (el ht rfl) (T.get_skip (el ht rfl) rfl))))))), rfl⟩
        · skip
          refine Ops.no rfl T.get_same hg44 rfl ?_
          refine Ops.no rfl (T.get_skip rfl T.get_same) hg44 rfl ?_
          refine Ops.no rfl (T.get_skip rfl (T.get_skip rfl T.get_same)) hg44 rfl ?_
          refine Ops.no rfl (T.get_skip rfl (T.get_skip rfl (T.get_skip rfl T.get_same))) hg44 rfl ?_
          refine Ops.no rfl (T.get_skip rfl (T.get_skip rfl (T.get_skip rfl (T.get_skip rfl T.get_same)))) hg44 rfl ?_
          refine Ops.no rfl (T.get_skip rfl (T.get_skip rfl (T.get_skip rfl (T.get_skip rfl (T.get_skip rfl T.get_same))))) hg44 rfl ?_
          refine Ops.val (Val.pickF (T.get_skip rfl (T.get_skip rfl (T.get_skip rfl (T.get_skip rfl (T.get_skip rfl (T.get_skip rfl T.get_same)))))) hg44 rfl) rfl ?_
          exact Ops.nil ⟨T.get_same.trans (cutAF hg44), fun t ht => (T.get_skip (el ht rfl) (T.get_skip (el ht rfl) (T.get_skip (el ht rfl) (T.get_skip (el ht rfl) (T.get_skip (el ht rfl) (T.get_skip (el ht rfl) (T.get_skip (el ht rfl) rfl))))))), rfl⟩
      refine Ops.val (Val.move g41) rfl ?_
      refine Ops.cutN 4 [64, 65, 66, 67] 67 (.b ((((decide (0 < (a.length : Int))) && (decide (0 < (b.length : Int)))) && (decide (((a.getD ((((a.length : Int) - 1)).toNat) 0).toNat : Int) = 13))) && (decide (((b.getD 0 0).toNat : Int) = 10)))) ?_ (fun fr50 g48 hF49 => ?_)
      · rcases Bool.eq_false_or_eq_true (((decide (0 < (a.length : Int))) && (decide (0 < (b.length : Int)))) && (decide (((a.getD ((((a.length : Int) - 1)).toNat) 0).toNat : Int) = 13))) with hg51 | hg51
        · skip
          have p54 := of_decide_eq_true (andL (andL hg51))
          have p55 := of_decide_eq_true (andR (andL hg51))
          have p56 := of_decide_eq_true (andR hg51)
          refine Ops.yes rfl T.get_same hg51 ?_
          refine Ops.val (Val.move (T.get_skip rfl ((hF42 1 rfl).trans (T.get_skip rfl ((hF37 1 rfl).trans (T.get_skip rfl (T.get_skip rfl (T.get_skip rfl (T.get_skip rfl ((hF23 1 rfl).trans (T.get_skip rfl ((hF18 1 rfl).trans (T.get_skip rfl (T.get_skip rfl (T.get_skip rfl (T.get_skip rfl (T.get_skip rfl (T.get_skip rfl (T.get_skip rfl (T.get_skip rfl (T.get_skip rfl (T.get_skip rfl (T.get_skip rfl (T.get_skip rfl (T.get_skip rfl (T.get_skip rfl (T.get_skip rfl (T.get_skip rfl (T.get_skip rfl (T.get_skip rfl (T.get_skip rfl (T.get_skip rfl (T.get_skip rfl (T.get_skip rfl (T.get_skip rfl (T.get_skip rfl (T.get_skip rfl (T.get_skip rfl ((hF2 1 rfl).trans (T.get_skip rfl (T.get_skip rfl (T.get_skip rfl (T.get_skip rfl (T.get_skip rfl T.get_same)))))))))))))))))))))))))))))))))))))))))))) rfl ?_
          refine Ops.yes rfl (T.get_skip rfl T.get_same) hg51 ?_
          refine Ops.val (Val.sidx (i := 0) Try.underlying9 T.get_same rfl (by omega)) rfl ?_
          refine Ops.yes rfl (T.get_skip rfl (T.get_skip rfl T.get_same)) hg51 ?_
          refine Ops.val (Val.ieql T.get_same rfl) rfl ?_
          refine Ops.val (Val.pickT (T.get_skip rfl (T.get_skip rfl (T.get_skip rfl T.get_same))) hg51 T.get_same) rfl ?_
          exact Ops.nil ⟨T.get_same.trans (cutAT hg51), fun t ht => (T.get_skip (el ht rfl) (T.get_skip (el ht rfl) (T.get_skip (el ht rfl) (T.get_skip (el ht rfl) rfl)))), rfl⟩
        · skip
          refine Ops.no rfl T.get_same hg51 rfl ?_
          refine Ops.no rfl (T.get_skip rfl T.get_same) hg51 rfl ?_
          refine Ops.no rfl (T.get_skip rfl (T.get_skip rfl T.get_same)) hg51 rfl ?_
          refine Ops.val (Val.pickF (T.get_skip rfl (T.get_skip rfl (T.get_skip rfl T.get_same))) hg51 rfl) rfl ?_
          exact Ops.nil ⟨T.get_same.trans (cutAF hg51), fun t ht => (T.get_skip (el ht rfl) (T.get_skip (el ht rfl) (T.get_skip (el ht rfl) (T.get_skip (el ht rfl) rfl)))), rfl⟩
      refine Ops.nil ?_
      refine Wp.cond g48 (fun hc57 => ?_) (fun hc57 => ?_)
      · skip
        have p61 := of_decide_eq_true (andL (andL (andL hc57)))
        have p62 := of_decide_eq_true (andR (andL (andL hc57)))
        have p63 := of_decide_eq_true (andR (andL hc57))
        have p64 := of_decide_eq_true (andR hc57)
        refine Wp.seq ?_
        refine Wp.region rfl ?_
        refine Ops.val (Val.move ((hF49 9 rfl).trans (T.get_skip rfl ((hF42 9 rfl).trans (T.get_skip rfl ((hF37 9 rfl).trans (T.get_skip rfl (T.get_skip rfl (T.get_skip rfl (T.get_skip rfl ((hF23 9 rfl).trans (T.get_skip rfl ((hF18 9 rfl).trans (T.get_skip rfl (T.get_skip rfl (T.get_skip rfl (T.get_skip rfl T.get_same))))))))))))))))) rfl ?_
        refine Ops.val (Val.move (T.get_skip rfl ((hF49 5 rfl).trans (T.get_skip rfl ((hF42 5 rfl).trans (T.get_skip rfl ((hF37 5 rfl).trans (T.get_skip rfl (T.get_skip rfl (T.get_skip rfl (T.get_skip rfl ((hF23 5 rfl).trans (T.get_skip rfl ((hF18 5 rfl).trans (T.get_skip rfl (T.get_skip rfl (T.get_skip rfl (T.get_skip rfl (T.get_skip rfl (T.get_skip rfl (T.get_skip rfl (T.get_skip rfl (T.get_skip rfl (T.get_skip rfl (T.get_skip rfl (T.get_skip rfl (T.get_skip rfl (T.get_skip rfl (T.get_skip rfl (T.get_skip rfl (T.get_skip rfl (T.get_skip rfl (T.get_skip rfl (T.get_skip rfl T.get_same)))))))))))))))))))))))))))))))))) rfl ?_
        refine Ops.val (Val.move (T.get_skip rfl (T.get_skip rfl ((hF49 7 rfl).trans (T.get_skip rfl ((hF42 7 rfl).trans (T.get_skip rfl ((hF37 7 rfl).trans (T.get_skip rfl (T.get_skip rfl (T.get_skip rfl (T.get_skip rfl ((hF23 7 rfl).trans (T.get_skip rfl ((hF18 7 rfl).trans (T.get_skip rfl (T.get_skip rfl (T.get_skip rfl (T.get_skip rfl (T.get_skip rfl (T.get_skip rfl (T.get_skip rfl (T.get_skip rfl (T.get_skip rfl (T.get_skip rfl (T.get_skip rfl (T.get_skip rfl (T.get_skip rfl T.get_same)))))))))))))))))))))))))))) rfl ?_
        refine Ops.val (Val.move (T.get_skip rfl (T.get_skip rfl (T.get_skip rfl ((hF49 7 rfl).trans (T.get_skip rfl ((hF42 7 rfl).trans (T.get_skip rfl ((hF37 7 rfl).trans (T.get_skip rfl (T.get_skip rfl (T.get_skip rfl (T.get_skip rfl ((hF23 7 rfl).trans (T.get_skip rfl ((hF18 7 rfl).trans (T.get_skip rfl (T.get_skip rfl (T.get_skip rfl (T.get_skip rfl (T.get_skip rfl (T.get_skip rfl (T.get_skip rfl (T.get_skip rfl (T.get_skip rfl (T.get_skip rfl (T.get_skip rfl (T.get_skip rfl (T.get_skip rfl T.get_same))))))))))))))))))))))))))))) rfl ?_
        refine Ops.val (Val.slen Try.underlying9 T.get_same) rfl ?_
        refine Ops.val (Val.min1 (m := (cleaned b).length) rfl T.get_same) rfl ?_
        refine Ops.val (Val.sslF (l := (min 1 (cleaned b).length)) Try.underlying9 (T.get_skip rfl (T.get_skip rfl (T.get_skip rfl T.get_same))) T.get_same (by omega)) rfl ?_
        refine Ops.val (Val.sadd (T.get_skip rfl (T.get_skip rfl (T.get_skip rfl (T.get_skip rfl (T.get_skip rfl T.get_same))))) T.get_same (by first | omega | (simp; omega))) rfl ?_
        refine Ops.val (Val.seql (T.get_skip rfl (T.get_skip rfl (T.get_skip rfl (T.get_skip rfl (T.get_skip rfl (T.get_skip rfl (T.get_skip rfl T.get_same))))))) T.get_same) rfl ?_
        refine Ops.val (Val.move T.get_same) rfl ?_
        refine Ops.cutN 2 [78, 79] 79 (.b (((cleaned (a ++ b)) == ((cleaned a) ++ ((cleaned b).drop (min 1 (cleaned b).length)))) && (true))) ?_ (fun fr67 g65 hF66 => ?_)
        · rcases Bool.eq_false_or_eq_true ((cleaned (a ++ b)) == ((cleaned a) ++ ((cleaned b).drop (min 1 (cleaned b).length)))) with hg68 | hg68
          · skip
            have p69 : ((cleaned (a ++ b)) = ((cleaned a) ++ ((cleaned b).drop (min 1 (cleaned b).length)))) := beqT hg68
            refine Ops.yes rfl T.get_same hg68 ?_
            refine Ops.call opnds0 rfl (Ev.known rfl) ?_
            rintro _ _ ⟨rfl, hq⟩
            obtain rfl := Eq.symm hq
            refine Ops.val (Val.pickT (T.get_skip rfl T.get_same) hg68 T.get_same) rfl ?_
            exact Ops.nil ⟨T.get_same.trans (cutAT hg68), fun t ht => (T.get_skip (el ht rfl) (T.get_skip (el ht rfl) rfl)), rfl⟩
          · skip
            refine Ops.no rfl T.get_same hg68 rfl ?_
            refine Ops.val (Val.pickF (T.get_skip rfl T.get_same) hg68 rfl) rfl ?_
            exact Ops.nil ⟨T.get_same.trans (cutAF hg68), fun t ht => (T.get_skip (el ht rfl) (T.get_skip (el ht rfl) rfl)), rfl⟩
        refine Ops.val (Val.assign g65) rfl ?_
        refine Ops.nil ?_
        refine Wp.ret ?_
        show Vm.Fin Try.prog Try.f7 (fun v _ => v = .b true) .ret _ _
        refine Fin.one (.inr rfl) rfl T.get_same ?_
        exact congrArg V.b (parts_crlf_end (by assumption) (by assumption) (by assumption) (by assumption))
      · skip
        have p70 : ¬ ((((0 < (a.length : Int)) ∧ (0 < (b.length : Int))) ∧ (((a.getD ((((a.length : Int) - 1)).toNat) 0).toNat : Int) = 13)) ∧ (((b.getD 0 0).toNat : Int) = 10)) := andF (iffA (iffA iffD iffD) iffD) iffD hc57
        refine Wp.skip ?_
        refine Wp.seq ?_
        refine Wp.region rfl ?_
        refine Ops.val (Val.move ((hF49 9 rfl).trans (T.get_skip rfl ((hF42 9 rfl).trans (T.get_skip rfl ((hF37 9 rfl).trans (T.get_skip rfl (T.get_skip rfl (T.get_skip rfl (T.get_skip rfl ((hF23 9 rfl).trans (T.get_skip rfl ((hF18 9 rfl).trans (T.get_skip rfl (T.get_skip rfl (T.get_skip rfl (T.get_skip rfl T.get_same))))))))))))))))) rfl ?_
        refine Ops.val (Val.move (T.get_skip rfl ((hF49 5 rfl).trans (T.get_skip rfl ((hF42 5 rfl).trans (T.get_skip rfl ((hF37 5 rfl).trans (T.get_skip rfl (T.get_skip rfl (T.get_skip rfl (T.get_skip rfl ((hF23 5 rfl).trans (T.get_skip rfl ((hF18 5 rfl).trans (T.get_skip rfl (T.get_skip rfl (T.get_skip rfl (T.get_skip rfl (T.get_skip rfl (T.get_skip rfl (T.get_skip rfl (T.get_skip rfl (T.get_skip rfl (T.get_skip rfl (T.get_skip rfl (T.get_skip rfl (T.get_skip rfl (T.get_skip rfl (T.get_skip rfl (T.get_skip rfl (T.get_skip rfl (T.get_skip rfl (T.get_skip rfl (T.get_skip rfl T.get_same)))))))))))))))))))))))))))))))))) rfl ?_
        refine Ops.val (Val.move (T.get_skip rfl (T.get_skip rfl ((hF49 7 rfl).trans (T.get_skip rfl ((hF42 7 rfl).trans (T.get_skip rfl ((hF37 7 rfl).trans (T.get_skip rfl (T.get_skip rfl (T.get_skip rfl (T.get_skip rfl ((hF23 7 rfl).trans (T.get_skip rfl ((hF18 7 rfl).trans (T.get_skip rfl (T.get_skip rfl (T.get_skip rfl (T.get_skip rfl (T.get_skip rfl (T.get_skip rfl (T.get_skip rfl (T.get_skip rfl (T.get_skip rfl (T.get_skip rfl (T.get_skip rfl (T.get_skip rfl (T.get_skip rfl T.get_same)))))))))))))))))))))))))))) rfl ?_
        refine Ops.val (Val.sadd (T.get_skip rfl T.get_same) T.get_same (by first | omega | (simp; omega))) rfl ?_
        refine Ops.val (Val.seql (T.get_skip rfl (T.get_skip rfl (T.get_skip rfl T.get_same))) T.get_same) rfl ?_
        refine Ops.val (Val.move T.get_same) rfl ?_
        refine Ops.cutN 2 [86, 87] 87 (.b (((cleaned (a ++ b)) == ((cleaned a) ++ (cleaned b))) && (true))) ?_ (fun fr73 g71 hF72 => ?_)
        · rcases Bool.eq_false_or_eq_true ((cleaned (a ++ b)) == ((cleaned a) ++ (cleaned b))) with hg74 | hg74
          · skip
            have p75 : ((cleaned (a ++ b)) = ((cleaned a) ++ (cleaned b))) := beqT hg74
            refine Ops.yes rfl T.get_same hg74 ?_
            refine Ops.call opnds0 rfl (Ev.known rfl) ?_
            rintro _ _ ⟨rfl, hq⟩
            obtain rfl := Eq.symm hq
            refine Ops.val (Val.pickT (T.get_skip rfl T.get_same) hg74 T.get_same) rfl ?_
            exact Ops.nil ⟨T.get_same.trans (cutAT hg74), fun t ht => (T.get_skip (el ht rfl) (T.get_skip (el ht rfl) rfl)), rfl⟩
          · skip
            refine Ops.no rfl T.get_same hg74 rfl ?_
            refine Ops.val (Val.pickF (T.get_skip rfl T.get_same) hg74 rfl) rfl ?_
            exact Ops.nil ⟨T.get_same.trans (cutAF hg74), fun t ht => (T.get_skip (el ht rfl) (T.get_skip (el ht rfl) rfl)), rfl⟩
        refine Ops.val (Val.assign g71) rfl ?_
        refine Ops.nil ?_
        refine Wp.ret ?_
        show Vm.Fin Try.prog Try.f7 (fun v _ => v = .b true) .ret _ _
        refine Fin.one (.inr rfl) rfl T.get_same ?_
        exact congrArg V.b (parts_plain_end (by assumption))

end Go.Proofs.Ytonihkpcblfafaa
