/-
  The law of cleaning twice, followed in the evaluator. Nothing is claimed here.
-/
import Derived.Test.YtonihkpcblfafaaFe
namespace Go.Proofs.Ytonihkpcblfafaa
open Go.Vm Go.Lay1
variable {n : Nat}

theorem InputOnce_ev (s : List UInt8) (st : St) (hn : 5000 ≤ n) : Ev Try.prog ov1 0 n 6 [(V.str (s))] st (fun v _ => v = .b true) := by
  obtain ⟨m, rfl⟩ : ∃ m, n = m + 60 := ⟨n - 60, by omega⟩
  have hS := Sub.refl st.nx st
  have hcl := cleaned_len s
  refine Ev.enter rfl Try.func6 rfl rfl rfl (frame1 _) ?_
  refine Wp.seq ?_
  refine Wp.region rfl ?_
  refine Ops.val (Val.assign rfl) rfl ?_
  refine Ops.nil ?_
  refine Wp.seq ?_
  refine Wp.seq ?_
  refine Wp.region rfl ?_
  refine Ops.val (Val.move (T.get_skip rfl T.get_same)) rfl ?_
  refine Ops.val (Val.slen Try.underlying9 T.get_same) rfl ?_
  refine Ops.val (Val.gtr T.get_same rfl) rfl ?_
  refine Ops.nil ?_
  refine Wp.cond T.get_same (fun hc1 => ?_) (fun hc1 => ?_)
  · skip
    have p2 := of_decide_eq_true hc1
    refine Wp.seq ?_
    refine Wp.region rfl ?_
    refine Ops.call opnds0 rfl (Ev.known rfl) ?_
    rintro _ _ ⟨rfl, hq⟩
    obtain rfl := Eq.symm hq
    refine Ops.val (Val.assign T.get_same) rfl ?_
    refine Ops.nil ?_
    refine Wp.ret ?_
    show Vm.Fin Try.prog Try.f6 (fun v _ => v = .b true) .ret _ _
    refine Fin.one (.inr rfl) rfl T.get_same ?_
    exact rfl
  · skip
    have p3 := of_decide_eq_false hc1
    refine Wp.skip ?_
    refine Wp.seq ?_
    refine Wp.region rfl ?_
    refine Ops.val (Val.move (T.get_skip rfl (T.get_skip rfl (T.get_skip rfl (T.get_skip rfl T.get_same))))) rfl ?_
    refine Ops.call (opndsC T.get_same opnds0) rfl (clean_ev _ (by first | omega | (simp; omega)) _ (by first | omega | (simp; omega))) ?_
    rintro _ st4 ⟨rfl, hs5⟩
    have hS := hS.then hs5 (Nat.le_refl _)
    refine Ops.val (Val.move T.get_same) rfl ?_
    refine Ops.val (Val.extract T.get_same rfl) rfl ?_
    refine Ops.val (Val.extract (T.get_skip rfl T.get_same) rfl) rfl ?_
    refine Ops.val (Val.assign (T.get_skip rfl T.get_same)) rfl ?_
    refine Ops.val (Val.assign (T.get_skip rfl T.get_same)) rfl ?_
    refine Ops.nil ?_
    refine Wp.seq ?_
    refine Wp.region rfl ?_
    refine Ops.val (Val.move (T.get_skip rfl T.get_same)) rfl ?_
    refine Ops.call (opndsC T.get_same opnds0) rfl (clean_ev _ (by first | omega | (simp; omega)) _ (by first | omega | (simp; omega))) ?_
    rintro _ st6 ⟨rfl, hs7⟩
    have hS := hS.then hs7 (Nat.le_refl _)
    refine Ops.val (Val.move T.get_same) rfl ?_
    refine Ops.val (Val.extract T.get_same rfl) rfl ?_
    refine Ops.val (Val.extract (T.get_skip rfl T.get_same) rfl) rfl ?_
    refine Ops.val (Val.assign (T.get_skip rfl T.get_same)) rfl ?_
    refine Ops.val (Val.assign (T.get_skip rfl T.get_same)) rfl ?_
    refine Ops.nil ?_
    refine Wp.seq ?_
    refine Wp.region rfl ?_
    refine Ops.val (Val.move (T.get_skip rfl (T.get_skip rfl (T.get_skip rfl (T.get_skip rfl (T.get_skip rfl (T.get_skip rfl (T.get_skip rfl (T.get_skip rfl (T.get_skip rfl (T.get_skip rfl (T.get_skip rfl (T.get_skip rfl (T.get_skip rfl (T.get_skip rfl (T.get_skip rfl (T.get_skip rfl (T.get_skip rfl (T.get_skip rfl T.get_same))))))))))))))))))) rfl ?_
    refine Ops.call (opndsC T.get_same opnds0) rfl (check_ev _ (by first | assumption | omega) _ (by omega)) ?_
    rintro _ _ ⟨rfl, hq⟩
    obtain rfl := Eq.symm hq
    refine Ops.val (Val.ieql T.get_same rfl) rfl ?_
    refine Ops.val (Val.assign T.get_same) rfl ?_
    refine Ops.nil ?_
    refine Wp.seq ?_
    refine Wp.region rfl ?_
    refine Ops.val (Val.move (T.get_skip rfl (T.get_skip rfl (T.get_skip rfl (T.get_skip rfl (T.get_skip rfl (T.get_skip rfl (T.get_skip rfl (T.get_skip rfl (T.get_skip rfl (T.get_skip rfl (T.get_skip rfl T.get_same)))))))))))) rfl ?_
    refine Ops.val (Val.ieql T.get_same rfl) rfl ?_
    refine Ops.val (Val.move T.get_same) rfl ?_
    refine Ops.cutN 3 [28, 29, 30] 30 (.b ((decide (0 = 0)) && (decide (0 = 0)))) ?_ (fun fr10 g8 hF9 => ?_)
    · rcases Bool.eq_false_or_eq_true (decide (0 = 0)) with hg11 | hg11
      · skip
        have p12 := of_decide_eq_true hg11
        refine Ops.yes rfl T.get_same hg11 ?_
        refine Ops.val (Val.move (T.get_skip rfl (T.get_skip rfl (T.get_skip rfl (T.get_skip rfl (T.get_skip rfl (T.get_skip rfl (T.get_skip rfl T.get_same)))))))) rfl ?_
        refine Ops.yes rfl (T.get_skip rfl T.get_same) hg11 ?_
        refine Ops.val (Val.ieql T.get_same rfl) rfl ?_
        refine Ops.val (Val.pickT (T.get_skip rfl (T.get_skip rfl T.get_same)) hg11 T.get_same) rfl ?_
        exact Ops.nil ⟨T.get_same.trans (cutAT hg11), fun t ht => (T.get_skip (el ht rfl) (T.get_skip (el ht rfl) (T.get_skip (el ht rfl) rfl))), rfl⟩
      · skip
        refine Ops.no rfl T.get_same hg11 rfl ?_
        refine Ops.no rfl (T.get_skip rfl T.get_same) hg11 rfl ?_
        refine Ops.val (Val.pickF (T.get_skip rfl (T.get_skip rfl T.get_same)) hg11 rfl) rfl ?_
        exact Ops.nil ⟨T.get_same.trans (cutAF hg11), fun t ht => (T.get_skip (el ht rfl) (T.get_skip (el ht rfl) (T.get_skip (el ht rfl) rfl))), rfl⟩
    refine Ops.val (Val.move g8) rfl ?_
    refine Ops.cutN 4 [32, 33, 34, 35] 35 (.b (((decide (0 = 0)) && (decide (0 = 0))) && (decide (check (cleaned s) = 0)))) ?_ (fun fr15 g13 hF14 => ?_)
    · rcases Bool.eq_false_or_eq_true ((decide (0 = 0)) && (decide (0 = 0))) with hg16 | hg16
      · skip
        have p18 := of_decide_eq_true (andL hg16)
        have p19 := of_decide_eq_true (andR hg16)
        refine Ops.yes rfl T.get_same hg16 ?_
        refine Ops.val (Val.move (T.get_skip rfl ((hF9 3 rfl).trans (T.get_skip rfl (T.get_skip rfl (T.get_skip rfl (T.get_skip rfl (T.get_skip rfl (T.get_skip rfl (T.get_skip rfl (T.get_skip rfl (T.get_skip rfl (T.get_skip rfl (T.get_skip rfl (T.get_skip rfl (T.get_skip rfl (T.get_skip rfl (T.get_skip rfl T.get_same)))))))))))))))))) rfl ?_
        refine Ops.yes rfl (T.get_skip rfl T.get_same) hg16 ?_
        refine Ops.call (opndsC T.get_same opnds0) rfl (check_ev _ (by first | assumption | omega) _ (by omega)) ?_
        rintro _ _ ⟨rfl, hq⟩
        obtain rfl := Eq.symm hq
        refine Ops.yes rfl (T.get_skip rfl (T.get_skip rfl T.get_same)) hg16 ?_
        refine Ops.val (Val.ieql T.get_same rfl) rfl ?_
        refine Ops.val (Val.pickT (T.get_skip rfl (T.get_skip rfl (T.get_skip rfl T.get_same))) hg16 T.get_same) rfl ?_
        exact Ops.nil ⟨T.get_same.trans (cutAT hg16), fun t ht => (T.get_skip (el ht rfl) (T.get_skip (el ht rfl) (T.get_skip (el ht rfl) (T.get_skip (el ht rfl) rfl)))), rfl⟩
      · skip
        refine Ops.no rfl T.get_same hg16 rfl ?_
        refine Ops.no rfl (T.get_skip rfl T.get_same) hg16 rfl ?_
        refine Ops.no rfl (T.get_skip rfl (T.get_skip rfl T.get_same)) hg16 rfl ?_
        refine Ops.val (Val.pickF (T.get_skip rfl (T.get_skip rfl (T.get_skip rfl T.get_same))) hg16 rfl) rfl ?_
        exact Ops.nil ⟨T.get_same.trans (cutAF hg16), fun t ht => (T.get_skip (el ht rfl) (T.get_skip (el ht rfl) (T.get_skip (el ht rfl) (T.get_skip (el ht rfl) rfl)))), rfl⟩
    refine Ops.val (Val.move g13) rfl ?_
    refine Ops.cutN 4 [37, 38, 39, 40] 40 (.b ((((decide (0 = 0)) && (decide (0 = 0))) && (decide (check (cleaned s) = 0))) && ((cleaned s) == (cleaned (cleaned s))))) ?_ (fun fr22 g20 hF21 => ?_)
    · rcases Bool.eq_false_or_eq_true (((decide (0 = 0)) && (decide (0 = 0))) && (decide (check (cleaned s) = 0))) with hg23 | hg23
      · skip
        have p26 := of_decide_eq_true (andL (andL hg23))
        have p27 := of_decide_eq_true (andR (andL hg23))
        have p28 := of_decide_eq_true (andR hg23)
        refine Ops.yes rfl T.get_same hg23 ?_
        refine Ops.val (Val.move (T.get_skip rfl ((hF14 3 rfl).trans (T.get_skip rfl ((hF9 3 rfl).trans (T.get_skip rfl (T.get_skip rfl (T.get_skip rfl (T.get_skip rfl (T.get_skip rfl (T.get_skip rfl (T.get_skip rfl (T.get_skip rfl (T.get_skip rfl (T.get_skip rfl (T.get_skip rfl (T.get_skip rfl (T.get_skip rfl (T.get_skip rfl (T.get_skip rfl T.get_same)))))))))))))))))))) rfl ?_
        refine Ops.yes rfl (T.get_skip rfl T.get_same) hg23 ?_
        refine Ops.val (Val.move (T.get_skip rfl (T.get_skip rfl ((hF14 5 rfl).trans (T.get_skip rfl ((hF9 5 rfl).trans (T.get_skip rfl (T.get_skip rfl (T.get_skip rfl (T.get_skip rfl (T.get_skip rfl (T.get_skip rfl (T.get_skip rfl (T.get_skip rfl T.get_same)))))))))))))) rfl ?_
        refine Ops.yes rfl (T.get_skip rfl (T.get_skip rfl T.get_same)) hg23 ?_
        refine Ops.val (Val.seql (T.get_skip rfl T.get_same) T.get_same) rfl ?_
        refine Ops.val (Val.pickT (T.get_skip rfl (T.get_skip rfl (T.get_skip rfl T.get_same))) hg23 T.get_same) rfl ?_
        exact Ops.nil ⟨T.get_same.trans (cutAT hg23), fun t ht => (T.get_skip (el ht rfl) (T.get_skip (el ht rfl) (T.get_skip (el ht rfl) (T.get_skip (el ht rfl) rfl)))), rfl⟩
      · skip
        refine Ops.no rfl T.get_same hg23 rfl ?_
        refine Ops.no rfl (T.get_skip rfl T.get_same) hg23 rfl ?_
        refine Ops.no rfl (T.get_skip rfl (T.get_skip rfl T.get_same)) hg23 rfl ?_
        refine Ops.val (Val.pickF (T.get_skip rfl (T.get_skip rfl (T.get_skip rfl T.get_same))) hg23 rfl) rfl ?_
        exact Ops.nil ⟨T.get_same.trans (cutAF hg23), fun t ht => (T.get_skip (el ht rfl) (T.get_skip (el ht rfl) (T.get_skip (el ht rfl) (T.get_skip (el ht rfl) rfl)))), rfl⟩
    refine Ops.val (Val.move g20) rfl ?_
    refine Ops.cutN 6 [42, 43, 44, 45, 46, 47] 47 (.b (((((decide (0 = 0)) && (decide (0 = 0))) && (decide (check (cleaned s) = 0))) && ((cleaned s) == (cleaned (cleaned s)))) && (((cleaned s) == s) == (decide (check s = 0))))) ?_ (fun fr31 g29 hF30 => ?_)
    · rcases Bool.eq_false_or_eq_true ((((decide (0 = 0)) && (decide (0 = 0))) && (decide (check (cleaned s) = 0))) && ((cleaned s) == (cleaned (cleaned s)))) with hg32 | hg32
      · skip
        have p36 := of_decide_eq_true (andL (andL (andL hg32)))
        have p37 := of_decide_eq_true (andR (andL (andL hg32)))
        have p38 := of_decide_eq_true (andR (andL hg32))
        have p39 : ((cleaned s) = (cleaned (cleaned s))) := beqT (andR hg32)
        refine Ops.yes rfl T.get_same hg32 ?_
        refine Ops.val (Val.move (T.get_skip rfl ((hF21 3 rfl).trans (T.get_skip rfl ((hF14 3 rfl).trans (T.get_skip rfl ((hF9 3 rfl).trans (T.get_skip rfl (T.get_skip rfl (T.get_skip rfl (T.get_skip rfl (T.get_skip rfl (T.get_skip rfl (T.get_skip rfl (T.get_skip rfl (T.get_skip rfl (T.get_skip rfl (T.get_skip rfl (T.get_skip rfl (T.get_skip rfl (T.get_skip rfl (T.get_skip rfl T.get_same)))))))))))))))))))))) rfl ?_
        refine Ops.yes rfl (T.get_skip rfl T.get_same) hg32 ?_
        refine Ops.val (Val.move (T.get_skip rfl (T.get_skip rfl ((hF21 0 rfl).trans (T.get_skip rfl ((hF14 0 rfl).trans (T.get_skip rfl ((hF9 0 rfl).trans (T.get_skip rfl (T.get_skip rfl (T.get_skip rfl (T.get_skip rfl (T.get_skip rfl (T.get_skip rfl (T.get_skip rfl (T.get_skip rfl (T.get_skip rfl (T.get_skip rfl (T.get_skip rfl (T.get_skip rfl (T.get_skip rfl (T.get_skip rfl (T.get_skip rfl (T.get_skip rfl (T.get_skip rfl (T.get_skip rfl (T.get_skip rfl (T.get_skip rfl (T.get_skip rfl (T.get_skip rfl (T.get_skip rfl (T.get_skip rfl (T.get_skip rfl T.get_same))))))))))))))))))))))))))))))))) rfl ?_
        refine Ops.yes rfl (T.get_skip rfl (T.get_skip rfl T.get_same)) hg32 ?_
        refine Ops.val (Val.seql (T.get_skip rfl T.get_same) T.get_same) rfl ?_
        refine Ops.yes rfl (T.get_skip rfl (T.get_skip rfl (T.get_skip rfl T.get_same))) hg32 ?_
        refine Ops.val (Val.move (T.get_skip rfl (T.get_skip rfl (T.get_skip rfl (T.get_skip rfl ((hF21 7 rfl).trans (T.get_skip rfl ((hF14 7 rfl).trans (T.get_skip rfl ((hF9 7 rfl).trans (T.get_skip rfl (T.get_skip rfl (T.get_skip rfl T.get_same))))))))))))) rfl ?_
        refine Ops.yes rfl (T.get_skip rfl (T.get_skip rfl (T.get_skip rfl (T.get_skip rfl T.get_same)))) hg32 ?_
        refine Ops.val (Val.beql Try.underlying4 (T.get_skip rfl T.get_same) T.get_same) rfl ?_
        refine Ops.val (Val.pickT (T.get_skip rfl (T.get_skip rfl (T.get_skip rfl (T.get_skip rfl (T.get_skip rfl T.get_same))))) hg32 T.get_same) rfl ?_
        exact Ops.nil ⟨T.get_same.trans (cutAT hg32), fun t ht => (T.get_skip (el ht rfl) (T.get_skip (el ht rfl) (T.get_skip (el ht rfl) (T.get_skip (el ht rfl) (T.get_skip (el ht rfl) (T.get_skip (el ht rfl) rfl)))))), rfl⟩
      · skip
        refine Ops.no rfl T.get_same hg32 rfl ?_
        refine Ops.no rfl (T.get_skip rfl T.get_same) hg32 rfl ?_
        refine Ops.no rfl (T.get_skip rfl (T.get_skip rfl T.get_same)) hg32 rfl ?_
        refine Ops.no rfl (T.get_skip rfl (T.get_skip rfl (T.get_skip rfl T.get_same))) hg32 rfl ?_
        refine Ops.no rfl (T.get_skip rfl (T.get_skip rfl (T.get_skip rfl (T.get_skip rfl T.get_same)))) hg32 rfl ?_
        refine Ops.val (Val.pickF (T.get_skip rfl (T.get_skip rfl (T.get_skip rfl (T.get_skip rfl (T.get_skip rfl T.get_same))))) hg32 rfl) rfl ?_
        exact Ops.nil ⟨T.get_same.trans (cutAF hg32), fun t ht => (T.get_skip (el ht rfl) (T.get_skip (el ht rfl) (T.get_skip (el ht rfl) (T.get_skip (el ht rfl) (T.get_skip (el ht rfl) (T.get_skip (el ht rfl) rfl)))))), rfl⟩
    refine Ops.val (Val.move g29) rfl ?_
    refine Ops.cutN 2 [49, 50] 50 (.b ((((((decide (0 = 0)) && (decide (0 = 0))) && (decide (check (cleaned s) = 0))) && ((cleaned s) == (cleaned (cleaned s)))) && (((cleaned s) == s) == (decide (check s = 0)))) && (true))) ?_ (fun fr42 g40 hF41 => ?_)
    · rcases Bool.eq_false_or_eq_true (((((decide (0 = 0)) && (decide (0 = 0))) && (decide (check (cleaned s) = 0))) && ((cleaned s) == (cleaned (cleaned s)))) && (((cleaned s) == s) == (decide (check s = 0)))) with hg43 | hg43
      · skip
        have p48 := of_decide_eq_true (andL (andL (andL (andL hg43))))
        have p49 := of_decide_eq_true (andR (andL (andL (andL hg43))))
        have p50 := of_decide_eq_true (andR (andL (andL hg43)))
        have p51 : ((cleaned s) = (cleaned (cleaned s))) := beqT (andR (andL hg43))
        have p52 := (andR hg43)
        refine Ops.yes rfl T.get_same hg43 ?_
        refine Ops.call opnds0 rfl (Ev.known rfl) ?_
        rintro _ _ ⟨rfl, hq⟩
        obtain rfl := Eq.symm hq
        refine Ops.val (Val.pickT (T.get_skip rfl T.get_same) hg43 T.get_same) rfl ?_
        exact Ops.nil ⟨T.get_same.trans (cutAT hg43), fun t ht => (T.get_skip (el ht rfl) (T.get_skip (el ht rfl) rfl)), rfl⟩
      · skip
        refine Ops.no rfl T.get_same hg43 rfl ?_
        refine Ops.val (Val.pickF (T.get_skip rfl T.get_same) hg43 rfl) rfl ?_
        exact Ops.nil ⟨T.get_same.trans (cutAF hg43), fun t ht => (T.get_skip (el ht rfl) (T.get_skip (el ht rfl) rfl)), rfl⟩
    refine Ops.val (Val.assign g40) rfl ?_
    refine Ops.nil ?_
    refine Wp.ret ?_
    show Vm.Fin Try.prog Try.f6 (fun v _ => v = .b true) .ret _ _
    refine Fin.one (.inr rfl) rfl T.get_same ?_
    exact congrArg V.b (once_end (by omega))

end Go.Proofs.Ytonihkpcblfafaa
