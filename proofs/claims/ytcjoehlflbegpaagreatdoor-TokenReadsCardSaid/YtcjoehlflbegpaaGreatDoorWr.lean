/-
  The reference's strings, urls, tokens do what the model says. Nothing is claimed here.
-/
import Derived.Test.YtcjoehlflbegpaaGreatDoorWq
namespace Go.Proofs.YtcjoehlflbegpaaGreatDoor
open Go.Vm Go.Sx Go.RowKit

theorem one_more {i : Int} (h : 0 ≤ i) : (i + 1).toNat - i.toNat = 1 := by omega
theorem p_rQuL (s : Bt) (hs : s.length ≤ 1000000) (q : Int) (K : Tok → Int → Prop) : ∀ (n : Nat) (w : Bt) (i : Int) (b : Bt), w.length ≤ n → s.drop i.toNat = w → okP s i → b.length + 4 * w.length ≤ 4500000 → strK K b i (strM q w) → ∃ m, F_ref_quoted_l4 s_rEscd m s i q 0 [] 0 [] false 5 b 0 [] false (fun y1 _ _ _ _ _ y7 y8 y9 y10 y11 => K (Tok.mk y7 y8 y9 y10 y11) y1) (fun y12 y13 y14 y15 y16 y17 => K (Tok.mk y13 y14 y15 y16 y17) y12) := by
  intro n
  have nilc : ∀ (i : Int) (b : Bt), s.drop i.toNat = [] → okP s i → strK K b i (strM q []) → ∃ m, F_ref_quoted_l4 s_rEscd m s i q 0 [] 0 [] false 5 b 0 [] false (fun y1 _ _ _ _ _ y7 y8 y9 y10 y11 => K (Tok.mk y7 y8 y9 y10 y11) y1) (fun y12 y13 y14 y15 y16 y17 => K (Tok.mk y13 y14 y15 y16 y17) y12) := fun i b hd hi h => by
    have hl := drop_nil hd
    rw [strM] at h
    refine ⟨1, fun p => (by exfalso; have := of_decide_eq_true p; omega), fun _ => ?_⟩
    simpa [strK, tk] using h
  induction n with
  | zero =>
    intro w i b hn hd hi hb h
    have : w = [] := List.length_eq_zero_iff.mp (by omega)
    subst this
    exact nilc i b hd hi h
  | succ n ih =>
    intro w i b hn hd hi hb h
    cases w with
    | nil => exact nilc i b hd hi h
    | cons c w =>
    obtain ⟨hl, hc, hnx, hlen⟩ := drop_cons hi.1 hd
    have h0 := hi.1
    rw [List.length_cons] at hn hb
    have f0 : (i < (s.length : Int)) = True := eq_true hl
    by_cases c1 : (c.toNat : Int) = q
    · have e : strM q (c :: w) = (true, [], 1) := by rw [strM.eq_def]; simp only; rw [if_pos c1]
      rw [e] at h
      have h' : K (Tok.mk 5 b 0 [] false) (i + 1) := by simpa [strK, tk] using h
      have f1 : ((c.toNat : Int) = q) = True := eq_true c1
      refine ⟨1, ?_⟩
      simp only [F_ref_quoted_l4, decide_eq_true_eq, decide_eq_false_iff_not, not_true_eq_false, not_false_eq_true, false_implies, true_implies, forall_const, ne_eq, and_true, true_and, Decidable.not_not, Bool.not_true, Bool.not_false, Bool.true_eq_false, Bool.false_eq_true, reduceCtorEq, implies_true, eq_self, f0, f1, hc]
      (repeat' apply And.intro) <;> first | omega | exact I64b (by omega) | assumption | (simp only [List.length_singleton, List.length_append, List.length_cons, List.length_nil]; omega)
    · have f1 : ((c.toNat : Int) = q) = False := eq_false c1
      by_cases c2 : (c.toNat : Int) = 10
      · have e : strM q (c :: w) = (false, [], 0) := by rw [strM.eq_def]; simp only; rw [if_neg c1, if_pos c2]
        rw [e] at h
        have h' : K (Tok.mk 6 [] 0 [] false) i := by simpa [strK, tk] using h
        have f2 : ((c.toNat : Int) = 10) = True := eq_true c2
        refine ⟨1, ?_⟩
        simp only [F_ref_quoted_l4, decide_eq_true_eq, decide_eq_false_iff_not, not_true_eq_false, not_false_eq_true, false_implies, true_implies, forall_const, ne_eq, and_true, true_and, Decidable.not_not, Bool.not_true, Bool.not_false, Bool.true_eq_false, Bool.false_eq_true, reduceCtorEq, implies_true, eq_self, f0, f1, f2, hc]
        (repeat' apply And.intro) <;> first | omega | exact I64b (by omega) | assumption | (simp only [List.length_singleton, List.length_append, List.length_cons, List.length_nil]; omega)
      · have f2 : ((c.toNat : Int) = 10) = False := eq_false c2
        by_cases c3 : (c.toNat : Int) = 92
        · have f3 : ((c.toNat : Int) = 92) = True := eq_true c3
          cases w with
          | nil =>
            have e : strM q [c] = (true, [], 1) := by rw [strM.eq_def]; simp only; rw [if_neg c1, if_neg c2, if_neg (fun x => x c3)]
            rw [e] at h
            have hl2 := drop_nil hnx
            obtain ⟨m, hm⟩ := nilc (i + 1) b hnx ⟨by omega, by omega, hs⟩ (by
              rw [strM]
              simpa [strK, tk] using h)
            have f4 : (i + 1 = (s.length : Int)) = True := eq_true (by simp only [List.length_nil] at hlen; omega)
            refine ⟨m + 1, ?_⟩
            simp only [F_ref_quoted_l4, decide_eq_true_eq, decide_eq_false_iff_not, not_true_eq_false, not_false_eq_true, false_implies, true_implies, forall_const, ne_eq, and_true, true_and, Decidable.not_not, Bool.not_true, Bool.not_false, Bool.true_eq_false, Bool.false_eq_true, reduceCtorEq, implies_true, eq_self, f0, f1, f2, f3, f4, hc]
            (repeat' apply And.intro) <;> first | omega | exact I64b (by omega) | assumption | (simp only [List.length_singleton, List.length_append, List.length_cons, List.length_nil]; omega)
          | cons d v =>
            obtain ⟨hl2, hc2, hnx2, hlen2⟩ := drop_cons (by omega) hnx
            have hnx3 : s.drop (i + 2).toNat = v := by rw [show i + 2 = i + 1 + 1 by omega]; exact hnx2
            rw [List.length_cons] at hn hb
            have f4 : (i + 1 = (s.length : Int)) = False := eq_false (by omega)
            by_cases c4 : (d.toNat : Int) = 10
            · have f5 : ((d.toNat : Int) = 10) = True := eq_true c4
              have e : strM q (c :: d :: v) = ((strM q v).1, (strM q v).2.1, 2 + (strM q v).2.2) := by rw [strM.eq_def]; simp only; rw [if_neg c1, if_neg c2, if_neg (fun x => x c3), if_pos c4]
              rw [e] at h
              obtain ⟨m, hm⟩ := ih v (i + 2) b (by omega) hnx3 ⟨by omega, by omega, hs⟩ (by omega) (by
                unfold strK at h ⊢
                have : i + 2 + ((strM q v).2.2 : Int) = i + ((2 + (strM q v).2.2 : Nat) : Int) := by omega
                rw [this]; exact h)
              refine ⟨m + 1, ?_⟩
              simp only [F_ref_quoted_l4, decide_eq_true_eq, decide_eq_false_iff_not, not_true_eq_false, not_false_eq_true, false_implies, true_implies, forall_const, ne_eq, and_true, true_and, Decidable.not_not, Bool.not_true, Bool.not_false, Bool.true_eq_false, Bool.false_eq_true, reduceCtorEq, implies_true, eq_self, f0, f1, f2, f3, f4, f5, hc, hc2]
              (repeat' apply And.intro) <;> first | omega | exact I64b (by omega) | assumption | (simp only [List.length_singleton, List.length_append, List.length_cons, List.length_nil]; omega)
            · have f5 : ((d.toNat : Int) = 10) = False := eq_false c4
              have e : strM q (c :: d :: v) = ((strM q ((d :: v).drop (escM (d :: v)).2)).1, (escM (d :: v)).1 ++ (strM q ((d :: v).drop (escM (d :: v)).2)).2.1, 1 + (escM (d :: v)).2 + (strM q ((d :: v).drop (escM (d :: v)).2)).2.2) := by rw [strM.eq_def]; simp only; rw [if_neg c1, if_neg c2, if_neg (fun x => x c3), if_neg c4]
              rw [e] at h
              have he := escM_len (d :: v)
              have het := escM_txt (d :: v)
              rw [List.length_cons] at he
              have hlw : ((d :: v).drop (escM (d :: v)).2).length ≤ n := by rw [List.length_drop, List.length_cons]; omega
              obtain ⟨m, hm⟩ := ih ((d :: v).drop (escM (d :: v)).2) (i + 1 + ((escM (d :: v)).2 : Int)) (b ++ (escM (d :: v)).1) hlw (by rw [dropN (by omega), hnx]) ⟨by omega, by omega, hs⟩ (by rw [List.length_append, List.length_drop, List.length_cons]; omega) (by
                unfold strK at h ⊢
                have : i + 1 + ((escM (d :: v)).2 : Int) + ((strM q ((d :: v).drop (escM (d :: v)).2)).2.2 : Int) = i + ((1 + (escM (d :: v)).2 + (strM q ((d :: v).drop (escM (d :: v)).2)).2.2 : Nat) : Int) := by omega
                rw [this, List.append_assoc]; exact h)
              refine ⟨m + 1, ?_⟩
              simp only [F_ref_quoted_l4, decide_eq_true_eq, decide_eq_false_iff_not, not_true_eq_false, not_false_eq_true, false_implies, true_implies, forall_const, ne_eq, and_true, true_and, Decidable.not_not, Bool.not_true, Bool.not_false, Bool.true_eq_false, Bool.false_eq_true, reduceCtorEq, implies_true, eq_self, f0, f1, f2, f3, f4, f5, hc, hc2, s_rEscd, hl, h0, hs, hnx]
              (repeat' apply And.intro) <;> first | omega | exact I64b (by omega) | assumption | (simp only [List.length_singleton, List.length_append, List.length_cons, List.length_nil]; omega)
        · have f3 : ((c.toNat : Int) = 92) = False := eq_false c3
          have e : strM q (c :: w) = ((strM q w).1, c :: (strM q w).2.1, 1 + (strM q w).2.2) := by rw [strM.eq_def]; simp only; rw [if_neg c1, if_neg c2, if_pos c3]
          rw [e] at h
          obtain ⟨m, hm⟩ := ih w (i + 1) (b ++ [c]) (by omega) hnx ⟨by omega, by omega, hs⟩ (by rw [List.length_append]; simp only [List.length_singleton]; omega) (by
            unfold strK at h ⊢
            have : i + 1 + ((strM q w).2.2 : Int) = i + ((1 + (strM q w).2.2 : Nat) : Int) := by omega
            rw [this, List.append_assoc]; exact h)
          have t1 : (c :: w).take 1 = [c] := rfl
          refine ⟨m + 1, ?_⟩
          simp only [F_ref_quoted_l4, decide_eq_true_eq, decide_eq_false_iff_not, not_true_eq_false, not_false_eq_true, false_implies, true_implies, forall_const, ne_eq, and_true, true_and, Decidable.not_not, Bool.not_true, Bool.not_false, Bool.true_eq_false, Bool.false_eq_true, reduceCtorEq, implies_true, eq_self, f0, f1, f2, f3, hc, one_more h0, hd, t1]
          (repeat' apply And.intro) <;> first | omega | exact I64b (by omega) | assumption | (simp only [List.length_singleton, List.length_append, List.length_cons, List.length_nil]; omega)
def s_rQu : T_ref_quoted := fun s i K => (0 ≤ i ∧ i < s.length ∧ s.length ≤ 1000000) ∧ strK K [] (i + 1) (strM (hb (s.drop i.toNat)) (s.drop (i + 1).toNat))
theorem p_rQu (s i K) (h : s_rQu s i K) : F_ref_quoted s_rEscd s i K := by
  obtain ⟨⟨h0, h1, h2⟩, h⟩ := h
  rw [hb_getD] at h
  exact ⟨⟨h0, h1⟩, I64b (by omega), p_rQuL s h2 _ K _ _ _ [] (Nat.le_refl _) rfl ⟨by omega, by omega, h2⟩ (by rw [List.length_drop]; simp only [List.length_nil]; omega) h⟩
end Go.Proofs.YtcjoehlflbegpaaGreatDoor
