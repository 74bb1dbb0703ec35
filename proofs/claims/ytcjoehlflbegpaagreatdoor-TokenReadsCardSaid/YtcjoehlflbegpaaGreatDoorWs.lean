/-
  The reference's urls and named tokens do what the model says. Nothing is claimed here.
-/
import Derived.Test.YtcjoehlflbegpaaGreatDoorWr
namespace Go.Proofs.YtcjoehlflbegpaaGreatDoor
open Go.Vm Go.Sx Go.RowKit

def uK (K : Tok → Int → Prop) (b : Bt) (i : Int) (w : Bt) : Prop :=
  if w.drop (urlM w).2 = [] then K (tk 7 (b ++ (urlM w).1)) (i + ((urlM w).2 : Int)) else if hb (w.drop (urlM w).2) = 41 then K (tk 7 (b ++ (urlM w).1)) (i + ((urlM w).2 : Int) + 1) else K (tk 8) (i + ((urlM w).2 : Int) + (badM (w.drop (urlM w).2) : Int))
theorem uK_step {K : Tok → Int → Prop} {b : Bt} {i : Int} {w v t : Bt} {k : Nat} (hu : urlM w = (t ++ (urlM v).1, k + (urlM v).2)) (hv : w.drop k = v) (h : uK K b i w) : uK K (b ++ t) (i + (k : Int)) v := by
  unfold uK at h ⊢
  have e1 : w.drop (urlM w).2 = v.drop (urlM v).2 := by rw [hu, ← hv, List.drop_drop]
  rw [e1, hu] at h
  have e2 : i + ((k + (urlM v).2 : Nat) : Int) = i + (k : Int) + ((urlM v).2 : Int) := by omega
  simp only [e2, ← List.append_assoc] at h
  exact h
theorem p_rUrL (s : Bt) (hs : s.length ≤ 1000000) (K : Tok → Int → Prop) : ∀ (n : Nat) (w : Bt) (i : Int) (b : Bt), w.length ≤ n → s.drop i.toNat = w → 0 ≤ i → i ≤ s.length → b.length + 4 * w.length ≤ 4500000 → uK K b i w → ∃ m, F_ref_url_l3 s_rSps s_rSp s_rBad s_rUnp s_rEsc s_rEscd m s i 0 [] 0 [] false 7 b 0 [] false (fun y2 y3 _ _ _ _ _ y9 y10 y11 y12 y13 => (I64 (y3 + (1 : Int)) ∧ K (Tok.mk y9 y10 y11 y12 y13) (if (y3 + (1 : Int)) < (y2.length : Int) then (y3 + (1 : Int)) else (y2.length : Int)))) (fun y14 y15 y16 y17 y18 y19 => K (Tok.mk y15 y16 y17 y18 y19) y14) := by
  have nilc : ∀ (i : Int) (b : Bt), s.drop i.toNat = [] → 0 ≤ i → i ≤ s.length → K (tk 7 b) i → ∃ m, F_ref_url_l3 s_rSps s_rSp s_rBad s_rUnp s_rEsc s_rEscd m s i 0 [] 0 [] false 7 b 0 [] false (fun y2 y3 _ _ _ _ _ y9 y10 y11 y12 y13 => (I64 (y3 + (1 : Int)) ∧ K (Tok.mk y9 y10 y11 y12 y13) (if (y3 + (1 : Int)) < (y2.length : Int) then (y3 + (1 : Int)) else (y2.length : Int)))) (fun y14 y15 y16 y17 y18 y19 => K (Tok.mk y15 y16 y17 y18 y19) y14) := fun i b hd h0 hi h => by
    have hl := drop_nil hd
    have e : i = s.length := by omega
    refine ⟨1, fun p => (by exfalso; have := of_decide_eq_true p; omega), fun _ => ⟨I64b (by omega), ?_⟩⟩
    rw [if_neg (by omega), ← e]
    exact h
  have parc : ∀ (i : Int) (b : Bt) (c : UInt8) (w : Bt), s.drop i.toNat = c :: w → 0 ≤ i → (c.toNat : Int) = 41 → K (tk 7 b) (i + 1) → ∃ m, F_ref_url_l3 s_rSps s_rSp s_rBad s_rUnp s_rEsc s_rEscd m s i 0 [] 0 [] false 7 b 0 [] false (fun y2 y3 _ _ _ _ _ y9 y10 y11 y12 y13 => (I64 (y3 + (1 : Int)) ∧ K (Tok.mk y9 y10 y11 y12 y13) (if (y3 + (1 : Int)) < (y2.length : Int) then (y3 + (1 : Int)) else (y2.length : Int)))) (fun y14 y15 y16 y17 y18 y19 => K (Tok.mk y15 y16 y17 y18 y19) y14) := fun i b c w hd h0 c1 h => by
    obtain ⟨hl, hc, hnx, hlen⟩ := drop_cons h0 hd
    have f0 : (i < (s.length : Int)) = True := eq_true hl
    have f1 : ((c.toNat : Int) = 41) = True := eq_true c1
    have h' : K (Tok.mk 7 b 0 [] false) (if (i + (1 : Int)) < (s.length : Int) then (i + (1 : Int)) else (s.length : Int)) := by
      have e : (if i + 1 < (s.length : Int) then i + 1 else (s.length : Int)) = i + 1 := by split <;> omega
      rw [e]; exact h
    refine ⟨1, ?_⟩
    simp only [F_ref_url_l3, decide_eq_true_eq, decide_eq_false_iff_not, not_true_eq_false, not_false_eq_true, false_implies, true_implies, forall_const, ne_eq, and_true, true_and, Decidable.not_not, Bool.not_true, Bool.not_false, Bool.true_eq_false, Bool.false_eq_true, reduceCtorEq, implies_true, eq_self, f0, f1, hc, s_rSps, s_rSp, s_rBad, s_rUnp, s_rEsc, s_rEscd]
    (repeat' apply And.intro) <;> first | omega | exact I64b (by omega) | assumption | (simp only [List.length_singleton, List.length_append, List.length_cons, List.length_nil]; omega)
  intro n
  induction n with
  | zero =>
    intro w i b hn hd h0 hi hb h
    have : w = [] := List.length_eq_zero_iff.mp (by omega)
    subst this
    refine nilc i b hd h0 hi ?_
    unfold uK at h
    rw [urlM] at h
    simpa using h
  | succ n ih =>
    intro w i b hn hd h0 hi hb h
    cases w with
    | nil =>
      refine nilc i b hd h0 hi ?_
      unfold uK at h
      rw [urlM] at h
      simpa using h
    | cons c w =>
    obtain ⟨hl, hc, hnx, hlen⟩ := drop_cons h0 hd
    rw [List.length_cons] at hn hb
    have f0 : (i < (s.length : Int)) = True := eq_true hl
    by_cases c1 : (c.toNat : Int) = 41
    · refine parc i b c w hd h0 c1 ?_
      unfold uK at h
      have e : urlM (c :: w) = ([], 0) := by rw [urlM, if_pos c1]
      rw [e] at h
      simp only [List.drop_zero] at h
      rw [if_neg (by simp), hb_cons, if_pos c1] at h
      simpa using h
    · have f1 : ((c.toNat : Int) = 41) = False := eq_false c1
      cases hsp : mSp (c.toNat : Int) with
      | true =>
        have e : urlM (c :: w) = ([], nSp (c :: w)) := by rw [urlM, if_neg c1, if_pos hsp]
        have hk := nSp_len (c :: w)
        rw [List.length_cons] at hk
        have ej : s.drop (i + (nSp (c :: w) : Int)).toNat = (c :: w).drop (nSp (c :: w)) := by rw [dropN h0, hd]
        unfold uK at h
        rw [e] at h
        simp only at h
        generalize hv : (c :: w).drop (nSp (c :: w)) = v at h ej
        generalize hj : i + (nSp (c :: w) : Int) = j at h ej
        have hj0 : 0 ≤ j ∧ j ≤ s.length := by omega
        cases v with
        | nil =>
          rw [if_pos rfl, List.append_nil] at h
          have hl2 := drop_nil ej
          obtain ⟨m, hm⟩ := nilc j b ej hj0.1 hj0.2 h
          have f2 : (j < (s.length : Int)) = False := eq_false (by omega)
          refine ⟨m + 1, ?_⟩
          simp only [F_ref_url_l3, decide_eq_true_eq, decide_eq_false_iff_not, not_true_eq_false, not_false_eq_true, false_implies, true_implies, forall_const, ne_eq, and_true, true_and, Decidable.not_not, Bool.not_true, Bool.not_false, Bool.true_eq_false, Bool.false_eq_true, reduceCtorEq, implies_true, eq_self, f0, f1, f2, hc, hsp, hd, hj, s_rSps, s_rSp, s_rBad, s_rUnp, s_rEsc, s_rEscd]
          (repeat' apply And.intro) <;> first | omega | exact I64b (by omega) | assumption | (simp only [List.length_singleton, List.length_append, List.length_cons, List.length_nil]; omega)
        | cons d v =>
          obtain ⟨hl2, hc2, hnx2, _⟩ := drop_cons hj0.1 ej
          have f2 : (j < (s.length : Int)) = True := eq_true hl2
          rw [if_neg (by simp), hb_cons] at h
          by_cases c2 : (d.toNat : Int) = 41
          · rw [if_pos c2, List.append_nil] at h
            obtain ⟨m, hm⟩ := parc j b d v ej hj0.1 c2 h
            have f3 : ((d.toNat : Int) = 41) = True := eq_true c2
            refine ⟨m + 1, ?_⟩
            simp only [F_ref_url_l3, decide_eq_true_eq, decide_eq_false_iff_not, not_true_eq_false, not_false_eq_true, false_implies, true_implies, forall_const, ne_eq, and_true, true_and, Decidable.not_not, Bool.not_true, Bool.not_false, Bool.true_eq_false, Bool.false_eq_true, reduceCtorEq, implies_true, eq_self, f0, f1, f2, f3, hc, hc2, hsp, hd, hj, s_rSps, s_rSp, s_rBad, s_rUnp, s_rEsc, s_rEscd]
            (repeat' apply And.intro) <;> first | omega | exact I64b (by omega) | assumption | (simp only [List.length_singleton, List.length_append, List.length_cons, List.length_nil]; omega)
          · rw [if_neg c2] at h
            have f3 : ((d.toNat : Int) = 41) = False := eq_false c2
            have h' : K (Tok.mk (tk 8).kind (tk 8).text (tk 8).num (tk 8).unit (tk 8).flag) (j + (badM (d :: v) : Int)) := h
            refine ⟨1, ?_⟩
            simp only [F_ref_url_l3, decide_eq_true_eq, decide_eq_false_iff_not, not_true_eq_false, not_false_eq_true, false_implies, true_implies, forall_const, ne_eq, and_true, true_and, Decidable.not_not, Bool.not_true, Bool.not_false, Bool.true_eq_false, Bool.false_eq_true, reduceCtorEq, implies_true, eq_self, f0, f1, f2, f3, hc, hc2, hsp, hd, hj, ej, s_rSps, s_rSp, s_rBad, s_rUnp, s_rEsc, s_rEscd]
            (repeat' apply And.intro) <;> first | omega | exact I64b (by omega) | assumption | (simp only [List.length_singleton, List.length_append, List.length_cons, List.length_nil]; omega)
      | false =>
        cases hes : escS (c :: w) with
        | true =>
          have c92 : (c.toNat : Int) = 92 := escS_hb hes
          have e : urlM (c :: w) = ((escM w).1 ++ (urlM (w.drop (escM w).2)).1, 1 + (escM w).2 + (urlM (w.drop (escM w).2)).2) := by rw [urlM, if_neg c1, if_neg (by rw [hsp]; decide), if_pos hes]
          have he := escM_len w
          have het := escM_txt w
          have hst := uK_step e (by rw [show 1 + (escM w).2 = (escM w).2 + 1 by omega, List.drop_succ_cons]) h
          obtain ⟨m, hm⟩ := ih (w.drop (escM w).2) (i + 1 + ((escM w).2 : Int)) (b ++ (escM w).1) (by rw [List.length_drop]; omega) (by rw [dropN (by omega), hnx]) (by omega) (by omega) (by rw [List.length_append, List.length_drop]; omega) (by
            have e3 : i + ((1 + (escM w).2 : Nat) : Int) = i + 1 + ((escM w).2 : Int) := by omega
            rw [← e3]; exact hst)
          have g1 : ((c.toNat : Int) = 34) = False := eq_false (by omega)
          have g2 : ((c.toNat : Int) = 39) = False := eq_false (by omega)
          have g3 : ((c.toNat : Int) = 40) = False := eq_false (by omega)
          have g4 : ((c.toNat : Int) = 92) = True := eq_true c92
          have hu : unp (c.toNat : Int) = false := by rw [c92]; decide
          refine ⟨m + 1, ?_⟩
          simp only [F_ref_url_l3, decide_eq_true_eq, decide_eq_false_iff_not, not_true_eq_false, not_false_eq_true, false_implies, true_implies, forall_const, ne_eq, and_true, true_and, Decidable.not_not, Bool.not_true, Bool.not_false, Bool.true_eq_false, Bool.false_eq_true, reduceCtorEq, implies_true, eq_self, f0, f1, g1, g2, g3, g4, hc, hsp, hes, hu, hd, hnx, s_rSps, s_rSp, s_rBad, s_rUnp, s_rEsc, s_rEscd]
          (repeat' apply And.intro) <;> first | omega | exact I64b (by omega) | assumption | (simp only [List.length_singleton, List.length_append, List.length_cons, List.length_nil]; omega)
        | false =>
          have bad : spoils (c.toNat : Int) = true → K (Tok.mk (tk 8).kind (tk 8).text (tk 8).num (tk 8).unit (tk 8).flag) (i + (badM (c :: w) : Int)) := fun q => by
            have e : urlM (c :: w) = ([], 0) := by rw [urlM, if_neg c1, if_neg (by rw [hsp]; decide), if_neg (by rw [hes]; decide), if_pos q]
            unfold uK at h
            rw [e] at h
            simp only [List.drop_zero] at h
            rw [if_neg (by simp), hb_cons, if_neg c1] at h
            simpa using h
          by_cases c34 : (c.toNat : Int) = 34
          · have h' := bad (by rw [c34]; decide)
            have g1 : ((c.toNat : Int) = 34) = True := eq_true c34
            refine ⟨1, ?_⟩
            simp only [F_ref_url_l3, decide_eq_true_eq, decide_eq_false_iff_not, not_true_eq_false, not_false_eq_true, false_implies, true_implies, forall_const, ne_eq, and_true, true_and, Decidable.not_not, Bool.not_true, Bool.not_false, Bool.true_eq_false, Bool.false_eq_true, reduceCtorEq, implies_true, eq_self, f0, f1, g1, hc, hsp, hd, s_rSps, s_rSp, s_rBad, s_rUnp, s_rEsc, s_rEscd]
            (repeat' apply And.intro) <;> first | omega | exact I64b (by omega) | assumption | (simp only [List.length_singleton, List.length_append, List.length_cons, List.length_nil]; omega)
          · have g1 : ((c.toNat : Int) = 34) = False := eq_false c34
            by_cases c39 : (c.toNat : Int) = 39
            · have h' := bad (by rw [c39]; decide)
              have g2 : ((c.toNat : Int) = 39) = True := eq_true c39
              refine ⟨1, ?_⟩
              simp only [F_ref_url_l3, decide_eq_true_eq, decide_eq_false_iff_not, not_true_eq_false, not_false_eq_true, false_implies, true_implies, forall_const, ne_eq, and_true, true_and, Decidable.not_not, Bool.not_true, Bool.not_false, Bool.true_eq_false, Bool.false_eq_true, reduceCtorEq, implies_true, eq_self, f0, f1, g1, g2, hc, hsp, hd, s_rSps, s_rSp, s_rBad, s_rUnp, s_rEsc, s_rEscd]
              (repeat' apply And.intro) <;> first | omega | exact I64b (by omega) | assumption | (simp only [List.length_singleton, List.length_append, List.length_cons, List.length_nil]; omega)
            · have g2 : ((c.toNat : Int) = 39) = False := eq_false c39
              by_cases c40 : (c.toNat : Int) = 40
              · have h' := bad (by rw [c40]; decide)
                have g3 : ((c.toNat : Int) = 40) = True := eq_true c40
                refine ⟨1, ?_⟩
                simp only [F_ref_url_l3, decide_eq_true_eq, decide_eq_false_iff_not, not_true_eq_false, not_false_eq_true, false_implies, true_implies, forall_const, ne_eq, and_true, true_and, Decidable.not_not, Bool.not_true, Bool.not_false, Bool.true_eq_false, Bool.false_eq_true, reduceCtorEq, implies_true, eq_self, f0, f1, g1, g2, g3, hc, hsp, hd, s_rSps, s_rSp, s_rBad, s_rUnp, s_rEsc, s_rEscd]
                (repeat' apply And.intro) <;> first | omega | exact I64b (by omega) | assumption | (simp only [List.length_singleton, List.length_append, List.length_cons, List.length_nil]; omega)
              · have g3 : ((c.toNat : Int) = 40) = False := eq_false c40
                cases hu : unp (c.toNat : Int) with
                | true =>
                  have h' := bad (by
                    unfold unp at hu
                    unfold spoils
                    simp only [Bool.or_eq_true, Bool.and_eq_true, decide_eq_true_eq] at hu ⊢
                    omega)
                  refine ⟨1, ?_⟩
                  simp only [F_ref_url_l3, decide_eq_true_eq, decide_eq_false_iff_not, not_true_eq_false, not_false_eq_true, false_implies, true_implies, forall_const, ne_eq, and_true, true_and, Decidable.not_not, Bool.not_true, Bool.not_false, Bool.true_eq_false, Bool.false_eq_true, reduceCtorEq, implies_true, eq_self, f0, f1, g1, g2, g3, hu, hc, hsp, hd, s_rSps, s_rSp, s_rBad, s_rUnp, s_rEsc, s_rEscd]
                  (repeat' apply And.intro) <;> first | omega | exact I64b (by omega) | assumption | (simp only [List.length_singleton, List.length_append, List.length_cons, List.length_nil]; omega)
                | false =>
                  by_cases c92 : (c.toNat : Int) = 92
                  · have h' := bad (by rw [c92]; decide)
                    have g4 : ((c.toNat : Int) = 92) = True := eq_true c92
                    refine ⟨1, ?_⟩
                    simp only [F_ref_url_l3, decide_eq_true_eq, decide_eq_false_iff_not, not_true_eq_false, not_false_eq_true, false_implies, true_implies, forall_const, ne_eq, and_true, true_and, Decidable.not_not, Bool.not_true, Bool.not_false, Bool.true_eq_false, Bool.false_eq_true, reduceCtorEq, implies_true, eq_self, f0, f1, g1, g2, g3, g4, hu, hes, hc, hsp, hd, s_rSps, s_rSp, s_rBad, s_rUnp, s_rEsc, s_rEscd]
                    (repeat' apply And.intro) <;> first | omega | exact I64b (by omega) | assumption | (simp only [List.length_singleton, List.length_append, List.length_cons, List.length_nil]; omega)
                  · have g4 : ((c.toNat : Int) = 92) = False := eq_false c92
                    have hsl : spoils (c.toNat : Int) = false := by
                      unfold unp at hu
                      unfold spoils
                      simp only [Bool.or_eq_false_iff, Bool.and_eq_false_iff, decide_eq_false_iff_not] at hu ⊢
                      omega
                    have e : urlM (c :: w) = ([c] ++ (urlM w).1, 1 + (urlM w).2) := by rw [urlM, if_neg c1, if_neg (by rw [hsp]; decide), if_neg (by rw [hes]; decide), if_neg (by rw [hsl]; decide)]; rfl
                    have hst := uK_step e rfl h
                    obtain ⟨m, hm⟩ := ih w (i + 1) (b ++ [c]) (by omega) hnx (by omega) (by omega) (by rw [List.length_append]; simp only [List.length_singleton]; omega) hst
                    have t1 : (c :: w).take 1 = [c] := rfl
                    refine ⟨m + 1, ?_⟩
                    simp only [F_ref_url_l3, decide_eq_true_eq, decide_eq_false_iff_not, not_true_eq_false, not_false_eq_true, false_implies, true_implies, forall_const, ne_eq, and_true, true_and, Decidable.not_not, Bool.not_true, Bool.not_false, Bool.true_eq_false, Bool.false_eq_true, reduceCtorEq, implies_true, eq_self, f0, f1, g1, g2, g3, g4, hu, hes, hc, hsp, hd, one_more h0, t1, s_rSps, s_rSp, s_rBad, s_rUnp, s_rEsc, s_rEscd]
                    (repeat' apply And.intro) <;> first | omega | exact I64b (by omega) | assumption | (simp only [List.length_singleton, List.length_append, List.length_cons, List.length_nil]; omega)
def s_rUrl : T_ref_url := fun s i K => (0 ≤ i ∧ i ≤ s.length ∧ s.length ≤ 1000000) ∧ K (readUrlM (s.drop i.toNat)).1 (i + ((readUrlM (s.drop i.toNat)).2 : Int))
theorem p_rUrl (s i K) (h : s_rUrl s i K) : F_ref_url s_rSps s_rSp s_rBad s_rUnp s_rEsc s_rEscd s i K := by
  obtain ⟨⟨h0, hi, hs⟩, h⟩ := h
  have ha := nSp_len (s.drop i.toNat)
  rw [List.length_drop] at ha
  have eA : s.drop (i + (nSp (s.drop i.toNat) : Int)).toNat = (s.drop i.toNat).drop (nSp (s.drop i.toNat)) := dropN h0 _
  refine ⟨⟨h0, by omega, hs⟩, p_rUrL s hs K _ _ _ [] (Nat.le_refl _) rfl (by omega) (by omega) (by rw [List.length_drop]; simp only [List.length_nil]; omega) ?_⟩
  rw [eA]
  unfold readUrlM at h
  simp only at h
  unfold uK
  rw [List.drop_drop, List.nil_append]
  split
  · rename_i q
    rw [if_pos q] at h
    simp only [Int.natCast_add, ← Int.add_assoc] at h
    exact h
  · rename_i q
    rw [if_neg q] at h
    split
    · rename_i q2
      rw [if_pos q2] at h
      simp only [Int.natCast_add, ← Int.add_assoc] at h
      exact h
    · rename_i q2
      rw [if_neg q2] at h
      simp only [Int.natCast_add, ← Int.add_assoc] at h
      exact h

/-! ### Small letters, named tokens -/
def lowB (c : UInt8) : UInt8 := UInt8.ofNat (low (c.toNat : Int)).toNat
theorem low_in (c : UInt8) : 0 ≤ low (c.toNat : Int) ∧ low (c.toNat : Int) ≤ 255 := by
  have := u8in c
  unfold low
  split <;> omega
theorem p_rLowL (Ke : Bt → Prop) : ∀ (w pre : Bt), pre.length + w.length ≤ 1000000 → Ke (pre ++ w.map lowB) → ∃ m, F_ref_Lower_l3 s_rSmall m (pre.length : Int) (pre ++ w) Ke
  | [], pre, hl, h => by
    rw [List.append_nil]
    rw [List.map_nil, List.append_nil] at h
    exact ⟨1, fun q => (by exfalso; have := of_decide_eq_true q; omega), fun _ => h⟩
  | c :: w, pre, hl, h => by
    rw [List.length_cons] at hl
    obtain ⟨m, hm⟩ := p_rLowL Ke w (pre ++ [lowB c]) (by rw [List.length_append, List.length_singleton]; omega) (by rw [List.append_assoc]; exact h)
    have hlt : pre.length < (pre ++ c :: w).length := by rw [List.length_append, List.length_cons]; omega
    have eg : ∀ d : UInt8, (pre ++ c :: w).getD (pre.length : Int).toNat d = c := fun d => by
      rw [Int.toNat_natCast, List.getD_eq_getElem?_getD, List.getElem?_append_right (Nat.le_refl _), Nat.sub_self]
      rfl
    have eset : (pre ++ c :: w).set (pre.length : Int).toNat (UInt8.ofNat (low (c.toNat : Int)).toNat) = (pre ++ [lowB c]) ++ w := by
      rw [Int.toNat_natCast, List.set_append_right _ _ (Nat.le_refl _), Nat.sub_self, List.append_assoc]
      rfl
    have hin := low_in c
    refine ⟨m + 1, fun _ => ⟨⟨by omega, by omega⟩, by rw [Int.toNat_natCast]; exact hlt, ?_⟩, fun q => (by exfalso; have := of_decide_eq_false q; omega)⟩
    have eg' : (pre ++ c :: w).getD (pre.length : Int).toNat (dfltD Cd.u8) = c := eg _
    rw [eg']
    refine ⟨u8in c, ⟨by omega, by omega⟩, by rw [Int.toNat_natCast]; exact hlt, ⟨hin.1, hin.2⟩, I64b (by omega), ?_⟩
    rw [eset]
    rw [List.length_append, List.length_singleton] at hm
    exact hm
def s_rLow : T_ref_Lower := fun s K => s.length ≤ 1000000 ∧ K (s.map lowB)
theorem p_rLow (s K) (h : s_rLow s K) : F_ref_Lower s_rSmall s K := ⟨by have := h.1; omega, p_rLowL K s [] (by simpa using h.1) h.2⟩
theorem lowB_inj {a b : UInt8} : (lowB a = lowB b) ↔ (low (a.toNat : Int) = low (b.toNat : Int)) := by
  have ha := low_in a
  have hb := low_in b
  constructor
  · intro h
    have := congrArg UInt8.toNat h
    unfold lowB at this
    rw [UInt8.toNat_ofNat', UInt8.toNat_ofNat'] at this
    omega
  · intro h
    unfold lowB
    rw [h]
theorem alike_map : ∀ a b : Bt, (a.map lowB == b.map lowB) = alikeM a b
  | [], [] => rfl
  | [], _ :: _ => rfl
  | _ :: _, [] => rfl
  | a :: x, b :: y => by
    have ih := alike_map x y
    rw [List.map_cons, List.map_cons, List.cons_beq_cons, ih, alikeM]
    congr 1
    rw [Bool.eq_iff_iff, beq_iff_eq, decide_eq_true_eq]
    exact lowB_inj
def s_rAlike : T_ref_Alike := fun a b K => (a.length ≤ 1000000 ∧ b.length ≤ 1000000) ∧ K (alikeM a b)
theorem p_rAlike (a b K) (h : s_rAlike a b K) : F_ref_Alike s_rLow a b K := by
  obtain ⟨⟨ha, hb⟩, h⟩ := h
  refine ⟨ha, hb, ?_⟩
  show K (a.map lowB == b.map lowB)
  rw [alike_map]
  exact h
def s_rWord : T_ref_word := fun s i K => (0 ≤ i ∧ i ≤ s.length ∧ s.length ≤ 100000) ∧ K (namedM (s.drop i.toNat)).1 (i + ((namedM (s.drop i.toNat)).2 : Int))
theorem p_rWord (s i K) (h : s_rWord s i K) : F_ref_word s_rNamed s_rAt s_rAlike s_rSps s_rUrl s i K := by
  obtain ⟨⟨h0, hl, hs⟩, h⟩ := h
  have hn := nameM_len (s.drop i.toNat)
  have ht := nameM_txt (s.drop i.toNat)
  rw [List.length_drop] at hn ht
  have eV := dropN h0 (s := s) (nameM (s.drop i.toNat)).2
  unfold namedM at h
  simp only at h
  rw [← eV] at h
  generalize eJ : i + ((nameM (s.drop i.toNat)).2 : Int) = j at eV h ⊢
  have hj : 0 ≤ j ∧ j ≤ s.length := by omega
  refine ⟨⟨h0, by omega, by omega⟩, ?_⟩
  rw [eJ]
  refine ⟨hj.1, fun p => ?_, fun p => ?_⟩
  · rw [if_pos (of_decide_eq_true p)] at h
    rw [eJ] at h
    exact h
  · have p := of_decide_eq_false p
    rw [if_neg p] at h
    have p2 : hb (s.drop j.toNat) = 40 := by simpa using p
    have hl2 : j < s.length := by
      by_cases q : j < s.length
      · exact q
      · rw [List.drop_of_length_le (by omega)] at p2; exact absurd p2 (by decide)
    rw [← dropS hj.1] at h
    have eS := dropN (i := j + 1) (by omega) (s := s) (nSp (s.drop (j + 1).toNat))
    rw [← eS] at h
    have hsp := nSp_len (s.drop (j + 1).toNat)
    rw [List.length_drop] at hsp
    have fin : K (tk 2 (nameM (s.drop i.toNat)).1) (i + (((nameM (s.drop i.toNat)).2 + 1 : Nat) : Int)) → I64 (j + 1) ∧ K (Tok.mk 2 (nameM (s.drop i.toNat)).1 0 [] false) (j + 1) := fun h => by
      have e : i + (((nameM (s.drop i.toNat)).2 + 1 : Nat) : Int) = j + 1 := by omega
      rw [e] at h; exact ⟨I64b (by omega), h⟩
    refine ⟨⟨by omega, by decide⟩, fun q => ⟨I64b (by omega), ⟨by omega, by omega, by omega⟩, by omega, fun q2 => ⟨fun q3 => ⟨I64b (by omega), ⟨by omega, by omega, by omega⟩, ?_⟩, fun q3 => ?_⟩, fun q2 => ?_⟩, fun q => ?_⟩
    · have hq : mQ (hb (s.drop (j + 1 + (nSp (s.drop (j + 1).toNat) : Int)).toNat)) = false := by
        unfold mQ
        rw [decide_eq_false (of_decide_eq_true q2), decide_eq_false (of_decide_eq_true q3)]; rfl
      rw [q, hq] at h
      simp only [Bool.not_false, Bool.and_self, if_true] at h
      have e : i + (((nameM (s.drop i.toNat)).2 + 1 + (readUrlM (s.drop (j + 1).toNat)).2 : Nat) : Int) = j + 1 + ((readUrlM (s.drop (j + 1).toNat)).2 : Int) := by omega
      rw [e] at h
      generalize readUrlM (s.drop (j + 1).toNat) = r at h ⊢
      exact h
    · have hq : mQ (hb (s.drop (j + 1 + (nSp (s.drop (j + 1).toNat) : Int)).toNat)) = true := by
        have q3 := of_decide_eq_false q3
        unfold mQ
        rw [decide_eq_true (show hb (s.drop (j + 1 + (nSp (s.drop (j + 1).toNat) : Int)).toNat) = 39 by simpa using q3), Bool.or_true]
      rw [q, hq] at h
      simp only [Bool.not_true, Bool.and_false, Bool.false_eq_true, if_false] at h
      exact fin h
    · have hq : mQ (hb (s.drop (j + 1 + (nSp (s.drop (j + 1).toNat) : Int)).toNat)) = true := by
        have q2 := of_decide_eq_false q2
        unfold mQ
        rw [decide_eq_true (show hb (s.drop (j + 1 + (nSp (s.drop (j + 1).toNat) : Int)).toNat) = 34 by simpa using q2), Bool.true_or]
      rw [q, hq] at h
      simp only [Bool.not_true, Bool.and_false, Bool.false_eq_true, if_false] at h
      exact fin h
    · rw [q] at h
      simp only [Bool.false_and, Bool.false_eq_true, if_false] at h
      exact fin h
end Go.Proofs.YtcjoehlflbegpaaGreatDoor
