/-
  The reference's tokens, all tokens, and the law that both agree. Nothing is claimed here.
-/
import Derived.Test.YtcjoehlflbegpaaGreatDoorWs
namespace Go.Proofs.YtcjoehlflbegpaaGreatDoor
open Go.Vm Go.Sx Go.RowKit

theorem p_rOne2 {s : Bt} {i : Int} {c : UInt8} {v : Bt} {K : Tok → Int → Prop} (h0 : 0 ≤ i) (hs : s.length ≤ 12000) (hE : ∀ w, numS w = true → w.length ≤ s.length → behindE w ≤ 4000 ∨ True) (hd : s.drop i.toNat = c :: v) (hB : numS (c :: v) = true → behindE (c :: v) ≤ 4000) (h : K (tok2 (c :: v)).1 (i + ((tok2 (c :: v)).2 : Int))) :
    (s_rNumAt s i (fun y10 => ((y10 = true → (s_rNumeric s i (fun y11 y12 => K (Tok.mk y11.kind y11.text y11.num y11.unit y11.flag) y12))) ∧ (y10 = false → (s_rHas s i ([45, 45, 62] : Bt) (fun y13 => ((y13 = true → (I64 (i + (3 : Int)) ∧ K (Tok.mk (15 : Int) ([] : Bt) (0 : Int) ([] : Bt) false) (i + (3 : Int)))) ∧ (y13 = false → (s_rHas s i ([60, 33, 45, 45] : Bt) (fun y14 => ((y14 = true → (I64 (i + (4 : Int)) ∧ K (Tok.mk (14 : Int) ([] : Bt) (0 : Int) ([] : Bt) false) (i + (4 : Int)))) ∧ (y14 = false → (((decide (((s.getD i.toNat 0).toNat : Int) = (64 : Int))) = true → (I64 (i + (1 : Int)) ∧ (s_rNameAt s (i + (1 : Int)) (fun y15 => ((y15 = true → (I64 (i + (1 : Int)) ∧ (s_rNamed s (i + (1 : Int)) (fun y16 y17 => K (Tok.mk (3 : Int) y16 (0 : Int) ([] : Bt) false) y17)))) ∧ (y15 = false → (s_rNameAt s i (fun y18 => ((y18 = true → (s_rWord s i (fun y19 y20 => K (Tok.mk y19.kind y19.text y19.num y19.unit y19.flag) y20))) ∧ (y18 = false → (s_rMark ((s.getD i.toNat 0).toNat : Int) (fun y21 => (((decide (y21 ≠ (0 : Int))) = true → (s_rMark ((s.getD i.toNat 0).toNat : Int) (fun y22 => (I64 (i + (1 : Int)) ∧ K (Tok.mk y22 ([] : Bt) (0 : Int) ([] : Bt) false) (i + (1 : Int)))))) ∧ ((decide (y21 ≠ (0 : Int))) = false → (I64 (i + (1 : Int)) ∧ ((0 ≤ i ∧ i ≤ (i + (1 : Int)) ∧ (i + (1 : Int)) ≤ (s.length : Int)) ∧ (I64 (i + (1 : Int)) ∧ K (Tok.mk (9 : Int) ((s.drop i.toNat).take ((i + (1 : Int)).toNat - i.toNat)) (0 : Int) ([] : Bt) false) (i + (1 : Int))))))))))))))))))) ∧ ((decide (((s.getD i.toNat 0).toNat : Int) = (64 : Int))) = false → (s_rNameAt s i (fun y23 => ((y23 = true → (s_rWord s i (fun y24 y25 => K (Tok.mk y24.kind y24.text y24.num y24.unit y24.flag) y25))) ∧ (y23 = false → (s_rMark ((s.getD i.toNat 0).toNat : Int) (fun y26 => (((decide (y26 ≠ (0 : Int))) = true → (s_rMark ((s.getD i.toNat 0).toNat : Int) (fun y27 => (I64 (i + (1 : Int)) ∧ K (Tok.mk y27 ([] : Bt) (0 : Int) ([] : Bt) false) (i + (1 : Int)))))) ∧ ((decide (y26 ≠ (0 : Int))) = false → (I64 (i + (1 : Int)) ∧ ((0 ≤ i ∧ i ≤ (i + (1 : Int)) ∧ (i + (1 : Int)) ≤ (s.length : Int)) ∧ (I64 (i + (1 : Int)) ∧ K (Tok.mk (9 : Int) ((s.drop i.toNat).take ((i + (1 : Int)).toNat - i.toNat)) (0 : Int) ([] : Bt) false) (i + (1 : Int))))))))))))))))))))))))))) := by
  obtain ⟨hl, hc, hn, hv⟩ := drop_cons h0 hd
  have ha := u8in c
  unfold tok2 at h
  cases n1 : numS (c :: v) with
  | true =>
    rw [if_pos n1] at h
    have hB := hB n1
    have h' : K (Tok.mk (numericM (c :: v)).1.kind (numericM (c :: v)).1.text (numericM (c :: v)).1.num (numericM (c :: v)).1.unit (numericM (c :: v)).1.flag) (i + ((numericM (c :: v)).2 : Int)) := by
      generalize numericM (c :: v) = r at h ⊢
      exact h
    simp only [decide_eq_true_eq, decide_eq_false_iff_not, not_true_eq_false, not_false_eq_true, false_implies, true_implies, forall_const, ne_eq, and_true, true_and, Decidable.not_not, Bool.not_true, Bool.not_false, Bool.true_eq_false, Bool.false_eq_true, reduceCtorEq, implies_true, eq_self, n1, hd, hc, s_rNumAt, s_rNumeric, s_rHas, s_rNameAt, s_rNamed, s_rWord, s_rMark]
    (repeat' apply And.intro) <;> first | omega | exact I64b (by omega) | assumption | (simp only [List.length_singleton, List.length_append, List.length_cons, List.length_nil]; omega)
  | false =>
    rw [if_neg (by rw [n1]; decide)] at h
    cases n2 : ([45, 45, 62] : Bt).isPrefixOf (c :: v) with
    | true =>
      rw [if_pos n2] at h
      have h3 := pre_len n2
      have h3 : 3 ≤ v.length + 1 := h3
      have h' : K (Tok.mk 15 [] 0 [] false) (i + 3) := h
      simp only [decide_eq_true_eq, decide_eq_false_iff_not, not_true_eq_false, not_false_eq_true, false_implies, true_implies, forall_const, ne_eq, and_true, true_and, Decidable.not_not, Bool.not_true, Bool.not_false, Bool.true_eq_false, Bool.false_eq_true, reduceCtorEq, implies_true, eq_self, n1, n2, hd, hc, s_rNumAt, s_rNumeric, s_rHas, s_rNameAt, s_rNamed, s_rWord, s_rMark]
      (repeat' apply And.intro) <;> first | omega | exact I64b (by omega) | assumption | (simp only [List.length_singleton, List.length_append, List.length_cons, List.length_nil]; omega)
    | false =>
      rw [if_neg (by rw [n2]; decide)] at h
      cases n3 : ([60, 33, 45, 45] : Bt).isPrefixOf (c :: v) with
      | true =>
        rw [if_pos n3] at h
        have h3 := pre_len n3
        have h3 : 4 ≤ v.length + 1 := h3
        have h' : K (Tok.mk 14 [] 0 [] false) (i + 4) := h
        simp only [decide_eq_true_eq, decide_eq_false_iff_not, not_true_eq_false, not_false_eq_true, false_implies, true_implies, forall_const, ne_eq, and_true, true_and, Decidable.not_not, Bool.not_true, Bool.not_false, Bool.true_eq_false, Bool.false_eq_true, reduceCtorEq, implies_true, eq_self, n1, n2, n3, hd, hc, s_rNumAt, s_rNumeric, s_rHas, s_rNameAt, s_rNamed, s_rWord, s_rMark]
        (repeat' apply And.intro) <;> first | omega | exact I64b (by omega) | assumption | (simp only [List.length_singleton, List.length_append, List.length_cons, List.length_nil]; omega)
      | false =>
        rw [if_neg (by rw [n3]; decide)] at h
        unfold tok4 at h
        have last : ¬ (hb (c :: v) = 64 ∧ nameS (c :: v).tail = true) → K (tok5 (c :: v)).1 (i + ((tok5 (c :: v)).2 : Int)) := fun q => by rw [if_neg q] at h; exact h
        by_cases c64 : (c.toNat : Int) = 64
        · have f1 : ((c.toNat : Int) = 64) = True := eq_true c64
          cases n4 : nameS v with
          | true =>
            rw [if_pos ⟨c64, n4⟩, List.tail_cons] at h
            have h' : K (Tok.mk 3 (nameM v).1 0 [] false) (i + 1 + ((nameM v).2 : Int)) := by
              have e : i + ((1 + (nameM v).2 : Nat) : Int) = i + 1 + ((nameM v).2 : Int) := by omega
              rw [e] at h; exact h
            simp only [decide_eq_true_eq, decide_eq_false_iff_not, not_true_eq_false, not_false_eq_true, false_implies, true_implies, forall_const, ne_eq, and_true, true_and, Decidable.not_not, Bool.not_true, Bool.not_false, Bool.true_eq_false, Bool.false_eq_true, reduceCtorEq, implies_true, eq_self, n1, n2, n3, n4, f1, hd, hc, hn, s_rNumAt, s_rNumeric, s_rHas, s_rNameAt, s_rNamed, s_rWord, s_rMark]
            (repeat' apply And.intro) <;> first | omega | exact I64b (by omega) | assumption | (simp only [List.length_singleton, List.length_append, List.length_cons, List.length_nil]; omega)
          | false =>
            have h5 := last (fun x => by have := x.2; rw [List.tail_cons, n4] at this; cases this)
            unfold tok5 at h5
            cases n5 : nameS (c :: v) with
            | true =>
              rw [if_pos n5] at h5
              have h' : K (Tok.mk (namedM (c :: v)).1.kind (namedM (c :: v)).1.text (namedM (c :: v)).1.num (namedM (c :: v)).1.unit (namedM (c :: v)).1.flag) (i + ((namedM (c :: v)).2 : Int)) := by
                generalize namedM (c :: v) = r at h5 ⊢
                exact h5
              simp only [decide_eq_true_eq, decide_eq_false_iff_not, not_true_eq_false, not_false_eq_true, false_implies, true_implies, forall_const, ne_eq, and_true, true_and, Decidable.not_not, Bool.not_true, Bool.not_false, Bool.true_eq_false, Bool.false_eq_true, reduceCtorEq, implies_true, eq_self, n1, n2, n3, n4, f1, n5, hd, hc, hn, s_rNumAt, s_rNumeric, s_rHas, s_rNameAt, s_rNamed, s_rWord, s_rMark]
              (repeat' apply And.intro) <;> first | omega | exact I64b (by omega) | assumption | (simp only [List.length_singleton, List.length_append, List.length_cons, List.length_nil]; omega)
            | false =>
              rw [if_neg (by rw [n5]; decide), hb_cons] at h5
              by_cases n6 : markM (c.toNat : Int) = 0
              · have f6 : (markM (c.toNat : Int) = 0) = True := eq_true n6
                rw [if_neg (fun x => x n6)] at h5
                have t1 : (c :: v).take 1 = [c] := rfl
                have h' : K (Tok.mk 9 [c] 0 [] false) (i + 1) := h5
                simp only [decide_eq_true_eq, decide_eq_false_iff_not, not_true_eq_false, not_false_eq_true, false_implies, true_implies, forall_const, ne_eq, and_true, true_and, Decidable.not_not, Bool.not_true, Bool.not_false, Bool.true_eq_false, Bool.false_eq_true, reduceCtorEq, implies_true, eq_self, n1, n2, n3, n4, f1, n5, f6, hd, hc, hn, one_more h0, t1, s_rNumAt, s_rNumeric, s_rHas, s_rNameAt, s_rNamed, s_rWord, s_rMark]
                (repeat' apply And.intro) <;> first | omega | exact I64b (by omega) | assumption | (simp only [List.length_singleton, List.length_append, List.length_cons, List.length_nil]; omega)
              · have f6 : (markM (c.toNat : Int) = 0) = False := eq_false n6
                rw [if_pos n6] at h5
                have h' : K (Tok.mk (markM (c.toNat : Int)) [] 0 [] false) (i + 1) := h5
                simp only [decide_eq_true_eq, decide_eq_false_iff_not, not_true_eq_false, not_false_eq_true, false_implies, true_implies, forall_const, ne_eq, and_true, true_and, Decidable.not_not, Bool.not_true, Bool.not_false, Bool.true_eq_false, Bool.false_eq_true, reduceCtorEq, implies_true, eq_self, n1, n2, n3, n4, f1, n5, f6, hd, hc, hn, s_rNumAt, s_rNumeric, s_rHas, s_rNameAt, s_rNamed, s_rWord, s_rMark]
                (repeat' apply And.intro) <;> first | omega | exact I64b (by omega) | assumption | (simp only [List.length_singleton, List.length_append, List.length_cons, List.length_nil]; omega)
        · have f1 : ((c.toNat : Int) = 64) = False := eq_false c64
          have h5 := last (fun x => c64 x.1)
          unfold tok5 at h5
          cases n5 : nameS (c :: v) with
          | true =>
            rw [if_pos n5] at h5
            have h' : K (Tok.mk (namedM (c :: v)).1.kind (namedM (c :: v)).1.text (namedM (c :: v)).1.num (namedM (c :: v)).1.unit (namedM (c :: v)).1.flag) (i + ((namedM (c :: v)).2 : Int)) := by
              generalize namedM (c :: v) = r at h5 ⊢
              exact h5
            simp only [decide_eq_true_eq, decide_eq_false_iff_not, not_true_eq_false, not_false_eq_true, false_implies, true_implies, forall_const, ne_eq, and_true, true_and, Decidable.not_not, Bool.not_true, Bool.not_false, Bool.true_eq_false, Bool.false_eq_true, reduceCtorEq, implies_true, eq_self, n1, n2, n3, f1, n5, hd, hc, hn, s_rNumAt, s_rNumeric, s_rHas, s_rNameAt, s_rNamed, s_rWord, s_rMark]
            (repeat' apply And.intro) <;> first | omega | exact I64b (by omega) | assumption | (simp only [List.length_singleton, List.length_append, List.length_cons, List.length_nil]; omega)
          | false =>
            rw [if_neg (by rw [n5]; decide), hb_cons] at h5
            by_cases n6 : markM (c.toNat : Int) = 0
            · have f6 : (markM (c.toNat : Int) = 0) = True := eq_true n6
              rw [if_neg (fun x => x n6)] at h5
              have t1 : (c :: v).take 1 = [c] := rfl
              have h' : K (Tok.mk 9 [c] 0 [] false) (i + 1) := h5
              simp only [decide_eq_true_eq, decide_eq_false_iff_not, not_true_eq_false, not_false_eq_true, false_implies, true_implies, forall_const, ne_eq, and_true, true_and, Decidable.not_not, Bool.not_true, Bool.not_false, Bool.true_eq_false, Bool.false_eq_true, reduceCtorEq, implies_true, eq_self, n1, n2, n3, f1, n5, f6, hd, hc, hn, one_more h0, t1, s_rNumAt, s_rNumeric, s_rHas, s_rNameAt, s_rNamed, s_rWord, s_rMark]
              (repeat' apply And.intro) <;> first | omega | exact I64b (by omega) | assumption | (simp only [List.length_singleton, List.length_append, List.length_cons, List.length_nil]; omega)
            · have f6 : (markM (c.toNat : Int) = 0) = False := eq_false n6
              rw [if_pos n6] at h5
              have h' : K (Tok.mk (markM (c.toNat : Int)) [] 0 [] false) (i + 1) := h5
              simp only [decide_eq_true_eq, decide_eq_false_iff_not, not_true_eq_false, not_false_eq_true, false_implies, true_implies, forall_const, ne_eq, and_true, true_and, Decidable.not_not, Bool.not_true, Bool.not_false, Bool.true_eq_false, Bool.false_eq_true, reduceCtorEq, implies_true, eq_self, n1, n2, n3, f1, n5, f6, hd, hc, hn, s_rNumAt, s_rNumeric, s_rHas, s_rNameAt, s_rNamed, s_rWord, s_rMark]
              (repeat' apply And.intro) <;> first | omega | exact I64b (by omega) | assumption | (simp only [List.length_singleton, List.length_append, List.length_cons, List.length_nil]; omega)
def s_rOne : T_ref_One := fun s i K => (0 ≤ i ∧ i < s.length ∧ s.length ≤ 12000 ∧ (numS (s.drop i.toNat) = true → behindE (s.drop i.toNat) ≤ 4000)) ∧ K (tokM (s.drop i.toNat)).1 (i + ((tokM (s.drop i.toNat)).2 : Int))
theorem p_rOne (s i K) (h : s_rOne s i K) : F_ref_One s_rSp s_rSps s_rQu s_rLetter s_rEsc s_rNamed s_rNameAt s_rNumAt s_rNumeric s_rHas s_rWord s_rMark s i K := by
  obtain ⟨⟨h0, hl, hs, hB⟩, h⟩ := h
  cases hd : s.drop i.toNat with
  | nil => have := drop_nil hd; exfalso; omega
  | cons c v =>
  obtain ⟨_, hc, hn, hv⟩ := drop_cons h0 hd
  rw [hd] at h hB
  unfold tokM at h
  have quo : mQ (c.toNat : Int) = true → mSp (c.toNat : Int) = false → s_rQu s i (fun y3 y4 => K (Tok.mk y3.kind y3.text y3.num y3.unit y3.flag) y4) := fun q2 q => by
    rw [hb_cons, if_neg (by rw [q]; decide), if_pos q2, List.tail_cons] at h
    refine ⟨⟨h0, hl, by omega⟩, ?_⟩
    rw [hd, hn, hb_cons]
    unfold strK
    have e : i + ((1 + (strM (c.toNat : Int) v).2.2 : Nat) : Int) = i + 1 + ((strM (c.toNat : Int) v).2.2 : Int) := by omega
    rw [e] at h
    generalize strM (c.toNat : Int) v = r at h ⊢
    exact h
  refine ⟨⟨h0, hl⟩, ?_⟩
  rw [hc]
  refine ⟨fun q => ⟨⟨h0, by omega, by omega⟩, ?_⟩, fun q => ⟨fun q34 => ⟨fun q39 => quo ?_ q, fun q39 => ?_⟩, fun q34 => quo ?_ q⟩⟩
  · rw [hb_cons, if_pos q] at h
    rw [hd]
    exact h
  · unfold mQ; rw [q39, Bool.or_true]
  · have hq : mQ (c.toNat : Int) = false := by unfold mQ; rw [q34, q39]; rfl
    rw [hb_cons, if_neg (by rw [q]; decide), if_neg (by rw [hq]; decide)] at h
    have rest : ¬ ((c.toNat : Int) = 35 ∧ nameG (c :: v).tail = true) → K (tok2 (c :: v)).1 (i + ((tok2 (c :: v)).2 : Int)) := fun x => by rw [if_neg x] at h; exact h
    have name : (c.toNat : Int) = 35 → nameG v = true → I64 (i + 1) ∧ s_rNamed s (i + 1) (fun y7 y8 => (I64 (i + 1) ∧ s_rNameAt s (i + 1) (fun y9 => K (Tok.mk 4 y7 0 [] y9) y8))) := fun x1 x2 => by
      rw [if_pos ⟨x1, x2⟩, List.tail_cons] at h
      refine ⟨I64b (by omega), ⟨by omega, by omega, by omega⟩, I64b (by omega), ⟨⟨by omega, by omega, by omega⟩, by omega⟩, ?_⟩
      rw [hn]
      have e : i + ((1 + (nameM v).2 : Nat) : Int) = i + 1 + ((nameM v).2 : Int) := by omega
      rw [e] at h
      exact h
    refine ⟨fun q35 => ⟨I64b (by omega), fun ql => ⟨I64b (by omega), ⟨by omega, by have := of_decide_eq_true ql; omega⟩, ?_⟩, fun ql => ⟨I64b (by omega), ⟨by omega, by omega, by omega⟩, ?_⟩⟩, fun q35 => ?_⟩
    · have q35 := of_decide_eq_true q35
      have eb : ((s.getD (i + 1).toNat 0).toNat : Int) = hb v := by rw [← hb_getD, hn]
      rw [eb]
      refine ⟨hb_in v, fun q5 => ⟨I64b (by omega), ⟨by omega, by omega, by omega⟩, ?_⟩, fun q5 => name q35 (by unfold nameG; rw [q5, Bool.true_or])⟩
      rw [hn]
      refine ⟨fun q6 => name q35 (by unfold nameG; rw [q6, Bool.or_true]), fun q6 => ?_⟩
      rw [← hc]
      exact p_rOne2 h0 hs (fun _ _ _ => Or.inr trivial) hd hB (rest (fun x => by have := x.2; rw [List.tail_cons] at this; unfold nameG at this; rw [q5, q6] at this; cases this))
    · have q35 := of_decide_eq_true q35
      have ql := of_decide_eq_false ql
      have q5 : mN (hb v) = false := by
        have : v = [] := by rw [← hn]; exact List.drop_of_length_le (by omega)
        rw [this]; decide
      rw [hn]
      refine ⟨fun q6 => name q35 (by unfold nameG; rw [q6, Bool.or_true]), fun q6 => ?_⟩
      rw [← hc]
      exact p_rOne2 h0 hs (fun _ _ _ => Or.inr trivial) hd hB (rest (fun x => by have := x.2; rw [List.tail_cons] at this; unfold nameG at this; rw [q5, q6] at this; cases this))
    · have q35 := of_decide_eq_false q35
      rw [← hc]
      exact p_rOne2 h0 hs (fun _ _ _ => Or.inr trivial) hd hB (rest (fun x => q35 x.1))
  · unfold mQ; rw [q34, Bool.true_or]
end Go.Proofs.YtcjoehlflbegpaaGreatDoor
