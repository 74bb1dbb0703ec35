/-
  All tokens of the reference, and the law that both agree. Nothing is claimed here.
-/
import Derived.Test.YtcjoehlflbegpaaGreatDoorWt
import Derived.Test.YtcjoehlflbegpaaGreatDoorOb
namespace Go.Proofs.YtcjoehlflbegpaaGreatDoor
open Go.Vm Go.Sx Go.RowKit

/-! ### Cleaning, as the reference does it -/
def clR : Bool → Bt → Bt
  | _, [] => []
  | pr, c :: w =>
    if (c.toNat : Int) = 10 ∧ pr = true then clR false w
    else (if (c.toNat : Int) = 13 ∨ (c.toNat : Int) = 12 then [10] else if (c.toNat : Int) = 0 then [239, 191, 189] else [c]) ++ clR (decide ((c.toNat : Int) = 13)) w
theorem clR_true (w : Bt) : clR true w = if hb w = 10 then clR false w.tail else clR false w := by
  cases w with
  | nil => rfl
  | cons c w =>
    rw [hb_cons, List.tail_cons]
    by_cases q : (c.toNat : Int) = 10
    · rw [if_pos q, clR, if_pos ⟨q, rfl⟩]
    · have e : ∀ pr : Bool, clR pr (c :: w) = (if (c.toNat : Int) = 13 ∨ (c.toNat : Int) = 12 then [10] else if (c.toNat : Int) = 0 then [239, 191, 189] else [c]) ++ clR (decide ((c.toNat : Int) = 13)) w := fun pr => by rw [clR, if_neg (fun x : (c.toNat : Int) = 10 ∧ pr = true => q x.1)]
      rw [if_neg q, e true, e false]
theorem clR_clean : ∀ (n : Nat) (w : Bt), w.length ≤ n → clR false w = cleanM w
  | 0, w, h => by
    have : w = [] := List.length_eq_zero_iff.mp (by omega)
    subst this; rfl
  | n + 1, [], _ => rfl
  | n + 1, c :: w, h => by
    rw [List.length_cons] at h
    rw [clR, cleanM, if_neg (fun x => by cases x.2)]
    by_cases c13 : (c.toNat : Int) = 13
    · rw [if_pos (Or.inl c13), if_neg (by omega), if_neg (by omega), if_pos c13, decide_eq_true c13, clR_true]
      by_cases q : hb w = 10
      · rw [if_pos q, if_pos q]
        cases w with
        | nil => exact absurd q (by decide)
        | cons d v =>
          rw [List.length_cons] at h
          rw [hb_cons] at q
          have e10 : d = 10 := UInt8.toNat_inj.mp (by show d.toNat = 10; omega)
          rw [List.tail_cons, clR_clean n v (by omega), cleanM, if_neg (by omega), if_neg (by omega), if_neg (by omega), e10]
          rfl
      · rw [if_neg q, if_neg q, clR_clean n w (by omega)]
        rfl
    · rw [decide_eq_false c13, clR_clean n w (by omega)]
      by_cases c12 : (c.toNat : Int) = 12
      · rw [if_pos (Or.inr c12), if_neg (by omega), if_pos c12]
        rfl
      · rw [if_neg (fun x => x.elim c13 c12)]
        by_cases c0 : (c.toNat : Int) = 0
        · rw [if_pos c0, if_pos c0]
        · rw [if_neg c0, if_neg c0, if_neg c12, if_neg c13]
          rfl
theorem zero_ne : ((10 : Int) = 0) = False := by decide
theorem p_rClL (s : Bt) (hs : s.length ≤ 1000000) (Ke : Bt → Prop) : ∀ (w : Bt) (i : Int) (b : Bt) (pr : Bool), s.drop i.toNat = w → 0 ≤ i → (0 < i → (pr = true ↔ ((s.getD (i - 1).toNat 0).toNat : Int) = 13)) → (i = 0 → pr = false) → b.length + 3 * w.length ≤ 10000000 → Ke (b ++ clR pr w) → ∃ m, F_ref_Cleaned_l3 m s b i Ke
  | [], i, b, pr, hd, h0, hp, hp0, hbb, h => by
    have := drop_nil hd
    exact ⟨1, fun q => (by exfalso; have := of_decide_eq_true q; omega), fun _ => by simpa [clR] using h⟩
  | c :: w, i, b, pr, hd, h0, hp, hp0, hbb, h => by
    obtain ⟨hl, hc, hn, hv⟩ := drop_cons h0 hd
    rw [List.length_cons] at hbb
    have f0 : (i < (s.length : Int)) = True := eq_true hl
    have ep : ((s.getD (i + 1 - 1).toNat 0).toNat : Int) = c.toNat := by rw [show i + 1 - 1 = i by omega, hc]
    have hrec : ∀ b' : Bt, b'.length + 3 * w.length ≤ 10000000 → Ke (b' ++ clR (decide ((c.toNat : Int) = 13)) w) → ∃ m, F_ref_Cleaned_l3 m s b' (i + 1) Ke := fun b' hb' h' =>
      p_rClL s hs Ke w (i + 1) b' (decide ((c.toNat : Int) = 13)) hn (by omega) (fun _ => by rw [ep, decide_eq_true_eq]) (fun e => by omega) hb' h'
    by_cases c10 : (c.toNat : Int) = 10
    · have f1 : ((c.toNat : Int) = 10) = True := eq_true c10
      have f2 : ((c.toNat : Int) = 13) = False := eq_false (by omega)
      have f3 : ((c.toNat : Int) = 12) = False := eq_false (by omega)
      have f4 : ((c.toNat : Int) = 0) = False := eq_false (by omega)
      have e10 : c = 10 := UInt8.toNat_inj.mp (by show c.toNat = 10; omega)
      have plain : pr = false → Ke ((b ++ [c]) ++ clR (decide ((c.toNat : Int) = 13)) w) := fun q => by
        rw [clR, if_neg (fun x => by rw [q] at x; cases x.2), if_neg (by omega), if_neg (by omega)] at h
        rw [List.append_assoc]; exact h
      by_cases hi : 0 < i
      · have g0 : ((0 : Int) < i) = True := eq_true hi
        cases pr with
        | true =>
          have g1 : (((s.getD (i - 1).toNat 0).toNat : Int) = 13) = True := eq_true ((hp hi).mp rfl)
          rw [clR, if_pos ⟨c10, rfl⟩] at h
          obtain ⟨m, hm⟩ := hrec b (by omega) (by rw [decide_eq_false (by omega : ¬ (c.toNat : Int) = 13)]; exact h)
          refine ⟨m + 1, ?_⟩
          simp only [F_ref_Cleaned_l3, decide_eq_true_eq, decide_eq_false_iff_not, not_true_eq_false, not_false_eq_true, false_implies, true_implies, forall_const, ne_eq, and_true, true_and, Decidable.not_not, Bool.not_true, Bool.not_false, Bool.true_eq_false, Bool.false_eq_true, reduceCtorEq, implies_true, eq_self, f0, f1, g0, g1, hc, zero_ne, u8id]
          (repeat' apply And.intro) <;> first | omega | exact I64b (by omega) | assumption | (simp only [List.length_singleton, List.length_append, List.length_cons, List.length_nil]; omega)
        | false =>
          have g1 : (((s.getD (i - 1).toNat 0).toNat : Int) = 13) = False := eq_false (fun e => by have := (hp hi).mpr e; cases this)
          obtain ⟨m, hm⟩ := hrec (b ++ [c]) (by rw [List.length_append, List.length_singleton]; omega) (plain rfl)
          refine ⟨m + 1, ?_⟩
          simp only [F_ref_Cleaned_l3, decide_eq_true_eq, decide_eq_false_iff_not, not_true_eq_false, not_false_eq_true, false_implies, true_implies, forall_const, ne_eq, and_true, true_and, Decidable.not_not, Bool.not_true, Bool.not_false, Bool.true_eq_false, Bool.false_eq_true, reduceCtorEq, implies_true, eq_self, f0, f1, f2, f3, f4, g0, g1, hc, zero_ne, u8id]
          (repeat' apply And.intro) <;> first | omega | exact I64b (by omega) | assumption | (simp only [List.length_singleton, List.length_append, List.length_cons, List.length_nil]; omega)
      · have g0 : ((0 : Int) < i) = False := eq_false hi
        obtain ⟨m, hm⟩ := hrec (b ++ [c]) (by rw [List.length_append, List.length_singleton]; omega) (plain (hp0 (by omega)))
        refine ⟨m + 1, ?_⟩
        simp only [F_ref_Cleaned_l3, decide_eq_true_eq, decide_eq_false_iff_not, not_true_eq_false, not_false_eq_true, false_implies, true_implies, forall_const, ne_eq, and_true, true_and, Decidable.not_not, Bool.not_true, Bool.not_false, Bool.true_eq_false, Bool.false_eq_true, reduceCtorEq, implies_true, eq_self, f0, f1, f2, f3, f4, g0, hc, zero_ne, u8id]
        (repeat' apply And.intro) <;> first | omega | exact I64b (by omega) | assumption | (simp only [List.length_singleton, List.length_append, List.length_cons, List.length_nil]; omega)
    · have f1 : ((c.toNat : Int) = 10) = False := eq_false c10
      rw [clR, if_neg (fun x => c10 x.1), ← List.append_assoc] at h
      by_cases c13 : (c.toNat : Int) = 13
      · have f2 : ((c.toNat : Int) = 13) = True := eq_true c13
        rw [if_pos (Or.inl c13)] at h
        obtain ⟨m, hm⟩ := hrec (b ++ [10]) (by rw [List.length_append, List.length_singleton]; omega) h
        have hm' : F_ref_Cleaned_l3 m s (b ++ [UInt8.ofNat 10]) (i + 1) Ke := hm
        refine ⟨m + 1, ?_⟩
        simp only [F_ref_Cleaned_l3, decide_eq_true_eq, decide_eq_false_iff_not, not_true_eq_false, not_false_eq_true, false_implies, true_implies, forall_const, ne_eq, and_true, true_and, Decidable.not_not, Bool.not_true, Bool.not_false, Bool.true_eq_false, Bool.false_eq_true, reduceCtorEq, implies_true, eq_self, f0, f1, f2, hc, zero_ne, u8id]
        (repeat' apply And.intro) <;> first | omega | exact I64b (by omega) | assumption | (simp only [List.length_singleton, List.length_append, List.length_cons, List.length_nil]; omega)
      · have f2 : ((c.toNat : Int) = 13) = False := eq_false c13
        by_cases c12 : (c.toNat : Int) = 12
        · have f3 : ((c.toNat : Int) = 12) = True := eq_true c12
          rw [if_pos (Or.inr c12)] at h
          obtain ⟨m, hm⟩ := hrec (b ++ [10]) (by rw [List.length_append, List.length_singleton]; omega) h
          have hm' : F_ref_Cleaned_l3 m s (b ++ [UInt8.ofNat 10]) (i + 1) Ke := hm
          refine ⟨m + 1, ?_⟩
          simp only [F_ref_Cleaned_l3, decide_eq_true_eq, decide_eq_false_iff_not, not_true_eq_false, not_false_eq_true, false_implies, true_implies, forall_const, ne_eq, and_true, true_and, Decidable.not_not, Bool.not_true, Bool.not_false, Bool.true_eq_false, Bool.false_eq_true, reduceCtorEq, implies_true, eq_self, f0, f1, f2, f3, hc, zero_ne, u8id]
          (repeat' apply And.intro) <;> first | omega | exact I64b (by omega) | assumption | (simp only [List.length_singleton, List.length_append, List.length_cons, List.length_nil]; omega)
        · have f3 : ((c.toNat : Int) = 12) = False := eq_false c12
          rw [if_neg (fun x => x.elim c13 c12)] at h
          by_cases c0 : (c.toNat : Int) = 0
          · have f4 : ((c.toNat : Int) = 0) = True := eq_true c0
            rw [if_pos c0] at h
            obtain ⟨m, hm⟩ := hrec (b ++ [239, 191, 189]) (by rw [List.length_append]; simp only [List.length_cons, List.length_nil]; omega) h
            have hm' : F_ref_Cleaned_l3 m s (b ++ [UInt8.ofNat 239, UInt8.ofNat 191, UInt8.ofNat 189]) (i + 1) Ke := hm
            refine ⟨m + 1, ?_⟩
            simp only [F_ref_Cleaned_l3, decide_eq_true_eq, decide_eq_false_iff_not, not_true_eq_false, not_false_eq_true, false_implies, true_implies, forall_const, ne_eq, and_true, true_and, Decidable.not_not, Bool.not_true, Bool.not_false, Bool.true_eq_false, Bool.false_eq_true, reduceCtorEq, implies_true, eq_self, f0, f1, f2, f3, f4, hc, zero_ne, u8id]
            (repeat' apply And.intro) <;> first | omega | exact I64b (by omega) | assumption | (simp only [List.length_singleton, List.length_append, List.length_cons, List.length_nil]; omega)
          · have f4 : ((c.toNat : Int) = 0) = False := eq_false c0
            rw [if_neg c0] at h
            obtain ⟨m, hm⟩ := hrec (b ++ [c]) (by rw [List.length_append, List.length_singleton]; omega) h
            have ha := u8in c
            refine ⟨m + 1, ?_⟩
            simp only [F_ref_Cleaned_l3, decide_eq_true_eq, decide_eq_false_iff_not, not_true_eq_false, not_false_eq_true, false_implies, true_implies, forall_const, ne_eq, and_true, true_and, Decidable.not_not, Bool.not_true, Bool.not_false, Bool.true_eq_false, Bool.false_eq_true, reduceCtorEq, implies_true, eq_self, f0, f1, f2, f3, f4, hc, zero_ne, u8id]
            (repeat' apply And.intro) <;> first | omega | exact I64b (by omega) | assumption | (simp only [List.length_singleton, List.length_append, List.length_cons, List.length_nil]; omega)
def s_rCleaned : T_ref_Cleaned := fun s K => s.length ≤ 100000 ∧ K (cleanM s)
theorem p_rCleaned (s K) (h : s_rCleaned s K) : F_ref_Cleaned s K :=
  p_rClL s (by have := h.1; omega) K s 0 [] false rfl (by omega) (fun h => by omega) (fun _ => rfl) (by have := h.1; simp only [List.length_nil]; omega) (by rw [List.nil_append, clR_clean _ s (Nat.le_refl _)]; exact h.2)
def s_rClean : T_ref_Clean := fun s K => (4000 < s.length → K [] 28) ∧ (s.length ≤ 4000 → K (cleanM s) 0)
theorem p_rClean (s K) (h : s_rClean s K) : F_ref_Clean s_rCleaned s K :=
  ⟨fun q => h.1 (by have := of_decide_eq_true q; omega), fun q => ⟨by have := of_decide_eq_false q; omega, h.2 (by have := of_decide_eq_false q; omega)⟩⟩

/-! ### All tokens -/
theorem p_rCutL (s : Bt) (hs : s.length ≤ 4000) (Ke : List Tok → List (Int × Int) → Prop) : ∀ (f : Nat) (w : Bt) (p : Nat) (b : List Tok) (d : List (Int × Int)), w.length ≤ f → s.drop p = w → p ≤ s.length → b.length + w.length ≤ 100000 → d.length + w.length ≤ 100000 → Ke (b ++ (tksM f w p).map tkOf) (d ++ (tksM f w p).map spOf) → ∃ m, F_ref_Cut_l4 s_rPast s_rOne m s (p : Int) b d Ke
  | f, [], p, b, d, hf, hd, hp, hb, hdd, k => by
    have hd' : s.drop (p : Int).toNat = [] := hd
    have hl := drop_nil hd'
    have e : tksM f [] p = [] := by cases f <;> rfl
    rw [e] at k
    exact ⟨1, fun q => (by exfalso; have := of_decide_eq_true q; omega), fun _ => by simpa using k⟩
  | 0, c :: w, p, b, d, hf, hd, hp, hb, hdd, k => by simp at hf
  | f + 1, c :: w, p, b, d, hf, hd, hp, hb, hdd, k => by
    have hd' : s.drop (p : Int).toNat = c :: w := hd
    obtain ⟨hl, hc, hn, hv⟩ := drop_cons (by omega) hd'
    rw [tksM] at k
    have ht := tokM_len (w := c :: w) (by simp)
    have hk := comM_len ((c :: w).drop (tokM (c :: w)).2)
    have hE := behindE_len (c :: w)
    rw [List.length_drop] at hk
    rw [List.length_cons] at ht hk hf hb hdd hE
    have e1 : s.drop ((p : Int) + ((tokM (c :: w)).2 : Int)).toNat = (c :: w).drop (tokM (c :: w)).2 := by rw [dropN (by omega), hd']
    obtain ⟨m, hm⟩ := p_rCutL s hs Ke f ((c :: w).drop ((tokM (c :: w)).2 + comM ((c :: w).drop (tokM (c :: w)).2))) (p + (tokM (c :: w)).2 + comM ((c :: w).drop (tokM (c :: w)).2)) (b ++ [tkOf ((tokM (c :: w)).1, p, p + (tokM (c :: w)).2)]) (d ++ [spOf ((tokM (c :: w)).1, p, p + (tokM (c :: w)).2)]) (by rw [List.length_drop, List.length_cons]; omega) (by rw [Nat.add_assoc]; exact dropA hd _) (by omega) (by rw [List.length_append, List.length_singleton, List.length_drop, List.length_cons]; omega) (by rw [List.length_append, List.length_singleton, List.length_drop, List.length_cons]; omega) (by rw [List.append_assoc, List.append_assoc]; exact k)
    refine ⟨m + 1, fun _ => ⟨⟨by omega, hl, by omega, fun _ => by rw [hd']; omega⟩, ?_⟩, fun q => (by exfalso; have := of_decide_eq_false q; omega)⟩
    rw [hd']
    refine ⟨by simp only [List.length_singleton]; omega, by simp only [List.length_singleton]; omega, ⟨by omega, by omega, by omega⟩, ?_⟩
    rw [e1]
    have e2 : (p : Int) + ((tokM (c :: w)).2 : Int) + (comM ((c :: w).drop (tokM (c :: w)).2) : Int) = ((p + (tokM (c :: w)).2 + comM ((c :: w).drop (tokM (c :: w)).2) : Nat) : Int) := by omega
    rw [e2]
    exact hm
def s_rCut : T_ref_Cut := fun s K => s.length ≤ 4000 ∧ K ((allM s).map tkOf) ((allM s).map spOf)
theorem p_rCut (s K) (h : s_rCut s K) : F_ref_Cut s_rPast s_rOne s K := by
  obtain ⟨hs, h⟩ := h
  have hk := comM_len s
  have e0 : (0 : Int) + (comM (s.drop (0 : Int).toNat) : Int) = ((comM s : Nat) : Int) := by
    show (0 : Int) + (comM (s.drop 0) : Int) = _
    rw [List.drop_zero, Int.zero_add]
  refine ⟨⟨by omega, by omega, by omega⟩, ?_⟩
  rw [e0]
  exact p_rCutL s hs _ s.length (s.drop (comM s)) (comM s) [] [] (by rw [List.length_drop]; omega) rfl hk (by rw [List.length_drop]; simp only [List.length_nil]; omega) (by rw [List.length_drop]; simp only [List.length_nil]; omega) h
def s_rTokens : T_ref_Tokens := fun s K => (4000 < s.length → K [] 28) ∧ (s.length ≤ 4000 → (cleanM s).length ≤ 4000 ∧ ((allM (cleanM s)).length ≤ 1500 → K ((allM (cleanM s)).map tkOf) 0) ∧ (1500 < (allM (cleanM s)).length → K [] 4))
theorem p_rTokens (s K) (h : s_rTokens s K) : F_ref_Tokens s_rClean s_rCut s K := by
  obtain ⟨h1, h2⟩ := h
  refine ⟨fun q => ⟨fun _ => h1 q, fun p => absurd p (by decide)⟩, fun q => ⟨fun p => absurd p (by decide), fun _ => ⟨(h2 q).1, fun p => (h2 q).2.2 ?_, fun p => (h2 q).2.1 ?_⟩⟩⟩
  · have := of_decide_eq_true p; rw [List.length_map] at this; omega
  · have := of_decide_eq_false p; rw [List.length_map] at this; omega
def s_rSpans : T_ref_Spans := fun s K => (4000 < s.length → K [] 28) ∧ (s.length ≤ 4000 → (cleanM s).length ≤ 4000 ∧ ((allM (cleanM s)).length ≤ 1500 → K ((allM (cleanM s)).map spOf) 0) ∧ (1500 < (allM (cleanM s)).length → K [] 4))
theorem p_rSpans (s K) (h : s_rSpans s K) : F_ref_Spans s_rClean s_rCut s K := by
  obtain ⟨h1, h2⟩ := h
  refine ⟨fun q => ⟨fun _ => h1 q, fun p => absurd p (by decide)⟩, fun q => ⟨fun p => absurd p (by decide), fun _ => ⟨(h2 q).1, fun p => (h2 q).2.2 ?_, fun p => (h2 q).2.1 ?_⟩⟩⟩
  · have := of_decide_eq_true p; rw [List.length_map] at this; omega
  · have := of_decide_eq_false p; rw [List.length_map] at this; omega

/-! ### Comparing -/
theorem p_rSameL (a : List Tok) (ha : a.length ≤ 1000000) (Ke : Unit → Prop) (Kr : Bool → Prop) : ∀ (n k : Nat), a.length - k ≤ n → Ke () → ∃ m, F_ref_Same_l4 m a a (k : Int) Ke Kr
  | 0, k, hn, h => ⟨1, fun q => (by exfalso; have := of_decide_eq_true q; omega), fun _ => h⟩
  | n + 1, k, hn, h => by
    by_cases hk : k < a.length
    · obtain ⟨m, hm⟩ := p_rSameL a ha Ke Kr n (k + 1) (by omega) h
      refine ⟨m + 1, fun _ => ⟨⟨by omega, by omega⟩, ⟨by omega, by omega⟩, fun q => ?_, fun _ => ⟨I64b (by omega), hm⟩⟩, fun q => (by exfalso; have := of_decide_eq_false q; omega)⟩
      exfalso
      simp at q
    · exact ⟨1, fun q => (by exfalso; have := of_decide_eq_true q; omega), fun _ => h⟩
def s_rSame : T_ref_Same := fun a b K => (a = b ∧ a.length ≤ 1000000) ∧ K true
theorem p_rSame (a b K) (h : s_rSame a b K) : F_ref_Same a b K := by
  obtain ⟨⟨rfl, ha⟩, h⟩ := h
  exact ⟨fun q => absurd rfl (of_decide_eq_true q), fun _ => p_rSameL a ha _ _ a.length 0 (by omega) h⟩
theorem p_rSameSL (a : List (Int × Int)) (ha : a.length ≤ 1000000) (Ke : Unit → Prop) (Kr : Bool → Prop) : ∀ (n k : Nat), a.length - k ≤ n → Ke () → ∃ m, F_ref_SameSpans_l4 m a a (k : Int) Ke Kr
  | 0, k, hn, h => ⟨1, fun q => (by exfalso; have := of_decide_eq_true q; omega), fun _ => h⟩
  | n + 1, k, hn, h => by
    by_cases hk : k < a.length
    · obtain ⟨m, hm⟩ := p_rSameSL a ha Ke Kr n (k + 1) (by omega) h
      refine ⟨m + 1, fun _ => ⟨⟨by omega, by omega⟩, ⟨by omega, by omega⟩, fun q => ?_, fun _ => ⟨I64b (by omega), hm⟩⟩, fun q => (by exfalso; have := of_decide_eq_false q; omega)⟩
      exfalso
      simp at q
    · exact ⟨1, fun q => (by exfalso; have := of_decide_eq_true q; omega), fun _ => h⟩
def s_rSameS : T_ref_SameSpans := fun a b K => (a = b ∧ a.length ≤ 1000000) ∧ K true
theorem p_rSameS (a b K) (h : s_rSameS a b K) : F_ref_SameSpans a b K := by
  obtain ⟨⟨rfl, ha⟩, h⟩ := h
  exact ⟨fun q => absurd rfl (of_decide_eq_true q), fun _ => p_rSameSL a ha _ _ a.length 0 (by omega) h⟩

/-! ### The law -/
theorem law_reads (s K) (h : K true) : F_lawR s_tokens s_rTokens s_spans s_rSpans s_rSame s_rSameS s K := by
  have hc := cleanM_len s
  have hL := tksM_len (cleanM s).length ((cleanM s).drop (comM (cleanM s))) (comM (cleanM s))
  rw [List.length_drop] at hL
  have hL : (allM (cleanM s)).length ≤ (cleanM s).length := by unfold allM; omega
  have main : (s.length ≤ 500 ∨ 4000 < s.length) → s_tokens s (fun y1 y2 => s_rTokens s (fun y3 y4 => s_spans s (fun y5 y6 => s_rSpans s (fun y7 y8 => s_rSame y1 y3 (fun y9 => ((y9 = true → (((decide (y2 = y4)) = true → (s_rSameS y5 y7 (fun y10 => ((y10 = true → K (decide (y6 = y8))) ∧ (y10 = false → K false))))) ∧ ((decide (y2 = y4)) = false → K false))) ∧ (y9 = false → K false))))))) := fun hs => by
    have last : ∀ (t : List Tok) (e : Int) (p : List (Int × Int)) (g : Int), t.length ≤ 1000000 → p.length ≤ 1000000 → s_rSame t t (fun y9 => ((y9 = true → (((decide (e = e)) = true → (s_rSameS p p (fun y10 => ((y10 = true → K (decide (g = g))) ∧ (y10 = false → K false))))) ∧ ((decide (e = e)) = false → K false))) ∧ (y9 = false → K false))) := fun t e p g ht hp => by
      refine ⟨⟨rfl, ht⟩, fun _ => ⟨fun _ => ⟨⟨rfl, hp⟩, fun _ => by rw [decide_eq_true rfl]; exact h, fun q => absurd q (by decide)⟩, fun q => ?_⟩, fun q => absurd q (by decide)⟩
      rw [decide_eq_true rfl] at q; cases q
    have lT : ((allM (cleanM s)).map tkOf).length = (allM (cleanM s)).length := List.length_map _
    have lS : ((allM (cleanM s)).map spOf).length = (allM (cleanM s)).length := List.length_map _
    refine ⟨fun l => ⟨fun _ => ⟨fun _ => ⟨fun _ => last _ _ _ _ (Nat.zero_le _) (Nat.zero_le _), fun l2 => (by omega)⟩, fun l2 _ => (by omega), fun l2 _ => (by omega)⟩, fun l2 => (by omega)⟩, fun l l5 => ⟨fun l2 => (by omega), fun _ => ⟨by omega, fun _ => ⟨fun l2 => (by omega), fun _ _ => ⟨fun l2 => (by omega), fun _ => ⟨by omega, fun _ => last _ _ _ _ (by omega) (by omega), fun l6 => (by omega)⟩⟩, fun _ l6 => (by omega)⟩, fun l6 => (by omega)⟩⟩, fun l l6 => (by omega)⟩
  refine ⟨fun q => ⟨fun q2 => ⟨fun _ => h, fun _ => main (Or.inr ?_)⟩, fun _ => h⟩, fun q => ⟨fun _ => h, fun _ => main (Or.inl ?_)⟩⟩
  · have := of_decide_eq_false q2; omega
  · have := of_decide_eq_false q; omega
theorem t_48 : FnOK sy Tryz.prog GT ovD GL 48 (q_gslIndex s_Ind1) := by
  intro o0 us k h st vs hn hg ho hr
  unfold q_gslIndex at h
  split at h
  · rename_i a0 a1
    obtain ⟨hl, hk⟩ := h
    obtain ⟨v0, r0, rfl, hv0, hr0⟩ := hr
    obtain ⟨v1, r1, rfl, hv1, hr1⟩ := hr0
    have hr1 : r1 = [] := hr1
    have hv0 : v0 = V.str a0 := hv0
    have hv1 : v1 = V.str a1 := hv1
    subst hr1 hv0 hv1
    refine ⟨.i .i64 (Lib.index a0 a1), st, ⟨1, fun n hn => ?_⟩, .i .i64 (Lib.index a0 a1), rfl, ⟨Nat.le_refl _, fun _ _ => rfl, fun _ _ q => q⟩, hk⟩
    cases n with
    | zero => omega
    | succ n =>
      have e : ovD 48 [V.str a0, V.str a1] = some (.i .i64 (Lib.index a0 a1)) := by
        show cond (Nat.blt a0.length 4294967281) (some (V.i .i64 (Lib.index (unpackL a0.length (packL a0)) (unpackL a1.length (packL a1))))) none = _
        have hb : Nat.blt a0.length 4294967281 = true := by rw [Nat.blt_eq]; omega
        rw [hb, unpackL_packL, unpackL_packL]
        rfl
      unfold evF callGo
      rw [e]
  · exact h.elim
theorem t_49 : FnOK sy Tryz.prog GT ovD GL 49 (q_k_byteAt s_byteAt) := q_k_byteAt_weak (ok_k_byteAt) p_byteAt
theorem t_55 : FnOK sy Tryz.prog GT ovD GL 55 (q_char_IsDigit s_isD) := q_char_IsDigit_weak (ok_char_IsDigit) p_isD
theorem t_54 : FnOK sy Tryz.prog GT ovD GL 54 (q_k_isSign s_isSign) := q_k_isSign_weak (ok_k_isSign) p_isSign
theorem t_56 : FnOK sy Tryz.prog GT ovD GL 56 (q_k_fractionStarts s_frac) := q_k_fractionStarts_weak (ok_k_fractionStarts s_byteAt s_isD t_49 t_55) p_frac
theorem t_31 : FnOK sy Tryz.prog GT ovD GL 31 (q_k_nSt s_numS) := q_k_nSt_weak (ok_k_nSt s_byteAt s_isSign s_isD s_frac t_49 t_54 t_55 t_56) p_numS
theorem t_77 : FnOK sy Tryz.prog GT ovD GL 77 (q_k_isExponentMark s_isExp) := q_k_isExponentMark_weak (ok_k_isExponentMark) p_isExp
theorem t_78 : FnOK sy Tryz.prog GT ovD GL 78 (q_k_digitStarts s_digS) := q_k_digitStarts_weak (ok_k_digitStarts s_byteAt s_isSign s_isD t_49 t_54 t_55) p_digS
theorem t_79 : FnOK sy Tryz.prog GT ovD GL 79 (q_k_wholeNumber s_whole) := q_k_wholeNumber_weak (ok_k_wholeNumber) p_whole
theorem t_96 : FnOK sy Tryz.prog GT ovD GL 96 (q_gs_trimLeftByte s_trimB) := q_gs_trimLeftByte_weak (ok_gs_trimLeftByte) p_trimB
theorem t_95 : FnOK sy Tryz.prog GT ovD GL 95 (q_gs_TrimLeft s_trim) := q_gs_TrimLeft_weak (ok_gs_TrimLeft s_trimB t_96) p_trim
theorem t_80 : FnOK sy Tryz.prog GT ovD GL 80 (q_k_cutNumber s_cut) := q_k_cutNumber_weak (ok_k_cutNumber s_trim t_95) p_cut
theorem t_57 : FnOK sy Tryz.prog GT ovD GL 57 (q_k_rNu s_num) := q_k_rNu_weak (ok_k_rNu s_frac s_byteAt s_isExp s_digS s_whole s_cut s_isSign s_isD t_56 t_49 t_77 t_78 t_79 t_80 t_54 t_55) p_num
theorem t_74 : FnOK sy Tryz.prog GT ovD GL 74 (q_char_IsLetter s_isL) := q_char_IsLetter_weak (ok_char_IsLetter) p_isL
theorem t_53 : FnOK sy Tryz.prog GT ovD GL 53 (q_char_StartsName s_starts) := q_char_StartsName_weak (ok_char_StartsName s_isL t_74) p_starts
theorem t_52 : FnOK sy Tryz.prog GT ovD GL 52 (q_k_eSt s_esS) := q_k_eSt_weak (ok_k_eSt s_byteAt t_49) p_esS
theorem t_29 : FnOK sy Tryz.prog GT ovD GL 29 (q_k_nameStarts s_nameS) := q_k_nameStarts_weak (ok_k_nameStarts s_byteAt s_starts s_esS t_49 t_53 t_52) p_nameS
theorem t_51 : FnOK sy Tryz.prog GT ovD GL 51 (q_char_IsOfName s_isN) := q_char_IsOfName_weak (ok_char_IsOfName s_starts s_isD t_53 t_55) p_isN
theorem t_28 : FnOK sy Tryz.prog GT ovD GL 28 (q_k_nameGoesOn s_nameG) := q_k_nameGoesOn_weak (ok_k_nameGoesOn s_byteAt s_isN s_esS t_49 t_51 t_52) p_nameG
theorem t_24 : FnOK sy Tryz.prog GT ovD GL 24 (q_char_IsSpace s_isSp) := q_char_IsSpace_weak (ok_char_IsSpace) p_isSp
theorem t_26 : FnOK sy Tryz.prog GT ovD GL 26 (q_char_IsQuote s_isQ) := q_char_IsQuote_weak (ok_char_IsQuote) p_isQ
theorem t_25 : FnOK sy Tryz.prog GT ovD GL 25 (q_k_behindSpaces s_sp) := q_k_behindSpaces_weak (ok_k_behindSpaces s_byteAt s_isSp t_49 t_24) p_sp
theorem t_47 : FnOK sy Tryz.prog GT ovD GL 47 (q_gslHasPrefix s_HP1) := q_gslHasPrefix_weak (ok_gslHasPrefix) p_HP1
theorem t_22 : FnOK sy Tryz.prog GT ovD GL 22 (q_gs_HasPrefix s_HP) := q_gs_HasPrefix_weak (ok_gs_HasPrefix s_HP1 t_47) p_HP
theorem t_21 : FnOK sy Tryz.prog GT ovD GL 21 (q_input_startsWithLineEnd s_LE) := q_input_startsWithLineEnd_weak (ok_input_startsWithLineEnd) p_LE
theorem t_15 : FnOK sy Tryz.prog GT ovD GL 15 (q_input_Clean s_clean) := q_input_Clean_weak (ok_input_Clean s_LE t_21) p_clean
theorem t_73 : FnOK sy Tryz.prog GT ovD GL 73 (q_k_hexDigit s_hex) := q_k_hexDigit_weak (ok_k_hexDigit s_isD t_55) p_hex
theorem t_72_e : ShOK sy Tryz.prog GT ovD GL Tryz.f72.ntmps (bodyOf Tryz.f72) sl_uA_e sr_uA_e (g_uA_e s_utf_e) := (ok_uA_e).weak (fun _ _ h => p_utf_e _ _ _ h)
theorem t_50_e : ShOK sy Tryz.prog GT ovD GL Tryz.f50.ntmps (bodyOf Tryz.f50) sl_aE_e sr_aE_e (g_aE_e s_esc_e) := (ok_aE_e s_utf_e s_hex s_byteAt s_isSp t_72_e t_73 t_49 t_24).weak (fun _ _ h => p_esc_e _ _ _ _ h)
theorem t_30 : FnOK sy Tryz.prog GT ovD GL 30 (q_k_readName s_name) := q_k_readName_weak (ok_k_readName s_nameG s_esc_e t_28 t_50_e) p_name
theorem t_72_q : ShOK sy Tryz.prog GT ovD GL Tryz.f72.ntmps (bodyOf Tryz.f72) sl_uA_q sr_uA_q (g_uA_q s_utf_q) := (ok_uA_q).weak (fun _ _ h => p_utf_q _ _ _ _ _ _ _ _ h)
theorem t_50_q : ShOK sy Tryz.prog GT ovD GL Tryz.f50.ntmps (bodyOf Tryz.f50) sl_aE_q sr_aE_q (g_aE_q s_esc_q) := (ok_aE_q s_utf_q s_hex s_byteAt s_isSp t_72_q t_73 t_49 t_24).weak (fun _ _ h => p_esc_q _ _ _ _ _ _ _ _ _ h)
theorem t_27 : FnOK sy Tryz.prog GT ovD GL 27 (q_k_rSt s_str) := q_k_rSt_weak (ok_k_rSt s_esc_q t_50_q) p_str
theorem t_72_n : ShOK sy Tryz.prog GT ovD GL Tryz.f72.ntmps (bodyOf Tryz.f72) sl_uA_n sr_uA_n (g_uA_n s_utf_n) := (ok_uA_n).weak (fun _ _ h => p_utf_n _ _ _ h)
theorem t_50_n : ShOK sy Tryz.prog GT ovD GL Tryz.f50.ntmps (bodyOf Tryz.f50) sl_aE_n sr_aE_n (g_aE_n s_esc_n) := (ok_aE_n s_utf_n s_hex s_byteAt s_isSp t_72_n t_73 t_49 t_24).weak (fun _ _ h => p_esc_n _ _ _ _ h)
theorem t_83 : FnOK sy Tryz.prog GT ovD GL 83 (q_k_bBU s_bad) := q_k_bBU_weak (ok_k_bBU s_esS s_esc_n t_52 t_50_n) p_bad
theorem t_82 : FnOK sy Tryz.prog GT ovD GL 82 (q_k_spoilsURL s_spoils) := q_k_spoilsURL_weak (ok_k_spoilsURL) p_spoils
theorem t_81 : FnOK sy Tryz.prog GT ovD GL 81 (q_input_lowerByte s_low) := q_input_lowerByte_weak (ok_input_lowerByte) p_low
theorem t_58 : FnOK sy Tryz.prog GT ovD GL 58 (q_input_Alike s_alike) := q_input_Alike_weak (ok_input_Alike s_low t_81) p_alike
theorem t_72_u : ShOK sy Tryz.prog GT ovD GL Tryz.f72.ntmps (bodyOf Tryz.f72) sl_uA_u sr_uA_u (g_uA_u s_utf_u) := (ok_uA_u).weak (fun _ _ h => p_utf_u _ _ _ _ _ _ _ _ h)
theorem t_50_u : ShOK sy Tryz.prog GT ovD GL Tryz.f50.ntmps (bodyOf Tryz.f50) sl_aE_u sr_aE_u (g_aE_u s_esc_u) := (ok_aE_u s_utf_u s_hex s_byteAt s_isSp t_72_u t_73 t_49 t_24).weak (fun _ _ h => p_esc_u _ _ _ _ _ _ _ _ _ h)
theorem t_59 : FnOK sy Tryz.prog GT ovD GL 59 (q_k_readURL s_url) := q_k_readURL_weak (ok_k_readURL s_sp s_isSp s_esS s_esc_u s_spoils s_bad t_25 t_24 t_52 t_50_u t_82 t_83) p_url
theorem t_33 : FnOK sy Tryz.prog GT ovD GL 33 (q_k_readNamed s_named) := q_k_readNamed_weak (ok_k_readNamed s_name s_byteAt s_alike s_sp s_isQ s_url t_30 t_49 t_58 t_25 t_26 t_59) p_named
theorem t_23 : FnOK sy Tryz.prog GT ovD GL 23 (q_gs_Index s_Ind) := q_gs_Index_weak (ok_gs_Index s_Ind1 t_48) p_Ind
theorem t_34 : FnOK sy Tryz.prog GT ovD GL 34 (q_k_isMark s_mark) := q_k_isMark_weak (ok_k_isMark) p_mark
theorem t_32 : FnOK sy Tryz.prog GT ovD GL 32 (q_readNumericA s_numeric) := q_readNumericA_weak (ok_readNumericA s_num s_nameS s_name s_byteAt t_57 t_29 t_30 t_49) p_numeric
theorem t_16 : FnOK sy Tryz.prog GT ovD GL 16 (q_behindCommentsA s_com) := q_behindCommentsA_weak (ok_behindCommentsA s_HP s_Ind t_22 t_23) p_com
theorem t_17 : FnOK sy Tryz.prog GT ovD GL 17 (q_readTokenA s_token) := q_readTokenA_weak (ok_readTokenA s_isSp s_sp s_isQ s_str s_nameG s_nameS s_name s_numS s_numeric s_HP s_named s_mark t_24 t_25 t_26 t_27 t_28 t_29 t_30 t_31 t_32 t_22 t_33 t_34) p_token
theorem t_4 : FnOK sy Tryz.prog GT ovD GL 4 (q_TokensA s_tokens) := q_TokensA_weak (ok_TokensA s_clean s_com s_token t_15 t_16 t_17) p_tokens
theorem t_6 : FnOK sy Tryz.prog GT ovD GL 6 (q_SpansA s_spans) := q_SpansA_weak (ok_SpansA s_clean s_com s_token t_15 t_16 t_17) p_spans
theorem t_60 : FnOK sy Tryz.prog GT ovD GL 60 (q_ref_At s_rAt) := q_ref_At_weak (ok_ref_At) p_rAt
theorem t_63 : FnOK sy Tryz.prog GT ovD GL 63 (q_ref_Digit s_rDg) := q_ref_Digit_weak (ok_ref_Digit) p_rDg
theorem t_88 : FnOK sy Tryz.prog GT ovD GL 88 (q_ref_digits s_rDigs) := q_ref_digits_weak (ok_ref_digits s_rAt s_rDg t_60 t_63) p_rDigs
theorem t_87 : FnOK sy Tryz.prog GT ovD GL 87 (q_ref_Small s_rSmall) := q_ref_Small_weak (ok_ref_Small) p_rSmall
theorem t_62 : FnOK sy Tryz.prog GT ovD GL 62 (q_ref_Starts s_rStarts) := q_ref_Starts_weak (ok_ref_Starts s_rSmall t_87) p_rStarts
theorem t_40 : FnOK sy Tryz.prog GT ovD GL 40 (q_ref_Escape s_rEsc) := q_ref_Escape_weak (ok_ref_Escape s_rAt t_60) p_rEsc
theorem t_39 : FnOK sy Tryz.prog GT ovD GL 39 (q_ref_Letter s_rLetter) := q_ref_Letter_weak (ok_ref_Letter s_rStarts s_rDg t_62 t_63) p_rLetter
theorem t_84 : FnOK sy Tryz.prog GT ovD GL 84 (q_ref_lost s_rLost) := q_ref_lost_weak (ok_ref_lost) p_rLost
theorem t_85 : FnOK sy Tryz.prog GT ovD GL 85 (q_ref_Hex s_rHex) := q_ref_Hex_weak (ok_ref_Hex s_rDg s_rSmall t_63 t_87) p_rHex
theorem t_36 : FnOK sy Tryz.prog GT ovD GL 36 (q_ref_Space s_rSp) := q_ref_Space_weak (ok_ref_Space) p_rSp
theorem t_86 : FnOK sy Tryz.prog GT ovD GL 86 (q_ref_UTF8 s_rUtf) := q_ref_UTF8_weak (ok_ref_UTF8 s_rLost t_84) p_rUtf
theorem t_61 : FnOK sy Tryz.prog GT ovD GL 61 (q_ref_Ed s_rEscd) := q_ref_Ed_weak (ok_ref_Ed s_rLost s_rHex s_rAt s_rSp s_rUtf t_84 t_85 t_60 t_36 t_86) p_rEscd
theorem t_42 : FnOK sy Tryz.prog GT ovD GL 42 (q_ref_NameAt s_rNameAt) := q_ref_NameAt_weak (ok_ref_NameAt s_rAt s_rStarts s_rEsc t_60 t_62 t_40) p_rNameAt
theorem t_41 : FnOK sy Tryz.prog GT ovD GL 41 (q_ref_Named s_rNamed) := q_ref_Named_weak (ok_ref_Named s_rLetter s_rEsc s_rEscd t_39 t_40 t_61) p_rNamed
theorem t_43 : FnOK sy Tryz.prog GT ovD GL 43 (q_ref_NumberAt s_rNumAt) := q_ref_NumberAt_weak (ok_ref_NumberAt s_rAt s_rDg t_60 t_63) p_rNumAt
theorem t_64 : FnOK sy Tryz.prog GT ovD GL 64 (q_ref_NumberEnd s_rNumEnd) := q_ref_NumberEnd_weak (ok_ref_NumberEnd s_rAt s_rDigs s_rDg t_60 t_88 t_63) p_rNumEnd
theorem t_65 : FnOK sy Tryz.prog GT ovD GL 65 (q_ref_T s_rTh) := q_ref_T_weak (ok_ref_T s_rAt s_rDg t_60 t_63) p_rTh
theorem t_44 : FnOK sy Tryz.prog GT ovD GL 44 (q_ref_numeric s_rNumeric) := q_ref_numeric_weak (ok_ref_numeric s_rNumEnd s_rTh s_rNameAt s_rNamed s_rAt t_64 t_65 t_42 t_41 t_60) p_rNumeric
theorem t_38 : FnOK sy Tryz.prog GT ovD GL 38 (q_ref_quoted s_rQu) := q_ref_quoted_weak (ok_ref_quoted s_rEscd t_61) p_rQu
theorem t_37 : FnOK sy Tryz.prog GT ovD GL 37 (q_ref_spaces s_rSps) := q_ref_spaces_weak (ok_ref_spaces s_rAt s_rSp t_60 t_36) p_rSps
theorem t_91 : FnOK sy Tryz.prog GT ovD GL 91 (q_ref_Unprintable s_rUnp) := q_ref_Unprintable_weak (ok_ref_Unprintable) p_rUnp
theorem t_90 : FnOK sy Tryz.prog GT ovD GL 90 (q_ref_bad s_rBad) := q_ref_bad_weak (ok_ref_bad s_rEsc s_rEscd t_40 t_61) p_rBad
theorem t_67 : FnOK sy Tryz.prog GT ovD GL 67 (q_ref_url s_rUrl) := q_ref_url_weak (ok_ref_url s_rSps s_rSp s_rBad s_rUnp s_rEsc s_rEscd t_37 t_36 t_90 t_91 t_40 t_61) p_rUrl
theorem t_89 : FnOK sy Tryz.prog GT ovD GL 89 (q_ref_Lower s_rLow) := q_ref_Lower_weak (ok_ref_Lower s_rSmall t_87) p_rLow
theorem t_66 : FnOK sy Tryz.prog GT ovD GL 66 (q_ref_Alike s_rAlike) := q_ref_Alike_weak (ok_ref_Alike s_rLow t_89) p_rAlike
theorem t_45 : FnOK sy Tryz.prog GT ovD GL 45 (q_ref_word s_rWord) := q_ref_word_weak (ok_ref_word s_rNamed s_rAt s_rAlike s_rSps s_rUrl t_41 t_60 t_66 t_37 t_67) p_rWord
theorem t_46 : FnOK sy Tryz.prog GT ovD GL 46 (q_ref_mark s_rMark) := q_ref_mark_weak (ok_ref_mark) p_rMark
theorem t_35 : FnOK sy Tryz.prog GT ovD GL 35 (q_ref_has s_rHas) := q_ref_has_weak (ok_ref_has) p_rHas
theorem t_20 : FnOK sy Tryz.prog GT ovD GL 20 (q_ref_One s_rOne) := q_ref_One_weak (ok_ref_One s_rSp s_rSps s_rQu s_rLetter s_rEsc s_rNamed s_rNameAt s_rNumAt s_rNumeric s_rHas s_rWord s_rMark t_36 t_37 t_38 t_39 t_40 t_41 t_42 t_43 t_44 t_35 t_45 t_46) p_rOne
theorem t_19 : FnOK sy Tryz.prog GT ovD GL 19 (q_ref_Past s_rPast) := q_ref_Past_weak (ok_ref_Past s_rHas t_35) p_rPast
theorem t_13 : FnOK sy Tryz.prog GT ovD GL 13 (q_ref_Cut s_rCut) := q_ref_Cut_weak (ok_ref_Cut s_rPast s_rOne t_19 t_20) p_rCut
theorem t_18 : FnOK sy Tryz.prog GT ovD GL 18 (q_ref_Cleaned s_rCleaned) := q_ref_Cleaned_weak (ok_ref_Cleaned) p_rCleaned
theorem t_12 : FnOK sy Tryz.prog GT ovD GL 12 (q_ref_Clean s_rClean) := q_ref_Clean_weak (ok_ref_Clean s_rCleaned t_18) p_rClean
theorem t_5 : FnOK sy Tryz.prog GT ovD GL 5 (q_ref_Tokens s_rTokens) := q_ref_Tokens_weak (ok_ref_Tokens s_rClean s_rCut t_12 t_13) p_rTokens
theorem t_7 : FnOK sy Tryz.prog GT ovD GL 7 (q_ref_Spans s_rSpans) := q_ref_Spans_weak (ok_ref_Spans s_rClean s_rCut t_12 t_13) p_rSpans
theorem t_8 : FnOK sy Tryz.prog GT ovD GL 8 (q_ref_Same s_rSame) := q_ref_Same_weak (ok_ref_Same) p_rSame
theorem t_9 : FnOK sy Tryz.prog GT ovD GL 9 (q_ref_SameSpans s_rSameS) := q_ref_SameSpans_weak (ok_ref_SameSpans) p_rSameS
theorem t_law : FnOK sy Tryz.prog GT ovD GL 3 (q_lawR (fun _ K => K true)) :=
  q_lawR_weak (ok_lawR s_tokens s_rTokens s_spans s_rSpans s_rSame s_rSameS t_4 t_5 t_6 t_7 t_8 t_9) law_reads

theorem gok' : GOK GT GL (st0 gs1) := by
  intro g k l h
  match g, h with
  | 0, h =>
    obtain ⟨rfl, rfl⟩ : IntKind.u8 = k ∧ marksL = l := by
      have h2 := Option.some.inj h
      exact ⟨congrArg Prod.fst h2, congrArg Prod.snd h2⟩
    have e : ((st0 gs1).hp.get 0).map (fun b => (List.range 126).map fun j => b.get j) = some ((List.range 126).map fun j => some (V.i .u8 (marksL.getD j 0))) := by kernel_rfl
    cases hh : (st0 gs1).hp.get 0 with
    | none => rw [hh] at e; cases e
    | some b =>
    rw [hh] at e
    have h2 := Option.some.inj e
    refine ⟨by decide, b, rfl, fun j hj => ?_⟩
    have hj2 : j < 126 := hj
    have h3 := congrArg (fun x => x[j]?) h2
    simpa [hj2] using h3
  | _ + 1, h => cases h
theorem reads (a : Bt) : ∃ m st', evF Tryz.prog ovA GL m 3 [V.str a] (st0 gs1) = some (.b true, st') := by
  obtain ⟨v, st', ⟨M, h1⟩, u, h2, _, h3⟩ := t_law (fun _ => False) [.s a] (fun u => u = .b true) rfl (st0 gs1) [V.str a] (Nat.le_refl _) gok' (fun _ q => q.elim) ⟨_, _, rfl, rfl, rfl⟩
  subst h3
  have e : v = .b true := h2
  subst e
  exact ⟨M, st', h1 M (Nat.le_refl _)⟩
end Go.Proofs.YtcjoehlflbegpaaGreatDoor
