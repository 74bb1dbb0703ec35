/-
  Cleaning, tokens, spans, values and names of a text do what the model says. Nothing is claimed here.
-/
import Derived.Test.YthjnfeihngjchaaDoorWf
namespace Go.Proofs.YthjnfeihngjchaaDoor
open Go.Vm Go.Sx Go.RowKit

/-! ### Cleaning -/
def s_LE : T_input_startsWithLineEnd := fun s K => K (decide (hb s = 10))
theorem p_LE (s K) (h : s_LE s K) : F_input_startsWithLineEnd s K := by
  unfold s_LE at h
  cases s with
  | nil => exact ⟨fun q => absurd q (by decide), fun _ => h⟩
  | cons c w => exact ⟨fun _ => ⟨⟨by omega, by rw [List.length_cons]; omega⟩, h⟩, fun q => (by exfalso; have := of_decide_eq_false q; rw [List.length_cons] at this; omega)⟩
theorem p_clL (s : List UInt8) (hs : s.length ≤ 1000000) (Ke : List UInt8 → Prop) : ∀ (w : List UInt8) (i : Int) (b : List UInt8), s.drop i.toNat = w → 0 ≤ i → b.length + 3 * w.length ≤ 10000000 → Ke (b ++ cleanM w) → ∃ m, F_input_Clean_l5 s_LE m s i b Ke
  | [], i, b, hd, h0, hbb, h => by
    have := drop_nil hd
    exact ⟨1, fun q => (by exfalso; have := of_decide_eq_true q; omega), fun _ => by simpa [cleanM] using h⟩
  | c :: w, i, b, hd, h0, hbb, h => by
    obtain ⟨hl, hc, hn, hv⟩ := drop_cons h0 hd
    rw [List.length_cons] at hbb
    have nofin : decide (i < (s.length : Int)) = false → False := fun q => by have := of_decide_eq_false q; omega
    by_cases c1 : (c.toNat : Int) = 0
    · have e : cleanM (c :: w) = [239, 191, 189] ++ cleanM w := by rw [cleanM, if_pos c1]
      rw [e, ← List.append_assoc] at h
      obtain ⟨m, hm⟩ := p_clL s hs Ke w (i + 1) _ hn (by omega) (by rw [List.length_append]; simp only [List.length_cons, List.length_nil]; omega) h
      refine ⟨m + 1, fun _ => ⟨⟨h0, hl⟩, fun _ => ⟨by simp only [List.length_cons, List.length_nil]; omega, I64b (by omega), hm⟩, fun q => ?_⟩, fun q => (nofin q).elim⟩
      exact absurd (by rw [hc]; exact c1) (of_decide_eq_false q)
    · have n1 : ¬ decide (((s.getD i.toNat 0).toNat : Int) = 0) = true := fun q => c1 (by rw [← hc]; exact of_decide_eq_true q)
      by_cases c2 : (c.toNat : Int) = 12
      · have e : cleanM (c :: w) = [10] ++ cleanM w := by rw [cleanM, if_neg c1, if_pos c2]; rfl
        rw [e, ← List.append_assoc] at h
        obtain ⟨m, hm⟩ := p_clL s hs Ke w (i + 1) _ hn (by omega) (by rw [List.length_append]; simp only [List.length_cons, List.length_nil]; omega) h
        refine ⟨m + 1, fun _ => ⟨⟨h0, hl⟩, fun q => absurd q n1, fun _ => ⟨fun _ => ⟨by decide, by simp only [List.length_cons, List.length_nil]; omega, I64b (by omega), hm⟩, fun q => ?_⟩⟩, fun q => (nofin q).elim⟩
        exact absurd (by rw [hc]; exact c2) (of_decide_eq_false q)
      · have n2 : ¬ decide (((s.getD i.toNat 0).toNat : Int) = 12) = true := fun q => c2 (by rw [← hc]; exact of_decide_eq_true q)
        by_cases c3 : (c.toNat : Int) = 13
        · have n3 : ¬ decide (((s.getD i.toNat 0).toNat : Int) = 13) = false := fun q => (of_decide_eq_false q) (by rw [hc]; exact c3)
          by_cases c4 : hb w = 10
          · have e : cleanM (c :: w) = cleanM w := by rw [cleanM, if_neg c1, if_neg c2, if_pos c3, if_pos c4]
            rw [e] at h
            obtain ⟨m, hm⟩ := p_clL s hs Ke w (i + 1) _ hn (by omega) (by omega) h
            refine ⟨m + 1, fun _ => ⟨⟨h0, hl⟩, fun q => absurd q n1, fun _ => ⟨fun q => absurd q n2, fun _ => ⟨fun _ => ⟨I64b (by omega), ⟨by omega, by omega⟩, fun q => ?_, fun _ => ⟨I64b (by omega), hm⟩⟩, fun q => absurd q n3⟩⟩⟩, fun q => (nofin q).elim⟩
            rw [hn, decide_eq_true c4] at q; exact absurd q (by decide)
          · have e : cleanM (c :: w) = [10] ++ cleanM w := by rw [cleanM, if_neg c1, if_neg c2, if_pos c3, if_neg c4]; rfl
            rw [e, ← List.append_assoc] at h
            obtain ⟨m, hm⟩ := p_clL s hs Ke w (i + 1) _ hn (by omega) (by rw [List.length_append]; simp only [List.length_cons, List.length_nil]; omega) h
            refine ⟨m + 1, fun _ => ⟨⟨h0, hl⟩, fun q => absurd q n1, fun _ => ⟨fun q => absurd q n2, fun _ => ⟨fun _ => ⟨I64b (by omega), ⟨by omega, by omega⟩, fun _ => ⟨by decide, by simp only [List.length_cons, List.length_nil]; omega, I64b (by omega), hm⟩, fun q => ?_⟩, fun q => absurd q n3⟩⟩⟩, fun q => (nofin q).elim⟩
            rw [hn, decide_eq_false c4] at q; exact absurd q (by decide)
        · have n3 : ¬ decide (((s.getD i.toNat 0).toNat : Int) = 13) = true := fun q => c3 (by rw [← hc]; exact of_decide_eq_true q)
          have e : cleanM (c :: w) = [c] ++ cleanM w := by rw [cleanM, if_neg c1, if_neg c2, if_neg c3]; rfl
          rw [e, ← List.append_assoc] at h
          obtain ⟨m, hm⟩ := p_clL s hs Ke w (i + 1) _ hn (by omega) (by rw [List.length_append]; simp only [List.length_cons, List.length_nil]; omega) h
          refine ⟨m + 1, fun _ => ⟨⟨h0, hl⟩, fun q => absurd q n1, fun _ => ⟨fun q => absurd q n2, fun _ => ⟨fun q => absurd q n3, fun _ => ⟨⟨h0, hl⟩, ?_⟩⟩⟩⟩, fun q => (nofin q).elim⟩
          rw [hc, u8id]
          exact ⟨u8in c, by simp only [List.length_cons, List.length_nil]; omega, I64b (by omega), hm⟩
def s_clean : T_input_Clean := fun s K => (4000 < s.length → K [] 28) ∧ (s.length ≤ 4000 → K (cleanM s) 0)
theorem p_clean (s K) (h : s_clean s K) : F_input_Clean s_LE s K := by
  refine ⟨fun q => h.1 (by have := of_decide_eq_true q; omega), fun q => ?_⟩
  have q := of_decide_eq_false q
  refine ⟨⟨by omega, by omega, by omega, by omega⟩, by decide, ?_⟩
  exact p_clL s (by omega) _ s 0 [] rfl (by omega) (by simp only [List.length_nil]; omega) (h.2 (by omega))
theorem cleanM_len : ∀ s : List UInt8, (cleanM s).length ≤ 3 * s.length
  | [] => Nat.le_refl _
  | c :: w => by
    have := cleanM_len w
    rw [cleanM, List.length_cons]
    split
    · rw [List.length_append]; simp only [List.length_cons, List.length_nil]; omega
    · split
      · rw [List.length_cons]; omega
      · split
        · split
          · omega
          · rw [List.length_cons]; omega
        · rw [List.length_cons]; omega

/-! ### All tokens -/
def tkOf (t : Tok × Nat × Nat) : Tok := t.1
def spOf (t : Tok × Nat × Nat) : Int × Int := ((t.2.1 : Int), (t.2.2 : Int))
theorem tksM_len : ∀ (f : Nat) (w : List UInt8) (p : Nat), (tksM f w p).length ≤ w.length
  | 0, w, p => Nat.zero_le _
  | f + 1, [], p => Nat.le_refl _
  | f + 1, c :: w, p => by
    have h1 := tokM_len (w := c :: w) (by simp)
    rw [tksM, List.length_cons]
    have h2 := tksM_len f ((c :: w).drop ((tokM (c :: w)).2 + comM ((c :: w).drop (tokM (c :: w)).2))) (p + (tokM (c :: w)).2 + comM ((c :: w).drop (tokM (c :: w)).2))
    rw [List.length_drop, List.length_cons] at h2
    rw [List.length_cons] at h1 ⊢
    omega
theorem dropA {s w : List UInt8} {p : Nat} (h : s.drop p = w) (n : Nat) : s.drop (p + n) = w.drop n := by rw [← h, List.drop_drop]
theorem p_tL (s : List UInt8) (hs : s.length ≤ 100000) (Ke : List Tok → Prop) (Kr : Int → List Tok → Prop) : ∀ (f : Nat) (w : List UInt8) (p : Nat) (x7 : Int) (b : List Tok), w.length ≤ f → s.drop p = w → p ≤ s.length → x7 = b.length → b.length ≤ 1500 → (b.length + (tksM f w p).length ≤ 1500 → Ke (b ++ (tksM f w p).map tkOf)) → (1500 < b.length + (tksM f w p).length → ∀ b', Kr 4 b') → ∃ m, F_token_eachToken_tA_l6 s_clean s_com s_token m s x7 (p : Int) b Ke Kr
  | f, [], p, x7, b, hf, hd, hp, hx, hb, k1, k2 => by
    have hd' : s.drop (p : Int).toNat = [] := hd
    have hl := drop_nil hd'
    have e : tksM f [] p = [] := by cases f <;> rfl
    rw [e] at k1
    exact ⟨1, fun q => (by exfalso; have := of_decide_eq_true q; omega), fun _ => by simpa using k1 (by simpa using hb)⟩
  | 0, c :: w, p, x7, b, hf, hd, hp, hx, hb, k1, k2 => by simp at hf
  | f + 1, c :: w, p, x7, b, hf, hd, hp, hx, hb, k1, k2 => by
    have hd' : s.drop (p : Int).toNat = c :: w := hd
    obtain ⟨hl, hc, hn, hv⟩ := drop_cons (by omega) hd'
    have nofin : decide ((p : Int) < (s.length : Int)) = false → False := fun q => by have := of_decide_eq_false q; omega
    rw [tksM] at k1 k2
    have ht := tokM_len (w := c :: w) (by simp)
    have hk := comM_len ((c :: w).drop (tokM (c :: w)).2)
    rw [List.length_drop] at hk
    rw [List.length_cons] at ht hk hf
    rw [List.length_cons] at k1 k2
    by_cases q : b.length = 1500
    · have kr := k2 (by omega) b
      refine ⟨1, fun _ => ⟨fun _ => kr, fun p2 => (by exfalso; have := of_decide_eq_false p2; omega)⟩, fun q => (nofin q).elim⟩
    · have e1 : s.drop ((p : Int) + ((tokM (c :: w)).2 : Int)).toNat = (c :: w).drop (tokM (c :: w)).2 := by rw [dropN (by omega), hd']
      obtain ⟨m, hm⟩ := p_tL s hs Ke Kr f ((c :: w).drop ((tokM (c :: w)).2 + comM ((c :: w).drop (tokM (c :: w)).2))) (p + (tokM (c :: w)).2 + comM ((c :: w).drop (tokM (c :: w)).2)) (x7 + 1) (b ++ [tkOf ((tokM (c :: w)).1, p, p + (tokM (c :: w)).2)]) (by rw [List.length_drop, List.length_cons]; omega) (by rw [Nat.add_assoc]; exact dropA hd _) (by omega) (by rw [List.length_append, List.length_singleton]; omega) (by rw [List.length_append, List.length_singleton]; omega) (fun h => by
          rw [List.append_assoc]
          exact k1 (by rw [List.length_append, List.length_singleton] at h; omega)) (fun h => k2 (by rw [List.length_append, List.length_singleton] at h; omega))
      refine ⟨m + 1, fun _ => ⟨fun p2 => (by exfalso; have := of_decide_eq_true p2; omega), fun _ => ⟨⟨by omega, hl, by omega⟩, ?_⟩⟩, fun q => (nofin q).elim⟩
      rw [hd']
      refine ⟨by simp only [List.length_singleton]; omega, I64b (by omega), ⟨by omega, by omega, by omega⟩, ?_⟩
      rw [e1]
      have e2 : (p : Int) + ((tokM (c :: w)).2 : Int) + (comM ((c :: w).drop (tokM (c :: w)).2) : Int) = ((p + (tokM (c :: w)).2 + comM ((c :: w).drop (tokM (c :: w)).2) : Nat) : Int) := by omega
      rw [e2]
      exact hm
theorem p_sL (s : List UInt8) (hs : s.length ≤ 100000) (Ke : List (Int × Int) → Prop) (Kr : Int → List (Int × Int) → Prop) : ∀ (f : Nat) (w : List UInt8) (p : Nat) (x7 : Int) (b : List (Int × Int)), w.length ≤ f → s.drop p = w → p ≤ s.length → x7 = b.length → b.length ≤ 1500 → (b.length + (tksM f w p).length ≤ 1500 → Ke (b ++ (tksM f w p).map spOf)) → (1500 < b.length + (tksM f w p).length → ∀ b', Kr 4 b') → ∃ m, F_token_eachToken_sA_l6 s_clean s_com s_token m s x7 (p : Int) b Ke Kr
  | f, [], p, x7, b, hf, hd, hp, hx, hb, k1, k2 => by
    have hd' : s.drop (p : Int).toNat = [] := hd
    have hl := drop_nil hd'
    have e : tksM f [] p = [] := by cases f <;> rfl
    rw [e] at k1
    exact ⟨1, fun q => (by exfalso; have := of_decide_eq_true q; omega), fun _ => by simpa using k1 (by simpa using hb)⟩
  | 0, c :: w, p, x7, b, hf, hd, hp, hx, hb, k1, k2 => by simp at hf
  | f + 1, c :: w, p, x7, b, hf, hd, hp, hx, hb, k1, k2 => by
    have hd' : s.drop (p : Int).toNat = c :: w := hd
    obtain ⟨hl, hc, hn, hv⟩ := drop_cons (by omega) hd'
    have nofin : decide ((p : Int) < (s.length : Int)) = false → False := fun q => by have := of_decide_eq_false q; omega
    rw [tksM] at k1 k2
    have ht := tokM_len (w := c :: w) (by simp)
    have hk := comM_len ((c :: w).drop (tokM (c :: w)).2)
    rw [List.length_drop] at hk
    rw [List.length_cons] at ht hk hf
    rw [List.length_cons] at k1 k2
    by_cases q : b.length = 1500
    · have kr := k2 (by omega) b
      refine ⟨1, fun _ => ⟨fun _ => kr, fun p2 => (by exfalso; have := of_decide_eq_false p2; omega)⟩, fun q => (nofin q).elim⟩
    · have e1 : s.drop ((p : Int) + ((tokM (c :: w)).2 : Int)).toNat = (c :: w).drop (tokM (c :: w)).2 := by rw [dropN (by omega), hd']
      obtain ⟨m, hm⟩ := p_sL s hs Ke Kr f ((c :: w).drop ((tokM (c :: w)).2 + comM ((c :: w).drop (tokM (c :: w)).2))) (p + (tokM (c :: w)).2 + comM ((c :: w).drop (tokM (c :: w)).2)) (x7 + 1) (b ++ [spOf ((tokM (c :: w)).1, p, p + (tokM (c :: w)).2)]) (by rw [List.length_drop, List.length_cons]; omega) (by rw [Nat.add_assoc]; exact dropA hd _) (by omega) (by rw [List.length_append, List.length_singleton]; omega) (by rw [List.length_append, List.length_singleton]; omega) (fun h => by
          rw [List.append_assoc]
          exact k1 (by rw [List.length_append, List.length_singleton] at h; omega)) (fun h => k2 (by rw [List.length_append, List.length_singleton] at h; omega))
      refine ⟨m + 1, fun _ => ⟨fun p2 => (by exfalso; have := of_decide_eq_true p2; omega), fun _ => ⟨⟨by omega, hl, by omega⟩, ?_⟩⟩, fun q => (nofin q).elim⟩
      rw [hd']
      refine ⟨by simp only [List.length_singleton]; omega, I64b (by omega), ⟨by omega, by omega, by omega⟩, ?_⟩
      rw [e1]
      have e2 : (p : Int) + ((tokM (c :: w)).2 : Int) + (comM ((c :: w).drop (tokM (c :: w)).2) : Int) = ((p + (tokM (c :: w)).2 + comM ((c :: w).drop (tokM (c :: w)).2) : Nat) : Int) := by omega
      rw [e2]
      exact hm
def s_tokens : T_TokensA := fun s K => (4000 < s.length → K [] 28) ∧ (s.length ≤ 4000 → (allM (cleanM s)).length ≤ 1500 → K ((allM (cleanM s)).map tkOf) 0) ∧ (s.length ≤ 4000 → 1500 < (allM (cleanM s)).length → K [] 4)
theorem p_tokens (s K) (h : s_tokens s K) : F_TokensA s_clean s_com s_token s K := by
  obtain ⟨h1, h2, h3⟩ := h
  refine ⟨fun q => ⟨fun _ => ⟨fun _ => h1 q, fun p => absurd p (by decide)⟩, fun p => absurd p (by decide)⟩, fun q => ⟨fun p => absurd p (by decide), fun _ => ⟨⟨by omega, by omega, by have := cleanM_len s; omega⟩, ?_⟩⟩⟩
  have hc := cleanM_len s
  have hk := comM_len (cleanM s)
  have e0 : (0 : Int) + (comM ((cleanM s).drop (0 : Int).toNat) : Int) = ((comM (cleanM s) : Nat) : Int) := by
    show (0 : Int) + (comM ((cleanM s).drop 0) : Int) = _
    rw [List.drop_zero, Int.zero_add]
  rw [e0]
  refine p_tL (cleanM s) (by omega) _ _ (cleanM s).length ((cleanM s).drop (comM (cleanM s))) (comM (cleanM s)) 0 [] (by rw [List.length_drop]; omega) rfl hk rfl (by simp) (fun hL => ⟨fun p => absurd p (by decide), fun _ => ?_⟩) (fun hL b' => ⟨fun _ => h3 q ?_, fun p => absurd p (by decide)⟩)
  · rw [List.length_nil, Nat.zero_add] at hL
    exact h2 q hL
  · rw [List.length_nil, Nat.zero_add] at hL
    exact hL
def s_spans : T_SpansA := fun s K => (4000 < s.length → K [] 28) ∧ (s.length ≤ 4000 → (allM (cleanM s)).length ≤ 1500 → K ((allM (cleanM s)).map spOf) 0) ∧ (s.length ≤ 4000 → 1500 < (allM (cleanM s)).length → K [] 4)
theorem p_spans (s K) (h : s_spans s K) : F_SpansA s_clean s_com s_token s K := by
  obtain ⟨h1, h2, h3⟩ := h
  refine ⟨fun q => ⟨fun _ => ⟨fun _ => h1 q, fun p => absurd p (by decide)⟩, fun p => absurd p (by decide)⟩, fun q => ⟨fun p => absurd p (by decide), fun _ => ⟨⟨by omega, by omega, by have := cleanM_len s; omega⟩, ?_⟩⟩⟩
  have hc := cleanM_len s
  have hk := comM_len (cleanM s)
  have e0 : (0 : Int) + (comM ((cleanM s).drop (0 : Int).toNat) : Int) = ((comM (cleanM s) : Nat) : Int) := by
    show (0 : Int) + (comM ((cleanM s).drop 0) : Int) = _
    rw [List.drop_zero, Int.zero_add]
  rw [e0]
  refine p_sL (cleanM s) (by omega) _ _ (cleanM s).length ((cleanM s).drop (comM (cleanM s))) (comM (cleanM s)) 0 [] (by rw [List.length_drop]; omega) rfl hk rfl (by simp) (fun hL => ⟨fun p => absurd p (by decide), fun _ => ?_⟩) (fun hL b' => ⟨fun _ => h3 q ?_, fun p => absurd p (by decide)⟩)
  · rw [List.length_nil, Nat.zero_add] at hL
    exact h2 q hL
  · rw [List.length_nil, Nat.zero_add] at hL
    exact hL

end Go.Proofs.YthjnfeihngjchaaDoor
