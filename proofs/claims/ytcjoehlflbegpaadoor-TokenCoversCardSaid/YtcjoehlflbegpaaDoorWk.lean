/-
  The law of covering, about the printed definitions. Nothing is claimed here.
-/
import Derived.Test.YtcjoehlflbegpaaDoorWz
namespace Go.Proofs.YtcjoehlflbegpaaDoor
open Go.Vm Go.Sx Go.RowKit Go.Vk

/-- Nothing but comments; the last may be open. -/
def cmts (last : Bool) (w : List UInt8) : Bool :=
  if w = [] then true
  else if [47, 42].isPrefixOf w then
    match closM (w.drop 2) with
    | none => last
    | some k => cmts last (w.drop (2 + (k + 2)))
  else false
termination_by w.length
decreasing_by
  rename_i q _
  cases w with
  | nil => contradiction
  | cons c w => simp only [List.length_drop, List.length_cons]; omega

/-- Where a comment's end begins, or where the text ends. -/
def stopC (w : List UInt8) : Nat := match closM w with
  | none => w.length
  | some k => k
theorem stopC_cons (c : UInt8) (w : List UInt8) : stopC (c :: w) = if c = 42 ∧ hb w = 47 then 0 else stopC w + 1 := by
  by_cases q : c = 42 ∧ hb w = 47
  · have e : closM (c :: w) = some 0 := by rw [closM, if_pos q]
    rw [if_pos q]
    unfold stopC
    rw [e]
  · have e : closM (c :: w) = (closM w).map (· + 1) := by rw [closM, if_neg q]
    rw [if_neg q]
    unfold stopC
    rw [e]
    cases closM w <;> rfl
theorem p_cmI (s : List UInt8) (hs : s.length ≤ 1000000) (x1 : Bool) (x16 : List UInt8) (x17 x18 : Int) (x19 : Bool) (x22 : List UInt8) (x23 x24 x25 : Int) (x26 : Bool) (Ke : List UInt8 → Bool → Int → List UInt8 → Int → Int → Bool → List UInt8 → Int → Int → Int → Bool → Prop) : ∀ (w : List UInt8) (i : Int), s.drop i.toNat = w → 0 ≤ i → i ≤ s.length → Ke s x1 (i + (stopC w : Int)) x16 x17 x18 x19 x22 x23 x24 x25 x26 → ∃ m, F_vitrinelaw02_comments_l6 m s x1 i x16 x17 x18 x19 x22 x23 x24 x25 x26 Ke
  | [], i, hd, h0, hi, h => by
    have := drop_nil hd
    refine ⟨1, fun q => (by exfalso; have := of_decide_eq_true q; omega), fun _ => ?_⟩
    have e : i + (stopC [] : Int) = i := by show i + ((0 : Nat) : Int) = i; omega
    rw [e] at h
    exact h
  | c :: w, i, hd, h0, hi, h => by
    obtain ⟨hl, hc, hn, hv⟩ := drop_cons h0 hd
    have nofin : decide (i < (s.length : Int)) = false → False := fun q => by have := of_decide_eq_false q; omega
    rw [stopC_cons] at h
    by_cases q1 : (c.toNat : Int) = 42
    · have ec : c = 42 := UInt8.toNat_inj.mp (by show c.toNat = 42; omega)
      cases w with
      | nil =>
        rw [if_neg (fun x => by have := x.2; exact absurd this (by decide))] at h
        have hl2 := drop_nil hn
        obtain ⟨m, hm⟩ := p_cmI s hs x1 x16 x17 x18 x19 x22 x23 x24 x25 x26 Ke [] (i + 1) hn (by omega) (by omega) (by
          have e : i + 1 + (stopC [] : Int) = i + ((stopC [] + 1 : Nat) : Int) := by omega
          rw [e]; exact h)
        refine ⟨m + 1, fun _ => ⟨⟨h0, hl⟩, fun _ => ⟨I64b (by omega), fun p => ?_, fun _ => ⟨I64b (by omega), hm⟩⟩, fun p => ?_⟩, fun q => (nofin q).elim⟩
        · exfalso; have := of_decide_eq_false p; simp only [List.length_nil] at hv; omega
        · exact absurd (by rw [hc]; exact q1) (of_decide_eq_true p)
      | cons d v =>
        obtain ⟨hl2, hc2, hn2, hv2⟩ := drop_cons (by omega) hn
        have nlast : decide (i + 1 = (s.length : Int)) = true → False := fun q => by have := of_decide_eq_true q; omega
        by_cases q2 : (d.toNat : Int) = 47
        · rw [if_pos ⟨ec, by rw [hb_cons]; exact q2⟩] at h
          refine ⟨1, fun _ => ⟨⟨h0, hl⟩, fun _ => ⟨I64b (by omega), fun _ => ⟨I64b (by omega), ⟨by omega, hl2⟩, fun p => ?_, fun _ => ?_⟩, fun p => (nlast p).elim⟩, fun p => ?_⟩, fun q => (nofin q).elim⟩
          · exact absurd (by rw [hc2]; exact q2) (of_decide_eq_true p)
          · simpa using h
          · exact absurd (by rw [hc]; exact q1) (of_decide_eq_true p)
        · rw [if_neg (fun x => q2 (by have := x.2; rwa [hb_cons] at this))] at h
          obtain ⟨m, hm⟩ := p_cmI s hs x1 x16 x17 x18 x19 x22 x23 x24 x25 x26 Ke (d :: v) (i + 1) hn (by omega) (by omega) (by
            have e : i + 1 + (stopC (d :: v) : Int) = i + ((stopC (d :: v) + 1 : Nat) : Int) := by omega
            rw [e]; exact h)
          refine ⟨m + 1, fun _ => ⟨⟨h0, hl⟩, fun _ => ⟨I64b (by omega), fun _ => ⟨I64b (by omega), ⟨by omega, hl2⟩, fun _ => ⟨I64b (by omega), hm⟩, fun p => ?_⟩, fun p => (nlast p).elim⟩, fun p => ?_⟩, fun q => (nofin q).elim⟩
          · exact absurd (of_decide_eq_false p) (by rw [hc2]; exact fun x => x q2)
          · exact absurd (by rw [hc]; exact q1) (of_decide_eq_true p)
    · rw [if_neg (fun x => q1 (by rw [x.1]; rfl))] at h
      obtain ⟨m, hm⟩ := p_cmI s hs x1 x16 x17 x18 x19 x22 x23 x24 x25 x26 Ke w (i + 1) hn (by omega) (by omega) (by
        have e : i + 1 + (stopC w : Int) = i + ((stopC w + 1 : Nat) : Int) := by omega
        rw [e]; exact h)
      refine ⟨m + 1, fun _ => ⟨⟨h0, hl⟩, fun p => ?_, fun _ => ⟨I64b (by omega), hm⟩⟩, fun q => (nofin q).elim⟩
      exact absurd (of_decide_eq_false p) (by rw [hc]; exact fun x => x q1)
theorem pre2 {c d : UInt8} {v : List UInt8} (h1 : (c.toNat : Int) = 47) (h2 : (d.toNat : Int) = 42) : ([47, 42] : List UInt8).isPrefixOf (c :: d :: v) = true := by
  have e1 : c = 47 := UInt8.toNat_inj.mp (by show c.toNat = 47; omega)
  have e2 : d = 42 := UInt8.toNat_inj.mp (by show d.toNat = 42; omega)
  subst e1 e2
  simp [List.isPrefixOf]
theorem pre2' {c d : UInt8} {v : List UInt8} (h : ([47, 42] : List UInt8).isPrefixOf (c :: d :: v) = true) : (c.toNat : Int) = 47 ∧ (d.toNat : Int) = 42 := by
  simp [List.isPrefixOf] at h
  obtain ⟨rfl, rfl⟩ := h
  exact ⟨rfl, rfl⟩
theorem p_cmL (s : List UInt8) (hs : s.length ≤ 1000000) (last : Bool) (K : Bool → Prop) : ∀ (n : Nat) (w : List UInt8) (i : Int), w.length ≤ n → s.drop i.toNat = w → 0 ≤ i → i ≤ s.length → K (cmts last w) → ∃ m, F_vitrinelaw02_comments_l2 m s last i (fun _ => K true) (fun y => K y) := by
  intro n
  induction n with
  | zero =>
    intro w i hn hd h0 hi h
    have : w = [] := List.length_eq_zero_iff.mp (by omega)
    subst this
    have hl := drop_nil hd
    rw [cmts, if_pos rfl] at h
    exact ⟨1, fun q => (by exfalso; have := of_decide_eq_true q; omega), fun _ => h⟩
  | succ n ih =>
    intro w i hn hd h0 hi h
    cases w with
    | nil =>
      have hl := drop_nil hd
      rw [cmts, if_pos rfl] at h
      exact ⟨1, fun q => (by exfalso; have := of_decide_eq_true q; omega), fun _ => h⟩
    | cons c w =>
      obtain ⟨hl, hc, hnx, hv⟩ := drop_cons h0 hd
      have nofin : decide (i < (s.length : Int)) = false → False := fun q => by have := of_decide_eq_false q; omega
      rw [cmts, if_neg (by simp)] at h
      cases w with
      | nil =>
        rw [if_neg (by intro x; have := pre_len x; simp at this)] at h
        refine ⟨1, fun _ => ⟨I64b (by omega), fun q => ?_, fun _ => h⟩, fun q => (nofin q).elim⟩
        exfalso; have := of_decide_eq_false q; simp only [List.length_nil] at hv; omega
      | cons d v =>
        obtain ⟨hl2, hc2, hn2, hv2⟩ := drop_cons (by omega) hnx
        have short : decide ((s.length : Int) - i < 2) = true → False := fun q => by have := of_decide_eq_true q; omega
        by_cases q1 : (c.toNat : Int) = 47
        · by_cases q2 : (d.toNat : Int) = 42
          · rw [if_pos (pre2 q1 q2)] at h
            have e2 : s.drop (i + 2).toNat = v := by rw [show i + 2 = i + 1 + 1 by omega]; exact hn2
            have ev : (c :: d :: v).drop 2 = v := rfl
            rw [ev] at h
            have main : ∃ m, ∀ (Q : Prop), True → F_vitrinelaw02_comments_l2 (m + 1) s last i (fun _ => K true) (fun y => K y) ∨ Q := by
              cases hcl : closM v with
              | none =>
                rw [hcl] at h
                refine ⟨0, fun Q _ => Or.inl ?_⟩
                have es : stopC v = v.length := by unfold stopC; rw [hcl]
                refine ⟨fun _ => ⟨I64b (by omega), fun _ => ⟨⟨h0, hl⟩, fun _ => ⟨I64b (by omega), ⟨by omega, hl2⟩, fun p => ?_, fun _ => ⟨I64b (by omega), ?_⟩⟩, fun p => ?_⟩, fun q => (short q).elim⟩, fun q => (nofin q).elim⟩
                · exact absurd (by rw [hc2]; exact q2) (of_decide_eq_true p)
                · refine p_cmI s hs last _ _ _ _ _ _ _ _ _ _ v (i + 2) e2 (by omega) (by omega) ⟨fun _ => h, fun p => ?_⟩
                  exfalso
                  have := of_decide_eq_false p
                  rw [es] at this
                  omega
                · exact absurd (by rw [hc]; exact q1) (of_decide_eq_true p)
              | some k =>
                rw [hcl] at h
                have hk := closM_len _ _ hcl
                have es : stopC v = k := by unfold stopC; rw [hcl]
                rw [List.length_cons, List.length_cons] at hn
                obtain ⟨m, hm⟩ := ih ((c :: d :: v).drop (2 + (k + 2))) (i + 2 + (k : Int) + 2) (by rw [List.length_drop]; simp only [List.length_cons]; omega) (by
                  rw [← hd, ← dropN h0]
                  congr 2
                  omega) (by omega) (by omega) h
                refine ⟨m, fun Q _ => Or.inl ⟨fun _ => ⟨I64b (by omega), fun _ => ⟨⟨h0, hl⟩, fun _ => ⟨I64b (by omega), ⟨by omega, hl2⟩, fun p => ?_, fun _ => ⟨I64b (by omega), ?_⟩⟩, fun p => ?_⟩, fun q => (short q).elim⟩, fun q => (nofin q).elim⟩⟩
                · exact absurd (by rw [hc2]; exact q2) (of_decide_eq_true p)
                · refine p_cmI s hs last _ _ _ _ _ _ _ _ _ _ v (i + 2) e2 (by omega) (by omega) ⟨fun p => ?_, fun _ => ⟨?_, ?_⟩⟩
                  · exfalso
                    have := of_decide_eq_true p
                    rw [es] at this
                    omega
                  · rw [es]; exact I64b (by omega)
                  · rw [es]; exact hm
                · exact absurd (by rw [hc]; exact q1) (of_decide_eq_true p)
            obtain ⟨m, hm⟩ := main
            exact ⟨m + 1, (hm False trivial).resolve_right id⟩
          · rw [if_neg (fun x => q2 (pre2' x).2)] at h
            refine ⟨1, fun _ => ⟨I64b (by omega), fun _ => ⟨⟨h0, hl⟩, fun _ => ⟨I64b (by omega), ⟨by omega, hl2⟩, fun _ => h, fun p => ?_⟩, fun p => ?_⟩, fun q => (short q).elim⟩, fun q => (nofin q).elim⟩
            · exact absurd (of_decide_eq_false p) (by rw [hc2]; exact fun x => x q2)
            · exact absurd (by rw [hc]; exact q1) (of_decide_eq_true p)
        · rw [if_neg (fun x => q1 (pre2' x).1)] at h
          refine ⟨1, fun _ => ⟨I64b (by omega), fun _ => ⟨⟨h0, hl⟩, fun p => ?_, fun _ => h⟩, fun q => (short q).elim⟩, fun q => (nofin q).elim⟩
          exact absurd (of_decide_eq_false p) (by rw [hc]; exact fun x => x q1)
def s_cms : T_vitrinelaw02_comments := fun s last K => s.length ≤ 1000000 ∧ K (cmts last s)
theorem p_cms (s last K) (h : s_cms s last K) : F_vitrinelaw02_comments s last K := p_cmL s h.1 last K _ s 0 (Nat.le_refl _) rfl (by omega) (by omega) h.2

/-! ### Comments between tokens -/
theorem closM_take : ∀ (w : List UInt8) (k n : Nat), closM w = some k → k + 2 ≤ n → closM (w.take n) = some k
  | [], k, n, h, _ => by cases h
  | c :: w, k, n, h, hn => by
    obtain ⟨n, rfl⟩ : ∃ n', n = n' + 1 := ⟨n - 1, by omega⟩
    rw [List.take_succ_cons]
    rw [closM] at h ⊢
    by_cases q : c = 42 ∧ hb w = 47
    · rw [if_pos q] at h
      obtain rfl := Option.some.inj h
      have : hb (w.take n) = hb w := by
        obtain ⟨n, rfl⟩ : ∃ n', n = n' + 1 := ⟨n - 1, by omega⟩
        cases w <;> rfl
      rw [this, if_pos q]
    · rw [if_neg q] at h
      cases hc : closM w with
      | none => rw [hc] at h; cases h
      | some m =>
        rw [hc] at h
        have h : m + 1 = k := Option.some.inj h
        have ih := closM_take w m n hc (by omega)
        have h2 := closM_len w m hc
        by_cases q2 : c = 42 ∧ hb (w.take n) = 47
        · exfalso
          apply q
          refine ⟨q2.1, ?_⟩
          have : hb (w.take n) = hb w := by
            obtain ⟨n, rfl⟩ : ∃ n', n = n' + 1 := ⟨n - 1, by omega⟩
            cases w <;> rfl
          rw [← this]; exact q2.2
        · rw [if_neg q2, ih]
          show some (m + 1) = some k
          rw [h]
theorem pre_take {a w : List UInt8} (h : a.isPrefixOf w = true) {n : Nat} (hn : a.length ≤ n) : a.isPrefixOf (w.take n) = true := by
  obtain ⟨t, rfl⟩ := List.isPrefixOf_iff_prefix.mp h
  rw [List.take_append, List.take_of_length_le hn]
  exact List.isPrefixOf_iff_prefix.mpr ⟨_, rfl⟩
theorem cmts_between (w : List UInt8) (h : w.drop (comM w) ≠ []) : cmts false (w.take (comM w)) = true := by
  induction hn : w.length using Nat.strongRecOn generalizing w with
  | _ n ih =>
    have hl : comM w < w.length := by
      by_cases q : comM w < w.length
      · exact q
      · exact absurd (List.drop_of_length_le (by omega)) h
    by_cases q : ([47, 42] : List UInt8).isPrefixOf w = true
    · have hp := pre_len q
      simp only [List.length_cons, List.length_nil] at hp
      rw [comM, if_pos q] at h hl ⊢
      cases hc : closM (w.drop 2) with
      | none => rw [hc] at hl; simp only at hl; omega
      | some k =>
        rw [hc] at h hl
        simp only at h hl ⊢
        have hw : w ≠ [] := fun e => by rw [e] at hp; simp at hp
        rw [if_neg hw] at h hl ⊢
        have hk := closM_len _ _ hc
        rw [List.length_drop] at hk
        have ih2 := ih (w.drop (2 + (k + 2))).length (by rw [List.length_drop]; omega) (w.drop (2 + (k + 2))) (by rw [List.drop_drop]; exact h) rfl
        rw [cmts, if_neg (fun e => by
          have := congrArg List.length e
          rw [List.length_take, List.length_nil] at this
          omega), if_pos (pre_take q (by simp only [List.length_cons, List.length_nil]; omega))]
        have e1 : (w.take (2 + (k + 2) + comM (w.drop (2 + (k + 2))))).drop 2 = (w.drop 2).take (k + 2 + comM (w.drop (2 + (k + 2)))) := by
          rw [List.drop_take]
          congr 1
          omega
        rw [e1, closM_take _ _ _ hc (by omega)]
        simp only
        have e2 : (w.take (2 + (k + 2) + comM (w.drop (2 + (k + 2))))).drop (2 + (k + 2)) = (w.drop (2 + (k + 2))).take (comM (w.drop (2 + (k + 2)))) := by
          rw [List.drop_take]
          congr 1
          omega
        rw [e2]
        exact ih2
    · rw [comM, if_neg q, List.take_zero, cmts, if_pos rfl]
theorem cmts_end (w : List UInt8) (h : comM w = w.length) : cmts true w = true := by
  induction hn : w.length using Nat.strongRecOn generalizing w with
  | _ n ih =>
    by_cases hw : w = []
    · rw [cmts, if_pos hw]
    · rw [cmts, if_neg hw]
      rw [comM] at h
      by_cases q : ([47, 42] : List UInt8).isPrefixOf w = true
      · rw [if_pos q] at h ⊢
        have hp := pre_len q
        simp only [List.length_cons, List.length_nil] at hp
        cases hc : closM (w.drop 2) with
        | none => rfl
        | some k =>
          rw [hc] at h
          simp only at h ⊢
          rw [if_neg hw] at h
          have hk := closM_len _ _ hc
          rw [List.length_drop] at hk
          refine ih (w.drop (2 + (k + 2))).length (by rw [List.length_drop]; omega) (w.drop (2 + (k + 2))) ?_ rfl
          rw [List.length_drop]
          omega
      · rw [if_neg q] at h
        exact absurd (List.length_eq_zero_iff.mp h.symm) hw

/-! ### The law -/
theorem p_cvL (c : List UInt8) (hc : c.length ≤ 100000) (sp : List (Int × Int)) (A15 : T_vitrinelaw02_alive) (A18 : T_input_Clean) (A9 : T_TokensA) (A10 : T_SpansA) (Ke : List UInt8 → Int → Prop) (Kr : Bool → Prop) : ∀ (f : Nat) (w : List UInt8) (p e j : Nat), w.length ≤ f → c.drop p = w → p ≤ c.length → p = e + comM (c.drop e) → e ≤ c.length → sp.drop j = (tksM f w p).map spOf → j ≤ sp.length → sp.length ≤ 100000 → (∀ e' : Nat, e' ≤ c.length → comM (c.drop e') = (c.drop e').length → Ke c (e' : Int)) → ∃ m, F_vitrinelaw02_TokenCovers_l12 A15 A18 A9 A10 s_cms m c sp (e : Int) (j : Int) Ke Kr
  | f, [], p, e, j, hf, hd, hp, hpe, he, hsp, hj, hs, k => by
    have e0 : tksM f [] p = [] := by cases f <;> rfl
    rw [e0, List.map_nil] at hsp
    have hl : sp.length ≤ j := by
      have := congrArg List.length hsp
      rw [List.length_drop, List.length_nil] at this
      omega
    refine ⟨1, fun q => (by exfalso; have := of_decide_eq_true q; omega), fun _ => k e he ?_⟩
    have h1 := congrArg List.length hd
    have h2 := comM_len (c.drop e)
    rw [List.length_drop, List.length_nil] at h1
    rw [List.length_drop] at h2 ⊢
    omega
  | 0, x :: w, p, e, j, hf, hd, hp, hpe, he, hsp, hj, hs, k => by simp at hf
  | f + 1, x :: w, p, e, j, hf, hd, hp, hpe, he, hsp, hj, hs, k => by
    have ht := tokM_len (w := x :: w) (by simp)
    have hk := comM_len ((x :: w).drop (tokM (x :: w)).2)
    have hl := congrArg List.length hd
    rw [List.length_drop] at hk hl
    rw [List.length_cons] at ht hk hf hl
    rw [tksM, List.map_cons] at hsp
    have hjl : j < sp.length := by
      by_cases q : j < sp.length
      · exact q
      · rw [List.drop_of_length_le (by omega)] at hsp; cases hsp
    rw [List.drop_eq_getElem_cons hjl] at hsp
    obtain ⟨e1, e2⟩ := List.cons.inj hsp
    have eg : sp.getD (j : Int).toNat (dfltD Cd.span) = ((p : Int), ((p + (tokM (x :: w)).2 : Nat) : Int)) := by
      have g : ∀ d : Int × Int, sp.getD j d = sp[j] := fun d => by rw [List.getD_eq_getElem?_getD, List.getElem?_eq_getElem hjl, Option.getD_some]
      exact (g _).trans e1
    have ed : c.drop (p + (tokM (x :: w)).2) = (x :: w).drop (tokM (x :: w)).2 := dropA hd _
    obtain ⟨m, hm⟩ := p_cvL c hc sp A15 A18 A9 A10 Ke Kr f ((x :: w).drop ((tokM (x :: w)).2 + comM ((x :: w).drop (tokM (x :: w)).2))) (p + (tokM (x :: w)).2 + comM ((x :: w).drop (tokM (x :: w)).2)) (p + (tokM (x :: w)).2) (j + 1) (by rw [List.length_drop, List.length_cons]; omega) (by rw [Nat.add_assoc]; exact dropA hd _) (by omega) (by rw [ed]) (by omega) e2 (by omega) hs k
    have between : cmts false ((c.drop e).take (comM (c.drop e))) = true := cmts_between _ (fun x => by
      rw [List.drop_drop, ← hpe, hd] at x; cases x)
    refine ⟨m + 1, fun _ => ⟨⟨by omega, by omega⟩, by decide, ?_⟩, fun q => (by exfalso; have := of_decide_eq_false q; omega)⟩
    rw [eg]
    refine ⟨fun _ => ⟨⟨by omega, by omega⟩, by decide, ⟨by omega, by omega⟩, by decide, fun _ => ⟨⟨by omega, by omega⟩, by decide, fun _ => ⟨⟨by omega, by omega⟩, by decide, ⟨by omega, by show (e : Int) ≤ (p : Int); omega, by show (p : Int) ≤ _; omega⟩, ?_⟩, fun q => ?_⟩, fun q => ?_⟩, fun q => ?_⟩
    · have et : (p : Int).toNat - (e : Int).toNat = comM (c.drop e) := by omega
      have ee : c.drop (e : Int).toNat = c.drop e := rfl
      show s_cms ((c.drop (e : Int).toNat).take ((p : Int).toNat - (e : Int).toNat)) false _
      rw [et, ee]
      refine ⟨by rw [List.length_take, List.length_drop]; omega, ?_⟩
      rw [between]
      exact ⟨fun q => absurd q (by decide), fun _ => ⟨⟨by omega, by omega⟩, by decide, I64b (by omega), hm⟩⟩
    · exfalso
      have q : (c.length : Int) < ((p + (tokM (x :: w)).2 : Nat) : Int) := of_decide_eq_true q
      omega
    · exfalso
      have q : ((p + (tokM (x :: w)).2 : Nat) : Int) ≤ (p : Int) := of_decide_eq_true q
      omega
    · exfalso
      have q : (p : Int) < (e : Int) := of_decide_eq_true q
      omega
theorem law_covers (s K) (h : K true) : F_vitrinelaw02_TokenCovers s_alive s_clean s_tokens s_spans s_cms s K := by
  refine ⟨fun _ => h, fun q => ?_⟩
  have q := of_decide_eq_false q
  have hc := cleanM_len s
  have hL := allM_len (cleanM s)
  have hk := comM_len (cleanM s)
  have fin : ∃ m, F_vitrinelaw02_TokenCovers_l12 s_alive s_clean s_tokens s_spans s_cms m (cleanM s) ((allM (cleanM s)).map spOf) (0 : Int) (0 : Int) (fun y9 y10 => ((0 ≤ y10 ∧ y10 ≤ (y9.length : Int)) ∧ (s_cms (y9.drop y10.toNat) true (fun y11 => ((y11 = true → (s_alive (fun y12 => K y12))) ∧ (y11 = false → K false)))))) (fun y13 => K y13) := by
    refine p_cvL (cleanM s) (by omega) ((allM (cleanM s)).map spOf) _ _ _ _ _ _ (cleanM s).length ((cleanM s).drop (comM (cleanM s))) (comM (cleanM s)) 0 0 (by rw [List.length_drop]; omega) rfl hk (by rw [List.drop_zero, Nat.zero_add]) (Nat.zero_le _) rfl (Nat.zero_le _) (by rw [List.length_map]; omega) (fun e' he' hce => ⟨⟨by omega, by omega⟩, ⟨?_, ?_⟩⟩)
    · rw [List.length_drop]; omega
    · rw [Int.toNat_natCast, cmts_end _ hce]
      exact ⟨fun _ => h, fun p => absurd p (by decide)⟩
  refine ⟨fun p => (by exfalso; omega), fun _ => ⟨fun p => (by exfalso; omega), fun _ _ => ⟨fun p => (by exfalso; omega), fun _ _ => ⟨fun _ => ⟨fun _ => ⟨fun p => absurd p (by decide), fun _ => ⟨fun p => ?_, fun _ => ⟨fun p => absurd p (by decide), fun _ => fin⟩⟩⟩, fun p => absurd p (by decide)⟩, fun p => absurd p (by decide)⟩, fun _ p => (by exfalso; omega)⟩, fun _ p => (by exfalso; omega)⟩⟩
  exfalso
  have p := of_decide_eq_true p
  rw [List.length_map, List.length_map] at p
  exact p rfl
theorem t_covers : FnOK sy Tryd.prog GT ovD GL 5 (q_vitrinelaw02_TokenCovers (fun _ K => K true)) :=
  q_vitrinelaw02_TokenCovers_weak (ok_vitrinelaw02_TokenCovers s_alive s_clean s_tokens s_spans s_cms t_alive t_18 t_9 t_10 (q_vitrinelaw02_comments_weak ok_vitrinelaw02_comments p_cms)) law_covers
theorem covers (a : List UInt8) : ∃ m st', evF Tryd.prog ovA GL m 5 [V.str a] (st0 gs1) = some (.b true, st') := by
  obtain ⟨v, st', ⟨M, h1⟩, u, h2, _, h3⟩ := t_covers (fun _ => False) [.s a] (fun u => u = .b true) rfl (st0 gs1) [V.str a] (Nat.le_refl _) gok' (fun _ q => q.elim) ⟨_, _, rfl, rfl, rfl⟩
  subst h3
  have e : v = .b true := h2
  subst e
  exact ⟨M, st', h1 M (Nat.le_refl _)⟩
end Go.Proofs.YtcjoehlflbegpaaDoor
