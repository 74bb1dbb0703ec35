/-
  Named buffers are let go: what they hold is data from then on. Nothing is claimed here.
-/
import Derived.Test.YtnfddmjbfkfnhaaGreatDoorSi
namespace Go.Sx
open Go.Vm

section
variable {S : Sg}

variable {Y : Sy S} {P : Program} {G : Gl} {ro : Nat} {o0 : Nat → Prop} {E : En} {nx : Nat} {m : T (Ct S)} {st : St}

theorem updN_get : ∀ (ks : List Nat) (m : T (Ct S)) (r : Nat), (updN ks m).get r = cond (mem ks r) none (m.get r)
  | [], m, r => rfl
  | k :: ks, m, r => by
    simp only [updN, T.get_upd, updN_get ks m r, mem]
    by_cases e : r = k
    · subst e
      have : Nat.beq r r = true := by rw [Nat.beq_eq]
      rw [if_pos rfl, this]
      rfl
    · have : Nat.beq k r = false := by rw [Bool.eq_false_iff]; intro q; rw [Nat.beq_eq] at q; exact e q.symm
      rw [if_neg e, this]
      rfl
theorem dropN_get {ks : List Nat} {r : Nat} {ct : Ct S} (h : (dropN ks m).get r = some ct) : mem ks r = false ∧ ∃ ct0, m.get r = some ct0 ∧ ct = killCt ks ct0 := by
  cases ks with
  | nil => exact ⟨rfl, ct, h, (killCt_nil ct).symm⟩
  | cons k ks =>
    unfold dropN at h
    rw [updN_get] at h
    cases hm : mem (k :: ks) r with
    | true => rw [hm, cond_true] at h; cases h
    | false =>
      rw [hm, cond_false, Tmap_get] at h
      cases hg : m.get r with
      | none => rw [hg] at h; cases h
      | some c0 => rw [hg] at h; cases h; exact ⟨rfl, c0, rfl, rfl⟩

theorem drop_step (hI : Inv Y G o0 ro E nx m st) (ks : List Nat) : Step o0 E m st E (dropN ks m) st ks [] := by
  refine ⟨Nat.le_refl _, fun _ _ _ => rfl, Nat.le_refl _, fun _ _ _ => rfl, ?_, fun j _ h _ => h, fun _ _ _ => rfl⟩
  rintro id ⟨r, ct, y, e1, e2⟩
  obtain ⟨_, c0, h0, _⟩ := dropN_get e1
  exact .inl ⟨r, c0, y, h0, e2⟩
theorem drop_inv (hI : Inv Y G o0 ro E nx m st) (ks : List Nat) : Inv Y G o0 ro E nx (dropN ks m) st := by
  have hs := drop_step hI ks
  refine ⟨hI.len, hI.ro, fun r ct e => ?_, fun r ct e => ?_, hI.out, hI.glob, fun r r' ct ct' id y y' e1 e2 e3 e4 => ?_, fun id hn ho => ?_⟩
  · obtain ⟨_, c0, h0, _⟩ := dropN_get e
    exact hI.lt r c0 h0
  · obtain ⟨_, c0, h0, rfl⟩ := dropN_get e
    exact Ent.keep hs (hI.ent r c0 h0) rfl (fun _ _ _ _ => rfl)
  · obtain ⟨_, c0, h0, _⟩ := dropN_get e1
    obtain ⟨_, c1, h1, _⟩ := dropN_get e2
    exact hI.inj r r' c0 c1 id y y' h0 h1 e3 e4
  · rcases hs.nam id hn with q | q
    · exact hI.dis id q ho
    · obtain ⟨r, ct, y, e1, e2⟩ := hn
      obtain ⟨_, c0, h0, _⟩ := dropN_get e1
      exact hI.dis id ⟨r, c0, y, h0, e2⟩ ho

/-- A named buffer, as data of those to whom it is none's. -/
theorem buf_free (hI : Inv Y G o0 ro E nx m st) {r : Nat} {c : S.Cd} {xs : List (S.Den c)} {v : V} (hr : m.get r = some (.buf c xs)) (hv : RelV Y (Dat Y (ownOf o0 E m) st) E (.o r) v) {ks : List Nat} (hk : mem ks r = true) : Dat Y (ownOf o0 E (dropN ks m)) st c xs v := by
  simp only [RelV] at hv
  obtain ⟨x, e1, _⟩ := hv
  have hle : ∀ id, ownOf o0 E (dropN ks m) id → ownOf o0 E m id := fun id ho => ho.imp (fun q => q) fun ⟨r', ct, y, e2, e3⟩ => by
    obtain ⟨_, c0, h0, _⟩ := dropN_get e2
    exact ⟨r', c0, y, h0, e3⟩
  rcases hI.ent r _ hr with ⟨v0, q1, q2, q0⟩ | ⟨id, cap, op, b, q1, q2, q3, q4, q5, q6, q7, q8, vs, q9, q10⟩
  · rw [e1] at q1; cases q1; subst q2; exact noRoom_dat q0
  · have e1' := e1
    rw [e1] at q1
    cases q1
    refine .mk vs ?_ q3 q4 (fun i x hx => by rw [Nat.zero_add]; exact q9 i x hx) (fun i x hx j u v hu hv => DatA.keep (Nat.le_refl _) (fun _ _ _ => rfl) (fun id _ ho => hle id ho) (q10 i x hx j u v hu hv)) q5
    rintro (ho | ⟨r', ct, y, e2, e3⟩)
    · exact hI.dis id ⟨r, _, _, hr, e1'⟩ ho
    · obtain ⟨hm, c0, h0, _⟩ := dropN_get e2
      have := hI.inj r r' _ _ id _ _ hr h0 e1' e3
      subst this
      rw [hk] at hm
      cases hm

/-- What holds of values where some names are let go. -/
def Lets (Y : Sy S) (o0 : Nat → Prop) (E : En) (m : T (Ct S)) (st : St) (ks : List Nat) (us : List (U S)) (vs : List V) : Prop :=
  ∀ all : List Nat, (∀ r, mem ks r = true → mem all r = true) → RelL Y (Dat Y (ownOf o0 E (dropN all m)) st) E us vs
theorem keepD (hI : Inv Y G o0 ro E nx m st) (all : List Nat) {u : U S} {v : V} (h : RelV Y (Dat Y (ownOf o0 E m) st) E u v) : RelV Y (Dat Y (ownOf o0 E (dropN all m)) st) E u v :=
  RelV.mono (fun _ _ e => e) (fun c xs v hd => (drop_step hI all).datK hd) u v h
theorem frzL_ok (hI : Inv Y G o0 ro E nx m st) : ∀ {us : List (U S)} {vs : List V} {k : List (U S) → List Nat → Prop}, frzL m us k → RelL Y (Dat Y (ownOf o0 E m) st) E us vs → ∃ us' ks, k us' ks ∧ Lets Y o0 E m st ks us' vs
  | [], vs, k, h, hr => ⟨[], [], h, fun _ _ => hr⟩
  | u :: us, vs, k, h, hr => by
    obtain ⟨v, r, rfl, h1, h2⟩ := hr
    have rest : ∀ {k' : List (U S) → List Nat → Prop}, frzL m us k' → ∃ us' ks, k' us' ks ∧ Lets Y o0 E m st ks us' r := fun h => frzL_ok hI h h2
    have plain : (frzL m us fun us' ks => k (u :: us') ks) → ∃ us' ks, k us' ks ∧ Lets Y o0 E m st ks us' (v :: r) := fun h => by
      obtain ⟨us', ks, g1, g2⟩ := rest h
      exact ⟨u :: us', ks, g1, fun all ha => ⟨v, r, rfl, keepD hI all h1, g2 all ha⟩⟩
    simp only [frzL] at h
    split at h
    · rename_i r0
      split at h
      · rename_i c xs hm
        obtain ⟨us', ks, g1, g2⟩ := rest h
        exact ⟨.l c xs :: us', r0 :: ks, g1, fun all ha => ⟨v, r, rfl, buf_free hI hm h1 (ha r0 (by simp [mem])), g2 all fun r' hr' => ha r' (by simp only [mem]; cases Nat.beq r0 r' <;> simp [hr'])⟩⟩
      · exact plain h
    · exact plain h
theorem frzU_ok (hI : Inv Y G o0 ro E nx m st) {u : U S} {v : V} {k : U S → List Nat → Prop} (h : frzU m u k) (hr : RelV Y (Dat Y (ownOf o0 E m) st) E u v) : ∃ u' ks, k u' ks ∧ ∀ all : List Nat, (∀ r, mem ks r = true → mem all r = true) → RelV Y (Dat Y (ownOf o0 E (dropN all m)) st) E u' v := by
  unfold frzU at h
  split at h
  · simp only [RelV] at hr
    obtain ⟨vs, rfl, hr⟩ := hr
    obtain ⟨us', ks, g1, g2⟩ := frzL_ok hI h hr
    exact ⟨.a us', ks, g1, fun all ha => ⟨vs, rfl, g2 all ha⟩⟩
  · rename_i r
    split at h
    · rename_i c xs hm
      exact ⟨.l c xs, [r], h, fun all ha => buf_free hI hm hr (ha r (by simp [mem]))⟩
    · exact ⟨.o r, [], h, fun all _ => keepD hI all hr⟩
  · exact ⟨_, [], h, fun all _ => keepD hI all hr⟩
theorem frzP_ok (hI : Inv Y G o0 ro E nx m st) : ∀ {us : List (Nat × U S)} {vs : List (Nat × V)} {k : List (Nat × U S) → List Nat → Prop}, frzP m us k → RelP Y (Dat Y (ownOf o0 E m) st) E us vs → ∃ us' ks, k us' ks ∧ ∀ all : List Nat, (∀ r, mem ks r = true → mem all r = true) → RelP Y (Dat Y (ownOf o0 E (dropN all m)) st) E us' vs
  | [], vs, k, h, hr => ⟨[], [], h, fun _ _ => hr⟩
  | (i, u) :: us, vs, k, h, hr => by
    simp only [RelP] at hr
    obtain ⟨v, r, rfl, h1, h2⟩ := hr
    simp only [frzP] at h
    obtain ⟨u', ks, g1, g2⟩ := frzU_ok hI h h1
    obtain ⟨us', ks', g3, g4⟩ := frzP_ok hI g1 h2
    exact ⟨(i, u') :: us', ks ++ ks', g3, fun all ha => ⟨v, r, rfl, g2 all fun r hr => ha r (by rw [mem_app, hr, Bool.true_or]), g4 all fun r hr => ha r (by rw [mem_app, hr, Bool.or_true])⟩⟩

/-- First some names are let go. -/
theorem Done.drop (hI : Inv Y G o0 ro E nx m st) {ks : List Nat} {k : Kn S} {res : Option V} {st' : St} (h : Done Y G o0 ro E (dropN ks m) st (fun u nx m ks2 wr => k u nx m (ks2 ++ ks) wr) res st') : Done Y G o0 ro E m st k res st' := by
  obtain ⟨u, nx', m', ks2, wr, E', h1, h2, h3, h4⟩ := h
  have := (drop_step hI ks).trans h2
  rw [List.append_nil] at this
  exact ⟨u, nx', m', ks2 ++ ks, wr, E', h1, this, h3, h4⟩
end
end Go.Sx
