/-
  A named block is made, written, made anew. Nothing is claimed here.
-/
import Derived.Test.YtnfddmjbfkfnhaaGreatDoorSd
namespace Go.Sx
open Go.Vm

def killCt {S : Sg} (ks : List Nat) : Ct S → Ct S
  | .cells us => .cells (kills ks us)
  | .buf c xs => .buf c xs
  | .row c xs => .row c xs

section
variable {S : Sg} {Y : Sy S} {G : Gl} {ro : Nat} {o0 : Nat → Prop}

/-- What is named keeps, where its block and its name do. -/
theorem Ent.keep {E E' : En} {m m' : T (Ct S)} {st st' : St} {ks wr : List Nat} (hs : Step o0 E m st E' m' st' ks wr) {r : Nat} {ct : Ct S} (h : Ent Y ro (Dat Y (ownOf o0 E m) st) (DatA Y (ownOf o0 E m) st) E st r ct)
    (hE : E'[r]? = E[r]?) (hb : ∀ id h, E[r]? = some (some id, h) → id < st.nx → st'.hp.get id = st.hp.get id) : Ent Y ro (Dat Y (ownOf o0 E' m') st') (DatA Y (ownOf o0 E' m') st') E' st' r (killCt ks ct) := by
  cases ct with
  | cells us =>
    obtain ⟨id, x, b, vs, h1, h2, h3, h4, h5, h6, h7⟩ := h
    have hl : (kills ks us).length = us.length := by
      clear h6 h7 h5
      induction us with
      | nil => rfl
      | cons u us ih => simp [kills, ih]
    exact ⟨id, x, b, vs, hE.trans h1, h2, Nat.lt_of_lt_of_le h3 hs.nx, (hb id x h1 h3).trans h4, by rw [hl]; exact h5, hs.relsK h6, by rw [hl]; exact h7⟩
  | buf c xs =>
    rcases h with ⟨v0, h1, h2, h2'⟩ | ⟨id, cap, op, b, h1, h2, h3, h4, h5, h6, h7, h8, vs, h9, h10⟩
    · exact .inl ⟨v0, hE.trans h1, h2, h2'⟩
    · refine .inr ⟨id, cap, op, b, hE.trans h1, h2, Nat.lt_of_lt_of_le h3 hs.nx, (hb id _ h1 h3).trans h4, h5, h6, h7, h8, vs, h9, fun i x hx j u v hu hv => ?_⟩
      exact hs.datA (h10 i x hx j u v hu hv)
  | row c xs =>
    obtain ⟨id, b, h1, h2, h3, h4, h5, vs, h9, h10⟩ := h
    exact ⟨id, b, hE.trans h1, h2, Nat.lt_of_lt_of_le h3 hs.nx, (hb id _ h1 h3).trans h4, h5, vs, h9, fun i x hx j u v hu hv => hs.datA (h10 i x hx j u v hu hv)⟩

theorem glob_keep {E E' : En} {m m' : T (Ct S)} {st st' : St} {ks wr : List Nat} {nx : Nat} (h : Inv Y G o0 ro E nx m st) (hs : Step o0 E m st E' m' st' ks wr) :
    ∀ g k l, G g = some (k, l) → g < ro ∧ ∃ b, st'.hp.get g = some b ∧ ∀ j, j < l.length → b.get j = some (.i k (l.getD j 0)) := by
  intro g k l hg
  obtain ⟨h1, b, h2, h3⟩ := h.glob g k l hg
  refine ⟨h1, b, ?_, h3⟩
  rw [hs.keep g (Nat.lt_of_lt_of_le h1 h.ro) fun q => ?_, h2]
  obtain ⟨r', ct, x', e1, e2⟩ := q
  have he := h.ent r' ct e1
  cases ct with
  | cells us =>
    obtain ⟨id, y, b, vs, q1, q2, _⟩ := he
    rw [e2] at q1
    cases q1
    omega
  | buf c xs =>
    rcases he with ⟨_, q1, _⟩ | ⟨id, cap, op, b, q1, q2, _⟩
    · rw [e2] at q1; cases q1
    · rw [e2] at q1
      cases q1
      omega
  | row c xs =>
    obtain ⟨id, b, q1, q2, _⟩ := he
    rw [e2] at q1
    cases q1
    omega

/-! ### A new one -/

theorem push_get {E : En} {x : Option Nat × V} {r : Nat} (h : r < E.length) : (E ++ [x])[r]? = E[r]? := List.getElem?_append_left h
theorem push_self {E : En} {x : Option Nat × V} : (E ++ [x])[E.length]? = some x := by simp

theorem step_push {E : En} {nx : Nat} {m : T (Ct S)} {st st' : St} (h : Inv Y G o0 ro E nx m st) (x : Option Nat) (hd : V) (ct : Ct S) (hx : ∀ id, x = some id → st.nx ≤ id) (hn : st.nx ≤ st'.nx) (hk : ∀ id, id < st.nx → st'.hp.get id = st.hp.get id) (hv : st'.ver = st.ver) :
    Step o0 E m st (E ++ [(x, hd)]) (m.upd nx (some ct)) st' [] [] := by
  refine ⟨by simp, fun r hr _ => push_get hr, hn, fun id hid _ => hk id hid, ?_, (fun j h1 h2 _ => by rw [hv]; exact h2), fun _ id hid => hk id hid⟩
  rintro id ⟨r, c, y, e1, e2⟩
  rw [T.get_upd] at e1
  by_cases e : r = nx
  · subst e
    rw [← h.len, push_self] at e2
    cases e2
    exact .inr (hx id rfl)
  · rw [if_neg e] at e1
    have hr := h.lt r c e1
    rw [push_get (by rw [h.len]; exact hr)] at e2
    exact .inl ⟨r, c, y, e1, e2⟩

theorem kills_nil_id : ∀ us : List (U S), kills [] us = us ∧ ∀ u : U S, kill [] u = u := by
  have key : (∀ u : U S, kill [] u = u) := by
    intro u
    refine U.rec (motive_1 := fun u => kill [] u = u) (motive_2 := fun us => kills [] us = us) ?_ ?_ ?_ ?_ ?_ ?_ ?_ ?_ ?_ ?_ ?_ ?_ ?_ ?_ ?_ ?_ ?_ ?_ ?_ ?_ ?_ ?_ ?_ ?_ u <;> intros <;> simp_all [kill, kills, mem]
  intro us
  refine ⟨?_, key⟩
  induction us with
  | nil => rfl
  | cons u us ih => simp [kills, key, ih]
theorem killCt_nil (ct : Ct S) : killCt [] ct = ct := by cases ct <;> simp [killCt, (kills_nil_id _).1]

theorem inv_push {E : En} {nx : Nat} {m : T (Ct S)} {st st' : St} (h : Inv Y G o0 ro E nx m st) (x : Option Nat) (hd : V) (ct : Ct S) (hs : Step o0 E m st (E ++ [(x, hd)]) (m.upd nx (some ct)) st' [] []) (hx : ∀ id, x = some id → st.nx ≤ id)
    (hk : ∀ id, id < st.nx → st'.hp.get id = st.hp.get id)
    (hent : Ent Y ro (Dat Y (ownOf o0 (E ++ [(x, hd)]) (m.upd nx (some ct))) st') (DatA Y (ownOf o0 (E ++ [(x, hd)]) (m.upd nx (some ct))) st') (E ++ [(x, hd)]) st' nx ct) : Inv Y G o0 ro (E ++ [(x, hd)]) (nx + 1) (m.upd nx (some ct)) st' := by
  refine ⟨by simp [h.len], Nat.le_trans h.ro hs.nx, ?_, ?_, fun id ho => ⟨(h.out id ho).1, Nat.lt_of_lt_of_le (h.out id ho).2 hs.nx⟩, glob_keep h hs, ?_, fun id hn ho => (hs.nam id hn).elim (fun q => h.dis id q ho) (fun q => absurd (h.out id ho).2 (Nat.not_lt.2 q))⟩
  · intro r c e
    rw [T.get_upd] at e
    by_cases q : r = nx
    · omega
    · rw [if_neg q] at e; exact Nat.lt_succ_of_lt (h.lt r c e)
  · intro r c e
    rw [T.get_upd] at e
    by_cases q : r = nx
    · subst q; rw [if_pos rfl] at e; cases e; exact hent
    · rw [if_neg q] at e
      have := Ent.keep hs (h.ent r c e) (push_get (by rw [h.len]; exact h.lt r c e)) (fun id _ _ hid => hk id hid)
      rwa [killCt_nil] at this
  · intro r r' c c' id y y' e1 e2 e3 e4
    have old : ∀ r c y, r ≠ nx → (m.upd nx (some ct)).get r = some c → (E ++ [(x, hd)])[r]? = some (some id, y) → m.get r = some c ∧ E[r]? = some (some id, y) ∧ id < st.nx := by
      intro r c y q e1 e3
      rw [T.get_upd, if_neg q] at e1
      rw [push_get (by rw [h.len]; exact h.lt r c e1)] at e3
      refine ⟨e1, e3, ?_⟩
      have he := h.ent r c e1
      cases c with
      | cells us => obtain ⟨id', _, b, vs, q1, q2, q3, _⟩ := he; rw [e3] at q1; cases q1; exact q3
      | buf k xs =>
        rcases he with ⟨_, q1, _⟩ | ⟨id', cap, op, b, q1, q2, q3, _⟩
        · rw [e3] at q1; cases q1
        · rw [e3] at q1; cases q1; exact q3
      | row k xs => obtain ⟨id', b, q1, q2, q3, _⟩ := he; rw [e3] at q1; cases q1; exact q3
    have new : ∀ r y, r = nx → (E ++ [(x, hd)])[r]? = some (some id, y) → st.nx ≤ id := by
      intro r y q e3
      subst q
      rw [← h.len, push_self] at e3
      cases e3
      exact hx id rfl
    by_cases q : r = nx
    · by_cases q' : r' = nx
      · omega
      · have := new r y q e3; have := (old r' c' y' q' e2 e4).2.2; omega
    · by_cases q' : r' = nx
      · have := new r' y' q' e4; have := (old r c y q e1 e3).2.2; omega
      · obtain ⟨a1, a2, _⟩ := old r c y q e1 e3
        obtain ⟨b1, b2, _⟩ := old r' c' y' q' e2 e4
        exact h.inj r r' c c' id y y' a1 b1 a2 b2

/-! ### One that is there is made anew, or written -/

theorem ent_id {E : En} {nx : Nat} {m : T (Ct S)} {st : St} (h : Inv Y G o0 ro E nx m st) {r : Nat} {c : Ct S} {id : Nat} {x : V} (e1 : m.get r = some c) (e2 : E[r]? = some (some id, x)) : ro ≤ id ∧ id < st.nx := by
  have he := h.ent r c e1
  cases c with
  | cells us => obtain ⟨id', _, b, vs, q1, q2, q3, _⟩ := he; rw [e2] at q1; cases q1; exact ⟨q2, q3⟩
  | buf k xs =>
    rcases he with ⟨_, q1, _⟩ | ⟨id', cap, op, b, q1, q2, q3, _⟩
    · rw [e2] at q1; cases q1
    · rw [e2] at q1; cases q1; exact ⟨q2, q3⟩
  | row k xs => obtain ⟨id', b, q1, q2, q3, _⟩ := he; rw [e2] at q1; cases q1; exact ⟨q2, q3⟩

/-- A name gets a new block, or its block is written: all other names keep theirs. -/
theorem step_re {E : En} {nx : Nat} {m m0 : T (Ct S)} {st st' : St} (h : Inv Y G o0 ro E nx m st) {r : Nat} {ct0 : Ct S} (ct : Ct S) (hr : m.get r = some ct0) (ks : List Nat) (hks : ks = [r] ∨ ks = []) (x : Option Nat) (hd : V) (hx : ∀ id, x = some id → (∃ y, E[r]? = some (some id, y)) ∨ st.nx ≤ id) (hsame : ks = [] → E.set r (x, hd) = E)
    (hm0 : ∀ k c, m0.get k = some c → ∃ c', m.get k = some c') (hn : st.nx ≤ st'.nx) (hk : ∀ id, id < st.nx → (∀ y, E[r]? ≠ some (some id, y)) → st'.hp.get id = st.hp.get id) (hv : ∀ j, j ≤ st.nx → j ≤ st.ver → (∀ id y, E[r]? = some (some id, y) → j ≤ id) → j ≤ st'.ver) :
    Step o0 E m st (E.set r (x, hd)) (m0.upd r (some ct)) st' ks [r] := by
  have hrl : r < E.length := by rw [h.len]; exact h.lt r _ hr
  have m2 : mem [r] r = true := by simp [mem]
  have back : ∀ (k id : Nat) y, (E.set r (x, hd))[k]? = some (some id, y) → (∃ y', E[k]? = some (some id, y')) ∨ st.nx ≤ id := by
    intro k id y e
    by_cases q : k = r
    · subst q
      rw [List.getElem?_set_self hrl] at e
      cases e
      exact hx id rfl
    · rw [List.getElem?_set_ne (Ne.symm q)] at e; exact .inl ⟨y, e⟩
  refine ⟨by simp, ?_, hn, ?_, ?_, ?_, fun q => by cases q⟩
  · intro k hkl hm
    by_cases q : k = r
    · rcases hks with rfl | rfl
      · subst q; rw [m2] at hm; cases hm
      · rw [hsame rfl]
    · rw [List.getElem?_set_ne (Ne.symm q)]
  · exact fun id hid hw => hk id hid fun y e => hw ⟨r, ct0, y, hr, e⟩
  · rintro id ⟨k, c, y, e1, e2⟩
    rcases back k id y e2 with ⟨y', q⟩ | q
    · left
      by_cases z : k = r
      · subst z; exact ⟨k, ct0, y', hr, q⟩
      · rw [T.get_upd, if_neg z] at e1
        obtain ⟨c', e3⟩ := hm0 k c e1
        exact ⟨k, c', y', e3, q⟩
    · exact .inr q
  · exact fun j h1 h2 hw => hw.elim (fun q => by cases q) fun hw => hv j h1 h2 fun id y e => hw id ⟨r, ct0, y, hr, e⟩

theorem inv_re {E : En} {nx : Nat} {m : T (Ct S)} {st st' : St} (h : Inv Y G o0 ro E nx m st) {r : Nat} {ct0 : Ct S} (ct : Ct S) (hr : m.get r = some ct0) (ks : List Nat) (x : Option Nat) (hd : V) (hx : ∀ id, x = some id → (∃ y, E[r]? = some (some id, y)) ∨ st.nx ≤ id)
    (hs : Step o0 E m st (E.set r (x, hd)) ((Tmap (killCt ks) m).upd r (some ct)) st' ks [r])
    (hk : ∀ id, id < st.nx → (∀ y, E[r]? ≠ some (some id, y)) → st'.hp.get id = st.hp.get id)
    (hent : Ent Y ro (Dat Y (ownOf o0 (E.set r (x, hd)) ((Tmap (killCt ks) m).upd r (some ct))) st') (DatA Y (ownOf o0 (E.set r (x, hd)) ((Tmap (killCt ks) m).upd r (some ct))) st') (E.set r (x, hd)) st' r ct) :
    Inv Y G o0 ro (E.set r (x, hd)) nx ((Tmap (killCt ks) m).upd r (some ct)) st' := by
  have hrl : r < E.length := by rw [h.len]; exact h.lt r _ hr
  have old : ∀ k c, k ≠ r → ((Tmap (killCt ks) m).upd r (some ct)).get k = some c → ∃ c0, m.get k = some c0 ∧ c = killCt ks c0 := by
    intro k c q e
    rw [T.get_upd, if_neg q, Tmap_get] at e
    cases z : m.get k with
    | none => rw [z] at e; cases e
    | some c0 => rw [z] at e; cases e; exact ⟨c0, rfl, rfl⟩
  have oldE : ∀ k, k ≠ r → (E.set r (x, hd))[k]? = E[k]? := fun k q => List.getElem?_set_ne (Ne.symm q)
  refine ⟨by simp [h.len], Nat.le_trans h.ro hs.nx, ?_, ?_, fun id ho => ⟨(h.out id ho).1, Nat.lt_of_lt_of_le (h.out id ho).2 hs.nx⟩, glob_keep h hs, ?_, fun id hn ho => (hs.nam id hn).elim (fun q => h.dis id q ho) (fun q => absurd (h.out id ho).2 (Nat.not_lt.2 q))⟩
  · intro k c e
    by_cases q : k = r
    · subst q; exact h.lt k _ hr
    · obtain ⟨c0, e0, _⟩ := old k c q e; exact h.lt k c0 e0
  · intro k c e
    by_cases q : k = r
    · subst q; rw [T.get_upd, if_pos rfl] at e; cases e; exact hent
    · obtain ⟨c0, e0, rfl⟩ := old k c q e
      refine Ent.keep hs (h.ent k c0 e0) (oldE k q) (fun id y e1 hid => hk id hid fun y' e2 => ?_)
      exact q (h.inj k r c0 ct0 id y y' e0 hr e1 e2)
  · intro k k' c c' id y y' e1 e2 e3 e4
    by_cases q : k = r
    · by_cases q' : k' = r
      · omega
      · exfalso
        subst q
        rw [List.getElem?_set_self hrl] at e3
        cases e3
        rw [oldE k' q'] at e4
        obtain ⟨c0, e0, _⟩ := old k' c' q' e2
        rcases hx id rfl with ⟨z, hz⟩ | hz
        · exact q' (h.inj k' k c0 ct0 id y' z e0 hr e4 hz)
        · have := (ent_id h e0 e4).2; omega
    · by_cases q' : k' = r
      · exfalso
        subst q'
        rw [List.getElem?_set_self hrl] at e4
        cases e4
        rw [oldE k q] at e3
        obtain ⟨c0, e0, _⟩ := old k c q e1
        rcases hx id rfl with ⟨z, hz⟩ | hz
        · exact q (h.inj k k' c0 ct0 id y z e0 hr e3 hz)
        · have := (ent_id h e0 e3).2; omega
      · obtain ⟨c0, a0, _⟩ := old k c q e1
        obtain ⟨c1, b0, _⟩ := old k' c' q' e2
        rw [oldE k q] at e3
        rw [oldE k' q'] at e4
        exact h.inj k k' c0 c1 id y y' a0 b0 e3 e4
end
end Go.Sx
