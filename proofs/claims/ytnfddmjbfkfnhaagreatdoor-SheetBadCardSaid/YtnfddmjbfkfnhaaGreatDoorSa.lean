/-
  Values that are not known, and what they stand for in the evaluator's memory. Nothing is claimed here.
-/
import Derived.Test.YtnfddmjbfkfnhaaGreatDoorVt
namespace Go.Sx
open Go.Vm

/-- The kinds of data that a program's slices hold. -/
structure Sg where
  Cd : Type
  Den : Cd → Type

inductive U (S : Sg) : Type where
  | b (x : Bool)
  | kb (x : Bool)
  | i (k : IntKind) (n : Int)
  | s (l : List UInt8)
  | pn
  | sn
  | fz
  | nz
  | dead
  | p (r off : Nat)
  | g (g off : Nat)
  | o (r : Nat)
  | l (c : S.Cd) (xs : List (S.Den c))
  | pe (r w i off : Nat)
  | v (r w i : Nat)
  | vh (r j : Nat)
  | vc (c : S.Cd) (r n : Nat)
  | e0 (c : S.Cd)
  | pd (c : S.Cd) (xs : List (S.Den c)) (i off : Nat)
  | f (fn : FuncId) (caps : List (U S))
  | a (cs : List (U S))
  | t (vs : List (U S))

def mem (ks : List Nat) (r : Nat) : Bool := match ks with
  | [] => false
  | k :: ks => cond (Nat.beq k r) true (mem ks r)

section
variable {S : Sg}

mutual
/-- Values that name one of these are dead. -/
def kill (ks : List Nat) : U S → U S
  | .p r off => cond (mem ks r) .dead (.p r off)
  | .o r => cond (mem ks r) .dead (.o r)
  | .pe r w i off => cond (mem ks r) .dead (.pe r w i off)
  | .v r w i => cond (mem ks r) .dead (.v r w i)
  | .vh r j => cond (mem ks r) .dead (.vh r j)
  | .vc c r n => cond (mem ks r) .dead (.vc c r n)
  | .f fn caps => .f fn (kills ks caps)
  | .a cs => .a (kills ks cs)
  | .t vs => .t (kills ks vs)
  | .b x => .b x
  | .kb x => .kb x
  | .i k n => .i k n
  | .s l => .s l
  | .pn => .pn
  | .sn => .sn
  | .fz => .fz
  | .nz => .nz
  | .dead => .dead
  | .g g off => .g g off
  | .l c xs => .l c xs
  | .pd c xs i off => .pd c xs i off
  | .e0 c => .e0 c
def kills (ks : List Nat) : List (U S) → List (U S)
  | [] => []
  | u :: us => kill ks u :: kills ks us
end

/-- Data alone: no name, no pointer. -/
def U.flat : U S → Bool
  | .b _ | .i _ _ | .s _ | .sn | .l _ _ => true
  | _ => false

/-- What is to be known of the kinds of data. -/
structure Sy (S : Sg) where
  wid : S.Cd → Nat
  wpos : ∀ c, 0 < wid c
  cells : (c : S.Cd) → S.Den c → List (U S)
  dflt : (c : S.Cd) → S.Den c
  dec : (c : S.Cd) → List (U S) → (S.Den c → Prop) → Prop
  byt : (c : S.Cd) → List (S.Den c) → (List UInt8 → Prop) → Prop
  ofB : (c : S.Cd) → List UInt8 → (List (S.Den c) → Prop) → Prop
  code : TypeId → Option S.Cd
  /-- Kinds whose buffers are nil, or have grown. -/
  opn : S.Cd → Bool
  /-- The bytes of a text are a buffer that is written, and never appended to. -/
  cvb : Bool := false
  /-- Sums that do not fit go round. -/
  wrp : Bool := false
  /-- A named buffer that is cut at its end goes on as the buffer. -/
  cut : Bool := false
  /-- Which cells are slices, and of what. -/
  lk : S.Cd → List (Option S.Cd) := fun _ => []
  cast : (c c' : S.Cd) → List (S.Den c) → (List (S.Den c') → Prop) → Prop
  len : ∀ c x, (cells c x).length = wid c
  flat : ∀ c x u, u ∈ cells c x → u.flat = true
  dec_ok : ∀ c us k, dec c us k → ∃ x, us = cells c x ∧ k x
  byt_ok : ∀ c xs k, byt c xs k → ∃ bs : List UInt8, wid c = 1 ∧ xs.map (cells c) = bs.map (fun y => [.i .u8 (y.toNat : Int)]) ∧ k bs
  cast_ok : ∀ c c' xs k, cast c c' xs k → ∃ h : c = c', k (h ▸ xs)
  ofB_ok : ∀ c bs k, ofB c bs k → ∃ xs, wid c = 1 ∧ xs.map (cells c) = bs.map (fun y => [.i .u8 (y.toNat : Int)]) ∧ k xs

abbrev DD (S : Sg) := (c : S.Cd) → List (S.Den c) → V → Prop
abbrev En := List (Option Nat × V)

/-- An empty slice without room. -/
def noRoom : V → Bool
  | .sn => true
  | .sy _ _ _ => true
  | .ze _ => true
  | _ => false

/-- The rest of a slice, from an element on. -/
def View (w i : Nat) (y v : V) : Prop := (noRoom y = true ∧ v = y) ∨ ∃ id len cap op, y = .sl id 0 len cap op ∧ i ≤ len ∧
  ((∃ o cap' op', (i < len → o = i * w) ∧ v = .sl id o (len - i) cap' op') ∨ (i = len ∧ ∃ o o2, v = .se id o o2))

/-- The first elements of a slice. -/
def ViewH (j : Nat) (y v : V) : Prop := (noRoom y = true ∧ j = 0 ∧ v = y) ∨ ∃ id len cap op, y = .sl id 0 len cap op ∧ j ≤ len ∧ v = .sl id 0 j cap op

mutual
/-- A value stands for another. -/
def RelV (Y : Sy S) (D : DD S) (E : En) : U S → V → Prop
  | .b x, v => v = .b x
  | .kb x, v => v = .b x
  | .i k n, v => v = .i k n
  | .s l, v => v = V.str l
  | .pn, v => v = .pn
  | .sn, v => v = .sn
  | .fz, v => v = .fz
  | .nz, v => v = .nz
  | .dead, _ => True
  | .p r off, v => ∃ id h, E[r]? = some (some id, h) ∧ v = .p id off
  | .g g off, v => g < GL ∧ v = .p g off
  | .o r, v => ∃ x, E[r]? = some (x, v) ∧ v.atom = true
  | .l c xs, v => D c xs v
  | .pe r w i off, v => ∃ id h, E[r]? = some (some id, h) ∧ v = .p id (i * w + off)
  | .v r w i, v => ∃ x y, E[r]? = some (x, y) ∧ View w i y v
  | .vh r j, v => ∃ x y, E[r]? = some (x, y) ∧ ViewH j y v
  | .vc _ r n, v => ∃ id h, E[r]? = some (some id, h) ∧ v = .sl id 0 n n false
  | .e0 _, v => noRoom v = true
  | .pd c xs i off, v => i < xs.length ∧ ∃ id o cap op, D c xs (.sl id o xs.length cap op) ∧ v = .p id (o + i * Y.wid c + off)
  | .f fn caps, v => ∃ vs, v = .f (.func fn) [] vs ∧ RelL Y D E caps vs
  | .a cs, v => ∃ vs, v = .a vs ∧ RelL Y D E cs vs
  | .t us, v => ∃ vs, v = .t vs ∧ RelL Y D E us vs
def RelL (Y : Sy S) (D : DD S) (E : En) : List (U S) → List V → Prop
  | [], vs => vs = []
  | u :: us, vs => ∃ v r, vs = v :: r ∧ RelV Y D E u v ∧ RelL Y D E us r
end

mutual
theorem RelV.kill {Y : Sy S} {D D' : DD S} {E E' : En} {ks : List Nat} (hE : ∀ (r : Nat) x, mem ks r = false → E[r]? = some x → E'[r]? = some x) (hD : ∀ c xs v, D c xs v → D' c xs v) :
    (u : U S) → (v : V) → RelV Y D E u v → RelV Y D' E' (Sx.kill ks u) v
  | .b x, v, h => h
  | .kb x, v, h => h
  | .i k n, v, h => h
  | .s l, v, h => h
  | .pn, v, h => h
  | .sn, v, h => h
  | .fz, v, h => h
  | .nz, v, h => h
  | .dead, v, h => trivial
  | .e0 c, v, h => h
  | .g g off, v, h => h
  | .l c xs, v, h => hD c xs v h
  | .pd c xs i off, v, h => by
    obtain ⟨h0, id, o, cap, op, h1, h2⟩ := h
    exact ⟨h0, id, o, cap, op, hD _ _ _ h1, h2⟩
  | .p r off, v, h => by
    obtain ⟨id, x, h1, h2⟩ := h
    simp only [Sx.kill]
    cases hm : mem ks r with
    | true => exact trivial
    | false => exact ⟨id, x, hE r _ hm h1, h2⟩
  | .o r, v, h => by
    obtain ⟨x, h1, h2⟩ := h
    simp only [Sx.kill]
    cases hm : mem ks r with
    | true => exact trivial
    | false => exact ⟨x, hE r _ hm h1, h2⟩
  | .pe r w i off, v, h => by
    obtain ⟨id, x, h1, h2⟩ := h
    simp only [Sx.kill]
    cases hm : mem ks r with
    | true => exact trivial
    | false => exact ⟨id, x, hE r _ hm h1, h2⟩
  | .v r w i, v, h => by
    obtain ⟨id, x, h1, h2⟩ := h
    simp only [Sx.kill]
    cases hm : mem ks r with
    | true => exact trivial
    | false => exact ⟨id, x, hE r _ hm h1, h2⟩
  | .vh r j, v, h => by
    obtain ⟨id, x, h1, h2⟩ := h
    simp only [Sx.kill]
    cases hm : mem ks r with
    | true => exact trivial
    | false => exact ⟨id, x, hE r _ hm h1, h2⟩
  | .vc c r n, v, h => by
    obtain ⟨id, x, h1, h2⟩ := h
    simp only [Sx.kill]
    cases hm : mem ks r with
    | true => exact trivial
    | false => exact ⟨id, x, hE r _ hm h1, h2⟩
  | .f fn caps, v, h => by
    obtain ⟨vs, h1, h2⟩ := h
    exact ⟨vs, h1, RelL.kill hE hD caps vs h2⟩
  | .a cs, v, h => by
    obtain ⟨vs, h1, h2⟩ := h
    exact ⟨vs, h1, RelL.kill hE hD cs vs h2⟩
  | .t us, v, h => by
    obtain ⟨vs, h1, h2⟩ := h
    exact ⟨vs, h1, RelL.kill hE hD us vs h2⟩
theorem RelL.kill {Y : Sy S} {D D' : DD S} {E E' : En} {ks : List Nat} (hE : ∀ (r : Nat) x, mem ks r = false → E[r]? = some x → E'[r]? = some x) (hD : ∀ c xs v, D c xs v → D' c xs v) :
    (us : List (U S)) → (vs : List V) → RelL Y D E us vs → RelL Y D' E' (Sx.kills ks us) vs
  | [], _, h => h
  | u :: us, vs, h => by
    obtain ⟨v, r, h1, h2, h3⟩ := h
    exact ⟨v, r, h1, RelV.kill hE hD u v h2, RelL.kill hE hD us r h3⟩
end

mutual
theorem RelV.mono {Y : Sy S} {D D' : DD S} {E E' : En} (hE : ∀ (r : Nat) x, E[r]? = some x → E'[r]? = some x) (hD : ∀ c xs v, D c xs v → D' c xs v) :
    (u : U S) → (v : V) → RelV Y D E u v → RelV Y D' E' u v
  | .b x, v, h => h
  | .kb x, v, h => h
  | .i k n, v, h => h
  | .s l, v, h => h
  | .pn, v, h => h
  | .sn, v, h => h
  | .fz, v, h => h
  | .nz, v, h => h
  | .dead, v, h => trivial
  | .e0 c, v, h => h
  | .g g off, v, h => h
  | .l c xs, v, h => hD c xs v h
  | .pd c xs i off, v, h => by
    obtain ⟨h0, id, o, cap, op, h1, h2⟩ := h
    exact ⟨h0, id, o, cap, op, hD _ _ _ h1, h2⟩
  | .p r off, v, h => by
    obtain ⟨id, x, h1, h2⟩ := h
    exact ⟨id, x, hE r _ h1, h2⟩
  | .o r, v, h => by
    obtain ⟨x, h1, h2⟩ := h
    exact ⟨x, hE r _ h1, h2⟩
  | .pe r w i off, v, h => by
    obtain ⟨id, x, h1, h2⟩ := h
    exact ⟨id, x, hE r _ h1, h2⟩
  | .v r w i, v, h => by
    obtain ⟨id, x, h1, h2⟩ := h
    exact ⟨id, x, hE r _ h1, h2⟩
  | .vh r j, v, h => by
    obtain ⟨id, x, h1, h2⟩ := h
    exact ⟨id, x, hE r _ h1, h2⟩
  | .vc c r n, v, h => by
    obtain ⟨id, x, h1, h2⟩ := h
    exact ⟨id, x, hE r _ h1, h2⟩
  | .f fn caps, v, h => by
    obtain ⟨vs, h1, h2⟩ := h
    exact ⟨vs, h1, RelL.mono hE hD caps vs h2⟩
  | .a cs, v, h => by
    obtain ⟨vs, h1, h2⟩ := h
    exact ⟨vs, h1, RelL.mono hE hD cs vs h2⟩
  | .t us, v, h => by
    obtain ⟨vs, h1, h2⟩ := h
    exact ⟨vs, h1, RelL.mono hE hD us vs h2⟩
theorem RelL.mono {Y : Sy S} {D D' : DD S} {E E' : En} (hE : ∀ (r : Nat) x, E[r]? = some x → E'[r]? = some x) (hD : ∀ c xs v, D c xs v → D' c xs v) :
    (us : List (U S)) → (vs : List V) → RelL Y D E us vs → RelL Y D' E' us vs
  | [], _, h => h
  | u :: us, vs, h => by
    obtain ⟨v, r, h1, h2, h3⟩ := h
    exact ⟨v, r, h1, RelV.mono hE hD u v h2, RelL.mono hE hD us r h3⟩
end

theorem RelL.length {Y : Sy S} {D : DD S} {E : En} : ∀ {us : List (U S)} {vs : List V}, RelL Y D E us vs → vs.length = us.length
  | [], vs, h => by simp only [RelL] at h; subst h; rfl
  | u :: us, vs, h => by
    simp only [RelL] at h
    obtain ⟨v, r, rfl, _, h3⟩ := h
    simp [RelL.length h3]
theorem RelL.get {Y : Sy S} {D : DD S} {E : En} : ∀ {us : List (U S)} {vs : List V}, RelL Y D E us vs → ∀ {j : Nat} {u : U S}, us[j]? = some u → ∃ v, vs[j]? = some v ∧ RelV Y D E u v
  | [], vs, h, j, u, hj => by simp at hj
  | u0 :: us, vs, h, j, u, hj => by
    simp only [RelL] at h
    obtain ⟨v, r, rfl, h2, h3⟩ := h
    cases j with
    | zero => simp only [List.getElem?_cons_zero, Option.some.injEq] at hj; subst hj; exact ⟨v, rfl, h2⟩
    | succ j => simp only [List.getElem?_cons_succ] at hj ⊢; exact RelL.get h3 hj
theorem RelL.of_get {Y : Sy S} {D : DD S} {E : En} : ∀ {us : List (U S)} {vs : List V}, vs.length = us.length → (∀ (j : Nat) u v, us[j]? = some u → vs[j]? = some v → RelV Y D E u v) → RelL Y D E us vs
  | [], vs, hl, h => by simp only [RelL]; exact List.length_eq_zero_iff.1 hl
  | u0 :: us, [], hl, h => by simp at hl
  | u0 :: us, v :: r, hl, h => by
    simp only [RelL]
    exact ⟨v, r, rfl, h 0 u0 v rfl rfl, RelL.of_get (by simpa using hl) (fun j u v hu hv => h (j + 1) u v (by simpa using hu) (by simpa using hv))⟩
theorem RelL.take {Y : Sy S} {D : DD S} {E : En} {us : List (U S)} {vs : List V} (h : RelL Y D E us vs) (n : Nat) : RelL Y D E (us.take n) (vs.take n) :=
  RelL.of_get (by simp [h.length]) fun j u v hu hv => by
    rw [List.getElem?_take] at hu hv
    split at hu
    · rename_i q
      rw [if_pos q] at hv
      obtain ⟨w, h1, h2⟩ := h.get hu
      rw [h1] at hv
      cases hv
      exact h2
    · cases hu
theorem RelL.drop {Y : Sy S} {D : DD S} {E : En} {us : List (U S)} {vs : List V} (h : RelL Y D E us vs) (n : Nat) : RelL Y D E (us.drop n) (vs.drop n) :=
  RelL.of_get (by simp [h.length]) fun j u v hu hv => by
    rw [List.getElem?_drop] at hu hv
    obtain ⟨w, h1, h2⟩ := h.get hu
    rw [h1] at hv
    cases hv
    exact h2
theorem RelL.append {Y : Sy S} {D : DD S} {E : En} : ∀ {us us' : List (U S)} {vs vs' : List V}, RelL Y D E us vs → RelL Y D E us' vs' → RelL Y D E (us ++ us') (vs ++ vs')
  | [], _, vs, _, h, h' => by simp only [RelL] at h; subst h; exact h'
  | u :: us, _, vs, _, h, h' => by
    simp only [RelL] at h
    obtain ⟨v, r, rfl, h2, h3⟩ := h
    exact ⟨v, _, rfl, h2, RelL.append h3 h'⟩

/-! ### Data in memory -/

mutual
inductive Dat (Y : Sy S) (own : Nat → Prop) (st : St) : (c : S.Cd) → List (S.Den c) → V → Prop where
  | nil (c : S.Cd) : Dat Y own st c [] .sn
  | ne (c : S.Cd) (id o o2 : Nat) : Dat Y own st c [] (.se id o o2)
  | ze (c : S.Cd) (a : Addr) : Dat Y own st c [] (.ze a)
  | ny (c : S.Cd) (id o o2 : Nat) : Dat Y own st c [] (.sy id o o2)
  | mk {c : S.Cd} {xs : List (S.Den c)} {id off cap : Nat} {op : Bool} {b : Blk} (vs : Nat → List V) : ¬ own id → id < st.nx → st.hp.get id = some b →
    (∀ (i : Nat) x, xs[i]? = some x → b.row (Y.wid c) (off + i * Y.wid c) = some (vs i)) →
    (∀ (i : Nat) x, xs[i]? = some x → ∀ (j : Nat) u v, (Y.cells c x)[j]? = some u → (vs i)[j]? = some v → DatA Y own st u v) → xs.length ≤ cap → Dat Y own st c xs (.sl id off xs.length cap op)
inductive DatA (Y : Sy S) (own : Nat → Prop) (st : St) : U S → V → Prop where
  | b (x : Bool) : DatA Y own st (.b x) (.b x)
  | i (k : IntKind) (n : Int) : DatA Y own st (.i k n) (.i k n)
  | s (l : List UInt8) : DatA Y own st (.s l) (V.str l)
  | sn : DatA Y own st .sn .sn
  | l {c : S.Cd} {xs : List (S.Den c)} {v : V} : Dat Y own st c xs v → DatA Y own st (.l c xs) v
end

mutual
theorem Dat.keep {Y : Sy S} {own own' : Nat → Prop} {st st' : St} (hn : st.nx ≤ st'.nx) (hk : ∀ id, id < st.nx → ¬ own id → st'.hp.get id = st.hp.get id) (ho : ∀ id, id < st.nx → own' id → own id) {c : S.Cd} {xs : List (S.Den c)} {v : V} :
    Dat Y own st c xs v → Dat Y own' st' c xs v
  | .nil c => .nil c
  | .ne c id o o2 => .ne c id o o2
  | .ze c a => .ze c a
  | .ny c id o o2 => .ny c id o o2
  | .mk vs h1 h2 h3 h4 h5 h6 => .mk vs (fun q => h1 (ho _ h2 q)) (Nat.lt_of_lt_of_le h2 hn) ((hk _ h2 h1).trans h3) h4 (fun i x hx j u v hu hv => DatA.keep hn hk ho (h5 i x hx j u v hu hv)) h6
theorem DatA.keep {Y : Sy S} {own own' : Nat → Prop} {st st' : St} (hn : st.nx ≤ st'.nx) (hk : ∀ id, id < st.nx → ¬ own id → st'.hp.get id = st.hp.get id) (ho : ∀ id, id < st.nx → own' id → own id) {u : U S} {v : V} :
    DatA Y own st u v → DatA Y own' st' u v
  | .b x => .b x
  | .i k n => .i k n
  | .s l => .s l
  | .sn => .sn
  | .l h => .l (Dat.keep hn hk ho h)
end

theorem noRoom_dat {Y : Sy S} {own : Nat → Prop} {st : St} {c : S.Cd} {v : V} (h : noRoom v = true) : Dat Y own st c [] v := by
  cases v <;> simp only [noRoom, Bool.false_eq_true] at h
  · exact .nil c
  · exact .ze c _
  · exact .ny c _ _ _

theorem DatA.rel {Y : Sy S} {own : Nat → Prop} {st : St} {E : En} {u : U S} {v : V} (h : DatA Y own st u v) : RelV Y (Dat Y own st) E u v := by
  cases h <;> simp_all [RelV]
theorem DatA.of_rel {Y : Sy S} {own : Nat → Prop} {st : St} {E : En} {u : U S} {v : V} (hf : u.flat = true) (h : RelV Y (Dat Y own st) E u v) : DatA Y own st u v := by
  cases u <;> simp only [U.flat, Bool.false_eq_true] at hf <;> simp only [RelV] at h
  · subst h; exact .b _
  · subst h; exact .i _ _
  · subst h; exact .s _
  · subst h; exact .sn
  · exact .l h

end
end Go.Sx
