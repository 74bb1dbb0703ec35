/-
  What a loop's state holds, told by data; loops. Nothing is claimed here.
-/
import Derived.Test.YtnfddmjbfkfnhaaGreatDoorSk
namespace Go.Sx
open Go.Vm

section
variable {S : Sg}

mutual
/-- Every name is below n. -/
def lowU (n : Nat) : U S → Bool
  | .p r _ => Nat.blt r n
  | .o r => Nat.blt r n
  | .pe r _ _ _ => Nat.blt r n
  | .v r _ _ => Nat.blt r n
  | .vh r _ => Nat.blt r n
  | .vc _ r _ => Nat.blt r n
  | .f _ caps => lowL n caps
  | .a cs => lowL n cs
  | .t vs => lowL n vs
  | _ => true
def lowL (n : Nat) : List (U S) → Bool
  | [] => true
  | u :: us => lowU n u && lowL n us
end
def Tall {α : Type} (p : α → Bool) : T α → Bool
  | .e => true
  | .n l v r => (match v with | some x => p x | none => true) && (Tall p l && Tall p r)
theorem Tall_get {α : Type} {p : α → Bool} : ∀ {t : T α} {i : Nat} {x : α}, Tall p t = true → t.get i = some x → p x = true
  | .e, i, x, _, h => by rw [T.get_e] at h; cases h
  | .n l v r, i, x, ha, h => by
    simp only [Tall, Bool.and_eq_true] at ha
    rw [T.get_n] at h
    cases i with
    | zero => dsimp only at h; subst h; exact ha.1
    | succ k =>
      dsimp only at h
      cases hk : Nat.beq (k % 2) 0 with
      | true => rw [hk] at h; exact Tall_get ha.2.1 h
      | false => rw [hk] at h; exact Tall_get ha.2.2 h
def lowCt (n : Nat) : Ct S → Bool
  | .cells us => lowL n us
  | .buf _ _ => true
  | .row _ _ => true

theorem take_get {E : En} {n r : Nat} (h : Nat.blt r n = true) : (E.take n)[r]? = E[r]? := by
  rw [Nat.blt_eq] at h
  rw [List.getElem?_take, if_pos h]
mutual
theorem RelV.low {Y : Sy S} {D : DD S} {E : En} {n : Nat} : (u : U S) → (v : V) → lowU n u = true → RelV Y D E u v → RelV Y D (E.take n) u v
  | .b x, v, _, h => h
  | .kb x, v, _, h => h
  | .i k n, v, _, h => h
  | .s l, v, _, h => h
  | .pn, v, _, h => h
  | .sn, v, _, h => h
  | .e0 c, v, _, h => h
  | .fz, v, _, h => h
  | .nz, v, _, h => h
  | .dead, v, _, h => trivial
  | .g g off, v, _, h => h
  | .l c xs, v, _, h => h
  | .pd c xs i off, v, _, h => h
  | .p r off, v, hl, h => by
    obtain ⟨id, x, h1, h2⟩ := h
    exact ⟨id, x, (take_get hl).trans h1, h2⟩
  | .o r, v, hl, h => by
    obtain ⟨x, h1, h2⟩ := h
    exact ⟨x, (take_get hl).trans h1, h2⟩
  | .pe r w i off, v, hl, h => by
    obtain ⟨id, x, h1, h2⟩ := h
    exact ⟨id, x, (take_get hl).trans h1, h2⟩
  | .v r w i, v, hl, h => by
    obtain ⟨id, x, h1, h2⟩ := h
    exact ⟨id, x, (take_get hl).trans h1, h2⟩
  | .vh r j, v, hl, h => by
    obtain ⟨id, x, h1, h2⟩ := h
    exact ⟨id, x, (take_get hl).trans h1, h2⟩
  | .vc c r n, v, hl, h => by
    obtain ⟨id, x, h1, h2⟩ := h
    exact ⟨id, x, (take_get hl).trans h1, h2⟩
  | .f fn caps, v, hl, h => by
    obtain ⟨vs, h1, h2⟩ := h
    exact ⟨vs, h1, RelL.low caps vs hl h2⟩
  | .a cs, v, hl, h => by
    obtain ⟨vs, h1, h2⟩ := h
    exact ⟨vs, h1, RelL.low cs vs hl h2⟩
  | .t us, v, hl, h => by
    obtain ⟨vs, h1, h2⟩ := h
    exact ⟨vs, h1, RelL.low us vs hl h2⟩
theorem RelL.low {Y : Sy S} {D : DD S} {E : En} {n : Nat} : (us : List (U S)) → (vs : List V) → lowL n us = true → RelL Y D E us vs → RelL Y D (E.take n) us vs
  | [], _, _, h => h
  | u :: us, vs, hl, h => by
    obtain ⟨v, r, h1, h2, h3⟩ := h
    simp only [lowL, Bool.and_eq_true] at hl
    exact ⟨v, r, h1, RelV.low u v hl.1 h2, RelL.low us r hl.2 h3⟩
end

/-! ### Values, told by data -/

/-- A kind of values: each is told by a datum. -/
structure VC (Y : Sy S) (X : Type) where
  enc : X → U S
  dec : U S → (X → Prop) → Prop
  ok : ∀ {own : Nat → Prop} {st : St} {E : En} {u : U S} {k : X → Prop} {v : V}, dec u k → RelV Y (Dat Y own st) E u v → ∃ x, k x ∧ RelV Y (Dat Y own st) E (enc x) v
structure LC (Y : Sy S) (X : Type) where
  enc : X → List (U S)
  dec : List (U S) → (X → Prop) → Prop
  ok : ∀ {own : Nat → Prop} {st : St} {E : En} {us : List (U S)} {k : X → Prop} {vs : List V}, dec us k → RelL Y (Dat Y own st) E us vs → ∃ x, k x ∧ RelL Y (Dat Y own st) E (enc x) vs

variable {Y : Sy S}

def decInt (kd : IntKind) (u : U S) (k : Int → Prop) : Prop := match u with
  | .i kd' n => cond (decide (kd' = kd)) (k n) False
  | _ => False
def vInt (Y : Sy S) (kd : IntKind) : VC Y Int where
  enc n := .i kd n
  dec := decInt kd
  ok := by
    intro own st E u k v h hr
    unfold decInt at h
    split at h
    · rename_i kd' n
      cases hk : decide (kd' = kd) with
      | false => rw [hk] at h; exact h.elim
      | true => rw [hk] at h; obtain rfl := of_decide_eq_true hk; exact ⟨n, h, hr⟩
    · exact h.elim
def decBool (u : U S) (k : Bool → Prop) : Prop := match u with
  | .b x => k x
  | .kb x => k x
  | _ => False
def vBool (Y : Sy S) : VC Y Bool where
  enc x := .b x
  dec := decBool
  ok := by
    intro own st E u k v h hr
    unfold decBool at h
    split at h
    · exact ⟨_, h, hr⟩
    · exact ⟨_, h, hr⟩
    · exact h.elim
def decStr (u : U S) (k : List UInt8 → Prop) : Prop := match u with
  | .s l => k l
  | _ => False
def vStr (Y : Sy S) : VC Y (List UInt8) where
  enc l := .s l
  dec := decStr
  ok := by
    intro own st E u k v h hr
    unfold decStr at h
    split at h
    · exact ⟨_, h, hr⟩
    · exact h.elim
def decData (Y : Sy S) (c : S.Cd) (u : U S) (k : List (S.Den c) → Prop) : Prop := match u with
  | .l c' xs => Y.cast c' c xs k
  | .sn => k []
  | .e0 _ => k []
  | _ => False
def vData (Y : Sy S) (c : S.Cd) : VC Y (List (S.Den c)) where
  enc xs := .l c xs
  dec := decData Y c
  ok := by
    intro own st E u k v h hr
    unfold decData at h
    split at h
    · obtain ⟨rfl, h⟩ := Y.cast_ok _ _ _ _ h; exact ⟨_, h, hr⟩
    · simp only [RelV] at hr; subst hr; exact ⟨[], h, .nil c⟩
    · exact ⟨[], h, noRoom_dat hr⟩
    · exact h.elim
/-- One value alone. -/
def eqLit : U S → U S → Bool
  | .p r off, .p r' off' => Nat.beq r r' && Nat.beq off off'
  | .o r, .o r' => Nat.beq r r'
  | .g r off, .g r' off' => Nat.beq r r' && Nat.beq off off'
  | .pn, .pn => true
  | .sn, .sn => true
  | .fz, .fz => true
  | .nz, .nz => true
  | _, _ => false
theorem eqLit_ok {u w : U S} (h : eqLit u w = true) : u = w := by
  unfold eqLit at h
  split at h <;> simp_all
def vLit (Y : Sy S) (u0 : U S) : VC Y Unit where
  enc _ := u0
  dec u k := cond (eqLit u u0) (k ()) False
  ok := by
    intro own st E u k v h hr
    cases hq : eqLit u u0 with
    | false => rw [hq] at h; exact h.elim
    | true => rw [hq] at h; rw [← eqLit_ok hq]; exact ⟨(), h, hr⟩
/-- Whatever it is: nothing is told of it. -/
def vDead (Y : Sy S) : VC Y Unit where
  enc _ := .dead
  dec _ k := k ()
  ok := by
    intro own st E u k v h hr
    exact ⟨(), h, trivial⟩
def lNil (Y : Sy S) : LC Y Unit where
  enc _ := []
  dec us k := match us with
    | [] => k ()
    | _ => False
  ok := by
    intro own st E us k vs h hr
    cases us with
    | nil => exact ⟨(), h, hr⟩
    | cons u us => exact h.elim
def lCons {A B : Type} (v : VC Y A) (r : LC Y B) : LC Y (A × B) where
  enc x := v.enc x.1 :: r.enc x.2
  dec us k := match us with
    | u :: us => v.dec u fun a => r.dec us fun b => k (a, b)
    | [] => False
  ok := by
    intro own st E us k vs h hr
    cases us with
    | nil => exact h.elim
    | cons u us =>
      simp only [RelL] at hr
      obtain ⟨w, ws, rfl, h1, h2⟩ := hr
      obtain ⟨a, h3, h4⟩ := v.ok h h1
      obtain ⟨b, h5, h6⟩ := r.ok h3 h2
      exact ⟨(a, b), h5, w, ws, rfl, h4, h6⟩
def decAgg {A : Type} (r : LC Y A) (u : U S) (k : A → Prop) : Prop := match u with
  | .a us => r.dec us k
  | _ => False
def vAgg {A : Type} (r : LC Y A) : VC Y A where
  enc x := .a (r.enc x)
  dec := decAgg r
  ok := by
    intro own st E u k v h hr
    unfold decAgg at h
    split at h
    · simp only [RelV] at hr
      obtain ⟨vs, rfl, hr⟩ := hr
      obtain ⟨x, h1, h2⟩ := r.ok h hr
      exact ⟨x, h1, vs, rfl, h2⟩
    · exact h.elim
def decFn {A : Type} (f : FuncId) (r : LC Y A) (u : U S) (k : A → Prop) : Prop := match u with
  | .f f' us => cond (Nat.beq f' f) (r.dec us k) False
  | _ => False
def vFn {A : Type} (f : FuncId) (r : LC Y A) : VC Y A where
  enc x := .f f (r.enc x)
  dec := decFn f r
  ok := by
    intro own st E u k v h hr
    unfold decFn at h
    split at h
    · rename_i f' us
      cases hq : Nat.beq f' f with
      | false => rw [hq] at h; exact h.elim
      | true =>
        rw [hq] at h
        rw [Nat.beq_eq] at hq
        subst hq
        simp only [RelV] at hr
        obtain ⟨vs, rfl, hr⟩ := hr
        obtain ⟨x, h1, h2⟩ := r.ok h hr
        exact ⟨x, h1, vs, rfl, h2⟩
    · exact h.elim

/-! ### Frames, named blocks -/

structure FC (Y : Sy S) (X : Type) where
  enc : X → T (U S)
  dec : T (U S) → (X → Prop) → Prop
  ok : ∀ {own : Nat → Prop} {st : St} {E : En} {fr : T (U S)} {k : X → Prop} {frV : T V}, dec fr k → RelF Y (Dat Y own st) E fr frV → ∃ x, k x ∧ RelF Y (Dat Y own st) E (enc x) frV
def fNil (Y : Sy S) : FC Y Unit where
  enc _ := .e
  dec _ k := k ()
  ok := fun h _ => ⟨(), h, fun t u hu => by rw [T.get_e] at hu; cases hu⟩
def fCons {A B : Type} (t : Nat) (v : VC Y A) (r : FC Y B) : FC Y (A × B) where
  enc x := (r.enc x.2).upd t (some (v.enc x.1))
  dec fr k := onO (fr.get t) fun u => v.dec u fun a => r.dec fr fun b => k (a, b)
  ok := by
    intro own st E fr k frV h hr
    obtain ⟨u, h1, h2⟩ := onO_ok h
    obtain ⟨w, h3, h4⟩ := hr t u h1
    obtain ⟨a, h5, h6⟩ := v.ok h2 h4
    obtain ⟨b, h7, h8⟩ := r.ok h5 hr
    exact ⟨(a, b), h7, relF_known h8 h3 h6⟩

structure HC (Y : Sy S) (X : Type) where
  enc : X → T (Ct S)
  dec : Nat → T (Ct S) → (X → Prop) → Prop
  ok : ∀ {own : Nat → Prop} {ro : Nat} {st : St} {E : En} {n : Nat} {m : T (Ct S)} {k : X → Prop}, dec n m k → (∀ r ct, m.get r = some ct → Ent Y ro (Dat Y own st) (DatA Y own st) E st r ct) →
    ∃ x, k x ∧ ∀ r ct, (enc x).get r = some ct → r < n ∧ (∃ ct0, m.get r = some ct0) ∧ Ent Y ro (Dat Y own st) (DatA Y own st) E st r ct
def hNil (Y : Sy S) : HC Y Unit where
  enc _ := .e
  dec _ _ k := k ()
  ok := fun h _ => ⟨(), h, fun r ct e => by rw [T.get_e] at e; cases e⟩
def decCells {A : Type} (v : LC Y A) (o : Option (Ct S)) (k : A → Prop) : Prop := match o with
  | some (.cells us) => v.dec us k
  | _ => False
def decBuf (Y : Sy S) (c : S.Cd) (o : Option (Ct S)) (k : List (S.Den c) → Prop) : Prop := match o with
  | some (.buf c' xs) => Y.cast c' c xs k
  | _ => False
def hCells {A B : Type} (q : Nat) (v : LC Y A) (r : HC Y B) : HC Y (A × B) where
  enc x := (r.enc x.2).upd q (some (.cells (v.enc x.1)))
  dec n m k := cond (Nat.blt q n) (decCells v (m.get q) fun a => r.dec n m fun b => k (a, b)) False
  ok := by
    intro own ro st E n m k h hE
    cases hq : Nat.blt q n with
    | false => rw [hq] at h; exact h.elim
    | true =>
      rw [hq] at h
      simp only [cond_true] at h
      unfold decCells at h
      split at h
      · rename_i us hm
        obtain ⟨id, y, b, vs, h1, h2, h3, h4, h5, h6, h7⟩ := hE q _ hm
        obtain ⟨a, g1, g2⟩ := v.ok h h6
        obtain ⟨b', g3, g4⟩ := r.ok g1 hE
        refine ⟨(a, b'), g3, fun r' ct e => ?_⟩
        rw [T.get_upd] at e
        by_cases z : r' = q
        · subst z
          rw [if_pos rfl] at e
          cases e
          have hl : us.length = (v.enc a).length := by rw [← h6.length, g2.length]
          exact ⟨Nat.blt_eq.mp hq, ⟨_, hm⟩, id, y, b, vs, h1, h2, h3, h4, h5.trans hl, g2, fun j hj => h7 j (by rw [hl]; exact hj)⟩
        · rw [if_neg z] at e
          exact g4 r' ct e
      · exact h.elim
def hBuf {B : Type} (q : Nat) (c : S.Cd) (r : HC Y B) : HC Y (List (S.Den c) × B) where
  enc x := (r.enc x.2).upd q (some (.buf c x.1))
  dec n m k := cond (Nat.blt q n) (decBuf Y c (m.get q) fun a => r.dec n m fun b => k (a, b)) False
  ok := by
    intro own ro st E n m k h hE
    cases hq : Nat.blt q n with
    | false => rw [hq] at h; exact h.elim
    | true =>
      rw [hq] at h
      simp only [cond_true] at h
      unfold decBuf at h
      split at h
      · rename_i c' xs hm
        obtain ⟨rfl, h⟩ := Y.cast_ok _ _ _ _ h
        obtain ⟨b', g3, g4⟩ := r.ok h hE
        refine ⟨(xs, b'), g3, fun r' ct e => ?_⟩
        rw [T.get_upd] at e
        by_cases z : r' = q
        · subst z
          rw [if_pos rfl] at e
          cases e
          exact ⟨Nat.blt_eq.mp hq, ⟨_, hm⟩, hE r' _ hm⟩
        · rw [if_neg z] at e
          exact g4 r' ct e
      · exact h.elim

/-! ### What is nil gets a name -/

/-- A slot, or a cell of a named block. -/
inductive Fix (S : Sg) where
  | slot (t r : Nat) (c : S.Cd)
  | cell (q j r : Nat) (c : S.Cd)
def isSn : Option (U S) → Bool
  | some .sn => true
  | some (.e0 _) => true
  | _ => false
theorem isSn_ok {Y : Sy S} {ou : Option (U S)} (h : isSn ou = true) : ∃ u, ou = some u ∧ ∀ (D : DD S) (E : En) (v : V), RelV Y D E u v → noRoom v = true := by
  unfold isSn at h
  split at h
  · exact ⟨_, rfl, fun D E v q => by simp only [RelV] at q; subst q; rfl⟩
  · exact ⟨_, rfl, fun D E v q => q⟩
  · cases h
def fix1 (z : Z S) : Fix S → Z S
  | .slot t r c => cond (isSn (z.fr.get t) && Nat.beq z.nx r) ⟨z.fr.upd t (some (.o z.nx)), z.nx + 1, z.m.upd z.nx (some (.buf c [])), z.ks⟩ z
  | .cell q j r c => match z.m.get q with
    | some (.cells us) => cond (isSn us[j]? && Nat.beq z.nx r) ⟨z.fr, z.nx + 1, (z.m.upd q (some (.cells (us.set j (.o z.nx))))).upd z.nx (some (.buf c [])), z.ks⟩ z
    | _ => z
def fixes (z : Z S) : List (Fix S) → Z S
  | [] => z
  | f :: r => fixes (fix1 z f) r

variable {G : Gl} {o0 : Nat → Prop} {ro : Nat} {B : Bs S}

theorem zat_push {z : Z S} {st : St} {E0 : En} {frV : T V} (hI : Inv Y G o0 ro E0 z.nx z.m st) (hS : Step o0 B.E B.m B.st E0 z.m st z.ks [0]) (hf : RelF Y (Dat Y (ownOf o0 E0 z.m) st) E0 z.fr frV) (c : S.Cd) {v0 : V} (h0 : noRoom v0 = true) : ∃ E, Inv Y G o0 ro E (z.nx + 1) (z.m.upd z.nx (some (.buf c []))) st ∧ Step o0 B.E B.m B.st E (z.m.upd z.nx (some (.buf c []))) st z.ks [0] ∧ RelF Y (Dat Y (ownOf o0 E (z.m.upd z.nx (some (.buf c [])))) st) E z.fr frV ∧ E[z.nx]? = some (none, v0) ∧ ∀ r, r < z.nx → E[r]? = E0[r]? := by
  have hs := step_push hI none v0 (.buf c []) (st' := st) (fun id e => by cases e) (Nat.le_refl _) (fun _ _ => rfl) rfl
  have hE : (E0 ++ [((none : Option Nat), v0)])[z.nx]? = some (none, v0) := by rw [← hI.len]; exact push_self
  have := (hS.trans hs).anyW
  rw [List.nil_append] at this
  exact ⟨_, inv_push hI none v0 (.buf c []) hs (fun id e => by cases e) (fun _ _ => rfl) (.inl ⟨v0, hE, rfl, h0⟩), this, killF_rel (ks := []) hs hf, hE, fun r hr => push_get (by rw [hI.len]; exact hr)⟩

theorem fix1_ok {z : Z S} {frV : T V} {st : St} (h : Zat Y G o0 ro B z frV st) (f : Fix S) : Zat Y G o0 ro B (fix1 z f) frV st := by
  cases f with
  | slot t r c =>
    simp only [fix1]
    cases hq : (isSn (z.fr.get t) && Nat.beq z.nx r) with
    | false => exact h
    | true =>
      rw [Bool.and_eq_true] at hq
      obtain ⟨u0, hz, hu0⟩ := isSn_ok (Y := Y) hq.1
      obtain ⟨E0, i1, i2, i3⟩ := h
      obtain ⟨v, h5, h6⟩ := i3 t _ hz
      have h0 := hu0 _ _ _ h6
      obtain ⟨E, h1, h2, h3, h4, _⟩ := zat_push i1 i2 i3 c h0
      exact ⟨E, h1, h2, relF_known h3 h5 (u := .o z.nx) ⟨none, h4, noRoom_atom h0⟩⟩
  | cell q j r c =>
    simp only [fix1]
    split
    · rename_i us hm
      cases hq : (isSn us[j]? && Nat.beq z.nx r) with
      | false => exact h
      | true =>
        rw [Bool.and_eq_true] at hq
        obtain ⟨u0, hz, hu0⟩ := isSn_ok (Y := Y) hq.1
        obtain ⟨E0, i1, i2, i3⟩ := h
        have hlt : q < z.nx := i1.lt q _ hm
        obtain ⟨id0, y0, b0, vs0, p1, p2, p3, p4, p5, p6, p7⟩ := i1.ent q _ hm
        have hj := (List.getElem?_eq_some_iff.1 hz).1
        obtain ⟨v0, w1, w2⟩ := RelL.get (show RelL Y _ E0 us vs0 from p6) hz
        have h0 := hu0 _ _ _ w2
        obtain ⟨E, h1, h2, h3, h4, hE0⟩ := zat_push i1 i2 i3 c h0
        have hm' : (z.m.upd z.nx (some (.buf c []))).get q = some (.cells us) := by rw [T.get_upd, if_neg (by omega)]; exact hm
        -- the same names are named
        have nam : ∀ id, named E ((z.m.upd q (some (.cells (us.set j (.o z.nx))))).upd z.nx (some (.buf c []))) id ↔ named E (z.m.upd z.nx (some (.buf c []))) id := by
          intro id
          constructor
          · rintro ⟨k, ct, y, e1, e2⟩
            rw [T.get_upd] at e1
            by_cases a : k = z.nx
            · exact ⟨k, .buf c [], y, by rw [T.get_upd, if_pos a], e2⟩
            · rw [if_neg a, T.get_upd] at e1
              by_cases b : k = q
              · exact ⟨k, .cells us, y, by rw [b]; exact hm', e2⟩
              · rw [if_neg b] at e1; exact ⟨k, ct, y, by rw [T.get_upd, if_neg a]; exact e1, e2⟩
          · rintro ⟨k, ct, y, e1, e2⟩
            rw [T.get_upd] at e1
            by_cases a : k = z.nx
            · exact ⟨k, .buf c [], y, by rw [T.get_upd, if_pos a], e2⟩
            · rw [if_neg a] at e1
              by_cases b : k = q
              · exact ⟨k, .cells (us.set j (.o z.nx)), y, by rw [T.get_upd, if_neg a, T.get_upd, if_pos b], e2⟩
              · exact ⟨k, ct, y, by rw [T.get_upd, if_neg a, T.get_upd, if_neg b]; exact e1, e2⟩
        have own : ∀ id, ownOf o0 E ((z.m.upd q (some (.cells (us.set j (.o z.nx))))).upd z.nx (some (.buf c []))) id → ownOf o0 E (z.m.upd z.nx (some (.buf c []))) id := fun id ho => ho.imp (fun q => q) (nam id).1
        have hd : ∀ c' xs v, Dat Y (ownOf o0 E (z.m.upd z.nx (some (.buf c [])))) st c' xs v → Dat Y (ownOf o0 E ((z.m.upd q (some (.cells (us.set j (.o z.nx))))).upd z.nx (some (.buf c [])))) st c' xs v := fun c' xs v hd => Dat.keep (Nat.le_refl _) (fun _ _ _ => rfl) (fun id _ ho => own id ho) hd
        have hda : ∀ u v, DatA Y (ownOf o0 E (z.m.upd z.nx (some (.buf c [])))) st u v → DatA Y (ownOf o0 E ((z.m.upd q (some (.cells (us.set j (.o z.nx))))).upd z.nx (some (.buf c [])))) st u v := fun u v hd => DatA.keep (Nat.le_refl _) (fun _ _ _ => rfl) (fun id _ ho => own id ho) hd
        have any : ∀ k ct, ((z.m.upd q (some (.cells (us.set j (.o z.nx))))).upd z.nx (some (.buf c []))).get k = some ct → ∃ ct0, (z.m.upd z.nx (some (.buf c []))).get k = some ct0 ∧ (k ≠ q → ct0 = ct) ∧ (k = q → ct = .cells (us.set j (.o z.nx))) := by
          intro k ct e
          rw [T.get_upd] at e
          by_cases a : k = z.nx
          · rw [if_pos a] at e; exact ⟨.buf c [], by rw [T.get_upd, if_pos a], fun _ => Option.some.inj e, fun b => by omega⟩
          · rw [if_neg a, T.get_upd] at e
            by_cases b : k = q
            · rw [if_pos b] at e; exact ⟨.cells us, by rw [b]; exact hm', fun q' => absurd b q', fun _ => (Option.some.inj e).symm⟩
            · rw [if_neg b] at e; exact ⟨ct, by rw [T.get_upd, if_neg a]; exact e, fun _ => rfl, fun q' => absurd q' b⟩
        refine ⟨E, ⟨h1.len, h1.ro, ?_, ?_, h1.out, h1.glob, ?_, fun id hn => h1.dis id ((nam id).1 hn)⟩, ⟨h2.len, h2.same, h2.nx, h2.keep, fun id hn => h2.nam id ((nam id).1 hn), h2.ver, h2.all⟩, fun t u hu => ?_⟩
        · intro k ct e
          obtain ⟨ct0, e0, _⟩ := any k ct e
          exact h1.lt k ct0 e0
        · intro k ct e
          obtain ⟨ct0, e0, e1, e2⟩ := any k ct e
          by_cases b : k = q
          · obtain rfl := e2 b
            subst b
            rw [hm'] at e0
            cases e0
            obtain ⟨id, y, b, vs, q1, q2, q3, q4, q5, q6, q7⟩ := h1.ent k _ hm'
            refine ⟨id, y, b, vs, q1, q2, q3, q4, by rw [List.length_set]; exact q5, ?_, fun i hi => q7 i (by rwa [List.length_set] at hi)⟩
            have q6' : RelL Y _ E us vs := q6
            refine RelL.of_get (by rw [List.length_set]; exact q6'.length) fun i u v hu hv => ?_
            by_cases c1 : i = j
            · subst c1
              have hi := (List.getElem?_eq_some_iff.1 hz).1
              rw [List.getElem?_set_self hi] at hu
              cases hu
              have same : E[k]? = E0[k]? := hE0 k hlt
              rw [q1, p1] at same
              cases same
              rw [q4] at p4
              cases p4
              rw [← q7 i hi, p7 i hi, w1] at hv
              cases hv
              exact ⟨none, h4, noRoom_atom h0⟩
            · rw [List.getElem?_set_ne (Ne.symm c1)] at hu
              obtain ⟨w, z1, z2⟩ := q6'.get hu
              rw [hv] at z1
              cases z1
              exact RelV.mono (fun _ _ e => e) hd u v z2
          · obtain rfl := e1 b
            have he := h1.ent k ct0 e0
            cases ct0 with
            | cells us' =>
              obtain ⟨id, y, b, vs, q1, q2, q3, q4, q5, q6, q7⟩ := he
              exact ⟨id, y, b, vs, q1, q2, q3, q4, q5, RelL.mono (fun _ _ e => e) hd us' vs q6, q7⟩
            | buf c' xs =>
              rcases he with he | ⟨id, cap, op, b, q1, q2, q3, q4, q5, q6, q7, q8, vs, q9, q10⟩
              · exact .inl he
              · exact .inr ⟨id, cap, op, b, q1, q2, q3, q4, q5, q6, q7, q8, vs, q9, fun i x hx j u v hu hv => hda u v (q10 i x hx j u v hu hv)⟩
            | row c' xs =>
              obtain ⟨id, b, q1, q2, q3, q4, q5, vs, q9, q10⟩ := he
              exact ⟨id, b, q1, q2, q3, q4, q5, vs, q9, fun i x hx j u v hu hv => hda u v (q10 i x hx j u v hu hv)⟩
        · intro k k' ct ct' id y y' e1 e2 e3 e4
          obtain ⟨a0, a1, _⟩ := any k ct e1
          obtain ⟨b0, b1, _⟩ := any k' ct' e2
          exact h1.inj k k' a0 b0 id y y' a1 b1 e3 e4
        · obtain ⟨v, z1, z2⟩ := h3 t u hu
          exact ⟨v, z1, RelV.mono (fun _ _ e => e) hd u v z2⟩
    · exact h
theorem fixes_ok {frV : T V} {st : St} : ∀ (l : List (Fix S)) {z : Z S}, Zat Y G o0 ro B z frV st → Zat Y G o0 ro B (fixes z l) frV st
  | [], _, h => h
  | f :: r, _, h => fixes_ok r (fix1_ok h f)

/-! ### A loop's state -/

def subs : List Nat → List Nat → Bool
  | [], _ => true
  | k :: r, ks => mem ks k && subs r ks
theorem subs_ok : ∀ {a ks : List Nat}, subs a ks = true → ∀ r, mem ks r = false → mem a r = false
  | [], _, _, _, _ => rfl
  | k :: a, ks, h, r, hr => by
    simp only [subs, Bool.and_eq_true] at h
    simp only [mem]
    cases e : Nat.beq k r with
    | true => rw [Nat.beq_eq] at e; subst e; rw [h.1] at hr; cases hr
    | false => exact subs_ok h.2 r hr

structure LS (Y : Sy S) (A H : Type) where
  fx : List (Fix S)
  fc : FC Y A
  hc : HC Y H
  nx : Nat
  ks : List Nat
def LS.put {A H : Type} (l : LS Y A H) (x : A × H) : Z S := ⟨l.fc.enc x.1, l.nx, l.hc.enc x.2, l.ks⟩
def LS.get {A H : Type} (l : LS Y A H) (z : Z S) (k : A × H → Prop) : Prop :=
  cond (Nat.ble l.nx (fixes z l.fx).nx && subs (fixes z l.fx).ks l.ks) (l.fc.dec (fixes z l.fx).fr fun a => l.hc.dec l.nx (fixes z l.fx).m fun h => cond (Tall (lowU l.nx) (l.fc.enc a) && Tall (lowCt l.nx) (l.hc.enc h)) (k (a, h)) False) False

theorem LS.ok {A H : Type} (l : LS Y A H) (hB : B.E.length ≤ l.nx) {z : Z S} {k : A × H → Prop} {frV : T V} {st : St} (h : l.get z k) (hz : Zat Y G o0 ro B z frV st) : ∃ x, k x ∧ Zat Y G o0 ro B (l.put x) frV st := by
  obtain ⟨E, hI, hS, hf⟩ := fixes_ok l.fx hz
  unfold LS.get at h
  generalize hz1 : fixes z l.fx = z1 at h hI hS hf
  cases hc : (Nat.ble l.nx z1.nx && subs z1.ks l.ks) with
  | false => rw [hc] at h; exact h.elim
  | true =>
    rw [hc] at h
    rw [Bool.and_eq_true, Nat.ble_eq] at hc
    obtain ⟨a, h1, h2⟩ := l.fc.ok h hf
    obtain ⟨b, h3, h4⟩ := l.hc.ok h1 hI.ent
    cases hl : (Tall (lowU l.nx) (l.fc.enc a) && Tall (lowCt l.nx) (l.hc.enc b)) with
    | false => rw [hl] at h3; exact h3.elim
    | true =>
      rw [hl] at h3
      rw [Bool.and_eq_true] at hl
      have tk : ∀ r, r < l.nx → (E.take l.nx)[r]? = E[r]? := fun r hr => take_get (by rw [Nat.blt_eq]; exact hr)
      have nam : ∀ id, named (E.take l.nx) (l.hc.enc b) id → named E z1.m id := by
        rintro id ⟨r, ct, y, e1, e2⟩
        obtain ⟨q1, ⟨ct0, q2⟩, _⟩ := h4 r ct e1
        rw [tk r q1] at e2
        exact ⟨r, ct0, y, q2, e2⟩
      have own : ∀ id, ownOf o0 (E.take l.nx) (l.hc.enc b) id → ownOf o0 E z1.m id := fun id ho => ho.imp (fun q => q) (nam id)
      have hd : ∀ c xs v, Dat Y (ownOf o0 E z1.m) st c xs v → Dat Y (ownOf o0 (E.take l.nx) (l.hc.enc b)) st c xs v := fun c xs v hd => Dat.keep (Nat.le_refl _) (fun _ _ _ => rfl) (fun id _ ho => own id ho) hd
      have hda : ∀ u v, DatA Y (ownOf o0 E z1.m) st u v → DatA Y (ownOf o0 (E.take l.nx) (l.hc.enc b)) st u v := fun u v hd => DatA.keep (Nat.le_refl _) (fun _ _ _ => rfl) (fun id _ ho => own id ho) hd
      have hlen : (E.take l.nx).length = l.nx := by rw [List.length_take, hI.len]; omega
      refine ⟨(a, b), h3, E.take l.nx, ⟨hlen, hI.ro, fun r ct e => (h4 r ct e).1, fun r ct e => ?_, hI.out, hI.glob, fun r r' ct ct' id y y' e1 e2 e3 e4 => ?_, fun id hn => hI.dis id (nam id hn)⟩, ⟨by show _ ≤ (E.take l.nx).length; rw [hlen]; exact hB, fun r hr hm => ?_, hS.nx, hS.keep, fun id hn => hS.nam id (nam id hn), hS.ver, hS.all⟩, fun t u hu => ?_⟩
      · obtain ⟨q1, _, he⟩ := h4 r ct e
        have hlow := Tall_get hl.2 e
        cases ct with
        | cells us =>
          obtain ⟨id, y, b, vs, g1, g2, g3, g4, g5, g6, g7⟩ := he
          exact ⟨id, y, b, vs, (tk r q1).trans g1, g2, g3, g4, g5, RelL.mono (fun _ _ e => e) hd us vs (RelL.low us vs hlow g6), g7⟩
        | buf c xs =>
          rcases he with ⟨v0, g1, g2, g0⟩ | ⟨id, cap, op, b, g1, g2, g3, g4, g5, g6, g7, g8, vs, g9, g10⟩
          · exact .inl ⟨v0, (tk r q1).trans g1, g2, g0⟩
          · exact .inr ⟨id, cap, op, b, (tk r q1).trans g1, g2, g3, g4, g5, g6, g7, g8, vs, g9, fun i x hx j u v hu hv => hda u v (g10 i x hx j u v hu hv)⟩
        | row c xs =>
          obtain ⟨id, b, g1, g2, g3, g4, g5, vs, g9, g10⟩ := he
          exact ⟨id, b, (tk r q1).trans g1, g2, g3, g4, g5, vs, g9, fun i x hx j u v hu hv => hda u v (g10 i x hx j u v hu hv)⟩
      · obtain ⟨q1, ⟨c0, q2⟩, _⟩ := h4 r ct e1
        obtain ⟨p1, ⟨d0, p2⟩, _⟩ := h4 r' ct' e2
        rw [tk r q1] at e3
        rw [tk r' p1] at e4
        exact hI.inj r r' c0 d0 id y y' q2 p2 e3 e4
      · rw [tk r (Nat.lt_of_lt_of_le hr hB)]
        exact hS.same r hr (subs_ok hc.2 r hm)
      · obtain ⟨v, e1, e2⟩ := h2 t u hu
        exact ⟨v, e1, RelV.mono (fun _ _ e => e) hd u v (RelV.low u v (Tall_get hl.1 hu) e2)⟩

variable {P : Program} {ov : Ov} {nt : Nat}

/-- A LOOP: its rounds are those of a function on data. -/
theorem loop_sem {A H : Type} (l : LS Y A H) (hB : B.E.length ≤ l.nx) {b : Code} {K : Ex → Z S → Prop} {F : Nat → A × H → Prop} (h0 : ∀ x, F 0 x → False)
    (hs : ∀ n x, F (n + 1) x → Sem Y P G ov o0 ro nt B b (l.put x) (fun e z => match e with | .nrm => l.get z (fun x' => F n x') | .exit i => K (.exit i) z | .goto i => K (.goto i) z | .ret => K .ret z))
    {z : Z S} (h : l.get z (fun x => ∃ n, F n x)) : Sem Y P G ov o0 ro nt B (.loop b) z K := by
  intro frV st hz
  obtain ⟨x, ⟨n, hF⟩, hz1⟩ := l.ok hB h hz
  have key : ∀ (n : Nat) (x : A × H) (frV : T V) (st : St), F n x → Zat Y G o0 ro B (l.put x) frV st → ∃ e frV' st', (∃ M R, ∀ n, M ≤ n → ∀ r, R ≤ r → loopGo (evC P ov ro n nt b) r frV st = some (e, frV', st')) ∧ ∃ z', Zat Y G o0 ro B z' frV' st' ∧ K e z' := by
    intro n
    induction n with
    | zero => intro x frV st h; exact (h0 x h).elim
    | succ n ih =>
      intro x frV st h hz
      obtain ⟨e, frV1, st1, ⟨M, h1⟩, z1, hz1, hk⟩ := hs n x h frV st hz
      cases e with
      | nrm =>
        obtain ⟨x', h2, h3⟩ := l.ok hB hk hz1
        obtain ⟨e2, frV2, st2, ⟨M2, R2, h4⟩, h5⟩ := ih x' frV1 st1 h2 h3
        refine ⟨e2, frV2, st2, ⟨max M M2, R2 + 1, fun k hk r hr => ?_⟩, h5⟩
        obtain ⟨r', rfl⟩ := Nat.exists_eq_succ_of_ne_zero (show r ≠ 0 by omega)
        simp only [loopGo, h1 k (by omega)]
        exact h4 k (by omega) r' (by omega)
      | exit i => exact ⟨_, frV1, st1, ⟨M, 1, fun k hk r hr => by
          obtain ⟨r', rfl⟩ := Nat.exists_eq_succ_of_ne_zero (show r ≠ 0 by omega)
          simp only [loopGo, h1 k (by omega)]⟩, z1, hz1, hk⟩
      | goto i => exact ⟨_, frV1, st1, ⟨M, 1, fun k hk r hr => by
          obtain ⟨r', rfl⟩ := Nat.exists_eq_succ_of_ne_zero (show r ≠ 0 by omega)
          simp only [loopGo, h1 k (by omega)]⟩, z1, hz1, hk⟩
      | ret => exact ⟨_, frV1, st1, ⟨M, 1, fun k hk r hr => by
          obtain ⟨r', rfl⟩ := Nat.exists_eq_succ_of_ne_zero (show r ≠ 0 by omega)
          simp only [loopGo, h1 k (by omega)]⟩, z1, hz1, hk⟩
  obtain ⟨e, frV', st', ⟨M, R, h1⟩, h2⟩ := key n x frV st hF hz1
  refine ⟨e, frV', st', ⟨M + R + 1, fun n hn => ?_⟩, h2⟩
  obtain ⟨k, rfl⟩ := Nat.exists_eq_succ_of_ne_zero (show n ≠ 0 by omega)
  simp only [evC]
  exact h1 k (by omega) k (by omega)
/-- Behind a round: the next one, or a way out. -/
def rnd {A H : Type} (l : LS Y A H) (cz : (Ex → Z S → Prop) → Ex → Z S → Prop) (F : A × H → Prop) (K : Ex → Z S → Prop) (e : Ex) (z : Z S) : Prop := match e with
  | .nrm => l.get z F
  | .exit i => cz K (.exit i) z
  | .goto i => cz K (.goto i) z
  | .ret => cz K .ret z
/-- A LOOP, its ways out told by data, too. -/
theorem loop_sem3 {A H : Type} (l : LS Y A H) (hB : B.E.length ≤ l.nx) {b : Code} (cz : (Ex → Z S → Prop) → Ex → Z S → Prop) (hcz : ∀ K e z frV st, cz K e z → Zat Y G o0 ro B z frV st → ∃ z', Zat Y G o0 ro B z' frV st ∧ K e z')
    {F : Nat → A × H → (Ex → Z S → Prop) → Prop} (h0 : ∀ x K, F 0 x K → False)
    (hs : ∀ n x K, F (n + 1) x K → Sem Y P G ov o0 ro nt B b (l.put x) (rnd l cz (fun x' => F n x' K) K))
    {z : Z S} {K : Ex → Z S → Prop} (h : l.get z (fun x => ∃ n, F n x K)) : Sem Y P G ov o0 ro nt B (.loop b) z K := by
  have := loop_sem (K := fun e z => cz K e z) l hB (F := fun n x => F n x K) (fun x => h0 x K) (fun n x hF frV st hz => by
    obtain ⟨e, frV', st', h1, z', h2, h3⟩ := hs n x K hF frV st hz
    exact ⟨e, frV', st', h1, z', h2, by cases e <;> exact h3⟩) h
  intro frV st hz
  obtain ⟨e, frV', st', h1, z', h2, h3⟩ := this frV st hz
  obtain ⟨z2, h4, h5⟩ := hcz K e z' frV' st' h3 h2
  exact ⟨e, frV', st', h1, z2, h4, h5⟩

/-- Where a loop ends, told by data. -/
def czT {A1 H1 A2 H2 : Type} (i0 : Nat) (le : LS Y A1 H1) (lr : LS Y A2 H2) (K : Ex → Z S → Prop) (e : Ex) (z : Z S) : Prop := match e with
  | .exit i => cond (Nat.beq i i0) (le.get z fun y => K (.exit i) (le.put y)) False
  | .ret => lr.get z fun y => K .ret (lr.put y)
  | _ => False
theorem czT_ok {A1 H1 A2 H2 : Type} (i0 : Nat) (le : LS Y A1 H1) (lr : LS Y A2 H2) (h1 : B.E.length ≤ le.nx) (h2 : B.E.length ≤ lr.nx) (K : Ex → Z S → Prop) (e : Ex) (z : Z S) (frV : T V) (st : St) (h : czT i0 le lr K e z) (hz : Zat Y G o0 ro B z frV st) : ∃ z', Zat Y G o0 ro B z' frV st ∧ K e z' := by
  cases e with
  | exit i =>
    simp only [czT] at h
    cases hq : Nat.beq i i0 with
    | false => rw [hq] at h; exact h.elim
    | true => rw [hq, cond_true] at h; obtain ⟨x, q1, q2⟩ := le.ok h1 h hz; exact ⟨_, q2, q1⟩
  | ret =>
    simp only [czT] at h
    obtain ⟨x, q1, q2⟩ := lr.ok h2 h hz
    exact ⟨_, q2, q1⟩
  | nrm => exact h.elim
  | goto i => exact h.elim

def firstR : Code → Option Nat
  | .region i _ _ => some i
  | .seq a b => match firstR a with
    | some i => some i
    | none => firstR b
  | .cond _ a b => match firstR a with
    | some i => some i
    | none => firstR b
  | .block _ b => firstR b
  | .loop b => firstR b
  | .scope b => firstR b
  | _ => none
def tabL : List (Nat × (Z S → (Ex → Z S → Prop) → Prop)) → LoopT S
  | [], _, _, _ => False
  | (i, h) :: r, b, z, K => match firstR b with
    | some j => cond (Nat.beq j i) (h z K) (tabL r b z K)
    | none => False
def nthLoop (c : Code) (i : Nat) : Code := (loopsOf c).getD i .skip
def LpAll (Y : Sy S) (P : Program) (G : Gl) (ov : Ov) (ro : Nat) (L : LoopT S) (bn nt : Nat) (l : List Code) : Prop := ∀ (o0 : Nat → Prop) (B : Bs S), B.E.length ≤ bn → ∀ b ∈ l, ∀ z K, L b z K → Sem Y P G ov o0 ro nt B (.loop b) z K
theorem lp_nil {L : LoopT S} {bn : Nat} : LpAll Y P G ov ro L bn nt [] := fun _ _ _ b hb => by cases hb
theorem lp_cons {L : LoopT S} {bn : Nat} {b : Code} {r : List Code} (h : ∀ (o0 : Nat → Prop) (B : Bs S), B.E.length ≤ bn → ∀ z K, L b z K → Sem Y P G ov o0 ro nt B (.loop b) z K) (hr : LpAll Y P G ov ro L bn nt r) : LpAll Y P G ov ro L bn nt (b :: r) := by
  intro o0 B hB b' hb
  rcases List.mem_cons.1 hb with rfl | hb
  · exact h o0 B hB
  · exact hr o0 B hB b' hb
end
end Go.Sx
