/-
  What a loop's state holds, told by data; loops. Nothing is claimed here.
-/
import Derived.Test.YtajmjilckaifoaaGreatDoorJa3
namespace Go.Sx
open Go.Vm

section
variable {S : Sg}

mutual
/-- Every name is below n. -/
def lowU (n : Nat) : U S → Bool
  | .p r _ => Nat.blt r n
  | .o r => Nat.blt r n
  | .pe r _ _ _ => Nat.blt r n
  | .v r _ _ => Nat.blt r n
  | .vh r _ => Nat.blt r n
  | .vc _ r _ => Nat.blt r n
  | .f _ caps => lowL n caps
  | .a cs => lowL n cs
  | .t vs => lowL n vs
  | _ => true
def lowL (n : Nat) : List (U S) → Bool
  | [] => true
  | u :: us => lowU n u && lowL n us
end
def Tall {α : Type} (p : α → Bool) : T α → Bool
  | .e => true
  | .n l v r => (match v with | some x => p x | none => true) && (Tall p l && Tall p r)
theorem Tall_get {α : Type} {p : α → Bool} : ∀ {t : T α} {i : Nat} {x : α}, Tall p t = true → t.get i = some x → p x = true
  | .e, i, x, _, h => by rw [T.get_e] at h; cases h
  | .n l v r, i, x, ha, h => by
    simp only [Tall, Bool.and_eq_true] at ha
    rw [T.get_n] at h
    cases i with
    | zero => dsimp only at h; subst h; exact ha.1
    | succ k =>
      dsimp only at h
      cases hk : Nat.beq (k % 2) 0 with
      | true => rw [hk] at h; exact Tall_get ha.2.1 h
      | false => rw [hk] at h; exact Tall_get ha.2.2 h
def lowCt (n : Nat) : Ct S → Bool
  | .cells us => lowL n us
  | .buf _ _ => true
  | .row _ _ => true

theorem take_get {E : En} {n r : Nat} (h : Nat.blt r n = true) : (E.take n)[r]? = E[r]? := by
  rw [Nat.blt_eq] at h
  rw [List.getElem?_take, if_pos h]
mutual
theorem RelV.low {Y : Sy S} {D : DD S} {E : En} {n : Nat} : (u : U S) → (v : V) → lowU n u = true → RelV Y D E u v → RelV Y D (E.take n) u v
  | .b x, v, _, h => h
  | .kb x, v, _, h => h
  | .i k n, v, _, h => h
  | .s l, v, _, h => h
  | .pn, v, _, h => h
  | .sn, v, _, h => h
  | .e0 c, v, _, h => h
  | .fz, v, _, h => h
  | .nz, v, _, h => h
  | .dead, v, _, h => trivial
  | .g g off, v, _, h => h
  | .l c xs, v, _, h => h
  | .pd c xs i off, v, _, h => h
  | .p r off, v, hl, h => by
    obtain ⟨id, x, h1, h2⟩ := h
    exact ⟨id, x, (take_get hl).trans h1, h2⟩
  | .o r, v, hl, h => by
    obtain ⟨x, h1, h2⟩ := h
    exact ⟨x, (take_get hl).trans h1, h2⟩
  | .pe r w i off, v, hl, h => by
    obtain ⟨id, x, h1, h2⟩ := h
    exact ⟨id, x, (take_get hl).trans h1, h2⟩
  | .v r w i, v, hl, h => by
    obtain ⟨id, x, h1, h2⟩ := h
    exact ⟨id, x, (take_get hl).trans h1, h2⟩
  | .vh r j, v, hl, h => by
    obtain ⟨id, x, h1, h2⟩ := h
    exact ⟨id, x, (take_get hl).trans h1, h2⟩
  | .vc c r n, v, hl, h => by
    obtain ⟨id, x, h1, h2⟩ := h
    exact ⟨id, x, (take_get hl).trans h1, h2⟩
  | .f fn caps, v, hl, h => by
    obtain ⟨vs, h1, h2⟩ := h
    exact ⟨vs, h1, RelL.low caps vs hl h2⟩
  | .a cs, v, hl, h => by
    obtain ⟨vs, h1, h2⟩ := h
    exact ⟨vs, h1, RelL.low cs vs hl h2⟩
  | .t us, v, hl, h => by
    obtain ⟨vs, h1, h2⟩ := h
    exact ⟨vs, h1, RelL.low us vs hl h2⟩
theorem RelL.low {Y : Sy S} {D : DD S} {E : En} {n : Nat} : (us : List (U S)) → (vs : List V) → lowL n us = true → RelL Y D E us vs → RelL Y D (E.take n) us vs
  | [], _, _, h => h
  | u :: us, vs, hl, h => by
    obtain ⟨v, r, h1, h2, h3⟩ := h
    simp only [lowL, Bool.and_eq_true] at hl
    exact ⟨v, r, h1, RelV.low u v hl.1 h2, RelL.low us r hl.2 h3⟩
end

/-! ### Values, told by data -/

/-- A kind of values: each is told by a datum. -/
structure VC (Y : Sy S) (X : Type) where
  enc : X → U S
  dec : U S → (X → Prop) → Prop
  ok : ∀ {own : Nat → Prop} {st : St} {E : En} {u : U S} {k : X → Prop} {v : V}, dec u k → RelV Y (Dat Y own st) E u v → ∃ x, k x ∧ RelV Y (Dat Y own st) E (enc x) v
structure LC (Y : Sy S) (X : Type) where
  enc : X → List (U S)
  dec : List (U S) → (X → Prop) → Prop
  ok : ∀ {own : Nat → Prop} {st : St} {E : En} {us : List (U S)} {k : X → Prop} {vs : List V}, dec us k → RelL Y (Dat Y own st) E us vs → ∃ x, k x ∧ RelL Y (Dat Y own st) E (enc x) vs

variable {Y : Sy S}

def decInt (kd : IntKind) (u : U S) (k : Int → Prop) : Prop := match u with
  | .i kd' n => cond (decide (kd' = kd)) (k n) False
  | _ => False
def vInt (Y : Sy S) (kd : IntKind) : VC Y Int where
  enc n := .i kd n
  dec := decInt kd
  ok := by
    intro own st E u k v h hr
    unfold decInt at h
    split at h
    · rename_i kd' n
      cases hk : decide (kd' = kd) with
      | false => rw [hk] at h; exact h.elim
      | true => rw [hk] at h; obtain rfl := of_decide_eq_true hk; exact ⟨n, h, hr⟩
    · exact h.elim
def decBool (u : U S) (k : Bool → Prop) : Prop := match u with
  | .b x => k x
  | .kb x => k x
  | _ => False
def vBool (Y : Sy S) : VC Y Bool where
  enc x := .b x
  dec := decBool
  ok := by
    intro own st E u k v h hr
    unfold decBool at h
    split at h
    · exact ⟨_, h, hr⟩
    · exact ⟨_, h, hr⟩
    · exact h.elim
def decStr (u : U S) (k : List UInt8 → Prop) : Prop := match u with
  | .s l => k l
  | _ => False
def vStr (Y : Sy S) : VC Y (List UInt8) where
  enc l := .s l
  dec := decStr
  ok := by
    intro own st E u k v h hr
    unfold decStr at h
    split at h
    · exact ⟨_, h, hr⟩
    · exact h.elim
def decData (Y : Sy S) (c : S.Cd) (u : U S) (k : List (S.Den c) → Prop) : Prop := match u with
  | .l c' xs => Y.cast c' c xs k
  | .sn => k []
  | .e0 _ => k []
  | _ => False
def vData (Y : Sy S) (c : S.Cd) : VC Y (List (S.Den c)) where
  enc xs := .l c xs
  dec := decData Y c
  ok := by
    intro own st E u k v h hr
    unfold decData at h
    split at h
    · obtain ⟨rfl, h⟩ := Y.cast_ok _ _ _ _ h; exact ⟨_, h, hr⟩
    · simp only [RelV] at hr; subst hr; exact ⟨[], h, .nil c⟩
    · exact ⟨[], h, noRoom_dat hr⟩
    · exact h.elim
/-- One value alone. -/
def eqLit : U S → U S → Bool
  | .p r off, .p r' off' => Nat.beq r r' && Nat.beq off off'
  | .o r, .o r' => Nat.beq r r'
  | .g r off, .g r' off' => Nat.beq r r' && Nat.beq off off'
  | .pn, .pn => true
  | .sn, .sn => true
  | .fz, .fz => true
  | .nz, .nz => true
  | _, _ => false
theorem eqLit_ok {u w : U S} (h : eqLit u w = true) : u = w := by
  unfold eqLit at h
  split at h <;> simp_all
def vLit (Y : Sy S) (u0 : U S) : VC Y Unit where
  enc _ := u0
  dec u k := cond (eqLit u u0) (k ()) False
  ok := by
    intro own st E u k v h hr
    cases hq : eqLit u u0 with
    | false => rw [hq] at h; exact h.elim
    | true => rw [hq] at h; rw [← eqLit_ok hq]; exact ⟨(), h, hr⟩
/-- Whatever it is: nothing is told of it. -/
def vDead (Y : Sy S) : VC Y Unit where
  enc _ := .dead
  dec _ k := k ()
  ok := by
    intro own st E u k v h hr
    exact ⟨(), h, trivial⟩
def lNil (Y : Sy S) : LC Y Unit where
  enc _ := []
  dec us k := match us with
    | [] => k ()
    | _ => False
  ok := by
    intro own st E us k vs h hr
    cases us with
    | nil => exact ⟨(), h, hr⟩
    | cons u us => exact h.elim
def lCons {A B : Type} (v : VC Y A) (r : LC Y B) : LC Y (A × B) where
  enc x := v.enc x.1 :: r.enc x.2
  dec us k := match us with
    | u :: us => v.dec u fun a => r.dec us fun b => k (a, b)
    | [] => False
  ok := by
    intro own st E us k vs h hr
    cases us with
    | nil => exact h.elim
    | cons u us =>
      simp only [RelL] at hr
      obtain ⟨w, ws, rfl, h1, h2⟩ := hr
      obtain ⟨a, h3, h4⟩ := v.ok h h1
      obtain ⟨b, h5, h6⟩ := r.ok h3 h2
      exact ⟨(a, b), h5, w, ws, rfl, h4, h6⟩
def decAgg {A : Type} (r : LC Y A) (u : U S) (k : A → Prop) : Prop := match u with
  | .a us => r.dec us k
  | _ => False
def vAgg {A : Type} (r : LC Y A) : VC Y A where
  enc x := .a (r.enc x)
  dec := decAgg r
  ok := by
    intro own st E u k v h hr
    unfold decAgg at h
    split at h
    · simp only [RelV] at hr
      obtain ⟨vs, rfl, hr⟩ := hr
      obtain ⟨x, h1, h2⟩ := r.ok h hr
      exact ⟨x, h1, vs, rfl, h2⟩
    · exact h.elim
def decFn {A : Type} (f : FuncId) (r : LC Y A) (u : U S) (k : A → Prop) : Prop := match u with
  | .f f' us => cond (Nat.beq f' f) (r.dec us k) False
  | _ => False
def vFn {A : Type} (f : FuncId) (r : LC Y A) : VC Y A where
  enc x := .f f (r.enc x)
  dec := decFn f r
  ok := by
    intro own st E u k v h hr
    unfold decFn at h
    split at h
    · rename_i f' us
      cases hq : Nat.beq f' f with
      | false => rw [hq] at h; exact h.elim
      | true =>
        rw [hq] at h
        rw [Nat.beq_eq] at hq
        subst hq
        simp only [RelV] at hr
        obtain ⟨vs, rfl, hr⟩ := hr
        obtain ⟨x, h1, h2⟩ := r.ok h hr
        exact ⟨x, h1, vs, rfl, h2⟩
    · exact h.elim

/-! ### Frames, named blocks -/

structure FC (Y : Sy S) (X : Type) where
  enc : X → T (U S)
  dec : T (U S) → (X → Prop) → Prop
  ok : ∀ {own : Nat → Prop} {st : St} {E : En} {fr : T (U S)} {k : X → Prop} {frV : T V}, dec fr k → RelF Y (Dat Y own st) E fr frV → ∃ x, k x ∧ RelF Y (Dat Y own st) E (enc x) frV
def fNil (Y : Sy S) : FC Y Unit where
  enc _ := .e
  dec _ k := k ()
  ok := fun h _ => ⟨(), h, fun t u hu => by rw [T.get_e] at hu; cases hu⟩
def fCons {A B : Type} (t : Nat) (v : VC Y A) (r : FC Y B) : FC Y (A × B) where
  enc x := (r.enc x.2).upd t (some (v.enc x.1))
  dec fr k := onO (fr.get t) fun u => v.dec u fun a => r.dec fr fun b => k (a, b)
  ok := by
    intro own st E fr k frV h hr
    obtain ⟨u, h1, h2⟩ := onO_ok h
    obtain ⟨w, h3, h4⟩ := hr t u h1
    obtain ⟨a, h5, h6⟩ := v.ok h2 h4
    obtain ⟨b, h7, h8⟩ := r.ok h5 hr
    exact ⟨(a, b), h7, relF_known h8 h3 h6⟩

structure HC (Y : Sy S) (X : Type) where
  enc : X → T (Ct S)
  dec : Nat → T (Ct S) → (X → Prop) → Prop
  ok : ∀ {own : Nat → Prop} {ro : Nat} {st : St} {E : En} {n : Nat} {m : T (Ct S)} {k : X → Prop}, dec n m k → (∀ r ct, m.get r = some ct → Ent Y ro (Dat Y own st) (DatA Y own st) E st r ct) →
    ∃ x, k x ∧ ∀ r ct, (enc x).get r = some ct → r < n ∧ (∃ ct0, m.get r = some ct0) ∧ Ent Y ro (Dat Y own st) (DatA Y own st) E st r ct
def hNil (Y : Sy S) : HC Y Unit where
  enc _ := .e
  dec _ _ k := k ()
  ok := fun h _ => ⟨(), h, fun r ct e => by rw [T.get_e] at e; cases e⟩
def decCells {A : Type} (v : LC Y A) (o : Option (Ct S)) (k : A → Prop) : Prop := match o with
  | some (.cells us) => v.dec us k
  | _ => False
def decBuf (Y : Sy S) (c : S.Cd) (o : Option (Ct S)) (k : List (S.Den c) → Prop) : Prop := match o with
  | some (.buf c' xs) => Y.cast c' c xs k
  | _ => False
def hCells {A B : Type} (q : Nat) (v : LC Y A) (r : HC Y B) : HC Y (A × B) where
  enc x := (r.enc x.2).upd q (some (.cells (v.enc x.1)))
  dec n m k := cond (Nat.blt q n) (decCells v (m.get q) fun a => r.dec n m fun b => k (a, b)) False
  ok := by
    intro own ro st E n m k h hE
    cases hq : Nat.blt q n with
    | false => rw [hq] at h; exact h.elim
    | true =>
      rw [hq] at h
      simp only [cond_true] at h
      unfold decCells at h
      split at h
      · rename_i us hm
        obtain ⟨id, y, b, vs, h1, h2, h3, h4, h5, h6, h7⟩ := hE q _ hm
        obtain ⟨a, g1, g2⟩ := v.ok h h6
        obtain ⟨b', g3, g4⟩ := r.ok g1 hE
        refine ⟨(a, b'), g3, fun r' ct e => ?_⟩
        rw [T.get_upd] at e
        by_cases z : r' = q
        · subst z
          rw [if_pos rfl] at e
          cases e
          have hl : us.length = (v.enc a).length := by rw [← h6.length, g2.length]
          exact ⟨Nat.blt_eq.mp hq, ⟨_, hm⟩, id, y, b, vs, h1, h2, h3, h4, h5.trans hl, g2, fun j hj => h7 j (by rw [hl]; exact hj)⟩
        · rw [if_neg z] at e
          exact g4 r' ct e
      · exact h.elim
def hBuf {B : Type} (q : Nat) (c : S.Cd) (r : HC Y B) : HC Y (List (S.Den c) × B) where
  enc x := (r.enc x.2).upd q (some (.buf c x.1))
  dec n m k := cond (Nat.blt q n) (decBuf Y c (m.get q) fun a => r.dec n m fun b => k (a, b)) False
  ok := by
    intro own ro st E n m k h hE
    cases hq : Nat.blt q n with
    | false => rw [hq] at h; exact h.elim
    | true =>
      rw [hq] at h
      simp only [cond_true] at h
      unfold decBuf at h
      split at h
      · rename_i c' xs hm
        obtain ⟨rfl, h⟩ := Y.cast_ok _ _ _ _ h
        obtain ⟨b', g3, g4⟩ := r.ok h hE
        refine ⟨(xs, b'), g3, fun r' ct e => ?_⟩
        rw [T.get_upd] at e
        by_cases z : r' = q
        · subst z
          rw [if_pos rfl] at e
          cases e
          exact ⟨Nat.blt_eq.mp hq, ⟨_, hm⟩, hE r' _ hm⟩
        · rw [if_neg z] at e
          exact g4 r' ct e
      · exact h.elim

/-! ### What is nil gets a name -/

/-- A slot, or a cell of a named block. -/
inductive Fix (S : Sg) where
  | slot (t r : Nat) (c : S.Cd)
  | cell (q j r : Nat) (c : S.Cd)
def isSn : Option (U S) → Bool
  | some .sn => true
  | some (.e0 _) => true
  | _ => false
theorem isSn_ok {Y : Sy S} {ou : Option (U S)} (h : isSn ou = true) : ∃ u, ou = some u ∧ ∀ (D : DD S) (E : En) (v : V), RelV Y D E u v → noRoom v = true := by
  unfold isSn at h
  split at h
  · exact ⟨_, rfl, fun D E v q => by simp only [RelV] at q; subst q; rfl⟩
  · exact ⟨_, rfl, fun D E v q => q⟩
  · cases h
def fix1 (z : Z S) : Fix S → Z S
  | .slot t r c => cond (isSn (z.fr.get t) && Nat.beq z.nx r) ⟨z.fr.upd t (some (.o z.nx)), z.nx + 1, z.m.upd z.nx (some (.buf c [])), z.ks⟩ z
  | .cell q j r c => match z.m.get q with
    | some (.cells us) => cond (isSn us[j]? && Nat.beq z.nx r) ⟨z.fr, z.nx + 1, (z.m.upd q (some (.cells (us.set j (.o z.nx))))).upd z.nx (some (.buf c [])), z.ks⟩ z
    | _ => z
def fixes (z : Z S) : List (Fix S) → Z S
  | [] => z
  | f :: r => fixes (fix1 z f) r

variable {G : Gl} {o0 : Nat → Prop} {ro : Nat} {B : Bs S}

theorem zat_push {z : Z S} {st : St} {E0 : En} {frV : T V} (hI : Inv Y G o0 ro E0 z.nx z.m st) (hS : Step o0 B.E B.m B.st E0 z.m st z.ks [0]) (hf : RelF Y (Dat Y (ownOf o0 E0 z.m) st) E0 z.fr frV) (c : S.Cd) {v0 : V} (h0 : noRoom v0 = true) : ∃ E, Inv Y G o0 ro E (z.nx + 1) (z.m.upd z.nx (some (.buf c []))) st ∧ Step o0 B.E B.m B.st E (z.m.upd z.nx (some (.buf c []))) st z.ks [0] ∧ RelF Y (Dat Y (ownOf o0 E (z.m.upd z.nx (some (.buf c [])))) st) E z.fr frV ∧ E[z.nx]? = some (none, v0) ∧ ∀ r, r < z.nx → E[r]? = E0[r]? := by
  have hs := step_push hI none v0 (.buf c []) (st' := st) (fun id e => by cases e) (Nat.le_refl _) (fun _ _ => rfl) rfl
  have hE : (E0 ++ [((none : Option Nat), v0)])[z.nx]? = some (none, v0) := by rw [← hI.len]; exact push_self
  have := (hS.trans hs).anyW
  rw [List.nil_append] at this
  exact ⟨_, inv_push hI none v0 (.buf c []) hs (fun id e => by cases e) (fun _ _ => rfl) (.inl ⟨v0, hE, rfl, h0⟩), this, killF_rel (ks := []) hs hf, hE, fun r hr => push_get (by rw [hI.len]; exact hr)⟩

theorem fix1_ok {z : Z S} {frV : T V} {st : St} (h : Zat Y G o0 ro B z frV st) (f : Fix S) : Zat Y G o0 ro B (fix1 z f) frV st := by
  cases f with
  | slot t r c =>
    simp only [fix1]
    cases hq : (isSn (z.fr.get t) && Nat.beq z.nx r) with
    | false => exact h
    | true =>
      rw [Bool.and_eq_true] at hq
      obtain ⟨u0, hz, hu0⟩ := isSn_ok (Y := Y) hq.1
      obtain ⟨E0, i1, i2, i3⟩ := h
      obtain ⟨v, h5, h6⟩ := i3 t _ hz
      have h0 := hu0 _ _ _ h6
      obtain ⟨E, h1, h2, h3, h4, _⟩ := zat_push i1 i2 i3 c h0
      exact ⟨E, h1, h2, relF_known h3 h5 (u := .o z.nx) ⟨none, h4, noRoom_atom h0⟩⟩
  | cell q j r c =>
    simp only [fix1]
    split
    · rename_i us hm
      cases hq : (isSn us[j]? && Nat.beq z.nx r) with
      | false => exact h
      | true =>
        rw [Bool.and_eq_true] at hq
        obtain ⟨u0, hz, hu0⟩ := isSn_ok (Y := Y) hq.1
        obtain ⟨E0, i1, i2, i3⟩ := h
        have hlt : q < z.nx := i1.lt q _ hm
        obtain ⟨id0, y0, b0, vs0, p1, p2, p3, p4, p5, p6, p7⟩ := i1.ent q _ hm
        have hj := (List.getElem?_eq_some_iff.1 hz).1
        obtain ⟨v0, w1, w2⟩ := RelL.get (show RelL Y _ E0 us vs0 from p6) hz
        have h0 := hu0 _ _ _ w2
        obtain ⟨E, h1, h2, h3, h4, hE0⟩ := zat_push i1 i2 i3 c h0
        have hm' : (z.m.upd z.nx (some (.buf c []))).get q = some (.cells us) := by rw [T.get_upd, if_neg (by omega)]; exact hm
        -- the same names are named
        have nam : ∀ id, named E ((z.m.upd q (some (.cells (us.set j (.o z.nx))))).upd z.nx (some (.buf c []))) id ↔ named E (z.m.upd z.nx (some (.buf c []))) id := by
          intro id
          constructor
          · rintro ⟨k, ct, y, e1, e2⟩
            rw [T.get_upd] at e1
            by_cases a : k = z.nx
            · exact ⟨k, .buf c [], y, by rw [T.get_upd, if_pos a], e2⟩
            · rw [if_neg a, T.get_upd] at e1
              by_cases b : k = q
              · exact ⟨k, .cells us, y, by rw [b]; exact hm', e2⟩
              · rw [if_neg b] at e1; exact ⟨k, ct, y, by rw [T.get_upd, if_neg a]; exact e1, e2⟩
          · rintro ⟨k, ct, y, e1, e2⟩
            rw [T.get_upd] at e1
            by_cases a : k = z.nx
            · exact ⟨k, .buf c [], y, by rw [T.get_upd, if_pos a], e2⟩
            · rw [if_neg a] at e1
              by_cases b : k = q
              · exact ⟨k, .cells (us.set j (.o z.nx)), y, by rw [T.get_upd, if_neg a, T.get_upd, if_pos b], e2⟩
              · exact ⟨k, ct, y, by rw [T.get_upd, if_neg a, T.get_upd, if_neg b]; exact e1, e2⟩
        have own : ∀ id, ownOf o0 E ((z.m.upd q (some (.cells (us.set j (.o z.nx))))).upd z.nx (some (.buf c []))) id → ownOf o0 E (z.m.upd z.nx (some (.buf c []))) id := fun id ho => ho.imp (fun q => q) (nam id).1
        have hd : ∀ c' xs v, Dat Y (ownOf o0 E (z.m.upd z.nx (some (.buf c [])))) st c' xs v → Dat Y (ownOf o0 E ((z.m.upd q (some (.cells (us.set j (.o z.nx))))).upd z.nx (some (.buf c [])))) st c' xs v := fun c' xs v hd => Dat.keep (Nat.le_refl _) (fun _ _ _ => rfl) (fun id _ ho => own id ho) hd
        have hda : ∀ u v, DatA Y (ownOf o0 E (z.m.upd z.nx (some (.buf c [])))) st u v → DatA Y (ownOf o0 E ((z.m.upd q (some (.cells (us.set j (.o z.nx))))).upd z.nx (some (.buf c [])))) st u v := fun u v hd => DatA.keep (Nat.le_refl _) (fun _ _ _ => rfl) (fun id _ ho => own id ho) hd
        have any : ∀ k ct, ((z.m.upd q (some (.cells (us.set j (.o z.nx))))).upd z.nx (some (.buf c []))).get k = some ct → ∃ ct0, (z.m.upd z.nx (some (.buf c []))).get k = some ct0 ∧ (k ≠ q → ct0 = ct) ∧ (k = q → ct = .cells (us.set j (.o z.nx))) := by
          intro k ct e
          rw [T.get_upd] at e
          by_cases a : k = z.nx
          · rw [if_pos a] at e; exact ⟨.buf c [], by rw [T.get_upd, if_pos a], fun _ => Option.some.inj e, fun b => by omega⟩
          · rw [if_neg a, T.get_upd] at e
            by_cases b : k = q
            · rw [if_pos b] at e; exact ⟨.cells us, by rw [b]; exact hm', fun q' => absurd b q', fun _ => (Option.some.inj e).symm⟩
            · rw [if_neg b] at e; exact ⟨ct, by rw [T.get_upd, if_neg a]; exact e, fun _ => rfl, fun q' => absurd q' b⟩
        refine ⟨E, ⟨h1.len, h1.ro, ?_, ?_, h1.out, h1.glob, ?_, fun id hn => h1.dis id ((nam id).1 hn)⟩, ⟨h2.len, h2.same, h2.nx, h2.keep, fun id hn => h2.nam id ((nam id).1 hn), h2.ver⟩, fun t u hu => ?_⟩
        · intro k ct e
          obtain ⟨ct0, e0, _⟩ := any k ct e
          exact h1.lt k ct0 e0
        · intro k ct e
          obtain ⟨ct0, e0, e1, e2⟩ := any k ct e
          by_cases b : k = q
          · obtain rfl := e2 b
            subst b
            rw [hm'] at e0
            cases e0
            obtain ⟨id, y, b, vs, q1, q2, q3, q4, q5, q6, q7⟩ := h1.ent k _ hm'
            refine ⟨id, y, b, vs, q1, q2, q3, q4, by rw [List.length_set]; exact q5, ?_, fun i hi => q7 i (by rwa [List.length_set] at hi)⟩
            have q6' : RelL Y _ E us vs := q6
            refine RelL.of_get (by rw [List.length_set]; exact q6'.length) fun i u v hu hv => ?_
            by_cases c1 : i = j
            · subst c1
              have hi := (List.getElem?_eq_some_iff.1 hz).1
              rw [List.getElem?_set_self hi] at hu
              cases hu
              have same : E[k]? = E0[k]? := hE0 k hlt
              rw [q1, p1] at same
              cases same
              rw [q4] at p4
              cases p4
              rw [← q7 i hi, p7 i hi, w1] at hv
              cases hv
              exact ⟨none, h4, noRoom_atom h0⟩
            · rw [List.getElem?_set_ne (Ne.symm c1)] at hu
              obtain ⟨w, z1, z2⟩ := q6'.get hu
              rw [hv] at z1
              cases z1
              exact RelV.mono (fun _ _ e => e) hd u v z2
          · obtain rfl := e1 b
            have he := h1.ent k ct0 e0
            cases ct0 with
            | cells us' =>
              obtain ⟨id, y, b, vs, q1, q2, q3, q4, q5, q6, q7⟩ := he
              exact ⟨id, y, b, vs, q1, q2, q3, q4, q5, RelL.mono (fun _ _ e => e) hd us' vs q6, q7⟩
            | buf c' xs =>
              rcases he with he | ⟨id, cap, op, b, q1, q2, q3, q4, q5, q6, q7, q8, vs, q9, q10⟩
              · exact .inl he
              · exact .inr ⟨id, cap, op, b, q1, q2, q3, q4, q5, q6, q7, q8, vs, q9, fun i x hx j u v hu hv => hda u v (q10 i x hx j u v hu hv)⟩
            | row c' xs =>
              obtain ⟨id, b, q1, q2, q3, q4, q5, vs, q9, q10⟩ := he
              exact ⟨id, b, q1, q2, q3, q4, q5, vs, q9, fun i x hx j u v hu hv => hda u v (q10 i x hx j u v hu hv)⟩
        · intro k k' ct ct' id y y' e1 e2 e3 e4
          obtain ⟨a0, a1, _⟩ := any k ct e1
          obtain ⟨b0, b1, _⟩ := any k' ct' e2
          exact h1.inj k k' a0 b0 id y y' a1 b1 e3 e4
        · obtain ⟨v, z1, z2⟩ := h3 t u hu
          exact ⟨v, z1, RelV.mono (fun _ _ e => e) hd u v z2⟩
    · exact h
theorem fixes_ok {frV : T V} {st : St} : ∀ (l : List (Fix S)) {z : Z S}, Zat Y G o0 ro B z frV st → Zat Y G o0 ro B (fixes z l) frV st
  | [], _, h => h
  | f :: r, _, h => fixes_ok r (fix1_ok h f)

/-! ### A loop's state -/

def subs : List Nat → List Nat → Bool
  | [], _ => true
  | k :: r, ks => mem ks k && subs r ks
theorem subs_ok : ∀ {a ks : List Nat}, subs a ks = true → ∀ r, mem ks r = false → mem a r = false
  | [], _, _, _, _ => rfl
  | k :: a, ks, h, r, hr => by
    simp only [subs, Bool.and_eq_true] at h
    simp only [mem]
    cases e : Nat.beq k r with
    | true => rw [Nat.beq_eq] at e; subst e; rw [h.1] at hr; cases hr
    | false => exact subs_ok h.2 r hr

structure LS (Y : Sy S) (A H : Type) where
  fx : List (Fix S)
  fc : FC Y A
  hc : HC Y H
  nx : Nat
  ks : List Nat
def LS.put {A H : Type} (l : LS Y A H) (x : A × H) : Z S := ⟨l.fc.enc x.1, l.nx, l.hc.enc x.2, l.ks⟩
def LS.get {A H : Type} (l : LS Y A H) (z : Z S) (k : A × H → Prop) : Prop :=
  cond (Nat.ble l.nx (fixes z l.fx).nx && subs (fixes z l.fx).ks l.ks) (l.fc.dec (fixes z l.fx).fr fun a => l.hc.dec l.nx (fixes z l.fx).m fun h => cond (Tall (lowU l.nx) (l.fc.enc a) && Tall (lowCt l.nx) (l.hc.enc h)) (k (a, h)) False) False

theorem LS.ok {A H : Type} (l : LS Y A H) (hB : B.E.length ≤ l.nx) {z : Z S} {k : A × H → Prop} {frV : T V} {st : St} (h : l.get z k) (hz : Zat Y G o0 ro B z frV st) : ∃ x, k x ∧ Zat Y G o0 ro B (l.put x) frV st := by
  obtain ⟨E, hI, hS, hf⟩ := fixes_ok l.fx hz
  unfold LS.get at h
  generalize hz1 : fixes z l.fx = z1 at h hI hS hf
  cases hc : (Nat.ble l.nx z1.nx && subs z1.ks l.ks) with
  | false => rw [hc] at h; exact h.elim
  | true =>
    rw [hc] at h
    rw [Bool.and_eq_true, Nat.ble_eq] at hc
    obtain ⟨a, h1, h2⟩ := l.fc.ok h hf
    obtain ⟨b, h3, h4⟩ := l.hc.ok h1 hI.ent
    cases hl : (Tall (lowU l.nx) (l.fc.enc a) && Tall (lowCt l.nx) (l.hc.enc b)) with
    | false => rw [hl] at h3; exact h3.elim
    | true =>
      rw [hl] at h3
      rw [Bool.and_eq_true] at hl
      have tk : ∀ r, r < l.nx → (E.take l.nx)[r]? = E[r]? := fun r hr => take_get (by rw [Nat.blt_eq]; exact hr)
      have nam : ∀ id, named (E.take l.nx) (l.hc.enc b) id → named E z1.m id := by
        rintro id ⟨r, ct, y, e1, e2⟩
        obtain ⟨q1, ⟨ct0, q2⟩, _⟩ := h4 r ct e1
        rw [tk r q1] at e2
        exact ⟨r, ct0, y, q2, e2⟩
      have own : ∀ id, ownOf o0 (E.take l.nx) (l.hc.enc b) id → ownOf o0 E z1.m id := fun id ho => ho.imp (fun q => q) (nam id)
      have hd : ∀ c xs v, Dat Y (ownOf o0 E z1.m) st c xs v → Dat Y (ownOf o0 (E.take l.nx) (l.hc.enc b)) st c xs v := fun c xs v hd => Dat.keep (Nat.le_refl _) (fun _ _ _ => rfl) (fun id _ ho => own id ho) hd
      have hda : ∀ u v, DatA Y (ownOf o0 E z1.m) st u v → DatA Y (ownOf o0 (E.take l.nx) (l.hc.enc b)) st u v := fun u v hd => DatA.keep (Nat.le_refl _) (fun _ _ _ => rfl) (fun id _ ho => own id ho) hd
      have hlen : (E.take l.nx).length = l.nx := by rw [List.length_take, hI.len]; omega
      refine ⟨(a, b), h3, E.take l.nx, ⟨hlen, hI.ro, fun r ct e => (h4 r ct e).1, fun r ct e => ?_, hI.out, hI.glob, fun r r' ct ct' id y y' e1 e2 e3 e4 => ?_, fun id hn => hI.dis id (nam id hn)⟩, ⟨by show _ ≤ (E.take l.nx).length; rw [hlen]; exact hB, fun r hr hm => ?_, hS.nx, hS.keep, fun id hn => hS.nam id (nam id hn), hS.ver⟩, fun t u hu => ?_⟩
      · obtain ⟨q1, _, he⟩ := h4 r ct e
        have hlow := Tall_get hl.2 e
        cases ct with
        | cells us =>
          obtain ⟨id, y, b, vs, g1, g2, g3, g4, g5, g6, g7⟩ := he
          exact ⟨id, y, b, vs, (tk r q1).trans g1, g2, g3, g4, g5, RelL.mono (fun _ _ e => e) hd us vs (RelL.low us vs hlow g6), g7⟩
        | buf c xs =>
          rcases he with ⟨v0, g1, g2, g0⟩ | ⟨id, cap, op, b, g1, g2, g3, g4, g5, g6, g7, g8, vs, g9, g10⟩
          · exact .inl ⟨v0, (tk r q1).trans g1, g2, g0⟩
          · exact .inr ⟨id, cap, op, b, (tk r q1).trans g1, g2, g3, g4, g5, g6, g7, g8, vs, g9, fun i x hx j u v hu hv => hda u v (g10 i x hx j u v hu hv)⟩
        | row c xs =>
          obtain ⟨id, b, g1, g2, g3, g4, g5, vs, g9, g10⟩ := he
          exact ⟨id, b, (tk r q1).trans g1, g2, g3, g4, g5, vs, g9, fun i x hx j u v hu hv => hda u v (g10 i x hx j u v hu hv)⟩
      · obtain ⟨q1, ⟨c0, q2⟩, _⟩ := h4 r ct e1
        obtain ⟨p1, ⟨d0, p2⟩, _⟩ := h4 r' ct' e2
        rw [tk r q1] at e3
        rw [tk r' p1] at e4
        exact hI.inj r r' c0 d0 id y y' q2 p2 e3 e4
      · rw [tk r (Nat.lt_of_lt_of_le hr hB)]
        exact hS.same r hr (subs_ok hc.2 r hm)
      · obtain ⟨v, e1, e2⟩ := h2 t u hu
        exact ⟨v, e1, RelV.mono (fun _ _ e => e) hd u v (RelV.low u v (Tall_get hl.1 hu) e2)⟩

variable {P : Program} {ov : Ov} {nt : Nat}

/-- A LOOP: its rounds are those of a function on data. -/
theorem loop_sem {A H : Type} (l : LS Y A H) (hB : B.E.length ≤ l.nx) {b : Code} {K : Ex → Z S → Prop} {F : Nat → A × H → Prop} (h0 : ∀ x, F 0 x → False)
    (hs : ∀ n x, F (n + 1) x → Sem Y P G ov o0 ro nt B b (l.put x) (fun e z => match e with | .nrm => l.get z (fun x' => F n x') | .exit i => K (.exit i) z | .goto i => K (.goto i) z | .ret => K .ret z))
    {z : Z S} (h : l.get z (fun x => ∃ n, F n x)) : Sem Y P G ov o0 ro nt B (.loop b) z K := by
  intro frV st hz
  obtain ⟨x, ⟨n, hF⟩, hz1⟩ := l.ok hB h hz
  have key : ∀ (n : Nat) (x : A × H) (frV : T V) (st : St), F n x → Zat Y G o0 ro B (l.put x) frV st → ∃ e frV' st', (∃ M R, ∀ n, M ≤ n → ∀ r, R ≤ r → loopGo (evC P ov ro n nt b) r frV st = some (e, frV', st')) ∧ ∃ z', Zat Y G o0 ro B z' frV' st' ∧ K e z' := by
    intro n
    induction n with
    | zero => intro x frV st h; exact (h0 x h).elim
    | succ n ih =>
      intro x frV st h hz
      obtain ⟨e, frV1, st1, ⟨M, h1⟩, z1, hz1, hk⟩ := hs n x h frV st hz
      cases e with
      | nrm =>
        obtain ⟨x', h2, h3⟩ := l.ok hB hk hz1
        obtain ⟨e2, frV2, st2, ⟨M2, R2, h4⟩, h5⟩ := ih x' frV1 st1 h2 h3
        refine ⟨e2, frV2, st2, ⟨max M M2, R2 + 1, fun k hk r hr => ?_⟩, h5⟩
        obtain ⟨r', rfl⟩ := Nat.exists_eq_succ_of_ne_zero (show r ≠ 0 by omega)
        simp only [loopGo, h1 k (by omega)]
        exact h4 k (by omega) r' (by omega)
      | exit i => exact ⟨_, frV1, st1, ⟨M, 1, fun k hk r hr => by
          obtain ⟨r', rfl⟩ := Nat.exists_eq_succ_of_ne_zero (show r ≠ 0 by omega)
          simp only [loopGo, h1 k (by omega)]⟩, z1, hz1, hk⟩
      | goto i => exact ⟨_, frV1, st1, ⟨M, 1, fun k hk r hr => by
          obtain ⟨r', rfl⟩ := Nat.exists_eq_succ_of_ne_zero (show r ≠ 0 by omega)
          simp only [loopGo, h1 k (by omega)]⟩, z1, hz1, hk⟩
      | ret => exact ⟨_, frV1, st1, ⟨M, 1, fun k hk r hr => by
          obtain ⟨r', rfl⟩ := Nat.exists_eq_succ_of_ne_zero (show r ≠ 0 by omega)
          simp only [loopGo, h1 k (by omega)]⟩, z1, hz1, hk⟩
  obtain ⟨e, frV', st', ⟨M, R, h1⟩, h2⟩ := key n x frV st hF hz1
  refine ⟨e, frV', st', ⟨M + R + 1, fun n hn => ?_⟩, h2⟩
  obtain ⟨k, rfl⟩ := Nat.exists_eq_succ_of_ne_zero (show n ≠ 0 by omega)
  simp only [evC]
  exact h1 k (by omega) k (by omega)
/-- Behind a round: the next one, or a way out. -/
def rnd {A H : Type} (l : LS Y A H) (cz : (Ex → Z S → Prop) → Ex → Z S → Prop) (F : A × H → Prop) (K : Ex → Z S → Prop) (e : Ex) (z : Z S) : Prop := match e with
  | .nrm => l.get z F
  | .exit i => cz K (.exit i) z
  | .goto i => cz K (.goto i) z
  | .ret => cz K .ret z
/-- A LOOP, its ways out told by data, too. -/
theorem loop_sem3 {A H : Type} (l : LS Y A H) (hB : B.E.length ≤ l.nx) {b : Code} (cz : (Ex → Z S → Prop) → Ex → Z S → Prop) (hcz : ∀ K e z frV st, cz K e z → Zat Y G o0 ro B z frV st → ∃ z', Zat Y G o0 ro B z' frV st ∧ K e z')
    {F : Nat → A × H → (Ex → Z S → Prop) → Prop} (h0 : ∀ x K, F 0 x K → False)
    (hs : ∀ n x K, F (n + 1) x K → Sem Y P G ov o0 ro nt B b (l.put x) (rnd l cz (fun x' => F n x' K) K))
    {z : Z S} {K : Ex → Z S → Prop} (h : l.get z (fun x => ∃ n, F n x K)) : Sem Y P G ov o0 ro nt B (.loop b) z K := by
  have := loop_sem (K := fun e z => cz K e z) l hB (F := fun n x => F n x K) (fun x => h0 x K) (fun n x hF frV st hz => by
    obtain ⟨e, frV', st', h1, z', h2, h3⟩ := hs n x K hF frV st hz
    exact ⟨e, frV', st', h1, z', h2, by cases e <;> exact h3⟩) h
  intro frV st hz
  obtain ⟨e, frV', st', h1, z', h2, h3⟩ := this frV st hz
  obtain ⟨z2, h4, h5⟩ := hcz K e z' frV' st' h3 h2
  exact ⟨e, frV', st', h1, z2, h4, h5⟩

/-- Where a loop ends, told by data. -/
def czT {A1 H1 A2 H2 : Type} (i0 : Nat) (le : LS Y A1 H1) (lr : LS Y A2 H2) (K : Ex → Z S → Prop) (e : Ex) (z : Z S) : Prop := match e with
  | .exit i => cond (Nat.beq i i0) (le.get z fun y => K (.exit i) (le.put y)) False
  | .ret => lr.get z fun y => K .ret (lr.put y)
  | _ => False
theorem czT_ok {A1 H1 A2 H2 : Type} (i0 : Nat) (le : LS Y A1 H1) (lr : LS Y A2 H2) (h1 : B.E.length ≤ le.nx) (h2 : B.E.length ≤ lr.nx) (K : Ex → Z S → Prop) (e : Ex) (z : Z S) (frV : T V) (st : St) (h : czT i0 le lr K e z) (hz : Zat Y G o0 ro B z frV st) : ∃ z', Zat Y G o0 ro B z' frV st ∧ K e z' := by
  cases e with
  | exit i =>
    simp only [czT] at h
    cases hq : Nat.beq i i0 with
    | false => rw [hq] at h; exact h.elim
    | true => rw [hq, cond_true] at h; obtain ⟨x, q1, q2⟩ := le.ok h1 h hz; exact ⟨_, q2, q1⟩
  | ret =>
    simp only [czT] at h
    obtain ⟨x, q1, q2⟩ := lr.ok h2 h hz
    exact ⟨_, q2, q1⟩
  | nrm => exact h.elim
  | goto i => exact h.elim

def firstR : Code → Option Nat
  | .region i _ _ => some i
  | .seq a b => match firstR a with
    | some i => some i
    | none => firstR b
  | .cond _ a b => match firstR a with
    | some i => some i
    | none => firstR b
  | .block _ b => firstR b
  | .loop b => firstR b
  | .scope b => firstR b
  | _ => none
def tabL : List (Nat × (Z S → (Ex → Z S → Prop) → Prop)) → LoopT S
  | [], _, _, _ => False
  | (i, h) :: r, b, z, K => match firstR b with
    | some j => cond (Nat.beq j i) (h z K) (tabL r b z K)
    | none => False
def nthLoop (c : Code) (i : Nat) : Code := (loopsOf c).getD i .skip
def LpAll (Y : Sy S) (P : Program) (G : Gl) (ov : Ov) (ro : Nat) (L : LoopT S) (bn nt : Nat) (l : List Code) : Prop := ∀ (o0 : Nat → Prop) (B : Bs S), B.E.length ≤ bn → ∀ b ∈ l, ∀ z K, L b z K → Sem Y P G ov o0 ro nt B (.loop b) z K
theorem lp_nil {L : LoopT S} {bn : Nat} : LpAll Y P G ov ro L bn nt [] := fun _ _ _ b hb => by cases hb
theorem lp_cons {L : LoopT S} {bn : Nat} {b : Code} {r : List Code} (h : ∀ (o0 : Nat → Prop) (B : Bs S), B.E.length ≤ bn → ∀ z K, L b z K → Sem Y P G ov o0 ro nt B (.loop b) z K) (hr : LpAll Y P G ov ro L bn nt r) : LpAll Y P G ov ro L bn nt (b :: r) := by
  intro o0 B hB b' hb
  rcases List.mem_cons.1 hb with rfl | hb
  · exact h o0 B hB
  · exact hr o0 B hB b' hb
end
end Go.Sx
namespace Go.Sx
open Go.Vm

section
variable {S : Sg} (Y : Sy S) (P : Program) (G : Gl)

def frU : List (U S) → Nat → T (U S) → T (U S)
  | [], _, fr => fr
  | u :: r, i, fr => frU r (i + 1) (fr.upd i (some u))
def sRes (fr : T (U S)) (m : T (Ct S)) (r : ResultVar) (k : U S → Prop) : Prop := match r with
  | .tmp t => onO (fr.get t) k
  | .cell a t => onO (fr.get a) fun u => sLoad Y P G m t u k
def sResL (fr : T (U S)) (m : T (Ct S)) : List ResultVar → (List (U S) → Prop) → Prop
  | [], k => k []
  | r :: rs, k => sRes Y P G fr m r fun u => sResL fr m rs fun us => k (u :: us)
def oneU : List (U S) → U S
  | [u] => u
  | us => .t us

mutual
/-- What is handed back: data. -/
def expU (m : T (Ct S)) : U S → (U S → Prop) → Prop
  | .b x, k => k (.b x)
  | .kb x, k => k (.b x)
  | .i kd n, k => k (.i kd n)
  | .s l, k => k (.s l)
  | .pn, k => k .pn
  | .sn, k => k .sn
  | .fz, k => k .fz
  | .l c xs, k => k (.l c xs)
  | .e0 c, k => k (.l c [])
  | .o r, k => match m.get r with
    | some (.buf c xs) => k (.l c xs)
    | _ => False
  | .a us, k => expL m us fun us => k (.a us)
  | .t us, k => expL m us fun us => k (.t us)
  | _, _ => False
def expL (m : T (Ct S)) : List (U S) → (List (U S) → Prop) → Prop
  | [], k => k []
  | u :: us, k => expU m u fun u => expL m us fun us => k (u :: us)
end

def fin (rc : List (Option S.Cd)) (res : List ResultVar) (k : U S → Prop) (e : Ex) (z : Z S) : Prop := match e with
  | .nrm => sResL Y P G z.fr z.m res fun us => expL z.m us fun us => k (oneU (rnil rc us))
  | .ret => sResL Y P G z.fr z.m res fun us => expL z.m us fun us => k (oneU (rnil rc us))
  | _ => False
/-- A function of data. -/
def fnT (C : CallT S) (L : LoopT S) (nt : Nat) (c : Code) (rc : List (Option S.Cd)) (res : List ResultVar) (us : List (U S)) (k : U S → Prop) : Prop :=
  cond (Nat.ble us.length nt) (sC Y P G C L nt c ⟨frU us 0 .e, 0, .e, []⟩ (fin Y P G rc res k)) False

def finI (res : List ResultVar) (k : Kn S) (e : Ex) (z : Z S) : Prop := match e with
  | .nrm => sResL Y P G z.fr z.m res fun us => k (some (oneU us)) z.nx z.m z.ks [0]
  | .ret => sResL Y P G z.fr z.m res fun us => k (some (oneU us)) z.nx z.m z.ks [0]
  | _ => False
/-- A call that is followed in place. -/
def inl (C : CallT S) (L : LoopT S) (bn nt : Nat) (c : Code) (res : List ResultVar) : List (U S) → Nat → T (Ct S) → Kn S → Prop := fun us nx m k =>
  cond (Nat.ble us.length nt && Nat.ble nx bn) (sC Y P G C L nt c ⟨frU us 0 .e, nx, m, []⟩ (finI Y P G res k)) False

/-- Known truth values in a struct, as such. -/
def nb1 : U S → U S
  | .kb x => .b x
  | .e0 c => .l c []
  | u => u
def nb : U S → U S
  | .a cs => .a (cs.map nb1)
  | u => u
/-- A struct's cells, named buffers among them as data; and whether there are such. -/
def lendC (m : T (Ct S)) : List (U S) → Option (List (U S) × Bool)
  | [] => some ([], false)
  | u :: us => match u with
    | .o r => match m.get r with
      | some (.buf c xs) => match lendC m us with
        | some (us', _) => some (.l c xs :: us', true)
        | none => none
      | _ => none
    | u => cond (lowU 0 u) (match lendC m us with
      | some (us', b) => some (nb1 u :: us', b)
      | none => none) none
/-- What is handed over, as data; and whether a named buffer is lent. -/
def dataU (m : T (Ct S)) : List (U S) → (List (U S) → Bool → Prop) → Prop
  | [], k => k [] false
  | u :: us, k => match u with
    | .o r => match m.get r with
      | some (.buf c xs) => dataU m us fun us' _ => k (.l c xs :: us') true
      | _ => False
    | .vh r j => match m.get r with
      | some (.buf c xs) => dataU m us fun us' _ => k (.l c (xs.take j) :: us') true
      | _ => False
    | .vc c r n => match m.get r with
      | some (.cells vs) => cond (Nat.beq vs.length (n * Y.wid c)) (sRows Y c (Y.wid c) (nrmr (Y.lk c) (Y.wid c) n vs) (fun xs => dataU m us fun us' _ => k (.l c xs :: us') true) n) False
      | _ => False
    | .kb x => dataU m us fun us' b => k (.b x :: us') b
    | .e0 c => dataU m us fun us' b => k (.l c [] :: us') b
    | .a cs => match lendC m cs with
      | some (cs', b0) => dataU m us fun us' b => k (.a cs' :: us') (cond b0 true b)
      | none => False
    | u => cond (lowU 0 u) (dataU m us fun us' b => k (nb u :: us') b) False
def con (pc : List (Option S.Cd)) (pt : List (U S) → (U S → Prop) → Prop) : List (U S) → Nat → T (Ct S) → Kn S → Prop := fun us nx m k =>
  dataU Y m us fun us' b => pt (rnil pc us') fun u => match b with
    | false => k (some u) nx m [] []
    | true => cond (plainTU u) (k (some u) nx m [] []) False
/-- Nil in structs, where a slice is wanted. -/
def rnilA : List (List (Option S.Cd)) → List (U S) → List (U S)
  | s :: ss, .a cs :: us => .a (rnil s cs) :: rnilA ss us
  | _ :: ss, u :: us => u :: rnilA ss us
  | [], us => us
  | _ :: _, [] => []
def conA (sc : List (List (Option S.Cd))) (pc : List (Option S.Cd)) (pt : List (U S) → (U S → Prop) → Prop) : List (U S) → Nat → T (Ct S) → Kn S → Prop := fun us nx m k =>
  dataU Y m us fun us' b => pt (rnilA sc (rnil pc us')) fun u => match b with
    | false => k (some u) nx m [] []
    | true => cond (plainTU u) (k (some u) nx m [] []) False

/-- The calls that are known. -/
def tab : List (FuncId × (List (U S) → Nat → T (Ct S) → Kn S → Prop)) → CallT S
  | [], _, _, _, _, _ => False
  | (g, p) :: r, f, us, nx, m, k => cond (Nat.beq f g) (p us nx m k) (tab r f us nx m k)

variable (ov : Ov) (ro : Nat)

def GOK (G : Gl) (ro : Nat) (st : St) : Prop := ∀ g k l, G g = some (k, l) → g < ro ∧ ∃ b, st.hp.get g = some b ∧ ∀ j, j < l.length → b.get j = some (.i k (l.getD j 0))
structure Ext (st st' : St) : Prop where
  nx : st.nx ≤ st'.nx
  keep : ∀ id, id < st.nx → st'.hp.get id = st.hp.get id
  ver : ∀ j, j ≤ st.nx → j ≤ st.ver → j ≤ st'.ver

/-- A FUNCTION: what it does is told by its transformer. -/
def FnOK (f : FuncId) (pt : List (U S) → (U S → Prop) → Prop) : Prop :=
  ∀ (o0 : Nat → Prop) us k, pt us k → ∀ st vs, ro ≤ st.nx → GOK G ro st → (∀ id, o0 id → ro ≤ id ∧ id < st.nx) → RelL Y (Dat Y o0 st) [] us vs →
    ∃ v st', (∃ M, ∀ n, M ≤ n → evF P ov ro n f vs st = some (v, st')) ∧ ∃ u, RelV Y (Dat Y o0 st') [] u v ∧ Ext st st' ∧ k u
def EntOK (f : FuncId) (p : List (U S) → Nat → T (Ct S) → Kn S → Prop) : Prop :=
  ∀ (o0 : Nat → Prop) us nx m k, p us nx m k → ∀ E st vs, Inv Y G o0 ro E nx m st → RelL Y (Dat Y (ownOf o0 E m) st) E us vs → ∃ v st', (∃ M, ∀ n, M ≤ n → evF P ov ro n f vs st = some (v, st')) ∧ Done Y G o0 ro E m st k (some v) st'
def LpOK (L : LoopT S) (bn nt : Nat) (c : Code) : Prop := ∀ (o0 : Nat → Prop) (B : Bs S), B.E.length ≤ bn → ∀ b ∈ loopsOf c, ∀ z K, L b z K → Sem Y P G ov o0 ro nt B (.loop b) z K

variable {Y P G ov ro}

theorem tab_nil (o0 : Nat → Prop) : CalOK Y P G ov o0 ro (tab []) := fun _ _ _ _ _ h => h.elim
theorem tab_cons {g : FuncId} {p : List (U S) → Nat → T (Ct S) → Kn S → Prop} {r : List (FuncId × (List (U S) → Nat → T (Ct S) → Kn S → Prop))} (hp : EntOK Y P G ov ro g p) (hr : ∀ o0, CalOK Y P G ov o0 ro (tab r)) (o0 : Nat → Prop) : CalOK Y P G ov o0 ro (tab ((g, p) :: r)) := by
  intro f us nx m k h E st vs hI hv
  simp only [tab] at h
  cases hq : Nat.beq f g with
  | true => rw [hq] at h; rw [Nat.beq_eq] at hq; subst hq; exact hp o0 us nx m k h E st vs hI hv
  | false => rw [hq] at h; exact hr o0 f us nx m k h E st vs hI hv

theorem frU_rel {D : DD S} {E : En} : ∀ {us : List (U S)} {vs : List V} {i : Nat} {fr : T (U S)} {frV : T V}, RelL Y D E us vs → RelF Y D E fr frV → RelF Y D E (frU us i fr) (frameOf vs i frV)
  | [], vs, i, fr, frV, h, hf => by simp only [RelL] at h; subst h; exact hf
  | u :: us, vs, i, fr, frV, h, hf => by
    simp only [RelL] at h
    obtain ⟨v, r, rfl, h1, h2⟩ := h
    simp only [frU, frameOf, V.force_eq]
    exact frU_rel h2 (relF_upd hf h1)

theorem sRes_ok {o0 : Nat → Prop} {E : En} {nx : Nat} {m : T (Ct S)} {st : St} (hI : Inv Y G o0 ro E nx m st) {fr : T (U S)} {frV : T V} (hf : RelF Y (Dat Y (ownOf o0 E m) st) E fr frV) {r : ResultVar} {k : U S → Prop} (h : sRes Y P G fr m r k) :
    ∃ u v, resultOf P frV st r = some v ∧ RelV Y (Dat Y (ownOf o0 E m) st) E u v ∧ k u := by
  cases r with
  | tmp t =>
    obtain ⟨u, h1, h2⟩ := onO_ok h
    obtain ⟨v, h3, h4⟩ := hf t u h1
    exact ⟨u, v, h3, h4, h2⟩
  | cell a t =>
    obtain ⟨u, h1, h2⟩ := onO_ok h
    obtain ⟨v, h3, h4⟩ := hf a u h1
    obtain ⟨id, off, w, y, rfl, h5, h6, h7⟩ := sLoad_ok hI h2 h4
    exact ⟨w, y, by simp only [resultOf, h3]; exact h5, h6, h7⟩
theorem sResL_ok {o0 : Nat → Prop} {E : En} {nx : Nat} {m : T (Ct S)} {st : St} (hI : Inv Y G o0 ro E nx m st) {fr : T (U S)} {frV : T V} (hf : RelF Y (Dat Y (ownOf o0 E m) st) E fr frV) : ∀ {rs : List ResultVar} {k : List (U S) → Prop}, sResL Y P G fr m rs k →
    ∃ us vs, resultsOf P frV st rs = some vs ∧ RelL Y (Dat Y (ownOf o0 E m) st) E us vs ∧ k us
  | [], k, h => ⟨[], [], rfl, rfl, h⟩
  | r :: rs, k, h => by
    obtain ⟨u, v, h1, h2, h3⟩ := sRes_ok hI hf h
    obtain ⟨us, vs, h4, h5, h6⟩ := sResL_ok hI hf h3
    exact ⟨u :: us, v :: vs, by simp only [resultsOf, h1, h4], ⟨v, vs, rfl, h2, h5⟩, h6⟩
theorem oneU_rel {D : DD S} {E : En} {us : List (U S)} {vs : List V} (h : RelL Y D E us vs) : RelV Y D E (oneU us) (oneOf vs) := by
  cases us with
  | nil => simp only [RelL] at h; subst h; exact ⟨[], rfl, rfl⟩
  | cons u us =>
    have h' := h
    simp only [RelL] at h
    obtain ⟨v, r, rfl, h1, h2⟩ := h
    cases us with
    | nil => simp only [RelL] at h2; subst h2; exact h1
    | cons w us =>
      have h3 := h2
      simp only [RelL] at h2
      obtain ⟨x, r', rfl, h4, h5⟩ := h2
      exact ⟨_, rfl, h'⟩

/-- A named buffer, as data. -/
theorem buf_data {o0 own : Nat → Prop} {E : En} {nx : Nat} {m : T (Ct S)} {st : St} (hI : Inv Y G o0 ro E nx m st) {r : Nat} {c : S.Cd} {xs : List (S.Den c)} {v : V} (hr : m.get r = some (.buf c xs)) (hv : RelV Y (Dat Y (ownOf o0 E m) st) E (.o r) v) (h1 : ∀ id, own id → ownOf o0 E m id) (h2 : ∀ id y, E[r]? = some (some id, y) → ¬ own id) :
    Dat Y own st c xs v := by
  simp only [RelV] at hv
  obtain ⟨x, e1, _⟩ := hv
  rcases hI.ent r _ hr with ⟨v0, q1, q2, q0⟩ | ⟨id, cap, op, b, q1, q2, q3, q4, q5, q6, q7, q8, vs, q9, q10⟩
  · rw [e1] at q1; cases q1; subst q2; exact noRoom_dat q0
  · have e1' := e1
    rw [e1] at q1
    cases q1
    exact .mk vs (h2 id _ e1') q3 q4 (fun i x hx => by rw [Nat.zero_add]; exact q9 i x hx) (fun i x hx j u v hu hv => DatA.keep (Nat.le_refl _) (fun _ _ _ => rfl) (fun id _ ho => h1 id ho) (q10 i x hx j u v hu hv)) q5

/-- The first elements of a named buffer, as data. -/
theorem bufh_data {o0 : Nat → Prop} {E : En} {nx : Nat} {m : T (Ct S)} {st : St} (hI : Inv Y G o0 ro E nx m st) {r j : Nat} {c : S.Cd} {xs : List (S.Den c)} {v : V} (hr : m.get r = some (.buf c xs)) (hv : RelV Y (Dat Y (ownOf o0 E m) st) E (.vh r j) v) :
    Dat Y (fun _ => False) st c (xs.take j) v := by
  simp only [RelV] at hv
  obtain ⟨x, y, e1, hv⟩ := hv
  rcases hI.ent r _ hr with ⟨v0, q1, q2, q0⟩ | ⟨id, cap, op, b, q1, q2, q3, q4, q5, q6, q7, q8, vs, q9, q10⟩
  · rw [e1] at q1
    cases q1
    subst q2
    obtain ⟨_, rfl, rfl⟩ | ⟨_, _, _, _, q, _⟩ := hv
    · exact noRoom_dat q0
    · rw [q] at q0; cases q0
  · rw [e1] at q1
    cases q1
    obtain ⟨q, _⟩ | ⟨_, _, _, _, q, hj, rfl⟩ := hv
    · cases q
    cases q
    have hl : (xs.take j).length = j := by rw [List.length_take]; omega
    have hg : ∀ (i : Nat) x, (xs.take j)[i]? = some x → xs[i]? = some x := fun i x hx => by
      rw [List.getElem?_take] at hx
      split at hx
      · exact hx
      · cases hx
    have := Dat.mk (Y := Y) (own := fun _ => False) (st := st) (c := c) (xs := xs.take j) (off := 0) (cap := cap) (op := op) (b := b) vs (fun q => q) q3 q4 (fun i x hx => by rw [Nat.zero_add]; exact q9 i x (hg i x hx)) (fun i x hx j u v hu hv => DatA.keep (Nat.le_refl _) (fun _ _ _ => rfl) (fun id _ ho => ho.elim) (q10 i x (hg i x hx) j u v hu hv)) (by omega)
    rw [hl] at this
    exact this

/-- A named array, as data. -/
theorem cells_data {o0 : Nat → Prop} {E : En} {nx : Nat} {m : T (Ct S)} {st : St} (hI : Inv Y G o0 ro E nx m st) {r n : Nat} {c : S.Cd} {us : List (U S)} {xs : List (S.Den c)} {v : V} (hr : m.get r = some (.cells us)) (hv : RelV Y (Dat Y (ownOf o0 E m) st) E (.vc c r n) v) (hn : xs.length = n)
    (hx : ∀ (i : Nat) x, xs[i]? = some x → ∀ (j : Nat) u, (Y.cells c x)[j]? = some u → (nrmr (Y.lk c) (Y.wid c) n us)[i * Y.wid c + j]? = some u) : Dat Y (fun _ => False) st c xs v := by
  simp only [RelV] at hv
  obtain ⟨id, y, e1, rfl⟩ := hv
  subst hn
  obtain ⟨id', y', b, vs, q1, q2, q3, q4, q5, q6, q7⟩ := hI.ent r _ hr
  rw [e1] at q1
  cases q1
  have h5 := nrmr_rel (lk := Y.lk c) (n := Y.wid c) (j := xs.length) q6
  have hcel : Cel Y c xs b.get (DatA Y (fun _ => False) st) := by
    intro i x hi j u hu
    obtain ⟨w, z1, z2⟩ := h5.get (hx i x hi j u hu)
    have hlt : i * Y.wid c + j < us.length := by
      have := (List.getElem?_eq_some_iff.1 (hx i x hi j u hu)).1
      rwa [nrmr_len] at this
    exact ⟨w, by rw [q7 _ hlt]; exact z1, DatA.keep (Nat.le_refl _) (fun _ _ _ => rfl) (fun id _ ho => ho.elim) (DatA.of_rel (Y.flat c x u (List.mem_of_getElem? hu)) z2)⟩
  obtain ⟨ws, r1, r2⟩ := rows_of_cel (off := 0) (b := b) (DA := DatA Y (fun _ => False) st) (by simpa only [Nat.zero_add] using hcel)
  exact .mk ws (fun q => q) q3 q4 r1 r2 (Nat.le_refl _)

section
variable {o0 : Nat → Prop} {E : En} {nx : Nat} {m : T (Ct S)} {st : St}
mutual
theorem expU_ok (hI : Inv Y G o0 ro E nx m st) (hn : ∀ id, named E m id → ¬ o0 id) : (u : U S) → (v : V) → (k : U S → Prop) → expU m u k → RelV Y (Dat Y (ownOf o0 E m) st) E u v → ∃ w, RelV Y (Dat Y o0 st) [] w v ∧ k w
  | .b x, v, k, h, hr => ⟨.b x, hr, h⟩
  | .kb x, v, k, h, hr => ⟨.b x, hr, h⟩
  | .i kd n, v, k, h, hr => ⟨.i kd n, hr, h⟩
  | .s l, v, k, h, hr => ⟨.s l, hr, h⟩
  | .pn, v, k, h, hr => ⟨.pn, hr, h⟩
  | .sn, v, k, h, hr => ⟨.sn, hr, h⟩
  | .fz, v, k, h, hr => ⟨.fz, hr, h⟩
  | .e0 c, v, k, h, hr => ⟨.l c [], noRoom_dat hr, h⟩
  | .l c xs, v, k, h, hr => ⟨.l c xs, Dat.keep (Nat.le_refl _) (fun _ _ _ => rfl) (fun id _ ho => .inl ho) hr, h⟩
  | .o r, v, k, h, hr => by
    simp only [expU] at h
    split at h
    · rename_i c xs hm
      exact ⟨.l c xs, buf_data hI hm hr (fun id ho => .inl ho) (fun id y e => hn id ⟨r, _, y, hm, e⟩), h⟩
    · exact h.elim
  | .a us, v, k, h, hr => by
    obtain ⟨vs, rfl, hr⟩ := hr
    obtain ⟨ws, h1, h2⟩ := expL_ok hI hn us vs _ h hr
    exact ⟨.a ws, ⟨vs, rfl, h1⟩, h2⟩
  | .t us, v, k, h, hr => by
    obtain ⟨vs, rfl, hr⟩ := hr
    obtain ⟨ws, h1, h2⟩ := expL_ok hI hn us vs _ h hr
    exact ⟨.t ws, ⟨vs, rfl, h1⟩, h2⟩
  | .nz, v, k, h, hr => by simp [expU] at h
  | .dead, v, k, h, hr => by simp [expU] at h
  | .p _ _, v, k, h, hr => by simp [expU] at h
  | .g _ _, v, k, h, hr => by simp [expU] at h
  | .pe _ _ _ _, v, k, h, hr => by simp [expU] at h
  | .pd _ _ _ _, v, k, h, hr => by simp [expU] at h
  | .f _ _, v, k, h, hr => by simp [expU] at h
theorem expL_ok (hI : Inv Y G o0 ro E nx m st) (hn : ∀ id, named E m id → ¬ o0 id) : (us : List (U S)) → (vs : List V) → (k : List (U S) → Prop) → expL m us k → RelL Y (Dat Y (ownOf o0 E m) st) E us vs → ∃ ws, RelL Y (Dat Y o0 st) [] ws vs ∧ k ws
  | [], vs, k, h, hr => ⟨[], hr, h⟩
  | u :: us, vs, k, h, hr => by
    obtain ⟨v, r, rfl, h1, h2⟩ := hr
    simp only [expL] at h
    obtain ⟨w, h3, h4⟩ := expU_ok hI hn u v _ h h1
    obtain ⟨ws, h5, h6⟩ := expL_ok hI hn us r _ h4 h2
    exact ⟨w :: ws, ⟨v, r, rfl, h3, h5⟩, h6⟩
end
end

theorem call_of {f : FuncId} {fn : Func} {c : Code} {nt : Nat} {res : List ResultVar} {vs : List V} {st : St} {e : Ex} {frV' : T V} {st' : St} {ws : List V} (hov : ov f vs st = none) (hf : P.funcs[f]? = some fn) (hb : fn.body = some c) (hnt : fn.ntmps = nt) (hres : fn.results.toList = res) (hl : vs.length ≤ nt)
    (he : e = .nrm ∨ e = .ret) (h : ∃ M, ∀ n, M ≤ n → evC P ov ro n nt c (frameOf vs 0 .e) st = some (e, frV', st')) (hr : resultsOf P frV' st' res = some ws) : ∃ M, ∀ n, M ≤ n → evF P ov ro n f vs st = some (oneOf ws, st') := by
  obtain ⟨M, h⟩ := h
  subst hnt hres
  refine ⟨M, fun n hn => ?_⟩
  have hl' : Nat.ble vs.length fn.ntmps = true := by rw [Nat.ble_eq]; exact hl
  unfold evF callGo
  rcases he with rfl | rfl <;> simp only [hov, hf, hb, hl', cond_true, h n hn, hr]

theorem fn_ok {rc : List (Option S.Cd)} {f : FuncId} {fn : Func} {c : Code} {nt : Nat} {res : List ResultVar} {C : CallT S} {L : LoopT S} (hov : ∀ vs st, ov f vs st = none) (hf : P.funcs[f]? = some fn) (hb : fn.body = some c) (hnt : fn.ntmps = nt) (hres : fn.results.toList = res)
    (hC : ∀ o0, CalOK Y P G ov o0 ro C) (hL : LpOK Y P G ov ro L 0 nt c) : FnOK Y P G ov ro f (fnT Y P G C L nt c rc res) := by
  intro o0 us k h st vs h1 h2 h3 h4
  unfold fnT at h
  cases hl : Nat.ble us.length nt with
  | false => rw [hl] at h; exact h.elim
  | true =>
    rw [hl] at h
    rw [Nat.ble_eq] at hl
    have hown : ∀ id, ownOf o0 [] (T.e : T (Ct S)) id → o0 id := fun id ho => ho.elim (fun q => q) (fun ⟨r, ct, y, e, _⟩ => by rw [T.get_e] at e; cases e)
    have hI : Inv Y G o0 ro [] 0 (T.e : T (Ct S)) st := ⟨rfl, h1, fun r ct e => (by rw [T.get_e] at e; cases e), fun r ct e => (by rw [T.get_e] at e; cases e), h3, h2, fun r r' ct ct' id y y' e => (by rw [T.get_e] at e; cases e), fun id ⟨r, ct, y, e, _⟩ => (by rw [T.get_e] at e; cases e)⟩
    have hz : Zat Y G o0 ro ⟨[], .e, st⟩ (⟨frU us 0 .e, 0, .e, []⟩ : Z S) (frameOf vs 0 .e) st :=
      ⟨[], hI, (Step.refl o0 [] _ st).anyW, frU_rel (RelL.mono (fun _ _ e => e) (fun c xs v hd => Dat.keep (Nat.le_refl _) (fun _ _ _ => rfl) (fun id _ ho => hown id ho) hd) us vs h4) (fun t u hu => by rw [T.get_e] at hu; cases hu)⟩
    obtain ⟨e, frV', st', hev, z', ⟨E, hI', hS', hf'⟩, hk⟩ := sC_ok (hC o0) c (hL o0 ⟨[], .e, st⟩ (Nat.le_refl _)) _ _ h _ st hz
    have hnam : ∀ id, named E z'.m id → ¬ o0 id := fun id hn ho => by
      rcases hS'.nam id hn with ⟨r, ct, y, e, _⟩ | q
      · rw [T.get_e] at e; cases e
      · have := (h3 id ho).2; exact absurd this (Nat.not_lt.2 q)
    have fin' : (sResL Y P G z'.fr z'.m res fun us => expL z'.m us fun us => k (oneU (rnil rc us))) → (e = .nrm ∨ e = .ret) → ∃ v st', (∃ M, ∀ n, M ≤ n → evF P ov ro n f vs st = some (v, st')) ∧ ∃ u, RelV Y (Dat Y o0 st') [] u v ∧ Ext st st' ∧ k u := by
      intro hk he
      obtain ⟨us', ws, g1, g2, g3⟩ := sResL_ok hI' hf' hk
      obtain ⟨xs, g4, g5⟩ := expL_ok hI' hnam us' ws _ g3 g2
      exact ⟨oneOf ws, st', call_of (hov vs _) hf hb hnt hres (by rw [h4.length]; exact hl) he hev g1, oneU (rnil rc xs), oneU_rel (rnil_rel g4), ⟨hS'.nx, fun id hid => hS'.keep id hid (fun ⟨r, ct, y, e, _⟩ => by rw [T.get_e] at e; cases e), fun j j1 j2 => hS'.ver j j1 j2 (.inr fun id ⟨r, ct, y, e, _⟩ => (by rw [T.get_e] at e; cases e))⟩, g5⟩
    unfold fin at hk
    cases e with
    | nrm => exact fin' hk (.inl rfl)
    | ret => exact fin' hk (.inr rfl)
    | exit i => exact hk.elim
    | goto i => exact hk.elim

theorem inl_ok {f : FuncId} {fn : Func} {c : Code} {nt bn : Nat} {res : List ResultVar} {C : CallT S} {L : LoopT S} (hov : ∀ vs st, ov f vs st = none) (hf : P.funcs[f]? = some fn) (hb : fn.body = some c) (hnt : fn.ntmps = nt) (hres : fn.results.toList = res)
    (hC : ∀ o0, CalOK Y P G ov o0 ro C) (hL : LpOK Y P G ov ro L bn nt c) : EntOK Y P G ov ro f (inl Y P G C L bn nt c res) := by
  intro o0 us nx m k h E st vs hI hr
  unfold inl at h
  cases hl : (Nat.ble us.length nt && Nat.ble nx bn) with
  | false => rw [hl] at h; exact h.elim
  | true =>
    rw [hl] at h
    rw [Bool.and_eq_true, Nat.ble_eq, Nat.ble_eq] at hl
    have hz : Zat Y G o0 ro ⟨E, m, st⟩ (⟨frU us 0 .e, nx, m, []⟩ : Z S) (frameOf vs 0 .e) st :=
      ⟨E, hI, (Step.refl o0 E m st).anyW, frU_rel hr (fun t u hu => by rw [T.get_e] at hu; cases hu)⟩
    obtain ⟨e, frV', st', hev, z', ⟨E', hI', hS', hf'⟩, hk⟩ := sC_ok (hC o0) c (hL o0 ⟨E, m, st⟩ (by rw [hI.len]; exact hl.2)) _ _ h _ st hz
    have fin' : (sResL Y P G z'.fr z'.m res fun us => k (some (oneU us)) z'.nx z'.m z'.ks [0]) → (e = .nrm ∨ e = .ret) → ∃ v st', (∃ M, ∀ n, M ≤ n → evF P ov ro n f vs st = some (v, st')) ∧ Done Y G o0 ro E m st k (some v) st' := by
      intro hk he
      obtain ⟨us', ws, g1, g2, g3⟩ := sResL_ok hI' hf' hk
      exact ⟨oneOf ws, st', call_of (hov vs _) hf hb hnt hres (by rw [hr.length]; exact hl.1) he hev g1, some (oneU us'), z'.nx, z'.m, z'.ks, [0], E', hI', hS', oneU_rel g2, g3⟩
    unfold finI at hk
    cases e with
    | nrm => exact fin' hk (.inl rfl)
    | ret => exact fin' hk (.inr rfl)
    | exit i => exact hk.elim
    | goto i => exact hk.elim

theorem nb1_rel {own : Nat → Prop} {st : St} {E : En} {u : U S} {v : V} (h : RelV Y (Dat Y own st) E u v) : RelV Y (Dat Y own st) E (nb1 u) v := by
  cases u <;> first | exact h | exact noRoom_dat h | (simp only [nb1, RelV] at h ⊢; exact h)
theorem nb1_rels {own : Nat → Prop} {st : St} {E : En} : ∀ {us : List (U S)} {vs : List V}, RelL Y (Dat Y own st) E us vs → RelL Y (Dat Y own st) E (us.map nb1) vs
  | [], _, h => h
  | u :: us, _, h => by
    obtain ⟨v, r, rfl, h1, h2⟩ := h
    exact ⟨v, r, rfl, nb1_rel h1, nb1_rels h2⟩
theorem nb_rel {own : Nat → Prop} {st : St} {E : En} {u : U S} {v : V} (h : RelV Y (Dat Y own st) E u v) : RelV Y (Dat Y own st) E (nb u) v := by
  cases u <;> first
    | exact h
    | (simp only [nb, RelV] at h ⊢; obtain ⟨vs, e, h2⟩ := h; exact ⟨vs, e, nb1_rels h2⟩)

theorem lendC_ok {o0 : Nat → Prop} {E : En} {nx : Nat} {m : T (Ct S)} {st : St} (hI : Inv Y G o0 ro E nx m st) : ∀ {us : List (U S)} {vs : List V} {us' : List (U S)} {b : Bool}, lendC m us = some (us', b) → RelL Y (Dat Y (ownOf o0 E m) st) E us vs →
    RelL Y (Dat Y (fun _ => False) st) [] us' vs ∧ (b = false → RelL Y (Dat Y (ownOf o0 E m) st) [] us' vs)
  | [], vs, us', b, h, hr => by
    simp only [lendC] at h
    obtain ⟨rfl, rfl⟩ := Prod.mk.inj (Option.some.inj h)
    exact ⟨hr, fun _ => hr⟩
  | u :: us, vs, us', b, h, hr => by
    obtain ⟨v, r, rfl, h1, h2⟩ := hr
    simp only [lendC] at h
    split at h
    · rename_i r0
      split at h
      · rename_i c xs hm
        split at h
        · rename_i us2 b2 hl
          obtain ⟨rfl, rfl⟩ := Prod.mk.inj (Option.some.inj h)
          exact ⟨⟨v, r, rfl, buf_data hI hm h1 (fun _ q => q.elim) (fun _ _ _ q => q), (lendC_ok hI hl h2).1⟩, fun q => by cases q⟩
        · cases h
      · cases h
    · cases hq : lowU 0 u with
      | false => rw [hq] at h; cases h
      | true =>
        rw [hq, cond_true] at h
        split at h
        · rename_i us2 b2 hl
          obtain ⟨rfl, rfl⟩ := Prod.mk.inj (Option.some.inj h)
          have hlow := RelV.low (n := 0) u v hq h1
          rw [List.take_zero] at hlow
          obtain ⟨g2, g3⟩ := lendC_ok hI hl h2
          exact ⟨⟨v, r, rfl, nb1_rel (RelV.mono (fun _ _ e => e) (fun c xs v hd => Dat.keep (Nat.le_refl _) (fun _ _ _ => rfl) (fun _ _ q => q.elim) hd) u v hlow), g2⟩, fun q => ⟨v, r, rfl, nb1_rel hlow, g3 q⟩⟩
        · cases h

theorem dataU_ok {o0 : Nat → Prop} {E : En} {nx : Nat} {m : T (Ct S)} {st : St} (hI : Inv Y G o0 ro E nx m st) : ∀ {us : List (U S)} {vs : List V} {k : List (U S) → Bool → Prop}, dataU Y m us k → RelL Y (Dat Y (ownOf o0 E m) st) E us vs →
    ∃ us' b, k us' b ∧ RelL Y (Dat Y (fun _ => False) st) [] us' vs ∧ (b = false → RelL Y (Dat Y (ownOf o0 E m) st) [] us' vs)
  | [], vs, k, h, hr => ⟨[], false, h, hr, fun _ => hr⟩
  | u :: us, vs, k, h, hr => by
    obtain ⟨v, r, rfl, h1, h2⟩ := hr
    simp only [dataU] at h
    split at h
    · rename_i r0
      split at h
      · rename_i c xs hm
        obtain ⟨us', b, g1, g2, _⟩ := dataU_ok hI h h2
        exact ⟨.l c xs :: us', true, g1, ⟨v, r, rfl, buf_data hI hm h1 (fun _ q => q.elim) (fun _ _ _ q => q), g2⟩, fun q => by cases q⟩
      · exact h.elim
    · rename_i r0 j
      split at h
      · rename_i c xs hm
        obtain ⟨us', b, g1, g2, _⟩ := dataU_ok hI h h2
        exact ⟨.l c (xs.take j) :: us', true, g1, ⟨v, r, rfl, bufh_data hI hm h1, g2⟩, fun q => by cases q⟩
      · exact h.elim
    · rename_i c r0 n
      split at h
      · rename_i xs0 hm
        cases hc : Nat.beq xs0.length (n * Y.wid c) with
        | false => rw [hc] at h; exact h.elim
        | true =>
          rw [hc, cond_true] at h
          rw [Nat.beq_eq] at hc
          obtain ⟨xs, g0, g4, g5⟩ := sRows_ok h (by rw [nrmr_len, hc])
          obtain ⟨us', b, g1, g2, _⟩ := dataU_ok hI g4 h2
          exact ⟨.l c xs :: us', true, g1, ⟨v, r, rfl, cells_data hI hm h1 g0 g5, g2⟩, fun q => by cases q⟩
      · exact h.elim
    · rename_i x
      obtain ⟨us', b, g1, g2, g3⟩ := dataU_ok hI h h2
      exact ⟨.b x :: us', b, g1, ⟨v, r, rfl, h1, g2⟩, fun q => ⟨v, r, rfl, h1, g3 q⟩⟩
    · rename_i c
      obtain ⟨us', b, g1, g2, g3⟩ := dataU_ok hI h h2
      exact ⟨.l c [] :: us', b, g1, ⟨v, r, rfl, noRoom_dat h1, g2⟩, fun q => ⟨v, r, rfl, noRoom_dat h1, g3 q⟩⟩
    · rename_i cs
      split at h
      · rename_i cs' b0 hl
        obtain ⟨us', b, g1, g2, g3⟩ := dataU_ok hI h h2
        obtain ⟨ws, rfl, h4⟩ := h1
        obtain ⟨p1, p2⟩ := lendC_ok hI hl h4
        refine ⟨.a cs' :: us', cond b0 true b, g1, ⟨_, r, rfl, ⟨ws, rfl, p1⟩, g2⟩, fun q => ?_⟩
        cases b0 with
        | true => cases q
        | false => exact ⟨_, r, rfl, ⟨ws, rfl, p2 rfl⟩, g3 q⟩
      · exact h.elim
    · cases hq : lowU 0 u with
      | false => rw [hq] at h; exact h.elim
      | true =>
        rw [hq] at h
        obtain ⟨us', b, g1, g2, g3⟩ := dataU_ok hI h h2
        have hlow := RelV.low (n := 0) u v hq h1
        rw [List.take_zero] at hlow
        exact ⟨nb u :: us', b, g1, ⟨v, r, rfl, nb_rel (RelV.mono (fun _ _ e => e) (fun c xs v hd => Dat.keep (Nat.le_refl _) (fun _ _ _ => rfl) (fun _ _ q => q.elim) hd) u v hlow), g2⟩, fun q => ⟨v, r, rfl, nb_rel hlow, g3 q⟩⟩

theorem con_ok {pc : List (Option S.Cd)} {f : FuncId} {pt : List (U S) → (U S → Prop) → Prop} (hp : FnOK Y P G ov ro f pt) : EntOK Y P G ov ro f (con Y pc pt) := by
  intro o0 us nx m k h E st vs hI hr
  obtain ⟨us', b, g1, g2, g3⟩ := dataU_ok hI h hr
  have stp : ∀ {st' : St}, Ext st st' → Step o0 E m st E m st' [] [] := fun hx => ⟨Nat.le_refl _, fun _ _ _ => rfl, hx.nx, fun id hid _ => hx.keep id hid, fun _ h => .inl h, fun j h1 h2 _ => hx.ver j h1 h2⟩
  have inv : ∀ {st' : St}, Ext st st' → Inv Y G o0 ro E nx m st' := fun {st'} hx => ⟨hI.len, Nat.le_trans hI.ro hx.nx, hI.lt, fun r ct e => by
    have := Ent.keep (stp hx) (hI.ent r ct e) rfl (fun id _ _ hid => hx.keep id hid)
    rwa [killCt_nil] at this, fun id ho => ⟨(hI.out id ho).1, Nat.lt_of_lt_of_le (hI.out id ho).2 hx.nx⟩, glob_keep hI (stp hx), hI.inj, hI.dis⟩
  cases b with
  | false =>
    obtain ⟨v, st', hev, u, q1, q2, q3⟩ := hp (ownOf o0 E m) (rnil pc us') _ g1 st vs hI.ro hI.glob (fun id ho => ho.elim (hI.out id) (fun ⟨r, ct, y, e1, e2⟩ => ent_id hI e1 e2)) (rnil_rel (g3 rfl))
    exact ⟨v, st', hev, some u, nx, m, [], [], E, inv q2, stp q2, RelV.mono (fun r x e => by simp at e) (fun _ _ _ hd => hd) u v q1, q3⟩
  | true =>
    obtain ⟨v, st', hev, u, q1, q2, q3⟩ := hp (fun _ => False) (rnil pc us') _ g1 st vs hI.ro hI.glob (fun _ q => q.elim) (rnil_rel g2)
    cases hpl : plainTU u with
    | false => dsimp only at q3; rw [hpl] at q3; exact q3.elim
    | true =>
      dsimp only at q3
      rw [hpl] at q3
      exact ⟨v, st', hev, some u, nx, m, [], [], E, inv q2, stp q2, (plainTU_ok hpl q1).2, q3⟩

theorem rnilA_rel {own : Nat → Prop} {st : St} {E : En} : ∀ {sc : List (List (Option S.Cd))} {us : List (U S)} {vs : List V}, RelL Y (Dat Y own st) E us vs → RelL Y (Dat Y own st) E (rnilA sc us) vs
  | [], us, vs, h => by cases us <;> exact h
  | o :: rc, [], vs, h => h
  | o :: rc, u :: us, vs, h => by
    obtain ⟨v, r, rfl, h1, h2⟩ := h
    have h3 := rnilA_rel (sc := rc) h2
    cases u <;> first
      | exact ⟨v, r, rfl, h1, h3⟩
      | (obtain ⟨ws, rfl, h4⟩ := h1; exact ⟨_, r, rfl, ⟨ws, rfl, rnil_rel h4⟩, h3⟩)
theorem conA_ok {sc : List (List (Option S.Cd))} {pc : List (Option S.Cd)} {f : FuncId} {pt : List (U S) → (U S → Prop) → Prop} (hp : FnOK Y P G ov ro f pt) : EntOK Y P G ov ro f (conA Y sc pc pt) := by
  intro o0 us nx m k h E st vs hI hr
  obtain ⟨us', b, g1, g2, g3⟩ := dataU_ok hI h hr
  have stp : ∀ {st' : St}, Ext st st' → Step o0 E m st E m st' [] [] := fun hx => ⟨Nat.le_refl _, fun _ _ _ => rfl, hx.nx, fun id hid _ => hx.keep id hid, fun _ h => .inl h, fun j h1 h2 _ => hx.ver j h1 h2⟩
  have inv : ∀ {st' : St}, Ext st st' → Inv Y G o0 ro E nx m st' := fun {st'} hx => ⟨hI.len, Nat.le_trans hI.ro hx.nx, hI.lt, fun r ct e => by
    have := Ent.keep (stp hx) (hI.ent r ct e) rfl (fun id _ _ hid => hx.keep id hid)
    rwa [killCt_nil] at this, fun id ho => ⟨(hI.out id ho).1, Nat.lt_of_lt_of_le (hI.out id ho).2 hx.nx⟩, glob_keep hI (stp hx), hI.inj, hI.dis⟩
  cases b with
  | false =>
    obtain ⟨v, st', hev, u, q1, q2, q3⟩ := hp (ownOf o0 E m) (rnilA sc (rnil pc us')) _ g1 st vs hI.ro hI.glob (fun id ho => ho.elim (hI.out id) (fun ⟨r, ct, y, e1, e2⟩ => ent_id hI e1 e2)) (rnilA_rel (rnil_rel (g3 rfl)))
    exact ⟨v, st', hev, some u, nx, m, [], [], E, inv q2, stp q2, RelV.mono (fun r x e => by simp at e) (fun _ _ _ hd => hd) u v q1, q3⟩
  | true =>
    obtain ⟨v, st', hev, u, q1, q2, q3⟩ := hp (fun _ => False) (rnilA sc (rnil pc us')) _ g1 st vs hI.ro hI.glob (fun _ q => q.elim) (rnilA_rel (rnil_rel g2))
    cases hpl : plainTU u with
    | false => dsimp only at q3; rw [hpl] at q3; exact q3.elim
    | true =>
      dsimp only at q3
      rw [hpl] at q3
      exact ⟨v, st', hev, some u, nx, m, [], [], E, inv q2, stp q2, (plainTU_ok hpl q1).2, q3⟩

theorem lp_of {L : LoopT S} {bn nt : Nat} {c : Code} {l : List Code} (hl : loopsOf c = l) (h : LpAll Y P G ov ro L bn nt l) : LpOK Y P G ov ro L bn nt c := by
  subst hl
  exact h
/-- One loop of a function, by its function on data. -/
theorem loop_ok {A H : Type} {L : LoopT S} {C : CallT S} {bn nt : Nat} {b : Code} (hC : ∀ o0, CalOK Y P G ov o0 ro C) (hin : LpAll Y P G ov ro L bn nt (loopsOf b)) (l : LS Y A H) (hl : bn ≤ l.nx) (cz : (Ex → Z S → Prop) → Ex → Z S → Prop)
    (hcz : ∀ (o0 : Nat → Prop) (B : Bs S), B.E.length ≤ bn → ∀ K e z frV st, cz K e z → Zat Y G o0 ro B z frV st → ∃ z', Zat Y G o0 ro B z' frV st ∧ K e z') {F : Nat → A × H → (Ex → Z S → Prop) → Prop} (h0 : ∀ x K, F 0 x K → False)
    (hs : ∀ n x K, forceZ (l.put x) (fun z => sC Y P G C L nt b z (rnd l cz (fun x' => F n x' K) K)) = F (n + 1) x K)
    (hL : ∀ z K, L b z K = l.get z (fun x => ∃ n, F n x K)) : ∀ (o0 : Nat → Prop) (B : Bs S), B.E.length ≤ bn → ∀ z K, L b z K → Sem Y P G ov o0 ro nt B (.loop b) z K :=
  fun o0 B hB _ _ h => loop_sem3 l (Nat.le_trans hB hl) cz (hcz o0 B hB) h0 (fun n x K hF => sC_ok (hC o0) b (hin o0 B hB) _ _ (by have := (hs n x K).mpr hF; rwa [forceZ_eq] at this)) ((hL _ _).mp h)

/-- A transformer that asks for more. -/
theorem FnOK.weak {f : FuncId} {pt pt' : List (U S) → (U S → Prop) → Prop} (hp : FnOK Y P G ov ro f pt) (h : ∀ us k, pt' us k → pt us k) : FnOK Y P G ov ro f pt' := fun o0 us k hk => hp o0 us k (h us k hk)
end
end Go.Sx
