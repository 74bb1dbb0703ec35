/-
  Quiet operations, those that read the memory among them. Nothing is claimed here.
-/
import Derived.Test.YtnfddmjbfkfnhaaGreatDoorSe
namespace Go.Sx
open Go.Vm

section
variable {S : Sg} (Y : Sy S) (P : Program) (G : Gl)

def sAt (t : TypeId) (us : List (U S)) (off : Nat) : Option (U S) := match P.info? t, P.underlying t with
  | some ti, some _ => cond (isAggB P t) (cond (Nat.ble (off + ti.size) us.length) (some (.a ((us.drop off).take ti.size))) none) (us[off]?)
  | _, _ => none
def isSliceB (t : TypeId) : Bool := match P.underlying t with
  | some (.slice _) => true
  | _ => false
/-- Data that is held against nil. -/
def sNl (op : BinOp) (n : Nat) (k : U S → Prop) : Prop := match op with
  | .eql => ∀ b : Bool, (n = 0 ∨ b = false) → k (.b b)
  | .neq => ∀ b : Bool, (n = 0 ∨ b = true) → k (.b b)
  | _ => False
def isIntB (t : TypeId) : Bool := match P.underlying t with
  | some (.int _) => true
  | _ => false

def sLen (m : T (Ct S)) (t : TypeId) (x : U S) (k : U S → Prop) : Prop := match P.underlying t, x with
  | some .string, .s l => k (.i .i64 (l.length : Int))
  | some (.slice _), .sn => k (.i .i64 0)
  | some (.slice _), .l _ xs => k (.i .i64 (xs.length : Int))
  | some (.slice _), .e0 _ => k (.i .i64 0)
  | some (.slice _), .o r => match m.get r with
    | some (.buf _ xs) => k (.i .i64 (xs.length : Int))
    | _ => False
  | some (.array n _), _ => k (.i .i64 (n : Int))
  | _, _ => False
def sIndexAddr (m : T (Ct S)) (t : TypeId) (x : U S) (i : Int) (k : U S → Prop) : Prop := match P.underlying t with
  | some (.slice e) => match sizeB P e with
    | some n => match x with
      | .l c xs => cond (Nat.beq n (Y.wid c)) ((0 ≤ i ∧ i < (xs.length : Int)) ∧ k (.pd c xs i.toNat 0)) False
      | .o r => match m.get r with
        | some (.buf c xs) => cond (Nat.beq n (Y.wid c)) ((0 ≤ i ∧ i < (xs.length : Int)) ∧ k (.pe r (Y.wid c) i.toNat 0)) False
        | _ => False
      | _ => False
    | none => False
  | some (.array len e) => match sizeB P e with
    | some n => match x with
      | .p r off => (0 ≤ i ∧ i < (len : Int)) ∧ k (.p r (off + i.toNat * n))
      | .g g off => (0 ≤ i ∧ i < (len : Int)) ∧ k (.g g (off + i.toNat * n))
      | .pe r w j off => (0 ≤ i ∧ i < (len : Int)) ∧ k (.pe r w j (off + i.toNat * n))
      | .pd c xs j off => (0 ≤ i ∧ i < (len : Int)) ∧ k (.pd c xs j (off + i.toNat * n))
      | _ => False
    | none => False
  | _ => False
def sFieldAddr (t : TypeId) (x : U S) (f : Nat) (k : U S → Prop) : Prop := match P.underlying t with
  | some (.struct fs) => match fs[f]? with
    | some fd => match sizeB P fd.type with
      | some n => cond (Nat.blt 0 n) (match x with
        | .p r off => k (.p r (off + fd.offset))
        | .g g off => k (.g g (off + fd.offset))
        | .pe r w i off => k (.pe r w i (off + fd.offset))
        | .pd c xs i off => k (.pd c xs i (off + fd.offset))
        | _ => False) False
      | none => False
    | none => False
  | _ => False
def sLoad (m : T (Ct S)) (t : TypeId) (x : U S) (k : U S → Prop) : Prop := match x with
  | .p r off => match m.get r with
    | some (.cells us) => onO (sAt P t us off) k
    | _ => False
  | .pe r w i off => match m.get r with
    | some (.buf c xs) => cond (Nat.beq w (Y.wid c)) (i < xs.length ∧ onO (sAt P t (Y.cells c (xs.getD i (Y.dflt c))) off) k) False
    | _ => False
  | .pd c xs i off => onO (sAt P t (Y.cells c (xs.getD i (Y.dflt c))) off) k
  | .g g off => match G g with
    | some (kd, l) => cond (isIntB P t) (off < l.length ∧ k (.i kd (l.getD off 0))) False
    | none => False
  | _ => False
def sNil (x : U S) (k : U S → Prop) : Prop := match x with
  | .p r off => k (.p r off)
  | .g r off => k (.g r off)
  | .pe r w i off => k (.pe r w i off)
  | .pd c xs i off => k (.pd c xs i off)
  | _ => False

/-- A number below a small one, told apart. -/
def sSplitL (i : Int) (k : Int → Prop) : Nat → Nat → Prop
  | 0, _ => True
  | n + 1, j => (i = Int.ofNat j → k (Int.ofNat j)) ∧ sSplitL i k n (j + 1)
def sSplit (t : TypeId) (o : Operand) (i : Int) (k : Int → Prop) : Prop := match o, P.underlying t with
  | .tmp _, some (.array n _) => cond (Nat.ble n 4) ((0 ≤ i ∧ i < (n : Int)) ∧ sSplitL i k n 0) (k i)
  | _, _ => k i
theorem sSplitL_ok {i : Int} {k : Int → Prop} : ∀ {n j : Nat}, sSplitL i k n j → (j : Int) ≤ i → i < (j + n : Nat) → k i
  | 0, j, _, h1, h2 => by omega
  | n + 1, j, h, h1, h2 => by
    by_cases e : i = Int.ofNat j
    · rw [e]; exact h.1 e
    · have e : i ≠ (j : Int) := e
      exact sSplitL_ok h.2 (by omega) (by omega)
theorem sSplit_ok {P : Program} {t : TypeId} {o : Operand} {i : Int} {k : Int → Prop} (h : sSplit P t o i k) : k i := by
  unfold sSplit at h
  split at h
  · rename_i n _ _
    cases hc : Nat.ble n 4 with
    | true => rw [hc] at h; exact sSplitL_ok h.2 (by have := h.1.1; omega) (by have := h.1.2; omega)
    | false => rw [hc] at h; exact h
  · exact h

/-- A part of a slice of data, or of a string. -/
def sSl (m : T (Ct S)) (t : TypeId) (x : U S) (lo hi : Option Int) (k : U S → Prop) : Prop := match x with
  | .o r => match P.underlying t with
    | some (.slice e) => match sizeB P e, m.get r, lo, hi with
      | some n, some (.buf c xs), some a, none => cond (Nat.beq n (Y.wid c)) ((0 ≤ a ∧ a ≤ (xs.length : Int)) ∧ k (.v r (Y.wid c) a.toNat)) False
      | some n, some (.buf c xs), none, some a => cond (Nat.beq n (Y.wid c)) ((0 ≤ a ∧ a ≤ (xs.length : Int)) ∧ k (.vh r a.toNat)) False
      | _, _, _, _ => False
    | _ => False
  | .l c xs => match P.underlying t with
    | some (.slice e) => match sizeB P e with
      | some n => cond (Nat.beq n (Y.wid c)) (match lo, hi with
        | none, none => k (.l c xs)
        | some a, none => (0 ≤ a ∧ a ≤ (xs.length : Int)) ∧ k (.l c (xs.drop a.toNat))
        | none, some b => (0 ≤ b ∧ b ≤ (xs.length : Int)) ∧ k (.l c (xs.take b.toNat))
        | some a, some b => (0 ≤ a ∧ a ≤ b ∧ b ≤ (xs.length : Int)) ∧ k (.l c ((xs.drop a.toNat).take (b.toNat - a.toNat)))) False
      | none => False
    | _ => False
  | .p r off => match P.underlying t, lo, hi with
    | some (.array n e), none, none => match sizeB P e, Y.code e with
      | some z, some c => cond (Nat.beq z (Y.wid c) && Nat.beq off 0) (k (.vc c r n)) False
      | _, _ => False
    | _, _, _ => False
  | x => sSlice P t x lo hi k
/-- A slice cut to nothing, without room: `x[:0:0]`. -/
def sSl3 (m : T (Ct S)) (t : TypeId) (x : U S) (lo hi : Option Int) (z : U S) (k : U S → Prop) : Prop := match P.underlying t, lo, hi, z with
  | some (.slice e), none, some b, .i _ q => match sizeB P e, Y.code e with
    | some _, some c => cond (decide (b = 0) && decide (q = 0)) (match x with
      | .l _ _ => k (.e0 c)
      | .e0 _ => k (.e0 c)
      | .sn => k (.e0 c)
      | .o r => match m.get r with
        | some (.buf _ _) => k (.e0 c)
        | _ => False
      | _ => False) False
    | _, _ => False
  | _, _, _, _ => False
/-- A quiet operation. -/
def sQ (fr : T (U S)) (m : T (Ct S)) (o : Op) (k : U S → Prop) : Prop := match o with
  | .move x => sOpd fr x k
  | .assign x => sOpd fr x k
  | .pick c a b => sOpd fr c fun u => match u with
    | .kb true => sOpd fr a k
    | .kb false => sOpd fr b k
    | .b x => (x = true → sOpd fr a k) ∧ (x = false → sOpd fr b k)
    | _ => False
  | .binOp op t x y _ => sOpd fr x fun u => sOpd fr y fun w => match u, w with
    | .l _ xs, .sn => cond (isSliceB P t) (sNl op xs.length k) False
    | u, w => sBin Y P op t u w k
  | .unOp op _ x => sOpd fr x fun u => sUn op u k
  | .field t x f => sOpd fr x fun u => sField P t u f k
  | .index t x i => sOpd fr x fun u => sOpd fr i fun w => match w with
    | .i _ n => sSplit P t i n fun n => sIndex P t u n k
    | _ => False
  | .indexAddr t x i => sOpd fr x fun u => sOpd fr i fun w => match w with
    | .i _ n => sSplit P t i n fun n => sIndexAddr Y P m t u n k
    | _ => False
  | .fieldAddr t x f => sOpd fr x fun u => sFieldAddr P t u f k
  | .load t x => sOpd fr x fun u => sLoad Y P G m t u k
  | .build t ps => sParts fr ps.toList fun us => sBuild P t us k
  | .slice t x lo hi mx => match mx with
    | none => sOpd fr x fun u => sOpt fr lo fun a => sOpt fr hi fun b => sSl Y P m t u a b k
    | some w => sOpd fr x fun u => sOpt fr lo fun a => sOpt fr hi fun b => sOpd fr w fun z => sSl3 Y P m t u a b z k
  | .nilCheck x => sOpd fr x fun u => sNil u k
  | .makeFunc fn first caps => match fn, first.toList with
    | .func f, [] => sOpds fr caps.toList fun us => k (.f f us)
    | _, _ => False
  | .extract x i => sOpd fr x fun u => match u with
    | .t us => onO us[i]? k
    | _ => False
  | .call c => match c.callee with
    | .builtin .len => match c.args.toList, c.argTypes.toList with
      | [x], [t] => sOpd fr x fun u => sLen P m t u k
      | _, _ => False
    | .builtin .min => sOpds fr c.args.toList fun us => match us with
      | u :: r => sMinL true u r k
      | [] => False
    | .builtin .max => sOpds fr c.args.toList fun us => match us with
      | u :: r => sMinL false u r k
      | [] => False
    | _ => False
  | _ => False

/-! ### They are so -/
variable {Y P G}
variable {ro : Nat} {o0 : Nat → Prop} {E : En} {nx : Nat} {m : T (Ct S)} {st : St} {fr : T (U S)} {frV : T V}

theorem sAt_ok {D : DD S} {t : TypeId} {us : List (U S)} {vs : List V} {off o id : Nat} {u : U S} {b : Blk} (h : sAt P t us off = some u) (hr : RelL Y D E us vs) (hb : st.hp.get id = some b) (hv : ∀ j, j < us.length → b.get (o + j) = vs[j]?) :
    ∃ v, vload P st t id (o + off) = some v ∧ RelV Y D E u v := by
  unfold sAt at h
  unfold vload
  cases h1 : P.info? t with
  | none => simp [h1] at h
  | some ti =>
    cases h2 : P.underlying t with
    | none => simp [h1, h2] at h
    | some d =>
      simp only [h1, h2, hb] at h ⊢
      cases hA : isAggB P t with
      | true =>
        rw [hA] at h
        simp only [cond_true] at h ⊢
        cases hl : Nat.ble (off + ti.size) us.length with
        | false => rw [hl] at h; cases h
        | true =>
          rw [hl] at h
          cases h
          rw [Nat.ble_eq] at hl
          have hlen : ((vs.drop off).take ti.size).length = ti.size := by rw [List.length_take, List.length_drop, hr.length]; omega
          have := Blk.row_ok (b := b) ((vs.drop off).take ti.size) (o + off) (fun j hj => by
            rw [hlen] at hj
            rw [Nat.add_assoc, hv (off + j) (by omega), List.getElem?_take, if_pos hj, List.getElem?_drop])
          rw [hlen] at this
          exact ⟨.a ((vs.drop off).take ti.size), by rw [this], ⟨_, rfl, (hr.drop off).take ti.size⟩⟩
      | false =>
        rw [hA] at h
        simp only [cond_false] at h ⊢
        obtain ⟨v, e1, e2⟩ := hr.get h
        exact ⟨v, by rw [hv off (List.getElem?_eq_some_iff.1 h).1]; exact e1, e2⟩

theorem noRoom_slice {P : Program} {v : V} (h : noRoom v = true) {t e : TypeId} {n : Nat} (hu : P.underlying t = some (.slice e)) (hn : sizeB P e = some n) {lo hi : Option V} {z : Nat × Nat × Nat} (hb : vbounds 0 0 lo hi none = some z) : vslice P t v lo hi none = some v := by
  cases v <;> simp only [noRoom, Bool.false_eq_true] at h <;> (unfold vslice; simp only [hu, hn]; cases hi <;> simp only [hb])
theorem noRoom_len {P : Program} {v : V} (h : noRoom v = true) {t e : TypeId} (hu : P.underlying t = some (.slice e)) : vlenOp P t v = some (.i .i64 0) := by
  cases v <;> simp only [noRoom, Bool.false_eq_true] at h <;> (unfold vlenOp; simp only [hu])

theorem sLen_ok (hI : Inv Y G o0 ro E nx m st) {t : TypeId} {x : U S} {v : V} {k : U S → Prop} (h : sLen P m t x k) (hx : RelV Y (Dat Y (ownOf o0 E m) st) E x v) : ∃ u w, vlenOp P t v = some w ∧ RelV Y (Dat Y (ownOf o0 E m) st) E u w ∧ k u := by
  unfold sLen at h
  split at h
  · rename_i l hu
    simp only [RelV] at hx; subst hx
    exact ⟨.i .i64 (l.length : Int), .i .i64 (.ofNat l.length), by unfold vlenOp V.str; simp only [hu], rfl, h⟩
  · rename_i hu
    simp only [RelV] at hx; subst hx
    exact ⟨.i .i64 0, .i .i64 0, by unfold vlenOp; simp only [hu], rfl, h⟩
  · rename_i c xs hu
    simp only [RelV] at hx
    refine ⟨.i .i64 (xs.length : Int), .i .i64 (.ofNat xs.length), ?_, rfl, h⟩
    cases hx <;> (unfold vlenOp; simp only [hu]; first | rfl | skip)
  · rename_i c hu
    exact ⟨.i .i64 0, _, noRoom_len hx hu, rfl, h⟩
  · rename_i r hu
    split at h
    · rename_i c xs hr
      simp only [RelV] at hx
      obtain ⟨y, e1, _⟩ := hx
      refine ⟨.i .i64 (xs.length : Int), .i .i64 (.ofNat xs.length), ?_, rfl, h⟩
      rcases hI.ent r _ hr with ⟨v0, q1, q2, q0⟩ | ⟨id, cap, op, b, q1, _⟩
      · rw [e1] at q1; cases q1; subst q2; exact noRoom_len q0 hu
      · rw [e1] at q1; cases q1; unfold vlenOp; simp only [hu]
    · exact h.elim
  · rename_i _ n _ hu
    exact ⟨.i .i64 (n : Int), .i .i64 (.ofNat n), by unfold vlenOp; simp only [hu], rfl, h⟩
  · exact h.elim

theorem Dat.part {own : Nat → Prop} {c : S.Cd} {xs : List (S.Den c)} {v : V} (hd : Dat Y own st c xs v) {t e : TypeId} (hu : P.underlying t = some (.slice e)) (hn : sizeB P e = some (Y.wid c)) {a b : Nat} (hab : a ≤ b) (hb : b ≤ xs.length) {lw hw : Option V}
    (hlo : ∀ y, a ≤ y → vboundO lw y 0 = some a) (hhi : ∀ y, b ≤ y → vboundO hw y xs.length = some b) : ∃ w, vslice P t v lw hw none = some w ∧ Dat Y own st c ((xs.drop a).take (b - a)) w := by
  cases hd with
  | nil =>
    have hb0 : b = 0 := by simpa using hb
    subst hb0
    have ha0 : a = 0 := by omega
    subst ha0
    have h1 : vbounds 0 0 lw hw none = some (0, 0, 0) := by
      have e1 := hhi 0 (Nat.le_refl _)
      have e2 := hlo 0 (Nat.le_refl _)
      simp only [List.length_nil] at e1
      unfold vbounds
      rw [show vboundO none 0 0 = some 0 from rfl]
      simp only [e1, e2]
    refine ⟨.sn, ?_, by simpa using Dat.nil c⟩
    unfold vslice
    simp only [hu, hn]
    cases hw <;> simp only [h1]
  | ne _ id o o2 =>
    have hb0 : b = 0 := by simpa using hb
    subst hb0
    have ha0 : a = 0 := by omega
    subst ha0
    have h1 : vbounds 0 0 lw hw none = some (0, 0, 0) := by
      have e1 := hhi 0 (Nat.le_refl _)
      have e2 := hlo 0 (Nat.le_refl _)
      simp only [List.length_nil] at e1
      unfold vbounds
      rw [show vboundO none 0 0 = some 0 from rfl]
      simp only [e1, e2]
    refine ⟨.se id o o2, ?_, by simpa using Dat.ne c id o o2⟩
    unfold vslice
    simp only [hu, hn, h1]
  | ze _ a0 =>
    have hb0 : b = 0 := by simpa using hb
    subst hb0
    have ha0 : a = 0 := by omega
    subst ha0
    have h1 : vbounds 0 0 lw hw none = some (0, 0, 0) := by
      have e1 := hhi 0 (Nat.le_refl _)
      have e2 := hlo 0 (Nat.le_refl _)
      simp only [List.length_nil] at e1
      unfold vbounds
      rw [show vboundO none 0 0 = some 0 from rfl]
      simp only [e1, e2]
    refine ⟨.ze a0, ?_, by simpa using Dat.ze c a0⟩
    unfold vslice
    cases hw <;> simp only [hu, hn, h1]
  | ny _ id o o2 =>
    have hb0 : b = 0 := by simpa using hb
    subst hb0
    have ha0 : a = 0 := by omega
    subst ha0
    have h1 : vbounds 0 0 lw hw none = some (0, 0, 0) := by
      have e1 := hhi 0 (Nat.le_refl _)
      have e2 := hlo 0 (Nat.le_refl _)
      simp only [List.length_nil] at e1
      unfold vbounds
      rw [show vboundO none 0 0 = some 0 from rfl]
      simp only [e1, e2]
    refine ⟨.sy id o o2, ?_, by simpa using Dat.ny c id o o2⟩
    unfold vslice
    cases hw <;> simp only [hu, hn, h1]
  | mk vs h1 h2 h3 h4 h5 h6 =>
    rename_i id off cap op blk
    have e0 : vbounds xs.length cap lw hw none = some (a, b, cap) := by
      have e1 := hhi cap (by omega)
      have e2 := hlo b hab
      unfold vbounds
      rw [show vboundO none cap cap = some cap from rfl]
      simp only [e1, e2]
    have hlen : ((xs.drop a).take (b - a)).length = b - a := by rw [List.length_take, List.length_drop]; omega
    have hget : ∀ (i : Nat) x, ((xs.drop a).take (b - a))[i]? = some x → xs[a + i]? = some x := by
      intro i x hx
      rw [List.getElem?_take] at hx
      split at hx
      · rw [List.getElem?_drop] at hx; exact hx
      · cases hx
    have fin : ∀ off' cap' op', (b - a = 0 ∨ off' = off + a * Y.wid c) → b - a ≤ cap' → Dat Y own st c ((xs.drop a).take (b - a)) (.sl id off' (b - a) cap' op') := by
      intro off' cap' op' ho hc
      have := Dat.mk (Y := Y) (own := own) (st := st) (c := c) (xs := (xs.drop a).take (b - a)) (id := id) (off := off') (cap := cap') (op := op') (b := blk) (fun i => vs (a + i)) h1 h2 h3 (fun i x hx => by
          rcases ho with ho | rfl
          · exfalso
            have := (List.getElem?_eq_some_iff.1 hx).1
            omega
          · rw [Nat.add_assoc, ← Nat.add_mul]
            exact h4 (a + i) x (hget i x hx)) (fun i x hx j u v hu hv => h5 (a + i) x (hget i x hx) j u v hu hv) (by omega)
      rw [hlen] at this
      exact this
    have e3 : vslice P t (.sl id off xs.length cap op) lw hw none = cond (op && true) (cond (Nat.blt a cap || Nat.beq a 0) (some (.sl id (off + a * Y.wid c) (b - a) (cap - a) true)) (some (.se id off (off + a * Y.wid c)))) (some (.sl id (cond (Nat.beq cap a) off (off + a * Y.wid c)) (b - a) (cap - a) false)) := by
      unfold vslice
      simp only [hu, hn]
      cases hw <;> simp only [e0] <;> rfl
    rw [e3]
    cases op with
    | true =>
      simp only [Bool.true_and, cond_true]
      cases hc : (Nat.blt a cap || Nat.beq a 0) with
      | true => exact ⟨_, rfl, fin _ _ _ (.inr rfl) (by omega)⟩
      | false =>
        simp only [Bool.or_eq_false_iff] at hc
        have : ¬ a < cap := fun q => by rw [← Nat.blt_eq, hc.1] at q; cases q
        refine ⟨_, rfl, ?_⟩
        have : (xs.drop a).take (b - a) = [] := List.length_eq_zero_iff.1 (by omega)
        rw [this]
        exact .ne _ _ _ _
    | false =>
      simp only [Bool.false_and, cond_false]
      cases hc : Nat.beq cap a with
      | true =>
        rw [Nat.beq_eq] at hc
        exact ⟨_, rfl, fin _ _ _ (.inl (by omega)) (by omega)⟩
      | false => exact ⟨_, rfl, fin _ _ _ (.inr rfl) (by omega)⟩

theorem sSl_ok (hI : Inv Y G o0 ro E nx m st) {t : TypeId} {x : U S} {v : V} {lo hi : Option Int} {lw hw : Option V} {k : U S → Prop} (h : sSl Y P m t x lo hi k) (hx : RelV Y (Dat Y (ownOf o0 E m) st) E x v) (hl : (lo = none ∧ lw = none) ∨ ∃ kd n, lo = some n ∧ lw = some (.i kd n)) (hh : (hi = none ∧ hw = none) ∨ ∃ kd n, hi = some n ∧ hw = some (.i kd n)) :
    ∃ u w, vslice P t v lw hw none = some w ∧ RelV Y (Dat Y (ownOf o0 E m) st) E u w ∧ k u := by
  unfold sSl at h
  split at h
  · rename_i r
    simp only [RelV] at hx
    obtain ⟨x, e1, _⟩ := hx
    split at h
    · rename_i e hu
      split at h
      · rename_i n c xs a hn hr
        cases hw' : Nat.beq n (Y.wid c) with
        | false => rw [hw'] at h; exact h.elim
        | true =>
          rw [hw'] at h
          rw [Nat.beq_eq] at hw'
          subst hw'
          simp only [cond_true] at h
          obtain ⟨⟨g1, g2⟩, hk⟩ := h
          obtain ⟨q, _⟩ | ⟨kd, n, q, rfl⟩ := hl
          · cases q
          cases q
          obtain ⟨_, rfl⟩ | ⟨_, _, q, _⟩ := hh
          · rcases hI.ent r _ hr with ⟨v0, q1, q2, q0⟩ | ⟨id, cap, op, b, q1, q2, q3, q4, q5, q6, q7, q8, q9⟩
            · rw [e1] at q1
              cases q1
              subst q2
              have ha : a = 0 := by simp at g2; omega
              subst ha
              exact ⟨.v r (Y.wid c) 0, _, noRoom_slice q0 hu hn rfl, ⟨_, _, e1, .inl ⟨q0, rfl⟩⟩, hk⟩
            · rw [e1] at q1
              cases q1
              have hb : vbounds xs.length cap (some (.i kd a)) none none = some (a.toNat, xs.length, cap) := by
                unfold vbounds
                have z1 : vboundO (some (.i kd a)) xs.length 0 = some a.toNat := vboundI (kd := kd) ⟨g1, g2⟩
                rw [show vboundO none cap cap = some cap from rfl]
                dsimp only
                rw [show vboundO none cap xs.length = some xs.length from rfl]
                dsimp only
                rw [z1]
              cases op with
              | true =>
                cases hc : (Nat.blt a.toNat cap || Nat.beq a.toNat 0) with
                | true =>
                  refine ⟨.v r (Y.wid c) a.toNat, _, by unfold vslice; simp only [hu, hn, hb, hc, Option.isNone_none, Bool.true_and, cond_true]; rfl, ⟨_, _, e1, .inr ⟨id, _, _, _, rfl, by omega, .inl ⟨_, _, _, fun _ => by rw [Nat.zero_add], rfl⟩⟩⟩, hk⟩
                | false =>
                  have hlt : ¬ a.toNat < cap := fun q => by
                    rw [Bool.or_eq_false_iff] at hc
                    rw [← Nat.blt_eq, hc.1] at q; cases q
                  exact ⟨.v r (Y.wid c) a.toNat, _, by unfold vslice; simp only [hu, hn, hb, hc, Option.isNone_none, Bool.true_and, cond_true, cond_false]; rfl, ⟨_, _, e1, .inr ⟨id, _, _, _, rfl, by omega, .inr ⟨by omega, _, _, rfl⟩⟩⟩, hk⟩
              | false =>
                refine ⟨.v r (Y.wid c) a.toNat, _, by unfold vslice; simp only [hu, hn, hb, Bool.false_and, cond_false]; rfl, ⟨_, _, e1, .inr ⟨id, _, _, _, rfl, by omega, .inl ⟨_, _, _, fun q => ?_, rfl⟩⟩⟩, hk⟩
                cases hc : Nat.beq cap a.toNat with
                | true => rw [Nat.beq_eq] at hc; omega
                | false => rw [cond_false, Nat.zero_add]
          · cases q
      · rename_i n c xs a hn hr
        cases hw' : Nat.beq n (Y.wid c) with
        | false => rw [hw'] at h; exact h.elim
        | true =>
          rw [hw'] at h
          simp only [cond_true] at h
          obtain ⟨⟨g1, g2⟩, hk⟩ := h
          obtain ⟨_, rfl⟩ | ⟨_, _, q, _⟩ := hl
          · obtain ⟨q, _⟩ | ⟨kd, n, q, rfl⟩ := hh
            · cases q
            cases q
            rcases hI.ent r _ hr with ⟨v0, q1, q2, q0⟩ | ⟨id, cap, op, b, q1, q2, q3, q4, q5, q6, q7, q8, q9⟩
            · rw [e1] at q1
              cases q1
              subst q2
              have ha : a = 0 := by simp at g2; omega
              subst ha
              exact ⟨.vh r 0, _, noRoom_slice q0 hu hn rfl, ⟨_, _, e1, .inl ⟨q0, rfl, rfl⟩⟩, hk⟩
            · rw [e1] at q1
              cases q1
              have hb : vbounds xs.length cap none (some (.i kd a)) none = some (0, a.toNat, cap) := by
                unfold vbounds
                have z1 : vboundO (some (.i kd a)) cap xs.length = some a.toNat := vboundI (kd := kd) ⟨g1, by omega⟩
                rw [show vboundO none cap cap = some cap from rfl]
                dsimp only
                rw [z1]
                rfl
              refine ⟨.vh r a.toNat, .sl id 0 a.toNat cap op, ?_, ⟨_, _, e1, .inr ⟨id, _, _, _, rfl, by omega, rfl⟩⟩, hk⟩
              unfold vslice
              simp only [hu, hn, hb]
              cases op with
              | true => simp
              | false => cases hc : Nat.beq cap 0 <;> simp [hc]
          · cases q
      · exact h.elim
    · exact h.elim
  · rename_i c xs
    simp only [RelV] at hx
    split at h
    · rename_i e hu
      split at h
      · rename_i n hn
        cases hw' : Nat.beq n (Y.wid c) with
        | false => rw [hw'] at h; exact h.elim
        | true =>
          rw [hw'] at h
          rw [Nat.beq_eq] at hw'
          subst hw'
          simp only [cond_true] at h
          split at h
          · obtain ⟨_, rfl⟩ | ⟨_, _, q, _⟩ := hl
            · obtain ⟨_, rfl⟩ | ⟨_, _, q, _⟩ := hh
              · obtain ⟨w, g1, g2⟩ := Dat.part hx hu hn (a := 0) (b := xs.length) (lw := none) (hw := none) (Nat.zero_le _) (Nat.le_refl _) (fun _ _ => rfl) (fun _ _ => rfl)
                exact ⟨.l c _, w, g1, (by simpa using g2 : Dat Y (ownOf o0 E m) st c xs w), h⟩
              · cases q
            · cases q
          · rename_i a
            obtain ⟨q, _⟩ | ⟨kd, n, q, rfl⟩ := hl
            · cases q
            cases q
            obtain ⟨_, rfl⟩ | ⟨_, _, q, _⟩ := hh
            · obtain ⟨⟨h1, h2⟩, hk⟩ := h
              obtain ⟨w, g1, g2⟩ := Dat.part hx hu hn (a := a.toNat) (b := xs.length) (lw := some (.i kd a)) (hw := none) (by omega) (Nat.le_refl _) (fun y hy => vboundI (kd := kd) ⟨h1, by omega⟩) (fun _ _ => rfl)
              rw [List.take_of_length_le (by rw [List.length_drop]; omega)] at g2
              exact ⟨.l c _, w, g1, g2, hk⟩
            · cases q
          · rename_i b
            obtain ⟨_, rfl⟩ | ⟨_, _, q, _⟩ := hl
            · obtain ⟨q, _⟩ | ⟨kd, n, q, rfl⟩ := hh
              · cases q
              cases q
              obtain ⟨⟨h1, h2⟩, hk⟩ := h
              obtain ⟨w, g1, g2⟩ := Dat.part hx hu hn (a := 0) (b := b.toNat) (lw := none) (hw := some (.i kd b)) (Nat.zero_le _) (by omega) (fun _ _ => rfl) (fun y hy => vboundI (kd := kd) ⟨h1, by omega⟩)
              simp only [List.drop_zero, Nat.sub_zero] at g2
              exact ⟨.l c _, w, g1, g2, hk⟩
            · cases q
          · rename_i a b
            obtain ⟨q, _⟩ | ⟨kd, n, q, rfl⟩ := hl
            · cases q
            cases q
            obtain ⟨q, _⟩ | ⟨kd', n', q, rfl⟩ := hh
            · cases q
            cases q
            obtain ⟨⟨h1, h2, h3⟩, hk⟩ := h
            obtain ⟨w, g1, g2⟩ := Dat.part hx hu hn (a := a.toNat) (b := b.toNat) (lw := some (.i kd a)) (hw := some (.i kd' b)) (by omega) (by omega) (fun y hy => vboundI (kd := kd) ⟨h1, by omega⟩) (fun y hy => vboundI (kd := kd') ⟨by omega, by omega⟩)
            exact ⟨.l c _, w, g1, g2, hk⟩
      · exact h.elim
    · exact h.elim
  · rename_i r off
    simp only [RelV] at hx
    obtain ⟨id, y, e1, rfl⟩ := hx
    split at h
    · rename_i n e hu
      split at h
      · rename_i z c hz hcode
        cases hc : (Nat.beq z (Y.wid c) && Nat.beq off 0) with
        | false => rw [hc] at h; exact h.elim
        | true =>
          rw [hc] at h
          simp only [Bool.and_eq_true, Nat.beq_eq] at hc
          obtain ⟨rfl, rfl⟩ := hc
          obtain ⟨_, rfl⟩ | ⟨_, _, q, _⟩ := hl
          · obtain ⟨_, rfl⟩ | ⟨_, _, q, _⟩ := hh
            · refine ⟨.vc c r n, .sl id 0 n n false, ?_, ⟨id, y, e1, rfl⟩, h⟩
              have hb : vbounds n n none none none = some (0, n, n) := rfl
              unfold vslice
              simp only [hu, hz, hb, Nat.zero_mul, Nat.add_zero, Nat.sub_zero]
              cases Nat.beq n 0 <;> rfl
            · cases q
          · cases q
      · exact h.elim
    · exact h.elim
  · exact sSlice_ok h hx hl hh

theorem sSl3_ok (hI : Inv Y G o0 ro E nx m st) {t : TypeId} {x z : U S} {v zw : V} {lo hi : Option Int} {lw hw : Option V} {k : U S → Prop} (h : sSl3 Y P m t x lo hi z k) (hx : RelV Y (Dat Y (ownOf o0 E m) st) E x v) (hl : (lo = none ∧ lw = none) ∨ ∃ kd n, lo = some n ∧ lw = some (.i kd n)) (hh : (hi = none ∧ hw = none) ∨ ∃ kd n, hi = some n ∧ hw = some (.i kd n)) (hz : RelV Y (Dat Y (ownOf o0 E m) st) E z zw) :
    ∃ u w, vslice P t v lw hw (some zw) = some w ∧ RelV Y (Dat Y (ownOf o0 E m) st) E u w ∧ k u := by
  unfold sSl3 at h
  split at h
  · rename_i e b kd q hu
    split at h
    · rename_i n c hn hc
      cases hb : (decide (b = 0) && decide (q = 0)) with
      | false => rw [hb] at h; exact h.elim
      | true =>
        rw [hb] at h
        simp only [Bool.and_eq_true, decide_eq_true_eq] at hb
        obtain ⟨rfl, rfl⟩ := hb
        simp only [cond_true] at h
        obtain ⟨_, rfl⟩ | ⟨_, _, q, _⟩ := hl
        · obtain ⟨q, _⟩ | ⟨kd', n', q, rfl⟩ := hh
          · cases q
          cases q
          simp only [RelV] at hz
          subst hz
          have hb0 : vbounds 0 0 none (some (.i kd' 0)) (some (.i kd 0)) = some (0, 0, 0) := rfl
          have hbd : ∀ len cap : Nat, vbounds len cap none (some (.i kd' 0)) (some (.i kd 0)) = some (0, 0, 0) := fun len cap => by
            unfold vbounds
            have z1 : vboundO (some (.i kd 0)) cap cap = some (0 : Int).toNat := vboundI (kd := kd) (y := cap) ⟨Int.le_refl _, Int.natCast_nonneg _⟩
            rw [z1]
            rfl
          have fin : ∀ w : V, noRoom w = true → RelV Y (Dat Y (ownOf o0 E m) st) E (.e0 c) w := fun w hw => hw
          have no : noRoom v = true → ∃ w, vslice P t v none (some (.i kd' 0)) (some (.i kd 0)) = some w ∧ noRoom w = true := by
            intro q
            refine ⟨v, ?_, q⟩
            cases v <;> simp only [noRoom, Bool.false_eq_true] at q <;> (unfold vslice; simp only [hu, hn, hb0])
          have yes : ∀ id off len cap op, v = .sl id off len cap op → ∃ w, vslice P t v none (some (.i kd' 0)) (some (.i kd 0)) = some w ∧ noRoom w = true := by
            rintro id off len cap op rfl
            refine ⟨.sy id off off, ?_, rfl⟩
            unfold vslice
            simp only [hu, hn, hbd]
            cases op <;> rfl
          have all : k (.e0 c) → (noRoom v = true ∨ (∃ id off len cap op, v = .sl id off len cap op) ∨ ∃ id o o2, v = .se id o o2) → ∃ u w, vslice P t v none (some (.i kd' 0)) (some (.i kd 0)) = some w ∧ RelV Y (Dat Y (ownOf o0 E m) st) E u w ∧ k u := by
            intro hk hv
            rcases hv with q | ⟨id, off, len, cap, op, q⟩ | ⟨id, o, o2, rfl⟩
            · obtain ⟨w, e1, e2⟩ := no q; exact ⟨_, w, e1, fin w e2, hk⟩
            · obtain ⟨w, e1, e2⟩ := yes _ _ _ _ _ q; exact ⟨_, w, e1, fin w e2, hk⟩
            · exact ⟨_, .sy id o o2, by unfold vslice; simp only [hu, hn, hb0], fin _ rfl, hk⟩
          split at h
          · simp only [RelV] at hx
            refine all h ?_
            cases hx with
            | nil => exact .inl rfl
            | ze => exact .inl rfl
            | ny => exact .inl rfl
            | ne => exact .inr (.inr ⟨_, _, _, rfl⟩)
            | mk => exact .inr (.inl ⟨_, _, _, _, _, rfl⟩)
          · exact all h (.inl hx)
          · simp only [RelV] at hx
            subst hx
            exact all h (.inl rfl)
          · rename_i r
            split at h
            · rename_i c' xs hr
              simp only [RelV] at hx
              obtain ⟨y, e1, _⟩ := hx
              rcases hI.ent r _ hr with ⟨v0, q1, q2, q0⟩ | ⟨id, cap, op, b, q1, _⟩
              · rw [e1] at q1; cases q1; exact all h (.inl q0)
              · rw [e1] at q1; cases q1; exact all h (.inr (.inl ⟨_, _, _, _, _, rfl⟩))
            · exact h.elim
          · exact h.elim
        · cases q
    · exact h.elim
  · exact h.elim

theorem sIndexAddr_ok (hI : Inv Y G o0 ro E nx m st) {t : TypeId} {x : U S} {v : V} {i : Int} {k : U S → Prop} (h : sIndexAddr Y P m t x i k) (hx : RelV Y (Dat Y (ownOf o0 E m) st) E x v) : ∃ u w, vindexAddr P t v i = some w ∧ RelV Y (Dat Y (ownOf o0 E m) st) E u w ∧ k u := by
  unfold sIndexAddr at h
  split at h
  · rename_i e hu
    split at h
    · rename_i n hn
      split at h
      · rename_i c xs
        simp only [RelV] at hx
        cases hw : Nat.beq n (Y.wid c) with
        | false => rw [hw] at h; exact h.elim
        | true =>
          rw [hw] at h
          rw [Nat.beq_eq] at hw
          subst hw
          obtain ⟨hb, hk⟩ := h
          have hx' := hx
          cases hx with
          | nil => exfalso; simp at hb; omega
          | ne => exfalso; simp at hb; omega
          | ze => exfalso; simp at hb; omega
          | ny => exfalso; simp at hb; omega
          | mk vs h1 h2 h3 h4 h5 h6 =>
            refine ⟨.pd c xs i.toNat 0, _, by unfold vindexAddr; simp only [hu, hn, bnd hb, cond_true]; rfl, ⟨toNat_lt hb, _, _, _, _, hx', ?_⟩, hk⟩
            rw [Nat.add_zero]
      · rename_i r
        split at h
        · rename_i c xs hr
          cases hw : Nat.beq n (Y.wid c) with
          | false => rw [hw] at h; exact h.elim
          | true =>
            rw [hw] at h
            rw [Nat.beq_eq] at hw
            subst hw
            obtain ⟨hb, hk⟩ := h
            simp only [RelV] at hx
            obtain ⟨y, e1, _⟩ := hx
            rcases hI.ent r _ hr with ⟨v0, q1, q2, q0⟩ | ⟨id, cap, op, b, q1, _⟩
            · subst q2; exfalso; simp at hb; omega
            · rw [e1] at q1
              cases q1
              refine ⟨.pe r (Y.wid c) i.toNat 0, _, by unfold vindexAddr; simp only [hu, hn, bnd hb, cond_true]; rfl, ⟨_, _, e1, ?_⟩, hk⟩
              rw [Nat.add_zero, Nat.zero_add]
        · exact h.elim
      · exact h.elim
    · exact h.elim
  · rename_i len e hu
    split at h
    · rename_i n hn
      split at h
      · rename_i r off
        simp only [RelV] at hx
        obtain ⟨id, y, e1, rfl⟩ := hx
        exact ⟨.p r (off + i.toNat * n), _, by unfold vindexAddr; simp only [hu, hn, bnd h.1, cond_true], ⟨id, y, e1, rfl⟩, h.2⟩
      · rename_i g off
        simp only [RelV] at hx
        obtain ⟨e1, rfl⟩ := hx
        exact ⟨.g g (off + i.toNat * n), _, by unfold vindexAddr; simp only [hu, hn, bnd h.1, cond_true], ⟨e1, rfl⟩, h.2⟩
      · rename_i r w j off
        simp only [RelV] at hx
        obtain ⟨id, y, e1, rfl⟩ := hx
        exact ⟨.pe r w j (off + i.toNat * n), _, by unfold vindexAddr; simp only [hu, hn, bnd h.1, cond_true], ⟨id, y, e1, congrArg (V.p id) (Nat.add_assoc ..)⟩, h.2⟩
      · rename_i c xs j off
        simp only [RelV] at hx
        obtain ⟨e0, id, o, cap, op, e1, rfl⟩ := hx
        exact ⟨.pd c xs j (off + i.toNat * n), _, by unfold vindexAddr; simp only [hu, hn, bnd h.1, cond_true], ⟨e0, id, o, cap, op, e1, congrArg (V.p id) (Nat.add_assoc ..)⟩, h.2⟩
      · exact h.elim
    · exact h.elim
  · exact h.elim

/-- A pointer's shape. -/
theorem sFieldAddr_ok {D : DD S} {t : TypeId} {x : U S} {v : V} {f : Nat} {k : U S → Prop} (h : sFieldAddr P t x f k) (hx : RelV Y D E x v) : ∃ id off u w, v = .p id off ∧ vfieldAddr P t id off f = some w ∧ RelV Y D E u w ∧ k u := by
  unfold sFieldAddr at h
  split at h
  · rename_i fs hu
    split at h
    · rename_i fd hf
      split at h
      · rename_i n hn
        cases hz : Nat.blt 0 n with
        | false => rw [hz] at h; exact h.elim
        | true =>
          rw [hz] at h
          simp only [cond_true] at h
          have ev : ∀ id off, vfieldAddr P t id off f = some (.p id (off + fd.offset)) := fun id off => (by unfold vfieldAddr; simp only [hu, hf, hn, hz, cond_true])
          split at h
          · rename_i r off
            simp only [RelV] at hx
            obtain ⟨id, y, e1, rfl⟩ := hx
            exact ⟨_, _, .p r (off + fd.offset), _, rfl, ev _ _, ⟨id, y, e1, rfl⟩, h⟩
          · rename_i g off
            simp only [RelV] at hx
            obtain ⟨e1, rfl⟩ := hx
            exact ⟨_, _, .g g (off + fd.offset), _, rfl, ev _ _, ⟨e1, rfl⟩, h⟩
          · rename_i r w i off
            simp only [RelV] at hx
            obtain ⟨id, y, e1, rfl⟩ := hx
            exact ⟨_, _, .pe r w i (off + fd.offset), _, rfl, ev _ _, ⟨id, y, e1, congrArg (V.p id) (Nat.add_assoc ..)⟩, h⟩
          · rename_i c xs i off
            simp only [RelV] at hx
            obtain ⟨e0, id, o, cap, op, e1, rfl⟩ := hx
            exact ⟨_, _, .pd c xs i (off + fd.offset), _, rfl, ev _ _, ⟨e0, id, o, cap, op, e1, congrArg (V.p id) (Nat.add_assoc ..)⟩, h⟩
          · exact h.elim
      · exact h.elim
    · exact h.elim
  · exact h.elim

theorem sLoad_ok (hI : Inv Y G o0 ro E nx m st) {t : TypeId} {x : U S} {v : V} {k : U S → Prop} (h : sLoad Y P G m t x k) (hx : RelV Y (Dat Y (ownOf o0 E m) st) E x v) : ∃ id off u w, v = .p id off ∧ vload P st t id off = some w ∧ RelV Y (Dat Y (ownOf o0 E m) st) E u w ∧ k u := by
  unfold sLoad at h
  split at h
  · rename_i r off
    split at h
    · rename_i us hr
      obtain ⟨u, h1, h2⟩ := onO_ok h
      simp only [RelV] at hx
      obtain ⟨id, y, e1, rfl⟩ := hx
      obtain ⟨id', y', b, vs, q1, q2, q3, q4, q5, q6, q7⟩ := hI.ent r _ hr
      rw [e1] at q1
      cases q1
      obtain ⟨w, e2, e3⟩ := sAt_ok (st := st) (id := id) (o := 0) h1 q6 q4 (fun j hj => by rw [Nat.zero_add]; exact q7 j hj)
      rw [Nat.zero_add] at e2
      exact ⟨id, off, u, w, rfl, e2, e3, h2⟩
    · exact h.elim
  · rename_i r w i off
    split at h
    · rename_i c xs hr
      cases hw : Nat.beq w (Y.wid c) with
      | false => rw [hw] at h; exact h.elim
      | true =>
        rw [hw] at h
        rw [Nat.beq_eq] at hw
        subst hw
        obtain ⟨hi, h⟩ := h
        obtain ⟨u, h1, h2⟩ := onO_ok h
        simp only [RelV] at hx
        obtain ⟨id, y, e1, rfl⟩ := hx
        rcases hI.ent r _ hr with ⟨v0, q1, q2, q0⟩ | ⟨id', cap, op, b, q1, q2, q3, q4, q5, q6, q7, q8, vs, q9, q10⟩
        · subst q2; simp at hi
        · rw [e1] at q1
          cases q1
          have hxi : xs[i]? = some (xs.getD i (Y.dflt c)) := by rw [List.getD_eq_getElem?_getD, List.getElem?_eq_getElem hi]; rfl
          have hrow := q9 i _ hxi
          obtain ⟨s1, s2⟩ := Blk.row_spec _ _ _ hrow
          have hrel : RelL Y (Dat Y (ownOf o0 E m) st) E (Y.cells c (xs.getD i (Y.dflt c))) (vs i) := RelL.of_get (by rw [s1, Y.len]) fun j u v hu hv => (q10 i _ hxi j u v hu hv).rel
          obtain ⟨z, e2, e3⟩ := sAt_ok (st := st) (id := id) (o := i * Y.wid c) h1 hrel q4 (fun j hj => by
            rw [Y.len, ← s1] at hj
            rw [s2 j _ (List.getElem?_eq_getElem hj), List.getElem?_eq_getElem hj])
          exact ⟨id, _, u, z, rfl, e2, e3, h2⟩
    · exact h.elim
  · rename_i c xs i off
    obtain ⟨u, h1, h2⟩ := onO_ok h
    simp only [RelV] at hx
    obtain ⟨hi, id, o, cap, op, hd, rfl⟩ := hx
    generalize hz : xs.length = zl at hd
    cases hd with
    | mk vs q1 q2 q3 q4 q5 q6 =>
      have hxi : xs[i]? = some (xs.getD i (Y.dflt c)) := by rw [List.getD_eq_getElem?_getD, List.getElem?_eq_getElem hi]; rfl
      have hrow := q4 i _ hxi
      obtain ⟨s1, s2⟩ := Blk.row_spec _ _ _ hrow
      have hrel : RelL Y (Dat Y (ownOf o0 E m) st) E (Y.cells c (xs.getD i (Y.dflt c))) (vs i) := RelL.of_get (by rw [s1, Y.len]) fun j u v hu hv => (q5 i _ hxi j u v hu hv).rel
      obtain ⟨z, e2, e3⟩ := sAt_ok (st := st) (id := id) (o := o + i * Y.wid c) h1 hrel q3 (fun j hj => by
        rw [Y.len, ← s1] at hj
        rw [s2 j _ (List.getElem?_eq_getElem hj), List.getElem?_eq_getElem hj])
      exact ⟨id, _, u, z, rfl, e2, e3, h2⟩
  · rename_i g off
    split at h
    · rename_i kd l hg
      cases ht : isIntB P t with
      | false => rw [ht] at h; exact h.elim
      | true =>
        rw [ht] at h
        obtain ⟨ho, hk⟩ := h
        simp only [RelV] at hx
        obtain ⟨e1, rfl⟩ := hx
        obtain ⟨_, b, q1, q2⟩ := hI.glob g kd l hg
        unfold isIntB at ht
        split at ht
        · rename_i kk hu
          refine ⟨g, off, .i kd (l.getD off 0), .i kd (l.getD off 0), rfl, ?_, rfl, hk⟩
          unfold vload isAggB
          cases hi : P.info? t with
          | none =>
            exfalso
            simp [Program.underlying, hi] at hu
          | some ti => simp only [q1, hu, cond_false]; exact q2 off ho
        · cases ht
    · exact h.elim
  · exact h.elim

/-- A quiet operation, from this memory: its value, whatever is called. -/
def QVal (P : Program) (ro : Nat) (st : St) (frV : T V) (op : Op) (v : V) : Prop := quietOp op = true ∧ ∀ call ver, vop P ro call frV ⟨st.nx, st.hp, ver⟩ op = some (some v, ⟨st.nx, st.hp, ver⟩)

theorem sNl_ok {own : Nat → Prop} {E : En} {op : BinOp} {t : TypeId} {c : S.Cd} {xs : List (S.Den c)} {k : U S → Prop} {v w : V} (hs : isSliceB P t = true) (h : sNl op xs.length k) (hx : RelV Y (Dat Y own st) E (.l c xs) v) (hy : RelV Y (Dat Y own st) E .sn w) :
    ∃ u z, vbin P op t v w = some z ∧ RelV Y (Dat Y own st) E u z ∧ k u := by
  have hw : w = .sn := hy
  subst hw
  have hx : Dat Y own st c xs v := hx
  obtain ⟨e, he⟩ : ∃ e, P.underlying t = some (.slice e) := by
    unfold isSliceB at hs
    split at hs
    · rename_i e he; exact ⟨e, he⟩
    · cases hs
  have key : ∃ b : Bool, vequal P t v .sn = some b ∧ (xs.length = 0 ∨ b = false) := by
    cases hx with
    | nil => exact ⟨true, by simp [vequal, veq, he], .inl rfl⟩
    | ne id o o2 => exact ⟨false, by simp [vequal, veq, he], .inr rfl⟩
    | ze a => exact ⟨false, by simp [vequal, veq, he], .inr rfl⟩
    | ny id o o2 => exact ⟨false, by simp [vequal, veq, he], .inr rfl⟩
    | mk vs h1 h2 h3 h4 h5 h6 => exact ⟨false, by simp [vequal, veq, he], .inr rfl⟩
  obtain ⟨b, k1, k2⟩ := key
  unfold sNl at h
  split at h
  · refine ⟨.b b, .b b, ?_, rfl, h b k2⟩
    have : vbin P .eql t v .sn = (match vequal P t v .sn with | some r => some (.b r) | none => none) := by
      cases v <;> rfl
    rw [this, k1]
  · refine ⟨.b (!b), .b (!b), ?_, rfl, h (!b) (k2.imp (fun q => q) (fun q => by rw [q]; rfl))⟩
    have : vbin P .neq t v .sn = (match vequal P t v .sn with | some r => some (.b (!r)) | none => none) := by
      cases v <;> rfl
    rw [this, k1]
  · exact h.elim
theorem sQ_ok (hI : Inv Y G o0 ro E nx m st) {o : Op} {k : U S → Prop} (h : sQ Y P G fr m o k) (hf : RelF Y (Dat Y (ownOf o0 E m) st) E fr frV) : ∃ u v, QVal P ro st frV o v ∧ RelV Y (Dat Y (ownOf o0 E m) st) E u v ∧ k u := by
  unfold sQ at h
  split at h
  · obtain ⟨u, v, h1, h2, h3⟩ := sOpd_ok h hf
    exact ⟨u, v, ⟨rfl, fun call ver => by simp only [vop, h1]⟩, h2, h3⟩
  · obtain ⟨u, v, h1, h2, h3⟩ := sOpd_ok h hf
    exact ⟨u, v, ⟨rfl, fun call ver => by simp only [vop, h1]⟩, h2, h3⟩
  · rename_i c a b
    obtain ⟨u, v, h1, h2, h3⟩ := sOpd_ok h hf
    have way : ∀ x : Bool, v = .b x → (x = true → sOpd fr a k) → (x = false → sOpd fr b k) → ∃ u v, QVal P ro st frV (.pick c a b) v ∧ RelV Y (Dat Y (ownOf o0 E m) st) E u v ∧ k u := by
      intro x hv ha hb
      subst hv
      cases x with
      | true => obtain ⟨u, v, g1, g2, g3⟩ := sOpd_ok (ha rfl) hf; exact ⟨u, v, ⟨rfl, fun call ver => by simp only [vop, h1, cond_true, g1]⟩, g2, g3⟩
      | false => obtain ⟨u, v, g1, g2, g3⟩ := sOpd_ok (hb rfl) hf; exact ⟨u, v, ⟨rfl, fun call ver => by simp only [vop, h1, cond_false, g1]⟩, g2, g3⟩
    split at h3
    · exact way true h2 (fun _ => h3) (fun q => by cases q)
    · exact way false h2 (fun q => by cases q) (fun _ => h3)
    · rename_i x; exact way x h2 h3.1 h3.2
    · exact h3.elim
  · rename_i op0 t0 x0 y0 e0
    obtain ⟨u, v, h1, h2, h3⟩ := sOpd_ok h hf
    obtain ⟨w, z, h4, h5, h6⟩ := sOpd_ok h3 hf
    split at h6
    · rename_i c xs
      cases hs : isSliceB P t0 with
      | false => rw [hs] at h6; exact h6.elim
      | true =>
        rw [hs, cond_true] at h6
        obtain ⟨r, y, h7, h8, h9⟩ := sNl_ok hs h6 h2 h5
        exact ⟨r, y, ⟨rfl, fun call ver => by simp only [vop, h1, h4, h7]⟩, h8, h9⟩
    · obtain ⟨r, y, h7, h8, h9⟩ := sBin_ok h6 h2 h5
      exact ⟨r, y, ⟨rfl, fun call ver => by simp only [vop, h1, h4, h7]⟩, h8, h9⟩
  · obtain ⟨u, v, h1, h2, h3⟩ := sOpd_ok h hf
    obtain ⟨r, y, h7, h8, h9⟩ := sUn_ok h3 h2
    exact ⟨r, y, ⟨rfl, fun call ver => by simp only [vop, h1, h7]⟩, h8, h9⟩
  · obtain ⟨u, v, h1, h2, h3⟩ := sOpd_ok h hf
    obtain ⟨r, y, h7, h8, h9⟩ := sField_ok h3 h2
    exact ⟨r, y, ⟨rfl, fun call ver => by simp only [vop, h1, h7]⟩, h8, h9⟩
  · obtain ⟨u, v, h1, h2, h3⟩ := sOpd_ok h hf
    obtain ⟨w, z, h4, h5, h6⟩ := sOpd_ok h3 hf
    split at h6
    · simp only [RelV] at h5
      subst h5
      obtain ⟨r, y, h7, h8, h9⟩ := sIndex_ok (sSplit_ok h6) h2
      exact ⟨r, y, ⟨rfl, fun call ver => by simp only [vop, h1, h4, h7]⟩, h8, h9⟩
    · exact h6.elim
  · obtain ⟨u, v, h1, h2, h3⟩ := sOpd_ok h hf
    obtain ⟨w, z, h4, h5, h6⟩ := sOpd_ok h3 hf
    split at h6
    · simp only [RelV] at h5
      subst h5
      obtain ⟨r, y, h7, h8, h9⟩ := sIndexAddr_ok hI (sSplit_ok h6) h2
      exact ⟨r, y, ⟨rfl, fun call ver => by simp only [vop, h1, h4, h7]⟩, h8, h9⟩
    · exact h6.elim
  · obtain ⟨u, v, h1, h2, h3⟩ := sOpd_ok h hf
    obtain ⟨id, off, r, y, rfl, h7, h8, h9⟩ := sFieldAddr_ok h3 h2
    exact ⟨r, y, ⟨rfl, fun call ver => by simp only [vop, h1, h7]⟩, h8, h9⟩
  · obtain ⟨u, v, h1, h2, h3⟩ := sOpd_ok h hf
    obtain ⟨id, off, r, y, rfl, h7, h8, h9⟩ := sLoad_ok hI h3 h2
    exact ⟨r, y, ⟨rfl, fun call ver => by simp only [vop, h1]; rw [show vload P ⟨st.nx, st.hp, ver⟩ _ id off = some y from h7]⟩, h8, h9⟩
  · obtain ⟨us, vs, h1, h2, h3⟩ := sParts_ok hf h
    obtain ⟨r, y, h7, h8, h9⟩ := sBuild_ok h3 h2
    exact ⟨r, y, ⟨rfl, fun call ver => by simp only [vop, h1, h7]⟩, h8, h9⟩
  · split at h
    · obtain ⟨u, v, h1, h2, h3⟩ := sOpd_ok h hf
      obtain ⟨a, aw, h4, h6⟩ := sOpt_ok h3 hf
      obtain ⟨b, bw, h7, h9⟩ := sOpt_ok h4 hf
      obtain ⟨r, y, g1, g2, g3⟩ := sSl_ok hI (lw := aw) (hw := bw) h7 h2 (h6.imp (fun q => q.2) fun ⟨_, kd, n, _, _, q⟩ => ⟨kd, n, q⟩) (h9.imp (fun q => q.2) fun ⟨_, kd, n, _, _, q⟩ => ⟨kd, n, q⟩)
      refine ⟨r, y, ⟨rfl, fun call ver => ?_⟩, g2, g3⟩
      obtain ⟨rfl, rfl, rfl⟩ | ⟨q, kd, n, rfl, e1, rfl, rfl⟩ := h6 <;> obtain ⟨rfl, rfl, rfl⟩ | ⟨q', kd', n', rfl, e2, rfl, rfl⟩ := h9
      · simp only [vop, h1, g1]
      · simp only [vop, h1, e2, Option.map_some, g1]
      · simp only [vop, h1, e1, Option.map_some, g1]
      · simp only [vop, h1, e1, e2, Option.map_some, g1]
    · obtain ⟨u, v, h1, h2, h3⟩ := sOpd_ok h hf
      obtain ⟨a, aw, h4, h6⟩ := sOpt_ok h3 hf
      obtain ⟨b, bw, h7, h9⟩ := sOpt_ok h4 hf
      obtain ⟨z, zw, h10, h11, h12⟩ := sOpd_ok h7 hf
      obtain ⟨r, y, g1, g2, g3⟩ := sSl3_ok hI (lw := aw) (hw := bw) h12 h2 (h6.imp (fun q => q.2) fun ⟨_, kd, n, _, _, q⟩ => ⟨kd, n, q⟩) (h9.imp (fun q => q.2) fun ⟨_, kd, n, _, _, q⟩ => ⟨kd, n, q⟩) h11
      refine ⟨r, y, ⟨rfl, fun call ver => ?_⟩, g2, g3⟩
      obtain ⟨rfl, rfl, rfl⟩ | ⟨q, kd, n, rfl, e1, rfl, rfl⟩ := h6 <;> obtain ⟨rfl, rfl, rfl⟩ | ⟨q', kd', n', rfl, e2, rfl, rfl⟩ := h9
      · simp only [vop, h1, h10, Option.map_some, g1]
      · simp only [vop, h1, e2, h10, Option.map_some, g1]
      · simp only [vop, h1, e1, h10, Option.map_some, g1]
      · simp only [vop, h1, e1, e2, h10, Option.map_some, g1]
  · obtain ⟨u, v, h1, h2, h3⟩ := sOpd_ok h hf
    have ptr : ∃ id off, v = .p id off ∧ k u := by
      unfold sNil at h3
      split at h3
      · simp only [RelV] at h2; obtain ⟨_, _, _, rfl⟩ := h2; exact ⟨_, _, rfl, h3⟩
      · simp only [RelV] at h2; obtain ⟨_, rfl⟩ := h2; exact ⟨_, _, rfl, h3⟩
      · simp only [RelV] at h2; obtain ⟨_, _, _, rfl⟩ := h2; exact ⟨_, _, rfl, h3⟩
      · simp only [RelV] at h2; obtain ⟨_, _, _, _, _, _, rfl⟩ := h2; exact ⟨_, _, rfl, h3⟩
      · exact h3.elim
    obtain ⟨id, off, rfl, hk⟩ := ptr
    exact ⟨u, .p id off, ⟨rfl, fun call ver => by simp only [vop, h1]⟩, h2, hk⟩
  · split at h
    · rename_i he
      obtain ⟨us, vs, h1, h2, h3⟩ := sOpds_ok hf h
      exact ⟨.f _ us, .f (.func _) [] vs, ⟨rfl, fun call ver => by simp only [vop, he, opnds, h1]⟩, ⟨vs, rfl, h2⟩, h3⟩
    · exact h.elim
  · obtain ⟨u, v, h1, h2, h3⟩ := sOpd_ok h hf
    split at h3
    · simp only [RelV] at h2
      obtain ⟨vs, rfl, h2⟩ := h2
      obtain ⟨r, h4, h5⟩ := onO_ok h3
      obtain ⟨w, h6, h7⟩ := h2.get h4
      exact ⟨r, w, ⟨rfl, fun call ver => by simp only [vop, h1, h6]⟩, h7, h5⟩
    · exact h3.elim
  · rename_i c
    obtain ⟨callee, args, ts⟩ := c
    dsimp only at h
    split at h
    · split at h
      · rename_i x t ha ht
        obtain ⟨u, v, h1, h2, h3⟩ := sOpd_ok h hf
        obtain ⟨r, w, h4, h5, h6⟩ := sLen_ok hI h3 h2
        exact ⟨r, w, ⟨rfl, fun call ver => by simp only [vop, ha, ht, opnds, h1, vbuiltin, h4]⟩, h5, h6⟩
      · exact h.elim
    · obtain ⟨us, vs, h1, h2, h3⟩ := sOpds_ok hf h
      split at h3
      · simp only [RelL] at h2
        obtain ⟨v, r, rfl, h4, h5⟩ := h2
        obtain ⟨z, w, h6, h7, h8⟩ := sMinL_ok h3 h4 h5
        exact ⟨z, w, ⟨rfl, fun call ver => by simp only [vop, h1, vbuiltin, h6]⟩, h7, h8⟩
      · exact h3.elim
    · obtain ⟨us, vs, h1, h2, h3⟩ := sOpds_ok hf h
      split at h3
      · simp only [RelL] at h2
        obtain ⟨v, r, rfl, h4, h5⟩ := h2
        obtain ⟨z, w, h6, h7, h8⟩ := sMinL_ok h3 h4 h5
        exact ⟨z, w, ⟨rfl, fun call ver => by simp only [vop, h1, vbuiltin, h6]⟩, h7, h8⟩
      · exact h3.elim
    · exact h.elim
  · exact h.elim
end
end Go.Sx
