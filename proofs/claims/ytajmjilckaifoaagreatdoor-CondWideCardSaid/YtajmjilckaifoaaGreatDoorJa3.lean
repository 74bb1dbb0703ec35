/-
  Quiet operations, those that read the memory among them. Nothing is claimed here.
-/
import Derived.Test.YtajmjilckaifoaaGreatDoorJa2
namespace Go.Sx
open Go.Vm

section
variable {S : Sg} (Y : Sy S) (P : Program) (G : Gl)

def sAt (t : TypeId) (us : List (U S)) (off : Nat) : Option (U S) := match P.info? t, P.underlying t with
  | some ti, some _ => cond (isAggB P t) (cond (Nat.ble (off + ti.size) us.length) (some (.a ((us.drop off).take ti.size))) none) (us[off]?)
  | _, _ => none
def isIntB (t : TypeId) : Bool := match P.underlying t with
  | some (.int _) => true
  | _ => false

def sLen (m : T (Ct S)) (t : TypeId) (x : U S) (k : U S → Prop) : Prop := match P.underlying t, x with
  | some .string, .s l => k (.i .i64 (l.length : Int))
  | some (.slice _), .sn => k (.i .i64 0)
  | some (.slice _), .l _ xs => k (.i .i64 (xs.length : Int))
  | some (.slice _), .e0 _ => k (.i .i64 0)
  | some (.slice _), .o r => match m.get r with
    | some (.buf _ xs) => k (.i .i64 (xs.length : Int))
    | _ => False
  | some (.array n _), _ => k (.i .i64 (n : Int))
  | _, _ => False
def sIndexAddr (m : T (Ct S)) (t : TypeId) (x : U S) (i : Int) (k : U S → Prop) : Prop := match P.underlying t with
  | some (.slice e) => match sizeB P e with
    | some n => match x with
      | .l c xs => cond (Nat.beq n (Y.wid c)) ((0 ≤ i ∧ i < (xs.length : Int)) ∧ k (.pd c xs i.toNat 0)) False
      | .o r => match m.get r with
        | some (.buf c xs) => cond (Nat.beq n (Y.wid c)) ((0 ≤ i ∧ i < (xs.length : Int)) ∧ k (.pe r (Y.wid c) i.toNat 0)) False
        | _ => False
      | _ => False
    | none => False
  | some (.array len e) => match sizeB P e with
    | some n => match x with
      | .p r off => (0 ≤ i ∧ i < (len : Int)) ∧ k (.p r (off + i.toNat * n))
      | .g g off => (0 ≤ i ∧ i < (len : Int)) ∧ k (.g g (off + i.toNat * n))
      | .pe r w j off => (0 ≤ i ∧ i < (len : Int)) ∧ k (.pe r w j (off + i.toNat * n))
      | .pd c xs j off => (0 ≤ i ∧ i < (len : Int)) ∧ k (.pd c xs j (off + i.toNat * n))
      | _ => False
    | none => False
  | _ => False
def sFieldAddr (t : TypeId) (x : U S) (f : Nat) (k : U S → Prop) : Prop := match P.underlying t with
  | some (.struct fs) => match fs[f]? with
    | some fd => match sizeB P fd.type with
      | some n => cond (Nat.blt 0 n) (match x with
        | .p r off => k (.p r (off + fd.offset))
        | .g g off => k (.g g (off + fd.offset))
        | .pe r w i off => k (.pe r w i (off + fd.offset))
        | .pd c xs i off => k (.pd c xs i (off + fd.offset))
        | _ => False) False
      | none => False
    | none => False
  | _ => False
def sLoad (m : T (Ct S)) (t : TypeId) (x : U S) (k : U S → Prop) : Prop := match x with
  | .p r off => match m.get r with
    | some (.cells us) => onO (sAt P t us off) k
    | _ => False
  | .pe r w i off => match m.get r with
    | some (.buf c xs) => cond (Nat.beq w (Y.wid c)) (i < xs.length ∧ onO (sAt P t (Y.cells c (xs.getD i (Y.dflt c))) off) k) False
    | _ => False
  | .pd c xs i off => onO (sAt P t (Y.cells c (xs.getD i (Y.dflt c))) off) k
  | .g g off => match G g with
    | some (kd, l) => cond (isIntB P t) (off < l.length ∧ k (.i kd (l.getD off 0))) False
    | none => False
  | _ => False
def sNil (x : U S) (k : U S → Prop) : Prop := match x with
  | .p r off => k (.p r off)
  | .g r off => k (.g r off)
  | .pe r w i off => k (.pe r w i off)
  | .pd c xs i off => k (.pd c xs i off)
  | _ => False

/-- A number below a small one, told apart. -/
def sSplitL (i : Int) (k : Int → Prop) : Nat → Nat → Prop
  | 0, _ => True
  | n + 1, j => (i = Int.ofNat j → k (Int.ofNat j)) ∧ sSplitL i k n (j + 1)
def sSplit (t : TypeId) (o : Operand) (i : Int) (k : Int → Prop) : Prop := match o, P.underlying t with
  | .tmp _, some (.array n _) => cond (Nat.ble n 4) ((0 ≤ i ∧ i < (n : Int)) ∧ sSplitL i k n 0) (k i)
  | _, _ => k i
theorem sSplitL_ok {i : Int} {k : Int → Prop} : ∀ {n j : Nat}, sSplitL i k n j → (j : Int) ≤ i → i < (j + n : Nat) → k i
  | 0, j, _, h1, h2 => by omega
  | n + 1, j, h, h1, h2 => by
    by_cases e : i = Int.ofNat j
    · rw [e]; exact h.1 e
    · have e : i ≠ (j : Int) := e
      exact sSplitL_ok h.2 (by omega) (by omega)
theorem sSplit_ok {P : Program} {t : TypeId} {o : Operand} {i : Int} {k : Int → Prop} (h : sSplit P t o i k) : k i := by
  unfold sSplit at h
  split at h
  · rename_i n _ _
    cases hc : Nat.ble n 4 with
    | true => rw [hc] at h; exact sSplitL_ok h.2 (by have := h.1.1; omega) (by have := h.1.2; omega)
    | false => rw [hc] at h; exact h
  · exact h

/-- A part of a slice of data, or of a string. -/
def sSl (m : T (Ct S)) (t : TypeId) (x : U S) (lo hi : Option Int) (k : U S → Prop) : Prop := match x with
  | .o r => match P.underlying t with
    | some (.slice e) => match sizeB P e, m.get r, lo, hi with
      | some n, some (.buf c xs), some a, none => cond (Nat.beq n (Y.wid c)) ((0 ≤ a ∧ a ≤ (xs.length : Int)) ∧ k (.v r (Y.wid c) a.toNat)) False
      | some n, some (.buf c xs), none, some a => cond (Nat.beq n (Y.wid c)) ((0 ≤ a ∧ a ≤ (xs.length : Int)) ∧ k (.vh r a.toNat)) False
      | _, _, _, _ => False
    | _ => False
  | .l c xs => match P.underlying t with
    | some (.slice e) => match sizeB P e with
      | some n => cond (Nat.beq n (Y.wid c)) (match lo, hi with
        | none, none => k (.l c xs)
        | some a, none => (0 ≤ a ∧ a ≤ (xs.length : Int)) ∧ k (.l c (xs.drop a.toNat))
        | none, some b => (0 ≤ b ∧ b ≤ (xs.length : Int)) ∧ k (.l c (xs.take b.toNat))
        | some a, some b => (0 ≤ a ∧ a ≤ b ∧ b ≤ (xs.length : Int)) ∧ k (.l c ((xs.drop a.toNat).take (b.toNat - a.toNat)))) False
      | none => False
    | _ => False
  | .p r off => match P.underlying t, lo, hi with
    | some (.array n e), none, none => match sizeB P e, Y.code e with
      | some z, some c => cond (Nat.beq z (Y.wid c) && Nat.beq off 0) (k (.vc c r n)) False
      | _, _ => False
    | _, _, _ => False
  | x => sSlice P t x lo hi k
/-- A slice cut to nothing, without room: `x[:0:0]`. -/
def sSl3 (m : T (Ct S)) (t : TypeId) (x : U S) (lo hi : Option Int) (z : U S) (k : U S → Prop) : Prop := match P.underlying t, lo, hi, z with
  | some (.slice e), none, some b, .i _ q => match sizeB P e, Y.code e with
    | some _, some c => cond (decide (b = 0) && decide (q = 0)) (match x with
      | .l _ _ => k (.e0 c)
      | .e0 _ => k (.e0 c)
      | .sn => k (.e0 c)
      | .o r => match m.get r with
        | some (.buf _ _) => k (.e0 c)
        | _ => False
      | _ => False) False
    | _, _ => False
  | _, _, _, _ => False
/-- A quiet operation. -/
def sQ (fr : T (U S)) (m : T (Ct S)) (o : Op) (k : U S → Prop) : Prop := match o with
  | .move x => sOpd fr x k
  | .assign x => sOpd fr x k
  | .pick c a b => sOpd fr c fun u => match u with
    | .kb true => sOpd fr a k
    | .kb false => sOpd fr b k
    | .b x => (x = true → sOpd fr a k) ∧ (x = false → sOpd fr b k)
    | _ => False
  | .binOp op t x y _ => sOpd fr x fun u => sOpd fr y fun w => sBin Y P op t u w k
  | .unOp op _ x => sOpd fr x fun u => sUn op u k
  | .field t x f => sOpd fr x fun u => sField P t u f k
  | .index t x i => sOpd fr x fun u => sOpd fr i fun w => match w with
    | .i _ n => sSplit P t i n fun n => sIndex P t u n k
    | _ => False
  | .indexAddr t x i => sOpd fr x fun u => sOpd fr i fun w => match w with
    | .i _ n => sSplit P t i n fun n => sIndexAddr Y P m t u n k
    | _ => False
  | .fieldAddr t x f => sOpd fr x fun u => sFieldAddr P t u f k
  | .load t x => sOpd fr x fun u => sLoad Y P G m t u k
  | .build t ps => sParts fr ps.toList fun us => sBuild P t us k
  | .slice t x lo hi mx => match mx with
    | none => sOpd fr x fun u => sOpt fr lo fun a => sOpt fr hi fun b => sSl Y P m t u a b k
    | some w => sOpd fr x fun u => sOpt fr lo fun a => sOpt fr hi fun b => sOpd fr w fun z => sSl3 Y P m t u a b z k
  | .nilCheck x => sOpd fr x fun u => sNil u k
  | .makeFunc fn first caps => match fn, first.toList with
    | .func f, [] => sOpds fr caps.toList fun us => k (.f f us)
    | _, _ => False
  | .extract x i => sOpd fr x fun u => match u with
    | .t us => onO us[i]? k
    | _ => False
  | .call c => match c.callee with
    | .builtin .len => match c.args.toList, c.argTypes.toList with
      | [x], [t] => sOpd fr x fun u => sLen P m t u k
      | _, _ => False
    | .builtin .min => sOpds fr c.args.toList fun us => match us with
      | u :: r => sMinL true u r k
      | [] => False
    | .builtin .max => sOpds fr c.args.toList fun us => match us with
      | u :: r => sMinL false u r k
      | [] => False
    | _ => False
  | _ => False

/-! ### They are so -/
variable {Y P G}
variable {ro : Nat} {o0 : Nat → Prop} {E : En} {nx : Nat} {m : T (Ct S)} {st : St} {fr : T (U S)} {frV : T V}

theorem sAt_ok {D : DD S} {t : TypeId} {us : List (U S)} {vs : List V} {off o id : Nat} {u : U S} {b : Blk} (h : sAt P t us off = some u) (hr : RelL Y D E us vs) (hb : st.hp.get id = some b) (hv : ∀ j, j < us.length → b.get (o + j) = vs[j]?) :
    ∃ v, vload P st t id (o + off) = some v ∧ RelV Y D E u v := by
  unfold sAt at h
  unfold vload
  cases h1 : P.info? t with
  | none => simp [h1] at h
  | some ti =>
    cases h2 : P.underlying t with
    | none => simp [h1, h2] at h
    | some d =>
      simp only [h1, h2, hb] at h ⊢
      cases hA : isAggB P t with
      | true =>
        rw [hA] at h
        simp only [cond_true] at h ⊢
        cases hl : Nat.ble (off + ti.size) us.length with
        | false => rw [hl] at h; cases h
        | true =>
          rw [hl] at h
          cases h
          rw [Nat.ble_eq] at hl
          have hlen : ((vs.drop off).take ti.size).length = ti.size := by rw [List.length_take, List.length_drop, hr.length]; omega
          have := Blk.row_ok (b := b) ((vs.drop off).take ti.size) (o + off) (fun j hj => by
            rw [hlen] at hj
            rw [Nat.add_assoc, hv (off + j) (by omega), List.getElem?_take, if_pos hj, List.getElem?_drop])
          rw [hlen] at this
          exact ⟨.a ((vs.drop off).take ti.size), by rw [this], ⟨_, rfl, (hr.drop off).take ti.size⟩⟩
      | false =>
        rw [hA] at h
        simp only [cond_false] at h ⊢
        obtain ⟨v, e1, e2⟩ := hr.get h
        exact ⟨v, by rw [hv off (List.getElem?_eq_some_iff.1 h).1]; exact e1, e2⟩

theorem noRoom_slice {P : Program} {v : V} (h : noRoom v = true) {t e : TypeId} {n : Nat} (hu : P.underlying t = some (.slice e)) (hn : sizeB P e = some n) {lo hi : Option V} {z : Nat × Nat × Nat} (hb : vbounds 0 0 lo hi none = some z) : vslice P t v lo hi none = some v := by
  cases v <;> simp only [noRoom, Bool.false_eq_true] at h <;> (unfold vslice; simp only [hu, hn]; cases hi <;> simp only [hb])
theorem noRoom_len {P : Program} {v : V} (h : noRoom v = true) {t e : TypeId} (hu : P.underlying t = some (.slice e)) : vlenOp P t v = some (.i .i64 0) := by
  cases v <;> simp only [noRoom, Bool.false_eq_true] at h <;> (unfold vlenOp; simp only [hu])

theorem sLen_ok (hI : Inv Y G o0 ro E nx m st) {t : TypeId} {x : U S} {v : V} {k : U S → Prop} (h : sLen P m t x k) (hx : RelV Y (Dat Y (ownOf o0 E m) st) E x v) : ∃ u w, vlenOp P t v = some w ∧ RelV Y (Dat Y (ownOf o0 E m) st) E u w ∧ k u := by
  unfold sLen at h
  split at h
  · rename_i l hu
    simp only [RelV] at hx; subst hx
    exact ⟨.i .i64 (l.length : Int), .i .i64 (.ofNat l.length), by unfold vlenOp V.str; simp only [hu], rfl, h⟩
  · rename_i hu
    simp only [RelV] at hx; subst hx
    exact ⟨.i .i64 0, .i .i64 0, by unfold vlenOp; simp only [hu], rfl, h⟩
  · rename_i c xs hu
    simp only [RelV] at hx
    refine ⟨.i .i64 (xs.length : Int), .i .i64 (.ofNat xs.length), ?_, rfl, h⟩
    cases hx <;> (unfold vlenOp; simp only [hu]; first | rfl | skip)
  · rename_i c hu
    exact ⟨.i .i64 0, _, noRoom_len hx hu, rfl, h⟩
  · rename_i r hu
    split at h
    · rename_i c xs hr
      simp only [RelV] at hx
      obtain ⟨y, e1, _⟩ := hx
      refine ⟨.i .i64 (xs.length : Int), .i .i64 (.ofNat xs.length), ?_, rfl, h⟩
      rcases hI.ent r _ hr with ⟨v0, q1, q2, q0⟩ | ⟨id, cap, op, b, q1, _⟩
      · rw [e1] at q1; cases q1; subst q2; exact noRoom_len q0 hu
      · rw [e1] at q1; cases q1; unfold vlenOp; simp only [hu]
    · exact h.elim
  · rename_i _ n _ hu
    exact ⟨.i .i64 (n : Int), .i .i64 (.ofNat n), by unfold vlenOp; simp only [hu], rfl, h⟩
  · exact h.elim

theorem Dat.part {own : Nat → Prop} {c : S.Cd} {xs : List (S.Den c)} {v : V} (hd : Dat Y own st c xs v) {t e : TypeId} (hu : P.underlying t = some (.slice e)) (hn : sizeB P e = some (Y.wid c)) {a b : Nat} (hab : a ≤ b) (hb : b ≤ xs.length) {lw hw : Option V}
    (hlo : ∀ y, a ≤ y → vboundO lw y 0 = some a) (hhi : ∀ y, b ≤ y → vboundO hw y xs.length = some b) : ∃ w, vslice P t v lw hw none = some w ∧ Dat Y own st c ((xs.drop a).take (b - a)) w := by
  cases hd with
  | nil =>
    have hb0 : b = 0 := by simpa using hb
    subst hb0
    have ha0 : a = 0 := by omega
    subst ha0
    have h1 : vbounds 0 0 lw hw none = some (0, 0, 0) := by
      have e1 := hhi 0 (Nat.le_refl _)
      have e2 := hlo 0 (Nat.le_refl _)
      simp only [List.length_nil] at e1
      unfold vbounds
      rw [show vboundO none 0 0 = some 0 from rfl]
      simp only [e1, e2]
    refine ⟨.sn, ?_, by simpa using Dat.nil c⟩
    unfold vslice
    simp only [hu, hn]
    cases hw <;> simp only [h1]
  | ne _ id o o2 =>
    have hb0 : b = 0 := by simpa using hb
    subst hb0
    have ha0 : a = 0 := by omega
    subst ha0
    have h1 : vbounds 0 0 lw hw none = some (0, 0, 0) := by
      have e1 := hhi 0 (Nat.le_refl _)
      have e2 := hlo 0 (Nat.le_refl _)
      simp only [List.length_nil] at e1
      unfold vbounds
      rw [show vboundO none 0 0 = some 0 from rfl]
      simp only [e1, e2]
    refine ⟨.se id o o2, ?_, by simpa using Dat.ne c id o o2⟩
    unfold vslice
    simp only [hu, hn, h1]
  | ze _ a0 =>
    have hb0 : b = 0 := by simpa using hb
    subst hb0
    have ha0 : a = 0 := by omega
    subst ha0
    have h1 : vbounds 0 0 lw hw none = some (0, 0, 0) := by
      have e1 := hhi 0 (Nat.le_refl _)
      have e2 := hlo 0 (Nat.le_refl _)
      simp only [List.length_nil] at e1
      unfold vbounds
      rw [show vboundO none 0 0 = some 0 from rfl]
      simp only [e1, e2]
    refine ⟨.ze a0, ?_, by simpa using Dat.ze c a0⟩
    unfold vslice
    cases hw <;> simp only [hu, hn, h1]
  | ny _ id o o2 =>
    have hb0 : b = 0 := by simpa using hb
    subst hb0
    have ha0 : a = 0 := by omega
    subst ha0
    have h1 : vbounds 0 0 lw hw none = some (0, 0, 0) := by
      have e1 := hhi 0 (Nat.le_refl _)
      have e2 := hlo 0 (Nat.le_refl _)
      simp only [List.length_nil] at e1
      unfold vbounds
      rw [show vboundO none 0 0 = some 0 from rfl]
      simp only [e1, e2]
    refine ⟨.sy id o o2, ?_, by simpa using Dat.ny c id o o2⟩
    unfold vslice
    cases hw <;> simp only [hu, hn, h1]
  | mk vs h1 h2 h3 h4 h5 h6 =>
    rename_i id off cap op blk
    have e0 : vbounds xs.length cap lw hw none = some (a, b, cap) := by
      have e1 := hhi cap (by omega)
      have e2 := hlo b hab
      unfold vbounds
      rw [show vboundO none cap cap = some cap from rfl]
      simp only [e1, e2]
    have hlen : ((xs.drop a).take (b - a)).length = b - a := by rw [List.length_take, List.length_drop]; omega
    have hget : ∀ (i : Nat) x, ((xs.drop a).take (b - a))[i]? = some x → xs[a + i]? = some x := by
      intro i x hx
      rw [List.getElem?_take] at hx
      split at hx
      · rw [List.getElem?_drop] at hx; exact hx
      · cases hx
    have fin : ∀ off' cap' op', (b - a = 0 ∨ off' = off + a * Y.wid c) → b - a ≤ cap' → Dat Y own st c ((xs.drop a).take (b - a)) (.sl id off' (b - a) cap' op') := by
      intro off' cap' op' ho hc
      have := Dat.mk (Y := Y) (own := own) (st := st) (c := c) (xs := (xs.drop a).take (b - a)) (id := id) (off := off') (cap := cap') (op := op') (b := blk) (fun i => vs (a + i)) h1 h2 h3 (fun i x hx => by
          rcases ho with ho | rfl
          · exfalso
            have := (List.getElem?_eq_some_iff.1 hx).1
            omega
          · rw [Nat.add_assoc, ← Nat.add_mul]
            exact h4 (a + i) x (hget i x hx)) (fun i x hx j u v hu hv => h5 (a + i) x (hget i x hx) j u v hu hv) (by omega)
      rw [hlen] at this
      exact this
    have e3 : vslice P t (.sl id off xs.length cap op) lw hw none = cond (op && true) (cond (Nat.blt a cap || Nat.beq a 0) (some (.sl id (off + a * Y.wid c) (b - a) (cap - a) true)) (some (.se id off (off + a * Y.wid c)))) (some (.sl id (cond (Nat.beq cap a) off (off + a * Y.wid c)) (b - a) (cap - a) false)) := by
      unfold vslice
      simp only [hu, hn]
      cases hw <;> simp only [e0] <;> rfl
    rw [e3]
    cases op with
    | true =>
      simp only [Bool.true_and, cond_true]
      cases hc : (Nat.blt a cap || Nat.beq a 0) with
      | true => exact ⟨_, rfl, fin _ _ _ (.inr rfl) (by omega)⟩
      | false =>
        simp only [Bool.or_eq_false_iff] at hc
        have : ¬ a < cap := fun q => by rw [← Nat.blt_eq, hc.1] at q; cases q
        refine ⟨_, rfl, ?_⟩
        have : (xs.drop a).take (b - a) = [] := List.length_eq_zero_iff.1 (by omega)
        rw [this]
        exact .ne _ _ _ _
    | false =>
      simp only [Bool.false_and, cond_false]
      cases hc : Nat.beq cap a with
      | true =>
        rw [Nat.beq_eq] at hc
        exact ⟨_, rfl, fin _ _ _ (.inl (by omega)) (by omega)⟩
      | false => exact ⟨_, rfl, fin _ _ _ (.inr rfl) (by omega)⟩

theorem sSl_ok (hI : Inv Y G o0 ro E nx m st) {t : TypeId} {x : U S} {v : V} {lo hi : Option Int} {lw hw : Option V} {k : U S → Prop} (h : sSl Y P m t x lo hi k) (hx : RelV Y (Dat Y (ownOf o0 E m) st) E x v) (hl : (lo = none ∧ lw = none) ∨ ∃ kd n, lo = some n ∧ lw = some (.i kd n)) (hh : (hi = none ∧ hw = none) ∨ ∃ kd n, hi = some n ∧ hw = some (.i kd n)) :
    ∃ u w, vslice P t v lw hw none = some w ∧ RelV Y (Dat Y (ownOf o0 E m) st) E u w ∧ k u := by
  unfold sSl at h
  split at h
  · rename_i r
    simp only [RelV] at hx
    obtain ⟨x, e1, _⟩ := hx
    split at h
    · rename_i e hu
      split at h
      · rename_i n c xs a hn hr
        cases hw' : Nat.beq n (Y.wid c) with
        | false => rw [hw'] at h; exact h.elim
        | true =>
          rw [hw'] at h
          rw [Nat.beq_eq] at hw'
          subst hw'
          simp only [cond_true] at h
          obtain ⟨⟨g1, g2⟩, hk⟩ := h
          obtain ⟨q, _⟩ | ⟨kd, n, q, rfl⟩ := hl
          · cases q
          cases q
          obtain ⟨_, rfl⟩ | ⟨_, _, q, _⟩ := hh
          · rcases hI.ent r _ hr with ⟨v0, q1, q2, q0⟩ | ⟨id, cap, op, b, q1, q2, q3, q4, q5, q6, q7, q8, q9⟩
            · rw [e1] at q1
              cases q1
              subst q2
              have ha : a = 0 := by simp at g2; omega
              subst ha
              exact ⟨.v r (Y.wid c) 0, _, noRoom_slice q0 hu hn rfl, ⟨_, _, e1, .inl ⟨q0, rfl⟩⟩, hk⟩
            · rw [e1] at q1
              cases q1
              have hb : vbounds xs.length cap (some (.i kd a)) none none = some (a.toNat, xs.length, cap) := by
                unfold vbounds
                have z1 : vboundO (some (.i kd a)) xs.length 0 = some a.toNat := vboundI (kd := kd) ⟨g1, g2⟩
                rw [show vboundO none cap cap = some cap from rfl]
                dsimp only
                rw [show vboundO none cap xs.length = some xs.length from rfl]
                dsimp only
                rw [z1]
              cases op with
              | true =>
                obtain ⟨_, rfl⟩ := q8.1 rfl
                cases hc : (Nat.blt a.toNat xs.length || Nat.beq a.toNat 0) with
                | true =>
                  refine ⟨.v r (Y.wid c) a.toNat, _, by unfold vslice; simp only [hu, hn, hb, hc, Option.isNone_none, Bool.true_and, cond_true]; rfl, ⟨_, _, e1, .inr ⟨id, _, _, _, rfl, by omega, .inl ⟨_, _, _, fun _ => by rw [Nat.zero_add], rfl⟩⟩⟩, hk⟩
                | false =>
                  have hlt : ¬ a.toNat < xs.length := fun q => by
                    rw [Bool.or_eq_false_iff] at hc
                    rw [← Nat.blt_eq, hc.1] at q; cases q
                  exact ⟨.v r (Y.wid c) a.toNat, _, by unfold vslice; simp only [hu, hn, hb, hc, Option.isNone_none, Bool.true_and, cond_true, cond_false]; rfl, ⟨_, _, e1, .inr ⟨id, _, _, _, rfl, by omega, .inr ⟨by omega, _, _, rfl⟩⟩⟩, hk⟩
              | false =>
                refine ⟨.v r (Y.wid c) a.toNat, _, by unfold vslice; simp only [hu, hn, hb, Bool.false_and, cond_false]; rfl, ⟨_, _, e1, .inr ⟨id, _, _, _, rfl, by omega, .inl ⟨_, _, _, fun q => ?_, rfl⟩⟩⟩, hk⟩
                cases hc : Nat.beq cap a.toNat with
                | true => rw [Nat.beq_eq] at hc; omega
                | false => rw [cond_false, Nat.zero_add]
          · cases q
      · rename_i n c xs a hn hr
        cases hw' : Nat.beq n (Y.wid c) with
        | false => rw [hw'] at h; exact h.elim
        | true =>
          rw [hw'] at h
          simp only [cond_true] at h
          obtain ⟨⟨g1, g2⟩, hk⟩ := h
          obtain ⟨_, rfl⟩ | ⟨_, _, q, _⟩ := hl
          · obtain ⟨q, _⟩ | ⟨kd, n, q, rfl⟩ := hh
            · cases q
            cases q
            rcases hI.ent r _ hr with ⟨v0, q1, q2, q0⟩ | ⟨id, cap, op, b, q1, q2, q3, q4, q5, q6, q7, q8, q9⟩
            · rw [e1] at q1
              cases q1
              subst q2
              have ha : a = 0 := by simp at g2; omega
              subst ha
              exact ⟨.vh r 0, _, noRoom_slice q0 hu hn rfl, ⟨_, _, e1, .inl ⟨q0, rfl, rfl⟩⟩, hk⟩
            · rw [e1] at q1
              cases q1
              have hb : vbounds xs.length cap none (some (.i kd a)) none = some (0, a.toNat, cap) := by
                unfold vbounds
                have z1 : vboundO (some (.i kd a)) cap xs.length = some a.toNat := vboundI (kd := kd) ⟨g1, by omega⟩
                rw [show vboundO none cap cap = some cap from rfl]
                dsimp only
                rw [z1]
                rfl
              refine ⟨.vh r a.toNat, .sl id 0 a.toNat cap op, ?_, ⟨_, _, e1, .inr ⟨id, _, _, _, rfl, by omega, rfl⟩⟩, hk⟩
              unfold vslice
              simp only [hu, hn, hb]
              cases op with
              | true => simp
              | false => cases hc : Nat.beq cap 0 <;> simp [hc]
          · cases q
      · exact h.elim
    · exact h.elim
  · rename_i c xs
    simp only [RelV] at hx
    split at h
    · rename_i e hu
      split at h
      · rename_i n hn
        cases hw' : Nat.beq n (Y.wid c) with
        | false => rw [hw'] at h; exact h.elim
        | true =>
          rw [hw'] at h
          rw [Nat.beq_eq] at hw'
          subst hw'
          simp only [cond_true] at h
          split at h
          · obtain ⟨_, rfl⟩ | ⟨_, _, q, _⟩ := hl
            · obtain ⟨_, rfl⟩ | ⟨_, _, q, _⟩ := hh
              · obtain ⟨w, g1, g2⟩ := Dat.part hx hu hn (a := 0) (b := xs.length) (lw := none) (hw := none) (Nat.zero_le _) (Nat.le_refl _) (fun _ _ => rfl) (fun _ _ => rfl)
                exact ⟨.l c _, w, g1, (by simpa using g2 : Dat Y (ownOf o0 E m) st c xs w), h⟩
              · cases q
            · cases q
          · rename_i a
            obtain ⟨q, _⟩ | ⟨kd, n, q, rfl⟩ := hl
            · cases q
            cases q
            obtain ⟨_, rfl⟩ | ⟨_, _, q, _⟩ := hh
            · obtain ⟨⟨h1, h2⟩, hk⟩ := h
              obtain ⟨w, g1, g2⟩ := Dat.part hx hu hn (a := a.toNat) (b := xs.length) (lw := some (.i kd a)) (hw := none) (by omega) (Nat.le_refl _) (fun y hy => vboundI (kd := kd) ⟨h1, by omega⟩) (fun _ _ => rfl)
              rw [List.take_of_length_le (by rw [List.length_drop]; omega)] at g2
              exact ⟨.l c _, w, g1, g2, hk⟩
            · cases q
          · rename_i b
            obtain ⟨_, rfl⟩ | ⟨_, _, q, _⟩ := hl
            · obtain ⟨q, _⟩ | ⟨kd, n, q, rfl⟩ := hh
              · cases q
              cases q
              obtain ⟨⟨h1, h2⟩, hk⟩ := h
              obtain ⟨w, g1, g2⟩ := Dat.part hx hu hn (a := 0) (b := b.toNat) (lw := none) (hw := some (.i kd b)) (Nat.zero_le _) (by omega) (fun _ _ => rfl) (fun y hy => vboundI (kd := kd) ⟨h1, by omega⟩)
              simp only [List.drop_zero, Nat.sub_zero] at g2
              exact ⟨.l c _, w, g1, g2, hk⟩
            · cases q
          · rename_i a b
            obtain ⟨q, _⟩ | ⟨kd, n, q, rfl⟩ := hl
            · cases q
            cases q
            obtain ⟨q, _⟩ | ⟨kd', n', q, rfl⟩ := hh
            · cases q
            cases q
            obtain ⟨⟨h1, h2, h3⟩, hk⟩ := h
            obtain ⟨w, g1, g2⟩ := Dat.part hx hu hn (a := a.toNat) (b := b.toNat) (lw := some (.i kd a)) (hw := some (.i kd' b)) (by omega) (by omega) (fun y hy => vboundI (kd := kd) ⟨h1, by omega⟩) (fun y hy => vboundI (kd := kd') ⟨by omega, by omega⟩)
            exact ⟨.l c _, w, g1, g2, hk⟩
      · exact h.elim
    · exact h.elim
  · rename_i r off
    simp only [RelV] at hx
    obtain ⟨id, y, e1, rfl⟩ := hx
    split at h
    · rename_i n e hu
      split at h
      · rename_i z c hz hcode
        cases hc : (Nat.beq z (Y.wid c) && Nat.beq off 0) with
        | false => rw [hc] at h; exact h.elim
        | true =>
          rw [hc] at h
          simp only [Bool.and_eq_true, Nat.beq_eq] at hc
          obtain ⟨rfl, rfl⟩ := hc
          obtain ⟨_, rfl⟩ | ⟨_, _, q, _⟩ := hl
          · obtain ⟨_, rfl⟩ | ⟨_, _, q, _⟩ := hh
            · refine ⟨.vc c r n, .sl id 0 n n false, ?_, ⟨id, y, e1, rfl⟩, h⟩
              have hb : vbounds n n none none none = some (0, n, n) := rfl
              unfold vslice
              simp only [hu, hz, hb, Nat.zero_mul, Nat.add_zero, Nat.sub_zero]
              cases Nat.beq n 0 <;> rfl
            · cases q
          · cases q
      · exact h.elim
    · exact h.elim
  · exact sSlice_ok h hx hl hh

theorem sSl3_ok (hI : Inv Y G o0 ro E nx m st) {t : TypeId} {x z : U S} {v zw : V} {lo hi : Option Int} {lw hw : Option V} {k : U S → Prop} (h : sSl3 Y P m t x lo hi z k) (hx : RelV Y (Dat Y (ownOf o0 E m) st) E x v) (hl : (lo = none ∧ lw = none) ∨ ∃ kd n, lo = some n ∧ lw = some (.i kd n)) (hh : (hi = none ∧ hw = none) ∨ ∃ kd n, hi = some n ∧ hw = some (.i kd n)) (hz : RelV Y (Dat Y (ownOf o0 E m) st) E z zw) :
    ∃ u w, vslice P t v lw hw (some zw) = some w ∧ RelV Y (Dat Y (ownOf o0 E m) st) E u w ∧ k u := by
  unfold sSl3 at h
  split at h
  · rename_i e b kd q hu
    split at h
    · rename_i n c hn hc
      cases hb : (decide (b = 0) && decide (q = 0)) with
      | false => rw [hb] at h; exact h.elim
      | true =>
        rw [hb] at h
        simp only [Bool.and_eq_true, decide_eq_true_eq] at hb
        obtain ⟨rfl, rfl⟩ := hb
        simp only [cond_true] at h
        obtain ⟨_, rfl⟩ | ⟨_, _, q, _⟩ := hl
        · obtain ⟨q, _⟩ | ⟨kd', n', q, rfl⟩ := hh
          · cases q
          cases q
          simp only [RelV] at hz
          subst hz
          have hb0 : vbounds 0 0 none (some (.i kd' 0)) (some (.i kd 0)) = some (0, 0, 0) := rfl
          have hbd : ∀ len cap : Nat, vbounds len cap none (some (.i kd' 0)) (some (.i kd 0)) = some (0, 0, 0) := fun len cap => by
            unfold vbounds
            have z1 : vboundO (some (.i kd 0)) cap cap = some (0 : Int).toNat := vboundI (kd := kd) (y := cap) ⟨Int.le_refl _, Int.natCast_nonneg _⟩
            rw [z1]
            rfl
          have fin : ∀ w : V, noRoom w = true → RelV Y (Dat Y (ownOf o0 E m) st) E (.e0 c) w := fun w hw => hw
          have no : noRoom v = true → ∃ w, vslice P t v none (some (.i kd' 0)) (some (.i kd 0)) = some w ∧ noRoom w = true := by
            intro q
            refine ⟨v, ?_, q⟩
            cases v <;> simp only [noRoom, Bool.false_eq_true] at q <;> (unfold vslice; simp only [hu, hn, hb0])
          have yes : ∀ id off len cap op, v = .sl id off len cap op → ∃ w, vslice P t v none (some (.i kd' 0)) (some (.i kd 0)) = some w ∧ noRoom w = true := by
            rintro id off len cap op rfl
            refine ⟨.sy id off off, ?_, rfl⟩
            unfold vslice
            simp only [hu, hn, hbd]
            cases op <;> rfl
          have all : k (.e0 c) → (noRoom v = true ∨ (∃ id off len cap op, v = .sl id off len cap op) ∨ ∃ id o o2, v = .se id o o2) → ∃ u w, vslice P t v none (some (.i kd' 0)) (some (.i kd 0)) = some w ∧ RelV Y (Dat Y (ownOf o0 E m) st) E u w ∧ k u := by
            intro hk hv
            rcases hv with q | ⟨id, off, len, cap, op, q⟩ | ⟨id, o, o2, rfl⟩
            · obtain ⟨w, e1, e2⟩ := no q; exact ⟨_, w, e1, fin w e2, hk⟩
            · obtain ⟨w, e1, e2⟩ := yes _ _ _ _ _ q; exact ⟨_, w, e1, fin w e2, hk⟩
            · exact ⟨_, .sy id o o2, by unfold vslice; simp only [hu, hn, hb0], fin _ rfl, hk⟩
          split at h
          · simp only [RelV] at hx
            refine all h ?_
            cases hx with
            | nil => exact .inl rfl
            | ze => exact .inl rfl
            | ny => exact .inl rfl
            | ne => exact .inr (.inr ⟨_, _, _, rfl⟩)
            | mk => exact .inr (.inl ⟨_, _, _, _, _, rfl⟩)
          · exact all h (.inl hx)
          · simp only [RelV] at hx
            subst hx
            exact all h (.inl rfl)
          · rename_i r
            split at h
            · rename_i c' xs hr
              simp only [RelV] at hx
              obtain ⟨y, e1, _⟩ := hx
              rcases hI.ent r _ hr with ⟨v0, q1, q2, q0⟩ | ⟨id, cap, op, b, q1, _⟩
              · rw [e1] at q1; cases q1; exact all h (.inl q0)
              · rw [e1] at q1; cases q1; exact all h (.inr (.inl ⟨_, _, _, _, _, rfl⟩))
            · exact h.elim
          · exact h.elim
        · cases q
    · exact h.elim
  · exact h.elim

theorem sIndexAddr_ok (hI : Inv Y G o0 ro E nx m st) {t : TypeId} {x : U S} {v : V} {i : Int} {k : U S → Prop} (h : sIndexAddr Y P m t x i k) (hx : RelV Y (Dat Y (ownOf o0 E m) st) E x v) : ∃ u w, vindexAddr P t v i = some w ∧ RelV Y (Dat Y (ownOf o0 E m) st) E u w ∧ k u := by
  unfold sIndexAddr at h
  split at h
  · rename_i e hu
    split at h
    · rename_i n hn
      split at h
      · rename_i c xs
        simp only [RelV] at hx
        cases hw : Nat.beq n (Y.wid c) with
        | false => rw [hw] at h; exact h.elim
        | true =>
          rw [hw] at h
          rw [Nat.beq_eq] at hw
          subst hw
          obtain ⟨hb, hk⟩ := h
          have hx' := hx
          cases hx with
          | nil => exfalso; simp at hb; omega
          | ne => exfalso; simp at hb; omega
          | ze => exfalso; simp at hb; omega
          | ny => exfalso; simp at hb; omega
          | mk vs h1 h2 h3 h4 h5 h6 =>
            refine ⟨.pd c xs i.toNat 0, _, by unfold vindexAddr; simp only [hu, hn, bnd hb, cond_true]; rfl, ⟨toNat_lt hb, _, _, _, _, hx', ?_⟩, hk⟩
            rw [Nat.add_zero]
      · rename_i r
        split at h
        · rename_i c xs hr
          cases hw : Nat.beq n (Y.wid c) with
          | false => rw [hw] at h; exact h.elim
          | true =>
            rw [hw] at h
            rw [Nat.beq_eq] at hw
            subst hw
            obtain ⟨hb, hk⟩ := h
            simp only [RelV] at hx
            obtain ⟨y, e1, _⟩ := hx
            rcases hI.ent r _ hr with ⟨v0, q1, q2, q0⟩ | ⟨id, cap, op, b, q1, _⟩
            · subst q2; exfalso; simp at hb; omega
            · rw [e1] at q1
              cases q1
              refine ⟨.pe r (Y.wid c) i.toNat 0, _, by unfold vindexAddr; simp only [hu, hn, bnd hb, cond_true]; rfl, ⟨_, _, e1, ?_⟩, hk⟩
              rw [Nat.add_zero, Nat.zero_add]
        · exact h.elim
      · exact h.elim
    · exact h.elim
  · rename_i len e hu
    split at h
    · rename_i n hn
      split at h
      · rename_i r off
        simp only [RelV] at hx
        obtain ⟨id, y, e1, rfl⟩ := hx
        exact ⟨.p r (off + i.toNat * n), _, by unfold vindexAddr; simp only [hu, hn, bnd h.1, cond_true], ⟨id, y, e1, rfl⟩, h.2⟩
      · rename_i g off
        simp only [RelV] at hx
        obtain ⟨e1, rfl⟩ := hx
        exact ⟨.g g (off + i.toNat * n), _, by unfold vindexAddr; simp only [hu, hn, bnd h.1, cond_true], ⟨e1, rfl⟩, h.2⟩
      · rename_i r w j off
        simp only [RelV] at hx
        obtain ⟨id, y, e1, rfl⟩ := hx
        exact ⟨.pe r w j (off + i.toNat * n), _, by unfold vindexAddr; simp only [hu, hn, bnd h.1, cond_true], ⟨id, y, e1, congrArg (V.p id) (Nat.add_assoc ..)⟩, h.2⟩
      · rename_i c xs j off
        simp only [RelV] at hx
        obtain ⟨e0, id, o, cap, op, e1, rfl⟩ := hx
        exact ⟨.pd c xs j (off + i.toNat * n), _, by unfold vindexAddr; simp only [hu, hn, bnd h.1, cond_true], ⟨e0, id, o, cap, op, e1, congrArg (V.p id) (Nat.add_assoc ..)⟩, h.2⟩
      · exact h.elim
    · exact h.elim
  · exact h.elim

/-- A pointer's shape. -/
theorem sFieldAddr_ok {D : DD S} {t : TypeId} {x : U S} {v : V} {f : Nat} {k : U S → Prop} (h : sFieldAddr P t x f k) (hx : RelV Y D E x v) : ∃ id off u w, v = .p id off ∧ vfieldAddr P t id off f = some w ∧ RelV Y D E u w ∧ k u := by
  unfold sFieldAddr at h
  split at h
  · rename_i fs hu
    split at h
    · rename_i fd hf
      split at h
      · rename_i n hn
        cases hz : Nat.blt 0 n with
        | false => rw [hz] at h; exact h.elim
        | true =>
          rw [hz] at h
          simp only [cond_true] at h
          have ev : ∀ id off, vfieldAddr P t id off f = some (.p id (off + fd.offset)) := fun id off => (by unfold vfieldAddr; simp only [hu, hf, hn, hz, cond_true])
          split at h
          · rename_i r off
            simp only [RelV] at hx
            obtain ⟨id, y, e1, rfl⟩ := hx
            exact ⟨_, _, .p r (off + fd.offset), _, rfl, ev _ _, ⟨id, y, e1, rfl⟩, h⟩
          · rename_i g off
            simp only [RelV] at hx
            obtain ⟨e1, rfl⟩ := hx
            exact ⟨_, _, .g g (off + fd.offset), _, rfl, ev _ _, ⟨e1, rfl⟩, h⟩
          · rename_i r w i off
            simp only [RelV] at hx
            obtain ⟨id, y, e1, rfl⟩ := hx
            exact ⟨_, _, .pe r w i (off + fd.offset), _, rfl, ev _ _, ⟨id, y, e1, congrArg (V.p id) (Nat.add_assoc ..)⟩, h⟩
          · rename_i c xs i off
            simp only [RelV] at hx
            obtain ⟨e0, id, o, cap, op, e1, rfl⟩ := hx
            exact ⟨_, _, .pd c xs i (off + fd.offset), _, rfl, ev _ _, ⟨e0, id, o, cap, op, e1, congrArg (V.p id) (Nat.add_assoc ..)⟩, h⟩
          · exact h.elim
      · exact h.elim
    · exact h.elim
  · exact h.elim

theorem sLoad_ok (hI : Inv Y G o0 ro E nx m st) {t : TypeId} {x : U S} {v : V} {k : U S → Prop} (h : sLoad Y P G m t x k) (hx : RelV Y (Dat Y (ownOf o0 E m) st) E x v) : ∃ id off u w, v = .p id off ∧ vload P st t id off = some w ∧ RelV Y (Dat Y (ownOf o0 E m) st) E u w ∧ k u := by
  unfold sLoad at h
  split at h
  · rename_i r off
    split at h
    · rename_i us hr
      obtain ⟨u, h1, h2⟩ := onO_ok h
      simp only [RelV] at hx
      obtain ⟨id, y, e1, rfl⟩ := hx
      obtain ⟨id', y', b, vs, q1, q2, q3, q4, q5, q6, q7⟩ := hI.ent r _ hr
      rw [e1] at q1
      cases q1
      obtain ⟨w, e2, e3⟩ := sAt_ok (st := st) (id := id) (o := 0) h1 q6 q4 (fun j hj => by rw [Nat.zero_add]; exact q7 j hj)
      rw [Nat.zero_add] at e2
      exact ⟨id, off, u, w, rfl, e2, e3, h2⟩
    · exact h.elim
  · rename_i r w i off
    split at h
    · rename_i c xs hr
      cases hw : Nat.beq w (Y.wid c) with
      | false => rw [hw] at h; exact h.elim
      | true =>
        rw [hw] at h
        rw [Nat.beq_eq] at hw
        subst hw
        obtain ⟨hi, h⟩ := h
        obtain ⟨u, h1, h2⟩ := onO_ok h
        simp only [RelV] at hx
        obtain ⟨id, y, e1, rfl⟩ := hx
        rcases hI.ent r _ hr with ⟨v0, q1, q2, q0⟩ | ⟨id', cap, op, b, q1, q2, q3, q4, q5, q6, q7, q8, vs, q9, q10⟩
        · subst q2; simp at hi
        · rw [e1] at q1
          cases q1
          have hxi : xs[i]? = some (xs.getD i (Y.dflt c)) := by rw [List.getD_eq_getElem?_getD, List.getElem?_eq_getElem hi]; rfl
          have hrow := q9 i _ hxi
          obtain ⟨s1, s2⟩ := Blk.row_spec _ _ _ hrow
          have hrel : RelL Y (Dat Y (ownOf o0 E m) st) E (Y.cells c (xs.getD i (Y.dflt c))) (vs i) := RelL.of_get (by rw [s1, Y.len]) fun j u v hu hv => (q10 i _ hxi j u v hu hv).rel
          obtain ⟨z, e2, e3⟩ := sAt_ok (st := st) (id := id) (o := i * Y.wid c) h1 hrel q4 (fun j hj => by
            rw [Y.len, ← s1] at hj
            rw [s2 j _ (List.getElem?_eq_getElem hj), List.getElem?_eq_getElem hj])
          exact ⟨id, _, u, z, rfl, e2, e3, h2⟩
    · exact h.elim
  · rename_i c xs i off
    obtain ⟨u, h1, h2⟩ := onO_ok h
    simp only [RelV] at hx
    obtain ⟨hi, id, o, cap, op, hd, rfl⟩ := hx
    generalize hz : xs.length = zl at hd
    cases hd with
    | mk vs q1 q2 q3 q4 q5 q6 =>
      have hxi : xs[i]? = some (xs.getD i (Y.dflt c)) := by rw [List.getD_eq_getElem?_getD, List.getElem?_eq_getElem hi]; rfl
      have hrow := q4 i _ hxi
      obtain ⟨s1, s2⟩ := Blk.row_spec _ _ _ hrow
      have hrel : RelL Y (Dat Y (ownOf o0 E m) st) E (Y.cells c (xs.getD i (Y.dflt c))) (vs i) := RelL.of_get (by rw [s1, Y.len]) fun j u v hu hv => (q5 i _ hxi j u v hu hv).rel
      obtain ⟨z, e2, e3⟩ := sAt_ok (st := st) (id := id) (o := o + i * Y.wid c) h1 hrel q3 (fun j hj => by
        rw [Y.len, ← s1] at hj
        rw [s2 j _ (List.getElem?_eq_getElem hj), List.getElem?_eq_getElem hj])
      exact ⟨id, _, u, z, rfl, e2, e3, h2⟩
  · rename_i g off
    split at h
    · rename_i kd l hg
      cases ht : isIntB P t with
      | false => rw [ht] at h; exact h.elim
      | true =>
        rw [ht] at h
        obtain ⟨ho, hk⟩ := h
        simp only [RelV] at hx
        obtain ⟨e1, rfl⟩ := hx
        obtain ⟨_, b, q1, q2⟩ := hI.glob g kd l hg
        unfold isIntB at ht
        split at ht
        · rename_i kk hu
          refine ⟨g, off, .i kd (l.getD off 0), .i kd (l.getD off 0), rfl, ?_, rfl, hk⟩
          unfold vload isAggB
          cases hi : P.info? t with
          | none =>
            exfalso
            simp [Program.underlying, hi] at hu
          | some ti => simp only [q1, hu, cond_false]; exact q2 off ho
        · cases ht
    · exact h.elim
  · exact h.elim

/-- A quiet operation, from this memory: its value, whatever is called. -/
def QVal (P : Program) (ro : Nat) (st : St) (frV : T V) (op : Op) (v : V) : Prop := quietOp op = true ∧ ∀ call ver, vop P ro call frV ⟨st.nx, st.hp, ver⟩ op = some (some v, ⟨st.nx, st.hp, ver⟩)

theorem sQ_ok (hI : Inv Y G o0 ro E nx m st) {o : Op} {k : U S → Prop} (h : sQ Y P G fr m o k) (hf : RelF Y (Dat Y (ownOf o0 E m) st) E fr frV) : ∃ u v, QVal P ro st frV o v ∧ RelV Y (Dat Y (ownOf o0 E m) st) E u v ∧ k u := by
  unfold sQ at h
  split at h
  · obtain ⟨u, v, h1, h2, h3⟩ := sOpd_ok h hf
    exact ⟨u, v, ⟨rfl, fun call ver => by simp only [vop, h1]⟩, h2, h3⟩
  · obtain ⟨u, v, h1, h2, h3⟩ := sOpd_ok h hf
    exact ⟨u, v, ⟨rfl, fun call ver => by simp only [vop, h1]⟩, h2, h3⟩
  · rename_i c a b
    obtain ⟨u, v, h1, h2, h3⟩ := sOpd_ok h hf
    have way : ∀ x : Bool, v = .b x → (x = true → sOpd fr a k) → (x = false → sOpd fr b k) → ∃ u v, QVal P ro st frV (.pick c a b) v ∧ RelV Y (Dat Y (ownOf o0 E m) st) E u v ∧ k u := by
      intro x hv ha hb
      subst hv
      cases x with
      | true => obtain ⟨u, v, g1, g2, g3⟩ := sOpd_ok (ha rfl) hf; exact ⟨u, v, ⟨rfl, fun call ver => by simp only [vop, h1, cond_true, g1]⟩, g2, g3⟩
      | false => obtain ⟨u, v, g1, g2, g3⟩ := sOpd_ok (hb rfl) hf; exact ⟨u, v, ⟨rfl, fun call ver => by simp only [vop, h1, cond_false, g1]⟩, g2, g3⟩
    split at h3
    · exact way true h2 (fun _ => h3) (fun q => by cases q)
    · exact way false h2 (fun q => by cases q) (fun _ => h3)
    · rename_i x; exact way x h2 h3.1 h3.2
    · exact h3.elim
  · obtain ⟨u, v, h1, h2, h3⟩ := sOpd_ok h hf
    obtain ⟨w, z, h4, h5, h6⟩ := sOpd_ok h3 hf
    obtain ⟨r, y, h7, h8, h9⟩ := sBin_ok h6 h2 h5
    exact ⟨r, y, ⟨rfl, fun call ver => by simp only [vop, h1, h4, h7]⟩, h8, h9⟩
  · obtain ⟨u, v, h1, h2, h3⟩ := sOpd_ok h hf
    obtain ⟨r, y, h7, h8, h9⟩ := sUn_ok h3 h2
    exact ⟨r, y, ⟨rfl, fun call ver => by simp only [vop, h1, h7]⟩, h8, h9⟩
  · obtain ⟨u, v, h1, h2, h3⟩ := sOpd_ok h hf
    obtain ⟨r, y, h7, h8, h9⟩ := sField_ok h3 h2
    exact ⟨r, y, ⟨rfl, fun call ver => by simp only [vop, h1, h7]⟩, h8, h9⟩
  · obtain ⟨u, v, h1, h2, h3⟩ := sOpd_ok h hf
    obtain ⟨w, z, h4, h5, h6⟩ := sOpd_ok h3 hf
    split at h6
    · simp only [RelV] at h5
      subst h5
      obtain ⟨r, y, h7, h8, h9⟩ := sIndex_ok (sSplit_ok h6) h2
      exact ⟨r, y, ⟨rfl, fun call ver => by simp only [vop, h1, h4, h7]⟩, h8, h9⟩
    · exact h6.elim
  · obtain ⟨u, v, h1, h2, h3⟩ := sOpd_ok h hf
    obtain ⟨w, z, h4, h5, h6⟩ := sOpd_ok h3 hf
    split at h6
    · simp only [RelV] at h5
      subst h5
      obtain ⟨r, y, h7, h8, h9⟩ := sIndexAddr_ok hI (sSplit_ok h6) h2
      exact ⟨r, y, ⟨rfl, fun call ver => by simp only [vop, h1, h4, h7]⟩, h8, h9⟩
    · exact h6.elim
  · obtain ⟨u, v, h1, h2, h3⟩ := sOpd_ok h hf
    obtain ⟨id, off, r, y, rfl, h7, h8, h9⟩ := sFieldAddr_ok h3 h2
    exact ⟨r, y, ⟨rfl, fun call ver => by simp only [vop, h1, h7]⟩, h8, h9⟩
  · obtain ⟨u, v, h1, h2, h3⟩ := sOpd_ok h hf
    obtain ⟨id, off, r, y, rfl, h7, h8, h9⟩ := sLoad_ok hI h3 h2
    exact ⟨r, y, ⟨rfl, fun call ver => by simp only [vop, h1]; rw [show vload P ⟨st.nx, st.hp, ver⟩ _ id off = some y from h7]⟩, h8, h9⟩
  · obtain ⟨us, vs, h1, h2, h3⟩ := sParts_ok hf h
    obtain ⟨r, y, h7, h8, h9⟩ := sBuild_ok h3 h2
    exact ⟨r, y, ⟨rfl, fun call ver => by simp only [vop, h1, h7]⟩, h8, h9⟩
  · split at h
    · obtain ⟨u, v, h1, h2, h3⟩ := sOpd_ok h hf
      obtain ⟨a, aw, h4, h6⟩ := sOpt_ok h3 hf
      obtain ⟨b, bw, h7, h9⟩ := sOpt_ok h4 hf
      obtain ⟨r, y, g1, g2, g3⟩ := sSl_ok hI (lw := aw) (hw := bw) h7 h2 (h6.imp (fun q => q.2) fun ⟨_, kd, n, _, _, q⟩ => ⟨kd, n, q⟩) (h9.imp (fun q => q.2) fun ⟨_, kd, n, _, _, q⟩ => ⟨kd, n, q⟩)
      refine ⟨r, y, ⟨rfl, fun call ver => ?_⟩, g2, g3⟩
      obtain ⟨rfl, rfl, rfl⟩ | ⟨q, kd, n, rfl, e1, rfl, rfl⟩ := h6 <;> obtain ⟨rfl, rfl, rfl⟩ | ⟨q', kd', n', rfl, e2, rfl, rfl⟩ := h9
      · simp only [vop, h1, g1]
      · simp only [vop, h1, e2, Option.map_some, g1]
      · simp only [vop, h1, e1, Option.map_some, g1]
      · simp only [vop, h1, e1, e2, Option.map_some, g1]
    · obtain ⟨u, v, h1, h2, h3⟩ := sOpd_ok h hf
      obtain ⟨a, aw, h4, h6⟩ := sOpt_ok h3 hf
      obtain ⟨b, bw, h7, h9⟩ := sOpt_ok h4 hf
      obtain ⟨z, zw, h10, h11, h12⟩ := sOpd_ok h7 hf
      obtain ⟨r, y, g1, g2, g3⟩ := sSl3_ok hI (lw := aw) (hw := bw) h12 h2 (h6.imp (fun q => q.2) fun ⟨_, kd, n, _, _, q⟩ => ⟨kd, n, q⟩) (h9.imp (fun q => q.2) fun ⟨_, kd, n, _, _, q⟩ => ⟨kd, n, q⟩) h11
      refine ⟨r, y, ⟨rfl, fun call ver => ?_⟩, g2, g3⟩
      obtain ⟨rfl, rfl, rfl⟩ | ⟨q, kd, n, rfl, e1, rfl, rfl⟩ := h6 <;> obtain ⟨rfl, rfl, rfl⟩ | ⟨q', kd', n', rfl, e2, rfl, rfl⟩ := h9
      · simp only [vop, h1, h10, Option.map_some, g1]
      · simp only [vop, h1, e2, h10, Option.map_some, g1]
      · simp only [vop, h1, e1, h10, Option.map_some, g1]
      · simp only [vop, h1, e1, e2, h10, Option.map_some, g1]
  · obtain ⟨u, v, h1, h2, h3⟩ := sOpd_ok h hf
    have ptr : ∃ id off, v = .p id off ∧ k u := by
      unfold sNil at h3
      split at h3
      · simp only [RelV] at h2; obtain ⟨_, _, _, rfl⟩ := h2; exact ⟨_, _, rfl, h3⟩
      · simp only [RelV] at h2; obtain ⟨_, rfl⟩ := h2; exact ⟨_, _, rfl, h3⟩
      · simp only [RelV] at h2; obtain ⟨_, _, _, rfl⟩ := h2; exact ⟨_, _, rfl, h3⟩
      · simp only [RelV] at h2; obtain ⟨_, _, _, _, _, _, rfl⟩ := h2; exact ⟨_, _, rfl, h3⟩
      · exact h3.elim
    obtain ⟨id, off, rfl, hk⟩ := ptr
    exact ⟨u, .p id off, ⟨rfl, fun call ver => by simp only [vop, h1]⟩, h2, hk⟩
  · split at h
    · rename_i he
      obtain ⟨us, vs, h1, h2, h3⟩ := sOpds_ok hf h
      exact ⟨.f _ us, .f (.func _) [] vs, ⟨rfl, fun call ver => by simp only [vop, he, opnds, h1]⟩, ⟨vs, rfl, h2⟩, h3⟩
    · exact h.elim
  · obtain ⟨u, v, h1, h2, h3⟩ := sOpd_ok h hf
    split at h3
    · simp only [RelV] at h2
      obtain ⟨vs, rfl, h2⟩ := h2
      obtain ⟨r, h4, h5⟩ := onO_ok h3
      obtain ⟨w, h6, h7⟩ := h2.get h4
      exact ⟨r, w, ⟨rfl, fun call ver => by simp only [vop, h1, h6]⟩, h7, h5⟩
    · exact h3.elim
  · rename_i c
    obtain ⟨callee, args, ts⟩ := c
    dsimp only at h
    split at h
    · split at h
      · rename_i x t ha ht
        obtain ⟨u, v, h1, h2, h3⟩ := sOpd_ok h hf
        obtain ⟨r, w, h4, h5, h6⟩ := sLen_ok hI h3 h2
        exact ⟨r, w, ⟨rfl, fun call ver => by simp only [vop, ha, ht, opnds, h1, vbuiltin, h4]⟩, h5, h6⟩
      · exact h.elim
    · obtain ⟨us, vs, h1, h2, h3⟩ := sOpds_ok hf h
      split at h3
      · simp only [RelL] at h2
        obtain ⟨v, r, rfl, h4, h5⟩ := h2
        obtain ⟨z, w, h6, h7, h8⟩ := sMinL_ok h3 h4 h5
        exact ⟨z, w, ⟨rfl, fun call ver => by simp only [vop, h1, vbuiltin, h6]⟩, h7, h8⟩
      · exact h3.elim
    · obtain ⟨us, vs, h1, h2, h3⟩ := sOpds_ok hf h
      split at h3
      · simp only [RelL] at h2
        obtain ⟨v, r, rfl, h4, h5⟩ := h2
        obtain ⟨z, w, h6, h7, h8⟩ := sMinL_ok h3 h4 h5
        exact ⟨z, w, ⟨rfl, fun call ver => by simp only [vop, h1, vbuiltin, h6]⟩, h7, h8⟩
      · exact h3.elim
    · exact h.elim
  · exact h.elim
end
end Go.Sx
namespace Go.Sx
open Go.Vm

section
variable {S : Sg}
/-- Buffers in a value become data; which ones. -/
def frzL (m : T (Ct S)) : List (U S) → (List (U S) → List Nat → Prop) → Prop
  | [], k => k [] []
  | u :: us, k => match u with
    | .o r => match m.get r with
      | some (.buf c xs) => frzL m us fun us' ks => k (.l c xs :: us') (r :: ks)
      | _ => frzL m us fun us' ks => k (.o r :: us') ks
    | u => frzL m us fun us' ks => k (u :: us') ks
def frzU (m : T (Ct S)) (u : U S) (k : U S → List Nat → Prop) : Prop := match u with
  | .a us => frzL m us fun us' ks => k (.a us') ks
  | .o r => match m.get r with
    | some (.buf c xs) => k (.l c xs) [r]
    | _ => k (.o r) []
  | u => k u []
def frzP (m : T (Ct S)) : List (Nat × U S) → (List (Nat × U S) → List Nat → Prop) → Prop
  | [], k => k [] []
  | (i, u) :: us, k => frzU m u fun u' ks => frzP m us fun us' ks' => k ((i, u') :: us') (ks ++ ks')
def updN : List Nat → T (Ct S) → T (Ct S)
  | [], m => m
  | r :: ks, m => (updN ks m).upd r none
/-- These names name nothing any more. -/
def dropN (ks : List Nat) (m : T (Ct S)) : T (Ct S) := match ks with
  | [] => m
  | r :: ks => updN (r :: ks) (Tmap (killCt (r :: ks)) m)

end

section
variable {S : Sg} (Y : Sy S) (P : Program)

def atomU : U S → Bool
  | .a _ | .t _ | .dead | .v _ _ _ | .vh _ _ | .vc _ _ _ => false
  | _ => true
def allU (us : List (U S)) : Bool := match us with
  | [] => true
  | u :: us => atomU u && allU us
def nrm : U S → U S
  | .kb x => .b x
  | .e0 c => .l c []
  | u => u
def nrms : List (U S) → List (U S)
  | [] => []
  | u :: us => nrm u :: nrms us

/-- Nil, where a slice of these is wanted. -/
def rnil : List (Option S.Cd) → List (U S) → List (U S)
  | some c :: cs, .sn :: us => .l c [] :: rnil cs us
  | _ :: cs, u :: us => u :: rnil cs us
  | [], us => us
  | _ :: _, [] => []

def nrml (lk : List (Option S.Cd)) (us : List (U S)) : List (U S) := rnil lk (nrms us)
/-- Row by row. -/
def nrmr (lk : List (Option S.Cd)) (n : Nat) : Nat → List (U S) → List (U S)
  | 0, us => nrms us
  | j + 1, us => nrml lk (us.take n) ++ nrmr lk n j (us.drop n)

/-- The elements of what is appended. -/
def sElems (m : T (Ct S)) (c : S.Cd) (x : U S) (k : List (S.Den c) → Prop) : Prop := match x with
  | .s l => Y.ofB c l k
  | .sn => k []
  | .e0 _ => k []
  | .l c' ys => Y.cast c' c ys k
  | .o r => match m.get r with
    | some (.buf c' ys) => Y.cast c' c ys k
    | some (.row c' ys) => Y.cast c' c ys k
    | _ => False
  | _ => False
/-- Rows of cells are elements. -/
def sRows (c : S.Cd) (n : Nat) (us : List (U S)) (k : List (S.Den c) → Prop) : Nat → Prop
  | 0 => k []
  | j + 1 => Y.dec c (us.take n) fun x => sRows c n (us.drop n) (fun xs => k (x :: xs)) j

def repeatU (z : List (U S)) : Nat → List (U S)
  | 0 => []
  | n + 1 => z ++ repeatU z n

/-- What an operation on memory comes to: its value, how many names, what they hold, which names are given anew, which are written. -/
abbrev Kn (S : Sg) := Option (U S) → Nat → T (Ct S) → List Nat → List Nat → Prop

def sNew (nx : Nat) (m : T (Ct S)) (us : List (U S)) (k : Kn S) : Prop := cond (allU us) (k (some (.p nx 0)) (nx + 1) (m.upd nx (some (.cells us))) [] []) False
def sBuf (nx : Nat) (m : T (Ct S)) (c : S.Cd) (xs : List (S.Den c)) (k : Kn S) : Prop := k (some (.o nx)) (nx + 1) (m.upd nx (some (.buf c xs))) [] []

def sStore (nx : Nat) (m : T (Ct S)) (t : TypeId) (x v : U S) (k : Kn S) : Prop := match sizeB P t with
  | some n => cond (solid v && (allU (cellsU v) && Nat.beq (cellsU v).length n)) (match x with
    | .p r off => match m.get r with
      | some (.cells us) => cond (Nat.ble (off + n) us.length) (k none nx (m.upd r (some (.cells (setAtU us off (cellsU v))))) [] [r]) False
      | _ => False
    | .pe r w i off => match m.get r with
      | some (.buf c xs) => cond (Nat.beq w (Y.wid c) && Nat.ble (off + n) (Y.wid c)) (i < xs.length ∧ Y.dec c (setAtU (Y.cells c (xs.getD i (Y.dflt c))) off (nrml ((Y.lk c).drop off) (cellsU v))) fun y => k none nx (m.upd r (some (.buf c (xs.set i y)))) [] [r]) False
      | _ => False
    | _ => False) False
  | none => False

def sBuildSlice (nx : Nat) (m : T (Ct S)) (t : TypeId) (len : Nat) (parts : List (Nat × U S)) (k : Kn S) : Prop := match P.underlying t with
  | some (.slice e) => match sizeB P e, zeroU (S := S) P e, Y.code e with
    | some n, some z, some c => cond (Nat.ble (len * n) 16777216 && Nat.blt 0 n && Nat.beq (cellsU z).length n && solid z && Nat.beq n (Y.wid c))
      (onO (sFill (fun i => some (i * n, n)) (repeatU (cellsU z) len) parts) fun us => sRows Y c n (nrmr (Y.lk c) n len us) (fun xs => cond (Y.opn c) (cond (Nat.ble len 2) (k (some (.l c xs)) nx m [] []) (k (some (.o nx)) (nx + 1) (m.upd nx (some (.row c xs))) [] [])) (sBuf nx m c xs k)) len) False
    | _, _, _ => False
  | _ => False

def sMakeSlice (nx : Nat) (m : T (Ct S)) (t : TypeId) (len cap : Int) (k : Kn S) : Prop := match P.underlying t with
  | some (.slice e) => match P.info? e, zeroU (S := S) P e, Y.code e with
    | some ti, some z, some c => cond (Nat.blt 0 ti.size && Nat.beq (cellsU z).length ti.size && solid z && Nat.beq ti.size (Y.wid c) && !(Y.opn c))
      ((0 ≤ len ∧ len ≤ cap ∧ (ti.bytes : Int) * cap ≤ 1099511627776 ∧ cap ≤ 1099511627776) ∧ Y.dec c (nrml (Y.lk c) (cellsU z)) fun x => sBuf nx m c (List.replicate len.toNat x) k) False
    | _, _, _ => False
  | _ => False

def sAppend (nx : Nat) (m : T (Ct S)) (t : TypeId) (s x : U S) (k : Kn S) : Prop := match P.underlying t with
  | some (.slice e) => match P.info? e, Y.code e with
    | some ti, some c => cond (Nat.beq ti.size (Y.wid c) && Nat.blt 0 ti.bytes && zeroFits P e ti.size) (sElems Y m c x fun ys => match s with
      | .sn => ys.length * ti.bytes ≤ 1099511627776 ∧ sBuf nx m c ys k
      | .e0 _ => ys.length * ti.bytes ≤ 1099511627776 ∧ sBuf nx m c ys k
      | .o r => match m.get r with
        | some (.buf c' xs) => cond (Y.cvb && !(Y.opn c')) False (Y.cast c' c xs fun xs => (xs.length + ys.length) * ti.bytes ≤ 1099511627776 ∧ k (some (.o r)) nx ((Tmap (killCt [r]) m).upd r (some (.buf c (xs ++ ys)))) [r] [r])
        | _ => False
      | _ => False) False
    | _, _ => False
  | _ => False

def sConvert (nx : Nat) (m : T (Ct S)) (src dst : TypeId) (x : U S) (k : Kn S) : Prop := match P.underlying src, P.underlying dst, x with
  | some _, some (.int kd), .i _ n => sArith kd n fun u => k (some u) nx m [] []
  | some _, some .string, .s l => k (some (.s l)) nx m [] []
  | some _, some (.slice e), .s l => match P.underlying e, Y.code e with
    | some (.int .u8), some c => l.length ≤ 1099511627776 ∧ Y.ofB c l fun xs => cond (Y.cvb && !(Y.opn c)) (sBuf nx m c xs k) (k (some (.l c xs)) nx m [] [])
    | _, _ => False
  | some (.slice e), some .string, .sn => match P.underlying e with
    | some (.int .u8) => k (some (.s [])) nx m [] []
    | _ => False
  | some (.slice e), some .string, .l c xs => match P.underlying e with
    | some (.int .u8) => Y.byt c xs fun bs => k (some (.s bs)) nx m [] []
    | _ => False
  | some (.slice e), some .string, .o r => match P.underlying e, m.get r with
    | some (.int .u8), some (.buf c xs) => Y.byt c xs fun bs => k (some (.s bs)) nx m [] []
    | _, _ => False
  | some (.slice e), some .string, .v r w i => match P.underlying e, m.get r with
    | some (.int .u8), some (.buf c xs) => cond (Nat.beq w (Y.wid c)) (Y.byt c (xs.drop i) fun bs => k (some (.s bs)) nx m [] []) False
    | _, _ => False
  | _, _, _ => False

/-- The bytes of a text that is known, as a slice. -/
def sConv2 (nx : Nat) (m : T (Ct S)) (src dst : TypeId) (x : U S) (k : Kn S) : Prop := match P.underlying src, P.underlying dst, x with
  | some (.slice e), some (.slice _), .o r => match P.underlying e, m.get r with
    | some (.int .u8), some (.row c _) => cond (decide (src = dst) && Nat.beq (Y.wid c) 1) (k (some (.o r)) nx m [] []) False
    | _, _ => False
  | _, _, x => sConvert Y P nx m src dst x k
/-- An operation on memory. -/
def sE (fr : T (U S)) (nx : Nat) (m : T (Ct S)) (o : Op) (k : Kn S) : Prop := match o with
  | .store t x v => sOpd fr x fun x => sOpd fr v fun v => match x with
    | .pe r w i off => frzU m v fun v ks => sStore Y P nx (dropN ks m) t (kill ks (.pe r w i off)) v fun u nx m ks2 wr => k u nx m (ks2 ++ ks) wr
    | x => sStore Y P nx m t x v k
  | .alloc t => match zeroU (S := S) P t, sizeB P t with
    | some z, some _ => cond (solid z) (sNew nx m (cellsU z) k) False
    | _, _ => False
  | .box t x => match sizeB P t with
    | some _ => sOpd fr x fun z => cond (solid z) (sNew nx m (cellsU z) k) False
    | none => False
  | .buildSlice t len ps => sParts fr ps.toList fun us => frzP m us fun us ks => sBuildSlice Y P nx (dropN ks m) t len us fun u nx m ks2 wr => k u nx m (ks2 ++ ks) wr
  | .makeSlice t l c => sOpd fr l fun l => sOpd fr c fun c => match l, c with
    | .i _ l, .i _ c => sMakeSlice Y P nx m t l c k
    | _, _ => False
  | .convert s d x => sOpd fr x fun x => sConv2 Y P nx m s d x k
  | .call c => match c.callee, c.args.toList, c.argTypes.toList with
    | .builtin .append, [s, x], [t, u] => match P.underlying u with
      | some (.int _) => False
      | some _ => sOpd fr s fun s => sOpd fr x fun x => sAppend Y P nx m t s x k
      | none => False
    | _, _, _ => False
  | _ => False
end

section
variable {S : Sg} {Y : Sy S} {P : Program} {own : Nat → Prop} {st : St} {E : En} {o0 : Nat → Prop}

/-- Elements, cell by cell. -/
def Cel (Y : Sy S) (c : S.Cd) (xs : List (S.Den c)) (get : Nat → Option V) (DA : U S → V → Prop) : Prop :=
  ∀ (i : Nat) x, xs[i]? = some x → ∀ (j : Nat) u, (Y.cells c x)[j]? = some u → ∃ v, get (i * Y.wid c + j) = some v ∧ DA u v

theorem cel_of_rows {c : S.Cd} {xs : List (S.Den c)} {b : Blk} {off : Nat} {vs : Nat → List V} {DA : U S → V → Prop} (h : ∀ (i : Nat) x, xs[i]? = some x → b.row (Y.wid c) (off + i * Y.wid c) = some (vs i)) (h' : ∀ (i : Nat) x, xs[i]? = some x → ∀ (j : Nat) u v, (Y.cells c x)[j]? = some u → (vs i)[j]? = some v → DA u v) :
    Cel Y c xs (fun k => b.get (off + k)) DA := by
  intro i x hx j u hu
  obtain ⟨s1, s2⟩ := Blk.row_spec _ _ _ (h i x hx)
  have hj : j < (vs i).length := by rw [s1, ← Y.len c x]; exact (List.getElem?_eq_some_iff.1 hu).1
  have e := List.getElem?_eq_getElem hj
  exact ⟨_, by dsimp only; rw [← Nat.add_assoc]; exact s2 j _ e, h' i x hx j u _ hu e⟩

theorem rows_of_cel {c : S.Cd} {xs : List (S.Den c)} {b : Blk} {off : Nat} {DA : U S → V → Prop} (h : Cel Y c xs (fun k => b.get (off + k)) DA) :
    ∃ vs : Nat → List V, (∀ (i : Nat) x, xs[i]? = some x → b.row (Y.wid c) (off + i * Y.wid c) = some (vs i)) ∧ ∀ (i : Nat) x, xs[i]? = some x → ∀ (j : Nat) u v, (Y.cells c x)[j]? = some u → (vs i)[j]? = some v → DA u v := by
  refine ⟨fun i => (List.range (Y.wid c)).map fun j => (b.get (off + (i * Y.wid c + j))).getD (.b false), fun i x hx => ?_, fun i x hx j u v hu hv => ?_⟩
  · have := Blk.row_ok (b := b) ((List.range (Y.wid c)).map fun j => (b.get (off + (i * Y.wid c + j))).getD (.b false)) (off + i * Y.wid c) (fun j hj => by
      have hj' : j < Y.wid c := by simpa using hj
      have hu : (Y.cells c x)[j]? = some ((Y.cells c x)[j]'(by rw [Y.len]; exact hj')) := List.getElem?_eq_getElem _
      obtain ⟨v, e1, _⟩ := h i x hx j _ hu
      dsimp only at e1
      rw [List.getElem?_map, List.getElem?_range hj', Option.map_some, Nat.add_assoc, e1, Option.getD_some])
    simpa using this
  · have hj' : j < Y.wid c := by rw [← Y.len c x]; exact (List.getElem?_eq_some_iff.1 hu).1
    obtain ⟨w, e1, e2⟩ := h i x hx j u hu
    dsimp only at hv e1
    rw [List.getElem?_map, List.getElem?_range hj', Option.map_some, e1, Option.getD_some] at hv
    cases hv
    exact e2

theorem nrm_rel {u : U S} {v : V} (h : RelV Y (Dat Y own st) E u v) : RelV Y (Dat Y own st) E (nrm u) v := by cases u <;> first | exact h | exact noRoom_dat h
theorem nrms_rel : ∀ {us : List (U S)} {vs : List V}, RelL Y (Dat Y own st) E us vs → RelL Y (Dat Y own st) E (nrms us) vs
  | [], _, h => h
  | u :: us, vs, h => by
    simp only [RelL] at h
    obtain ⟨v, r, rfl, h1, h2⟩ := h
    exact ⟨v, r, rfl, nrm_rel h1, nrms_rel h2⟩
theorem nrms_len : ∀ us : List (U S), (nrms us).length = us.length
  | [] => rfl
  | u :: us => by simp [nrms, nrms_len us]

theorem rnil_rel {own : Nat → Prop} {st : St} {E : En} : ∀ {rc : List (Option S.Cd)} {us : List (U S)} {vs : List V}, RelL Y (Dat Y own st) E us vs → RelL Y (Dat Y own st) E (rnil rc us) vs
  | [], us, vs, h => by cases us <;> exact h
  | o :: rc, [], vs, h => by cases o <;> exact h
  | o :: rc, u :: us, vs, h => by
    obtain ⟨v, r, rfl, h1, h2⟩ := h
    have h3 := rnil_rel (rc := rc) h2
    cases o with
    | none => exact ⟨v, r, rfl, h1, h3⟩
    | some c =>
      cases u with
      | sn =>
        simp only [RelV] at h1
        subst h1
        exact ⟨.sn, r, rfl, .nil _, h3⟩
      | _ => exact ⟨v, r, rfl, h1, h3⟩

theorem rnil_len : ∀ (lk : List (Option S.Cd)) (us : List (U S)), (rnil lk us).length = us.length
  | [], us => by cases us <;> rfl
  | o :: lk, [] => by cases o <;> rfl
  | o :: lk, u :: us => by
    cases o with
    | none => simp [rnil, rnil_len lk us]
    | some c => cases u <;> simp [rnil, rnil_len lk us]
theorem nrml_len (lk : List (Option S.Cd)) (us : List (U S)) : (nrml lk us).length = us.length := by rw [nrml, rnil_len, nrms_len]
theorem nrml_rel {lk : List (Option S.Cd)} {us : List (U S)} {vs : List V} (h : RelL Y (Dat Y own st) E us vs) : RelL Y (Dat Y own st) E (nrml lk us) vs := rnil_rel (nrms_rel h)
theorem nrmr_len (lk : List (Option S.Cd)) (n : Nat) : ∀ (j : Nat) (us : List (U S)), (nrmr lk n j us).length = us.length
  | 0, us => nrms_len us
  | j + 1, us => by rw [nrmr, List.length_append, nrml_len, nrmr_len lk n j, ← List.length_append, List.take_append_drop]
theorem nrmr_rel {lk : List (Option S.Cd)} {n : Nat} : ∀ {j : Nat} {us : List (U S)} {vs : List V}, RelL Y (Dat Y own st) E us vs → RelL Y (Dat Y own st) E (nrmr lk n j us) vs
  | 0, us, vs, h => nrms_rel h
  | j + 1, us, vs, h => by
    have := (nrml_rel (lk := lk) (h.take n)).append (nrmr_rel (lk := lk) (n := n) (j := j) (h.drop n))
    rw [List.take_append_drop] at this
    exact this

theorem atomU_ok {u : U S} {v : V} (ha : atomU u = true) (h : RelV Y (Dat Y own st) E u v) : v.atom = true := by
  cases u with
  | dead => cases ha
  | a _ => cases ha
  | t _ => cases ha
  | v _ _ _ => cases ha
  | vh _ _ => cases ha
  | o r => simp only [RelV] at h; obtain ⟨_, _, q⟩ := h; exact q
  | l c xs => simp only [RelV] at h; cases h <;> rfl
  | e0 c => simp only [RelV] at h; cases v <;> first | rfl | (simp only [noRoom, Bool.false_eq_true] at h)
  | _ =>
    simp only [RelV] at h
    first
    | (subst h; rfl)
    | (obtain ⟨_, _, _, rfl⟩ := h; rfl)
    | (obtain ⟨_, rfl⟩ := h; rfl)
    | (obtain ⟨_, rfl, _⟩ := h; rfl)
    | (obtain ⟨_, _, _, _, _, _, rfl⟩ := h; rfl)
theorem allU_ok : ∀ {us : List (U S)} {vs : List V}, allU us = true → RelL Y (Dat Y own st) E us vs → ∀ v ∈ vs, v.atom = true
  | [], vs, _, h => by simp only [RelL] at h; subst h; simp
  | u :: us, vs, ha, h => by
    simp only [RelL] at h
    obtain ⟨v, r, rfl, h1, h2⟩ := h
    simp only [allU, Bool.and_eq_true] at ha
    intro w hw
    rcases List.mem_cons.1 hw with rfl | hw
    · exact atomU_ok ha.1 h1
    · exact allU_ok ha.2 h2 w hw
theorem flat_atom {u : U S} (h : u.flat = true) : atomU u = true := by cases u <;> first | rfl | cases h

theorem repeatU_rel {D : DD S} {us : List (U S)} {vs : List V} (h : RelL Y D E us vs) : ∀ n, RelL Y D E (repeatU us n) (repeatL vs n)
  | 0 => rfl
  | n + 1 => h.append (repeatU_rel h n)
theorem repeatU_len (us : List (U S)) : ∀ n, (repeatU us n).length = n * us.length
  | 0 => by simp [repeatU]
  | n + 1 => by simp [repeatU, repeatU_len us n, Nat.succ_mul]; omega

/-- Rows of cells that are elements. -/
theorem sRows_ok {c : S.Cd} : ∀ {j : Nat} {us : List (U S)} {k : List (S.Den c) → Prop}, sRows Y c (Y.wid c) us k j → us.length = j * Y.wid c → ∃ xs, xs.length = j ∧ k xs ∧ ∀ (i : Nat) x, xs[i]? = some x → ∀ (q : Nat) u, (Y.cells c x)[q]? = some u → us[i * Y.wid c + q]? = some u
  | 0, us, k, h, hl => ⟨[], rfl, h, fun i x hx => by simp at hx⟩
  | j + 1, us, k, h, hl => by
    simp only [sRows] at h
    obtain ⟨x, e1, h2⟩ := Y.dec_ok _ _ _ h
    obtain ⟨xs, e2, h3, h4⟩ := sRows_ok h2 (by rw [List.length_drop, hl, Nat.succ_mul]; omega)
    refine ⟨x :: xs, by simp [e2], h3, fun i y hy q u hu => ?_⟩
    cases i with
    | zero =>
      simp only [List.getElem?_cons_zero, Option.some.injEq] at hy
      subst hy
      rw [← e1] at hu
      rw [List.getElem?_take] at hu
      split at hu
      · rw [Nat.zero_mul, Nat.zero_add]; exact hu
      · cases hu
    | succ i =>
      simp only [List.getElem?_cons_succ] at hy
      have := h4 i y hy q u hu
      rw [List.getElem?_drop] at this
      rw [Nat.succ_mul, ← this]
      congr 1
      omega

/-- What is appended: its elements. -/
theorem sElems_ok {G : Gl} {ro nx : Nat} {m : T (Ct S)} (hI : Inv Y G o0 ro E nx m st) {c : S.Cd} {x : U S} {v : V} {k : List (S.Den c) → Prop} (h : sElems Y m c x k) (hx : RelV Y (Dat Y (ownOf o0 E m) st) E x v) :
    ∃ ys new, k ys ∧ vlen v = some ys.length ∧ vfirst st (Y.wid c) ys.length v = some new ∧ new.length = ys.length * Y.wid c ∧ Cel Y c ys (fun k => new[k]?) (DatA Y (ownOf o0 E m) st) ∧ ∀ v ∈ new, v.atom = true := by
  -- elements of a block
  have blk : ∀ (ys : List (S.Den c)) (id off cap : Nat) (op : Bool) (b : Blk), st.hp.get id = some b → Cel Y c ys (fun k => b.get (off + k)) (DatA Y (ownOf o0 E m) st) → ∃ new, vlen (.sl id off ys.length cap op) = some ys.length ∧ vfirst st (Y.wid c) ys.length (.sl id off ys.length cap op) = some new ∧ new.length = ys.length * Y.wid c ∧ Cel Y c ys (fun k => new[k]?) (DatA Y (ownOf o0 E m) st) ∧ ∀ v ∈ new, v.atom = true := by
    intro ys id off cap op b hb hc
    have hw := Y.wpos c
    have cell : ∀ k, k < ys.length * Y.wid c → ∃ v, b.get (off + k) = some v ∧ v.atom = true := by
      intro k hk
      have h1 : k / Y.wid c < ys.length := Nat.div_lt_of_lt_mul (by rw [Nat.mul_comm]; exact hk)
      have h2 : k % Y.wid c < Y.wid c := Nat.mod_lt _ hw
      have hx := List.getElem?_eq_getElem h1
      have hu : (Y.cells c ys[k / Y.wid c])[k % Y.wid c]? = some _ := List.getElem?_eq_getElem (by rw [Y.len]; exact h2)
      obtain ⟨v, e1, e2⟩ := hc _ _ hx _ _ hu
      dsimp only at e1
      rw [Nat.div_add_mod' ] at e1
      exact ⟨v, e1, atomU_ok (E := E) (flat_atom (Y.flat _ _ _ (List.mem_of_getElem? hu))) e2.rel⟩
    refine ⟨(List.range (ys.length * Y.wid c)).map fun k => (b.get (off + k)).getD (.b false), rfl, ?_, by simp, ?_, ?_⟩
    · have := Blk.row_ok (b := b) ((List.range (ys.length * Y.wid c)).map fun k => (b.get (off + k)).getD (.b false)) off (fun j hj => by
        have hj' : j < ys.length * Y.wid c := by simpa using hj
        obtain ⟨v, e1, _⟩ := cell j hj'
        rw [List.getElem?_map, List.getElem?_range hj', Option.map_some, e1, Option.getD_some])
      simp only [vfirst, hb]
      simpa using this
    · intro i y hy j u hu
      obtain ⟨v, e1, e2⟩ := hc i y hy j u hu
      have h1 := (List.getElem?_eq_some_iff.1 hy).1
      have h2 : j < Y.wid c := by rw [← Y.len c y]; exact (List.getElem?_eq_some_iff.1 hu).1
      have hlt : i * Y.wid c + j < ys.length * Y.wid c := by
        have : (i + 1) * Y.wid c ≤ ys.length * Y.wid c := Nat.mul_le_mul_right _ h1
        rw [Nat.succ_mul] at this
        omega
      refine ⟨v, ?_, e2⟩
      dsimp only at e1 ⊢
      rw [List.getElem?_map, List.getElem?_range hlt, Option.map_some, e1, Option.getD_some]
    · intro v hv
      obtain ⟨k, hk, rfl⟩ := List.mem_map.1 hv
      obtain ⟨w, e1, e2⟩ := cell k (by simpa using hk)
      rw [e1]; exact e2
  have none_ : ∀ v : V, noRoom v = true → k [] → ∃ ys new, k ys ∧ vlen v = some ys.length ∧ vfirst st (Y.wid c) ys.length v = some new ∧ new.length = ys.length * Y.wid c ∧ Cel Y c ys (fun k => new[k]?) (DatA Y (ownOf o0 E m) st) ∧ ∀ v ∈ new, v.atom = true := by
    intro v hv hk
    refine ⟨[], [], hk, ?_, ?_, by simp, fun i x hx => by simp at hx, by simp⟩ <;> (cases v <;> first | rfl | (simp only [noRoom, Bool.false_eq_true] at hv))
  unfold sElems at h
  split at h
  · rename_i l
    simp only [RelV] at hx
    subst hx
    obtain ⟨xs, hw, e1, hk⟩ := Y.ofB_ok _ _ _ h
    have hl : xs.length = l.length := by have := congrArg List.length e1; simpa using this
    -- bytes have one cell each
    have key : ∀ (i : Nat) x, xs[i]? = some x → ∃ y, l[i]? = some y ∧ Y.cells c x = [.i .u8 (y.toNat : Int)] := by
      intro i x hx
      have := congrArg (·[i]?) e1
      simp only [List.getElem?_map, hx, Option.map_some] at this
      cases hy : l[i]? with
      | none => rw [hy] at this; cases this
      | some y => rw [hy] at this; exact ⟨y, rfl, Option.some.inj this⟩
    refine ⟨xs, cB l, hk, by rw [hl]; rfl, by rw [hw, hl]; exact first_str st l, by rw [cB_len, hl, hw, Nat.mul_one], fun i x hx j u hu => ?_, cB_atom l⟩
    obtain ⟨y, e2, e3⟩ := key i x hx
    rw [e3] at hu
    cases j with
    | zero =>
      simp only [List.getElem?_cons_zero, Option.some.injEq] at hu
      subst hu
      exact ⟨_, by dsimp only; rw [hw, Nat.mul_one, Nat.add_zero, cB_get, e2]; rfl, .i _ _⟩
    | succ j => simp at hu
  · simp only [RelV] at hx
    subst hx
    exact none_ _ rfl h
  · exact none_ v hx h
  · rename_i c' ys
    obtain ⟨rfl, hk⟩ := Y.cast_ok _ _ _ _ h
    simp only [RelV] at hx
    cases hx with
    | nil => exact none_ _ rfl hk
    | ze => exact ⟨[], [], hk, rfl, rfl, by simp, fun i x hx => by simp at hx, by simp⟩
    | ny => exact ⟨[], [], hk, rfl, rfl, by simp, fun i x hx => by simp at hx, by simp⟩
    | ne => exact ⟨[], [], hk, rfl, rfl, by simp, fun i x hx => by simp at hx, by simp⟩
    | mk vs h1 h2 h3 h4 h5 h6 =>
      obtain ⟨new, q⟩ := blk ys _ _ _ _ _ h3 (cel_of_rows h4 h5)
      exact ⟨ys, new, hk, q⟩
  · rename_i r
    split at h
    · rename_i c' ys hr
      obtain ⟨rfl, hk⟩ := Y.cast_ok _ _ _ _ h
      simp only [RelV] at hx
      obtain ⟨y, e1, _⟩ := hx
      rcases hI.ent r _ hr with ⟨v0, q1, q2, q0⟩ | ⟨id, cap, op, b, q1, q2, q3, q4, q5, q6, q7, q8, vs, q9, q10⟩
      · rw [e1] at q1
        cases q1
        subst q2
        exact none_ _ q0 hk
      · rw [e1] at q1
        cases q1
        obtain ⟨new, q⟩ := blk ys id 0 cap op b q4 (cel_of_rows (fun i x hx => by rw [Nat.zero_add]; exact q9 i x hx) q10)
        exact ⟨ys, new, hk, q⟩
    · rename_i c' ys hr
      obtain ⟨rfl, hk⟩ := Y.cast_ok _ _ _ _ h
      simp only [RelV] at hx
      obtain ⟨y, e1, _⟩ := hx
      obtain ⟨id, b, q1, q2, q3, q4, q5, vs, q9, q10⟩ := hI.ent r _ hr
      rw [e1] at q1
      cases q1
      obtain ⟨new, q⟩ := blk ys id 0 ys.length false b q4 (cel_of_rows (fun i x hx => by rw [Nat.zero_add]; exact q9 i x hx) q10)
      exact ⟨ys, new, hk, q⟩
    · exact h.elim
  · exact h.elim
end
end Go.Sx
namespace Go.Sx
open Go.Vm

section
variable {S : Sg} {Y : Sy S} {P : Program} {G : Gl} {ro : Nat} {o0 : Nat → Prop}

def RelO (Y : Sy S) (D : DD S) (E : En) : Option (U S) → Option V → Prop
  | some u, some v => RelV Y D E u v
  | none, none => True
  | _, _ => False
/-- What an operation on memory, or a call, comes to. -/
def Done (Y : Sy S) (G : Gl) (o0 : Nat → Prop) (ro : Nat) (E : En) (m : T (Ct S)) (st : St) (k : Kn S) (res : Option V) (st' : St) : Prop :=
  ∃ u nx' m' ks wr E', Inv Y G o0 ro E' nx' m' st' ∧ Step o0 E m st E' m' st' ks wr ∧ RelO Y (Dat Y (ownOf o0 E' m') st') E' u res ∧ k u nx' m' ks wr

variable {E : En} {nx : Nat} {m : T (Ct S)} {st : St} {fr : T (U S)} {frV : T V}

theorem done_pure (hI : Inv Y G o0 ro E nx m st) {k : Kn S} {u : U S} {v : V} (hr : RelV Y (Dat Y (ownOf o0 E m) st) E u v) (hk : k (some u) nx m [] []) : Done Y G o0 ro E m st k (some v) st :=
  ⟨some u, nx, m, [], [], E, hI, Step.refl .., hr, hk⟩

theorem alloc_hp (st : St) (b : Blk) (id : Nat) (h : id < st.nx) : (st.alloc b).hp.get id = st.hp.get id := by
  unfold St.alloc
  dsimp only
  rw [T.get_upd, if_neg (by omega)]
theorem alloc_self (st : St) (b : Blk) : (st.alloc b).hp.get st.nx = some b := by
  unfold St.alloc
  dsimp only
  rw [T.get_upd, if_pos rfl]

theorem new_ok (hI : Inv Y G o0 ro E nx m st) {k : Kn S} {us : List (U S)} {vs : List V} {es : Nat} (h : sNew nx m us k) (hr : RelL Y (Dat Y (ownOf o0 E m) st) E us vs) : ∃ b, blkOf vs es false = some b ∧ Done Y G o0 ro E m st k (some (.p st.nx 0)) (st.alloc b) := by
  unfold sNew at h
  cases ha : allU us with
  | false => rw [ha] at h; exact h.elim
  | true =>
    rw [ha] at h
    obtain ⟨b, hb⟩ := blkOf_ok vs es false (allU_ok ha hr)
    obtain ⟨q1, q2, q3, q4, q5, q6⟩ := blkOf_spec hb
    have hs := step_push hI (some st.nx) .pn (.cells us) (st' := st.alloc b) (fun id e => by cases e; exact Nat.le_refl _) (Nat.le_succ _) (alloc_hp st b) rfl
    have hE : (E ++ [(some st.nx, V.pn)])[nx]? = some (some st.nx, .pn) := by rw [← hI.len]; exact push_self
    refine ⟨b, hb, some (.p nx 0), nx + 1, _, [], [], _, inv_push hI (some st.nx) .pn (.cells us) hs (fun id e => by cases e; exact Nat.le_refl _) (alloc_hp st b) ?_, hs, ⟨st.nx, .pn, hE, rfl⟩, h⟩
    exact ⟨st.nx, .pn, b, vs, hE, hI.ro, Nat.lt_succ_self _, alloc_self st b, by rw [q1, hr.length], hs.rels hr, fun j _ => q5 j⟩

theorem buf_ok (hI : Inv Y G o0 ro E nx m st) {k : Kn S} {c : S.Cd} {xs : List (S.Den c)} {cap : Nat} {op : Bool} {b : Blk} (h : sBuf nx m c xs k) (h1 : b.es = Y.wid c ∧ b.mp = none) (h2 : b.sz = cap * Y.wid c) (h3 : xs.length ≤ cap) (h4 : (op = true → (b.op = true ∨ (Y.cvb && !(Y.opn c)) = true) ∧ cap = xs.length) ∧ (Y.opn c = true → op = true)) (h5 : Cel Y c xs b.get (DatA Y (ownOf o0 E m) st)) :
    Done Y G o0 ro E m st k (some (.sl st.nx 0 xs.length cap op)) (st.alloc b) := by
  have hs := step_push hI (some st.nx) (.sl st.nx 0 xs.length cap op) (.buf c xs) (st' := st.alloc b) (fun id e => by cases e; exact Nat.le_refl _) (Nat.le_succ _) (alloc_hp st b) rfl
  have hE : (E ++ [(some st.nx, V.sl st.nx 0 xs.length cap op)])[nx]? = some (some st.nx, .sl st.nx 0 xs.length cap op) := by rw [← hI.len]; exact push_self
  refine ⟨some (.o nx), nx + 1, _, [], [], _, inv_push hI (some st.nx) (.sl st.nx 0 xs.length cap op) (.buf c xs) hs (fun id e => by cases e; exact Nat.le_refl _) (alloc_hp st b) ?_, hs, ⟨_, hE, rfl⟩, h⟩
  obtain ⟨vs, r1, r2⟩ := rows_of_cel (off := 0) (b := b) (DA := DatA Y (ownOf o0 E m) st) (by simpa only [Nat.zero_add] using h5)
  refine .inr ⟨st.nx, cap, op, b, hE, hI.ro, Nat.lt_succ_self _, alloc_self st b, h3, h1, h2, h4, vs, fun i x hx => by rw [← r1 i x hx, Nat.zero_add], fun i x hx j u v hu hv => ?_⟩
  exact hs.datA (r2 i x hx j u v hu hv)

/-- A new row of cells. -/
theorem row_ok2 (hI : Inv Y G o0 ro E nx m st) {k : Kn S} {c : S.Cd} {xs : List (S.Den c)} {b : Blk} (h : k (some (.o nx)) (nx + 1) (m.upd nx (some (.row c xs))) [] []) (h1 : b.op = false ∧ b.es = Y.wid c ∧ b.mp = none) (h5 : Cel Y c xs b.get (DatA Y (ownOf o0 E m) st)) :
    Done Y G o0 ro E m st k (some (.sl st.nx 0 xs.length xs.length false)) (st.alloc b) := by
  have hs := step_push hI (some st.nx) (.sl st.nx 0 xs.length xs.length false) (.row c xs) (st' := st.alloc b) (fun id e => by cases e; exact Nat.le_refl _) (Nat.le_succ _) (alloc_hp st b) rfl
  have hE : (E ++ [(some st.nx, V.sl st.nx 0 xs.length xs.length false)])[nx]? = some (some st.nx, .sl st.nx 0 xs.length xs.length false) := by rw [← hI.len]; exact push_self
  refine ⟨some (.o nx), nx + 1, _, [], [], _, inv_push hI (some st.nx) (.sl st.nx 0 xs.length xs.length false) (.row c xs) hs (fun id e => by cases e; exact Nat.le_refl _) (alloc_hp st b) ?_, hs, ⟨_, hE, rfl⟩, h⟩
  obtain ⟨vs, r1, r2⟩ := rows_of_cel (off := 0) (b := b) (DA := DatA Y (ownOf o0 E m) st) (by simpa only [Nat.zero_add] using h5)
  refine ⟨st.nx, b, hE, hI.ro, Nat.lt_succ_self _, alloc_self st b, h1, vs, fun i x hx => by rw [← r1 i x hx, Nat.zero_add], fun i x hx j u v hu hv => ?_⟩
  exact hs.datA (r2 i x hx j u v hu hv)

/-- A new block that no name names: data. -/
theorem data_new (hI : Inv Y G o0 ro E nx m st) {k : Kn S} {c : S.Cd} {xs : List (S.Den c)} {cap : Nat} {op : Bool} {b : Blk} (h : k (some (.l c xs)) nx m [] []) (h3 : xs.length ≤ cap) (h5 : Cel Y c xs b.get (DatA Y (ownOf o0 E m) st)) :
    Done Y G o0 ro E m st k (some (.sl st.nx 0 xs.length cap op)) (st.alloc b) := by
  have hs : Step o0 E m st E m (st.alloc b) [] [] := ⟨Nat.le_refl _, fun _ _ _ => rfl, Nat.le_succ _, fun id h _ => alloc_hp st b id h, fun _ h => .inl h, fun j _ h2 _ => h2⟩
  have inv : Inv Y G o0 ro E nx m (st.alloc b) := ⟨hI.len, Nat.le_trans hI.ro (Nat.le_succ _), hI.lt, fun r ct e => by
    have := Ent.keep hs (hI.ent r ct e) rfl (fun id _ _ hid => alloc_hp st b id hid)
    rwa [killCt_nil] at this, fun id ho => ⟨(hI.out id ho).1, Nat.lt_of_lt_of_le (hI.out id ho).2 (Nat.le_succ _)⟩, glob_keep hI hs, hI.inj, hI.dis⟩
  obtain ⟨vs, r1, r2⟩ := rows_of_cel (off := 0) (b := b) (DA := DatA Y (ownOf o0 E m) st) (by simpa only [Nat.zero_add] using h5)
  have hno : ¬ ownOf o0 E m st.nx := by
    rintro (q | ⟨r, ct, y, e1, e2⟩)
    · exact absurd (hI.out _ q).2 (Nat.lt_irrefl _)
    · exact absurd (ent_id hI e1 e2).2 (Nat.lt_irrefl _)
  exact ⟨some (.l c xs), nx, m, [], [], E, inv, hs, Dat.mk vs hno (Nat.lt_succ_self _) (alloc_self st b) r1 (fun i x hx j u v hu hv => hs.datA (r2 i x hx j u v hu hv)) h3, h⟩

/-- A buffer that is nil. -/
theorem nil_ok (hI : Inv Y G o0 ro E nx m st) {k : Kn S} {c : S.Cd} {v0 : V} (h0 : noRoom v0 = true) (h : sBuf nx m c [] k) : Done Y G o0 ro E m st k (some v0) st := by
  have hs := step_push hI none v0 (.buf c []) (st' := st) (fun id e => by cases e) (Nat.le_refl _) (fun _ _ => rfl) rfl
  have hE : (E ++ [((none : Option Nat), v0)])[nx]? = some (none, v0) := by rw [← hI.len]; exact push_self
  exact ⟨some (.o nx), nx + 1, _, [], [], _, inv_push hI none v0 (.buf c []) hs (fun id e => by cases e) (fun _ _ => rfl) (.inl ⟨v0, hE, rfl, h0⟩), hs, ⟨none, hE, noRoom_atom h0⟩, h⟩

theorem write_hp (st : St) (b : Blk) (id j : Nat) (h : j ≠ id) : (st.write id b).hp.get j = st.hp.get j := by
  rw [St.write_eq]
  dsimp only
  rw [T.get_upd, if_neg h]
theorem write_self (st : St) (b : Blk) (id : Nat) : (st.write id b).hp.get id = some b := by
  rw [St.write_eq]
  dsimp only
  rw [T.get_upd, if_pos rfl]
theorem write_nx (st : St) (b : Blk) (id : Nat) : (st.write id b).nx = st.nx := by rw [St.write_eq]
theorem write_ver (st : St) (b : Blk) (id j : Nat) (h : j ≤ st.ver) (h' : j ≤ id) : j ≤ (st.write id b).ver := by rw [St.write_eq]; exact low_ge h h'

theorem Tmap_id (m : T (Ct S)) (k : Nat) : m.get k = (m.get k).map (killCt []) := by cases m.get k <;> simp [killCt_nil]

/-- What inv_re says, where the names are as they were. -/
theorem inv_wr {st' : St} (h : Inv Y G o0 ro E nx m st) {r : Nat} {ct0 : Ct S} (ct : Ct S) (hr : m.get r = some ct0) (hs : Step o0 E m st E (m.upd r (some ct)) st' [] [r]) (hk : ∀ id, id < st.nx → (∀ y, E[r]? ≠ some (some id, y)) → st'.hp.get id = st.hp.get id)
    (hent : Ent Y ro (Dat Y (ownOf o0 E (m.upd r (some ct))) st') (DatA Y (ownOf o0 E (m.upd r (some ct))) st') E st' r ct) : Inv Y G o0 ro E nx (m.upd r (some ct)) st' := by
  have old : ∀ k c, k ≠ r → (m.upd r (some ct)).get k = some c → m.get k = some c := by
    intro k c q e
    rwa [T.get_upd, if_neg q] at e
  have any : ∀ k c, (m.upd r (some ct)).get k = some c → ∃ c0, m.get k = some c0 := by
    intro k c e
    by_cases q : k = r
    · subst q; exact ⟨_, hr⟩
    · exact ⟨c, old k c q e⟩
  refine ⟨h.len, Nat.le_trans h.ro hs.nx, ?_, ?_, fun id ho => ⟨(h.out id ho).1, Nat.lt_of_lt_of_le (h.out id ho).2 hs.nx⟩, glob_keep h hs, ?_, fun id hn ho => (hs.nam id hn).elim (fun q => h.dis id q ho) (fun q => absurd (h.out id ho).2 (Nat.not_lt.2 q))⟩
  · intro k c e
    obtain ⟨c0, e0⟩ := any k c e
    exact h.lt k c0 e0
  · intro k c e
    by_cases q : k = r
    · subst q; rw [T.get_upd, if_pos rfl] at e; cases e; exact hent
    · have e0 := old k c q e
      have := Ent.keep hs (h.ent k c e0) rfl (fun id y e1 hid => hk id hid fun y' e2 => q (h.inj k r c ct0 id y y' e0 hr e1 e2))
      rwa [killCt_nil] at this
  · intro k k' c c' id y y' e1 e2 e3 e4
    obtain ⟨c0, a0⟩ := any k c e1
    obtain ⟨c1, b0⟩ := any k' c' e2
    exact h.inj k k' c0 c1 id y y' a0 b0 e3 e4
theorem step_wr {st' : St} (h : Inv Y G o0 ro E nx m st) {r : Nat} {ct0 : Ct S} (ct : Ct S) (hr : m.get r = some ct0) {id : Nat} {y : V} (he : E[r]? = some (some id, y)) (hn : st.nx ≤ st'.nx) (hk : ∀ j, j < st.nx → j ≠ id → st'.hp.get j = st.hp.get j) (hv : ∀ j, j ≤ st.ver → j ≤ id → j ≤ st'.ver) :
    Step o0 E m st E (m.upd r (some ct)) st' [] [r] := by
  have hset : E.set r (some id, y) = E := by
    apply List.ext_getElem?
    intro k
    by_cases q : k = r
    · subst q; rw [List.getElem?_set_self (List.getElem?_eq_some_iff.1 he).1, he]
    · rw [List.getElem?_set_ne (Ne.symm q)]
  have := step_re (st' := st') (m0 := m) h ct hr [] (.inr rfl) (some id) y (fun id' e => by cases e; exact .inl ⟨y, he⟩) (fun _ => hset) (fun k c e => ⟨c, e⟩) hn
    (fun j hj hh => hk j hj fun e => by subst e; exact hh y he) (fun j h1 h2 h3 => hv j h2 (h3 id y he))
  rwa [hset] at this

theorem sStore_ok (hI : Inv Y G o0 ro E nx m st) {t : TypeId} {x v : U S} {xv vv : V} {k : Kn S} (h : sStore Y P nx m t x v k) (hx : RelV Y (Dat Y (ownOf o0 E m) st) E x xv) (hv : RelV Y (Dat Y (ownOf o0 E m) st) E v vv) :
    ∃ id off st', xv = .p id off ∧ vstore P ro st t id off vv = some st' ∧ Done Y G o0 ro E m st k none st' := by
  unfold sStore at h
  split at h
  · rename_i n hn
    cases hc : (solid v && (allU (cellsU v) && Nat.beq (cellsU v).length n)) with
    | false => rw [hc] at h; exact h.elim
    | true =>
      rw [hc] at h
      simp only [Bool.and_eq_true, Nat.beq_eq] at hc
      obtain ⟨hsol, hall, hlen⟩ := hc
      have hcel := RelV.cells hsol hv
      have hat := allU_ok hall hcel
      obtain ⟨ti, hti, htn⟩ := sizeB_info hn
      simp only [cond_true] at h
      split at h
      · rename_i r off
        split at h
        · rename_i us hr
          cases hb : Nat.ble (off + n) us.length with
          | false => rw [hb] at h; exact h.elim
          | true =>
            rw [hb] at h
            rw [Nat.ble_eq] at hb
            simp only [RelV] at hx
            obtain ⟨id, y, e1, rfl⟩ := hx
            obtain ⟨id', y', b, vs, q1, q2, q3, q4, q5, q6, q7⟩ := hI.ent r _ hr
            rw [e1] at q1
            cases q1
            obtain ⟨b', hp⟩ := Blk.put_ok vv.cells b off (by rw [hcel.length, q5]; omega) hat
            obtain ⟨p1, p2, p3, p4, p5, p6, p7⟩ := Blk.put_spec _ _ _ _ hp
            have hs := step_wr (st' := st.write id b') hI (.cells (setAtU us off (cellsU v))) hr e1 (by rw [write_nx]; exact Nat.le_refl _) (fun j _ hj => write_hp st b' id j hj) (fun j h1 h2 => write_ver st b' id j h1 h2)
            refine ⟨id, off, st.write id b', rfl, ?_, none, nx, _, [], [r], E, inv_wr hI _ hr hs (fun j _ hj => write_hp st b' id j fun e => by subst e; exact hj _ e1) ?_, hs, trivial, h⟩
            · unfold vstore
              have c1 : (Nat.ble ro id && Nat.beq vv.cells.length ti.size) = true := by rw [Bool.and_eq_true, Nat.ble_eq, Nat.beq_eq]; exact ⟨q2, by rw [hcel.length, hlen, htn]⟩
              simp only [q4, hti, c1, cond_true, hp]
            · refine ⟨id, y, b', Vm.setAt vs off vv.cells, e1, q2, by rw [write_nx]; exact q3, write_self st b' id, by rw [p1, q5, setAtU_len], hs.rels (RelL.setAt q6 hcel), fun j hj => ?_⟩
              rw [setAtU_len] at hj
              rw [p5 j]
              have sg : ∀ (l cs : List V) (o j : Nat), j < cs.length → o + l.length ≤ cs.length → (Vm.setAt cs o l)[j]? = if o ≤ j ∧ j < o + l.length then l[j - o]? else cs[j]? := by
                intro l
                induction l with
                | nil => intro cs o j _ _; rw [if_neg (by simp)]; rfl
                | cons a l ih =>
                  intro cs o j hj hl
                  simp only [List.length_cons] at hl
                  rw [Vm.setAt, ih _ _ _ (by simpa using hj) (by simp; omega)]
                  by_cases q : j = o
                  · subst q
                    rw [if_neg (by omega), if_pos (by simp), List.getElem?_set_self hj]
                    simp
                  · rw [List.getElem?_set_ne (by omega)]
                    by_cases q2 : o + 1 ≤ j ∧ j < o + 1 + l.length
                    · rw [if_pos q2, if_pos (by simp; omega), show j - o = (j - (o + 1)) + 1 from by omega]; simp
                    · rw [if_neg q2, if_neg (by simp; omega)]
              rw [sg _ _ _ _ (by rw [q6.length]; exact hj) (by rw [hcel.length, q6.length]; omega), q7 j hj]
        · exact h.elim
      · rename_i r w i off
        split at h
        · rename_i c xs hr
          cases hb : (Nat.beq w (Y.wid c) && Nat.ble (off + n) (Y.wid c)) with
          | false => rw [hb] at h; exact h.elim
          | true =>
            rw [hb] at h
            simp only [Bool.and_eq_true, Nat.beq_eq, Nat.ble_eq] at hb
            obtain ⟨rfl, hb⟩ := hb
            obtain ⟨hi, h⟩ := h
            obtain ⟨y0, e0, hk⟩ := Y.dec_ok _ _ _ h
            simp only [RelV] at hx
            obtain ⟨id, y, e1, rfl⟩ := hx
            rcases hI.ent r _ hr with ⟨v0, q1, q2, q0⟩ | ⟨id', cap, op, b, q1, q2, q3, q4, q5, q6, q7, q8, vs, q9, q10⟩
            · subst q2; simp at hi
            rw [e1] at q1
            cases q1
            have hxi : xs[i]? = some (xs.getD i (Y.dflt c)) := by rw [List.getD_eq_getElem?_getD, List.getElem?_eq_getElem hi]; rfl
            have hbound : i * Y.wid c + off + vv.cells.length ≤ b.sz := by
              rw [hcel.length, hlen, q7]
              have : (i + 1) * Y.wid c ≤ cap * Y.wid c := Nat.mul_le_mul_right _ (by omega)
              rw [Nat.succ_mul] at this
              omega
            obtain ⟨b', hp⟩ := Blk.put_ok vv.cells b (i * Y.wid c + off) hbound hat
            obtain ⟨p1, p2, p3, p4, p5, p6, p7⟩ := Blk.put_spec _ _ _ _ hp
            have hs := step_wr (st' := st.write id b') hI (.buf c (xs.set i y0)) hr e1 (by rw [write_nx]; exact Nat.le_refl _) (fun j _ hj => write_hp st b' id j hj) (fun j h1 h2 => write_ver st b' id j h1 h2)
            refine ⟨id, _, st.write id b', rfl, ?_, none, nx, _, [], [r], E, inv_wr hI _ hr hs (fun j _ hj => write_hp st b' id j fun e => by subst e; exact hj _ e1) ?_, hs, trivial, hk⟩
            · unfold vstore
              have c1 : (Nat.ble ro id && Nat.beq vv.cells.length ti.size) = true := by rw [Bool.and_eq_true, Nat.ble_eq, Nat.beq_eq]; exact ⟨q2, by rw [hcel.length, hlen, htn]⟩
              simp only [q4, hti, c1, cond_true, hp]
            · -- the elements, cell by cell
              have hold := cel_of_rows (off := 0) (b := b) (DA := DatA Y (ownOf o0 E m) st) (fun i x hx => by rw [Nat.zero_add]; exact q9 i x hx) q10
              have kp : ∀ {u : U S} {v : V}, DatA Y (ownOf o0 E m) st u v → DatA Y (ownOf o0 E (m.upd r (some (.buf c (xs.set i y0))))) (st.write id b') u v := fun hd => hs.datA hd
              have hnew : Cel Y c (xs.set i y0) (fun k => b'.get (0 + k)) (DatA Y (ownOf o0 E (m.upd r (some (.buf c (xs.set i y0))))) (st.write id b')) := by
                intro i' x' hx' j u hu
                have hj : j < Y.wid c := by rw [← Y.len c x']; exact (List.getElem?_eq_some_iff.1 hu).1
                simp only [Nat.zero_add]
                by_cases hii : i' = i
                · subst hii
                  rw [List.getElem?_set_self hi] at hx'
                  cases hx'
                  rw [← e0] at hu
                  rw [p5]
                  by_cases hin : off ≤ j ∧ j < off + vv.cells.length
                  · rw [if_pos (by omega), show i' * Y.wid c + j - (i' * Y.wid c + off) = j - off from by omega]
                    -- a new cell
                    have hset : ∀ (l cs : List (U S)) (o j : Nat), j < cs.length → o + l.length ≤ cs.length → (setAtU cs o l)[j]? = if o ≤ j ∧ j < o + l.length then l[j - o]? else cs[j]? := by
                      intro l
                      induction l with
                      | nil => intro cs o j _ _; rw [if_neg (by simp)]; rfl
                      | cons a l ih =>
                        intro cs o j hj hl
                        simp only [List.length_cons] at hl
                        rw [setAtU, ih _ _ _ (by simpa using hj) (by simp; omega)]
                        by_cases q : j = o
                        · subst q
                          rw [if_neg (by omega), if_pos (by simp), List.getElem?_set_self hj]
                          simp
                        · rw [List.getElem?_set_ne (by omega)]
                          by_cases q2 : o + 1 ≤ j ∧ j < o + 1 + l.length
                          · rw [if_pos q2, if_pos (by simp; omega), show j - o = (j - (o + 1)) + 1 from by omega]; simp
                          · rw [if_neg q2, if_neg (by simp; omega)]
                    rw [hset _ _ _ _ (by rw [Y.len]; exact hj) (by rw [nrml_len, Y.len, hlen]; exact hb), if_pos (by rw [nrml_len, ← hcel.length]; exact hin)] at hu
                    obtain ⟨w, e2, e3⟩ := (nrml_rel hcel).get hu
                    have hfl : u.flat = true := by
                      apply Y.flat c y0
                      rw [← e0]
                      rw [List.mem_iff_getElem?]
                      refine ⟨j, ?_⟩
                      rw [hset _ _ _ _ (by rw [Y.len]; exact hj) (by rw [nrml_len, Y.len, hlen]; exact hb), if_pos (by rw [nrml_len, ← hcel.length]; exact hin)]
                      exact hu
                    exact ⟨w, e2, kp (DatA.of_rel hfl e3)⟩
                  · rw [if_neg (by omega)]
                    have hset : ∀ (l cs : List (U S)) (o j : Nat), j < cs.length → o + l.length ≤ cs.length → ¬ (o ≤ j ∧ j < o + l.length) → (setAtU cs o l)[j]? = cs[j]? := by
                      intro l
                      induction l with
                      | nil => intro cs o j _ _ _; rfl
                      | cons a l ih =>
                        intro cs o j hj hl hne
                        simp only [List.length_cons] at hl hne
                        rw [setAtU, ih _ _ _ (by simpa using hj) (by simp; omega) (by omega), List.getElem?_set_ne (by omega)]
                    rw [hset _ _ _ _ (by rw [Y.len]; exact hj) (by rw [nrml_len, Y.len, hlen]; exact hb) (by rw [nrml_len, ← hcel.length]; exact hin)] at hu
                    obtain ⟨w, e2, e3⟩ := hold i' _ hxi j u hu
                    simp only [Nat.zero_add] at e2
                    exact ⟨w, e2, kp e3⟩
                · rw [List.getElem?_set_ne (Ne.symm hii)] at hx'
                  obtain ⟨w, e2, e3⟩ := hold i' x' hx' j u hu
                  simp only [Nat.zero_add] at e2
                  refine ⟨w, ?_, kp e3⟩
                  rw [p5, if_neg ?_, e2]
                  rw [hcel.length, hlen]
                  intro ⟨z1, z2⟩
                  rcases Nat.lt_or_gt_of_ne hii with z | z
                  · have : (i' + 1) * Y.wid c ≤ i * Y.wid c := Nat.mul_le_mul_right _ z
                    rw [Nat.succ_mul] at this; omega
                  · have : (i + 1) * Y.wid c ≤ i' * Y.wid c := Nat.mul_le_mul_right _ z
                    rw [Nat.succ_mul] at this; omega
              obtain ⟨vs', r1, r2⟩ := rows_of_cel hnew
              have e1' : E[r]? = some (some id, .sl id 0 (xs.set i y0).length cap op) := by rw [List.length_set]; exact e1
              exact .inr ⟨id, cap, op, b', e1', q2, by rw [write_nx]; exact q3, write_self st b' id, by rw [List.length_set]; exact q5, ⟨p2.trans q6.1, (Blk.put_mp _ _ _ _ hp).trans q6.2⟩, p1.trans q7, ⟨fun z => by rw [p3, List.length_set]; exact q8.1 z, q8.2⟩, vs', fun i x hx => by rw [← r1 i x hx, Nat.zero_add], r2⟩
        · exact h.elim
      · exact h.elim
  · exact h.elim
end
end Go.Sx
namespace Go.Sx
open Go.Vm

section
variable {S : Sg}

variable {Y : Sy S} {P : Program} {G : Gl} {ro : Nat} {o0 : Nat → Prop} {E : En} {nx : Nat} {m : T (Ct S)} {st : St}

theorem updN_get : ∀ (ks : List Nat) (m : T (Ct S)) (r : Nat), (updN ks m).get r = cond (mem ks r) none (m.get r)
  | [], m, r => rfl
  | k :: ks, m, r => by
    simp only [updN, T.get_upd, updN_get ks m r, mem]
    by_cases e : r = k
    · subst e
      have : Nat.beq r r = true := by rw [Nat.beq_eq]
      rw [if_pos rfl, this]
      rfl
    · have : Nat.beq k r = false := by rw [Bool.eq_false_iff]; intro q; rw [Nat.beq_eq] at q; exact e q.symm
      rw [if_neg e, this]
      rfl
theorem dropN_get {ks : List Nat} {r : Nat} {ct : Ct S} (h : (dropN ks m).get r = some ct) : mem ks r = false ∧ ∃ ct0, m.get r = some ct0 ∧ ct = killCt ks ct0 := by
  cases ks with
  | nil => exact ⟨rfl, ct, h, (killCt_nil ct).symm⟩
  | cons k ks =>
    unfold dropN at h
    rw [updN_get] at h
    cases hm : mem (k :: ks) r with
    | true => rw [hm, cond_true] at h; cases h
    | false =>
      rw [hm, cond_false, Tmap_get] at h
      cases hg : m.get r with
      | none => rw [hg] at h; cases h
      | some c0 => rw [hg] at h; cases h; exact ⟨rfl, c0, rfl, rfl⟩

theorem drop_step (hI : Inv Y G o0 ro E nx m st) (ks : List Nat) : Step o0 E m st E (dropN ks m) st ks [] := by
  refine ⟨Nat.le_refl _, fun _ _ _ => rfl, Nat.le_refl _, fun _ _ _ => rfl, ?_, fun j _ h _ => h⟩
  rintro id ⟨r, ct, y, e1, e2⟩
  obtain ⟨_, c0, h0, _⟩ := dropN_get e1
  exact .inl ⟨r, c0, y, h0, e2⟩
theorem drop_inv (hI : Inv Y G o0 ro E nx m st) (ks : List Nat) : Inv Y G o0 ro E nx (dropN ks m) st := by
  have hs := drop_step hI ks
  refine ⟨hI.len, hI.ro, fun r ct e => ?_, fun r ct e => ?_, hI.out, hI.glob, fun r r' ct ct' id y y' e1 e2 e3 e4 => ?_, fun id hn ho => ?_⟩
  · obtain ⟨_, c0, h0, _⟩ := dropN_get e
    exact hI.lt r c0 h0
  · obtain ⟨_, c0, h0, rfl⟩ := dropN_get e
    exact Ent.keep hs (hI.ent r c0 h0) rfl (fun _ _ _ _ => rfl)
  · obtain ⟨_, c0, h0, _⟩ := dropN_get e1
    obtain ⟨_, c1, h1, _⟩ := dropN_get e2
    exact hI.inj r r' c0 c1 id y y' h0 h1 e3 e4
  · rcases hs.nam id hn with q | q
    · exact hI.dis id q ho
    · obtain ⟨r, ct, y, e1, e2⟩ := hn
      obtain ⟨_, c0, h0, _⟩ := dropN_get e1
      exact hI.dis id ⟨r, c0, y, h0, e2⟩ ho

/-- A named buffer, as data of those to whom it is none's. -/
theorem buf_free (hI : Inv Y G o0 ro E nx m st) {r : Nat} {c : S.Cd} {xs : List (S.Den c)} {v : V} (hr : m.get r = some (.buf c xs)) (hv : RelV Y (Dat Y (ownOf o0 E m) st) E (.o r) v) {ks : List Nat} (hk : mem ks r = true) : Dat Y (ownOf o0 E (dropN ks m)) st c xs v := by
  simp only [RelV] at hv
  obtain ⟨x, e1, _⟩ := hv
  have hle : ∀ id, ownOf o0 E (dropN ks m) id → ownOf o0 E m id := fun id ho => ho.imp (fun q => q) fun ⟨r', ct, y, e2, e3⟩ => by
    obtain ⟨_, c0, h0, _⟩ := dropN_get e2
    exact ⟨r', c0, y, h0, e3⟩
  rcases hI.ent r _ hr with ⟨v0, q1, q2, q0⟩ | ⟨id, cap, op, b, q1, q2, q3, q4, q5, q6, q7, q8, vs, q9, q10⟩
  · rw [e1] at q1; cases q1; subst q2; exact noRoom_dat q0
  · have e1' := e1
    rw [e1] at q1
    cases q1
    refine .mk vs ?_ q3 q4 (fun i x hx => by rw [Nat.zero_add]; exact q9 i x hx) (fun i x hx j u v hu hv => DatA.keep (Nat.le_refl _) (fun _ _ _ => rfl) (fun id _ ho => hle id ho) (q10 i x hx j u v hu hv)) q5
    rintro (ho | ⟨r', ct, y, e2, e3⟩)
    · exact hI.dis id ⟨r, _, _, hr, e1'⟩ ho
    · obtain ⟨hm, c0, h0, _⟩ := dropN_get e2
      have := hI.inj r r' _ _ id _ _ hr h0 e1' e3
      subst this
      rw [hk] at hm
      cases hm

/-- What holds of values where some names are let go. -/
def Lets (Y : Sy S) (o0 : Nat → Prop) (E : En) (m : T (Ct S)) (st : St) (ks : List Nat) (us : List (U S)) (vs : List V) : Prop :=
  ∀ all : List Nat, (∀ r, mem ks r = true → mem all r = true) → RelL Y (Dat Y (ownOf o0 E (dropN all m)) st) E us vs
theorem keepD (hI : Inv Y G o0 ro E nx m st) (all : List Nat) {u : U S} {v : V} (h : RelV Y (Dat Y (ownOf o0 E m) st) E u v) : RelV Y (Dat Y (ownOf o0 E (dropN all m)) st) E u v :=
  RelV.mono (fun _ _ e => e) (fun c xs v hd => (drop_step hI all).datK hd) u v h
theorem frzL_ok (hI : Inv Y G o0 ro E nx m st) : ∀ {us : List (U S)} {vs : List V} {k : List (U S) → List Nat → Prop}, frzL m us k → RelL Y (Dat Y (ownOf o0 E m) st) E us vs → ∃ us' ks, k us' ks ∧ Lets Y o0 E m st ks us' vs
  | [], vs, k, h, hr => ⟨[], [], h, fun _ _ => hr⟩
  | u :: us, vs, k, h, hr => by
    obtain ⟨v, r, rfl, h1, h2⟩ := hr
    have rest : ∀ {k' : List (U S) → List Nat → Prop}, frzL m us k' → ∃ us' ks, k' us' ks ∧ Lets Y o0 E m st ks us' r := fun h => frzL_ok hI h h2
    have plain : (frzL m us fun us' ks => k (u :: us') ks) → ∃ us' ks, k us' ks ∧ Lets Y o0 E m st ks us' (v :: r) := fun h => by
      obtain ⟨us', ks, g1, g2⟩ := rest h
      exact ⟨u :: us', ks, g1, fun all ha => ⟨v, r, rfl, keepD hI all h1, g2 all ha⟩⟩
    simp only [frzL] at h
    split at h
    · rename_i r0
      split at h
      · rename_i c xs hm
        obtain ⟨us', ks, g1, g2⟩ := rest h
        exact ⟨.l c xs :: us', r0 :: ks, g1, fun all ha => ⟨v, r, rfl, buf_free hI hm h1 (ha r0 (by simp [mem])), g2 all fun r' hr' => ha r' (by simp only [mem]; cases Nat.beq r0 r' <;> simp [hr'])⟩⟩
      · exact plain h
    · exact plain h
theorem frzU_ok (hI : Inv Y G o0 ro E nx m st) {u : U S} {v : V} {k : U S → List Nat → Prop} (h : frzU m u k) (hr : RelV Y (Dat Y (ownOf o0 E m) st) E u v) : ∃ u' ks, k u' ks ∧ ∀ all : List Nat, (∀ r, mem ks r = true → mem all r = true) → RelV Y (Dat Y (ownOf o0 E (dropN all m)) st) E u' v := by
  unfold frzU at h
  split at h
  · simp only [RelV] at hr
    obtain ⟨vs, rfl, hr⟩ := hr
    obtain ⟨us', ks, g1, g2⟩ := frzL_ok hI h hr
    exact ⟨.a us', ks, g1, fun all ha => ⟨vs, rfl, g2 all ha⟩⟩
  · rename_i r
    split at h
    · rename_i c xs hm
      exact ⟨.l c xs, [r], h, fun all ha => buf_free hI hm hr (ha r (by simp [mem]))⟩
    · exact ⟨.o r, [], h, fun all _ => keepD hI all hr⟩
  · exact ⟨_, [], h, fun all _ => keepD hI all hr⟩
theorem frzP_ok (hI : Inv Y G o0 ro E nx m st) : ∀ {us : List (Nat × U S)} {vs : List (Nat × V)} {k : List (Nat × U S) → List Nat → Prop}, frzP m us k → RelP Y (Dat Y (ownOf o0 E m) st) E us vs → ∃ us' ks, k us' ks ∧ ∀ all : List Nat, (∀ r, mem ks r = true → mem all r = true) → RelP Y (Dat Y (ownOf o0 E (dropN all m)) st) E us' vs
  | [], vs, k, h, hr => ⟨[], [], h, fun _ _ => hr⟩
  | (i, u) :: us, vs, k, h, hr => by
    simp only [RelP] at hr
    obtain ⟨v, r, rfl, h1, h2⟩ := hr
    simp only [frzP] at h
    obtain ⟨u', ks, g1, g2⟩ := frzU_ok hI h h1
    obtain ⟨us', ks', g3, g4⟩ := frzP_ok hI g1 h2
    exact ⟨(i, u') :: us', ks ++ ks', g3, fun all ha => ⟨v, r, rfl, g2 all fun r hr => ha r (by rw [mem_app, hr, Bool.true_or]), g4 all fun r hr => ha r (by rw [mem_app, hr, Bool.or_true])⟩⟩

/-- First some names are let go. -/
theorem Done.drop (hI : Inv Y G o0 ro E nx m st) {ks : List Nat} {k : Kn S} {res : Option V} {st' : St} (h : Done Y G o0 ro E (dropN ks m) st (fun u nx m ks2 wr => k u nx m (ks2 ++ ks) wr) res st') : Done Y G o0 ro E m st k res st' := by
  obtain ⟨u, nx', m', ks2, wr, E', h1, h2, h3, h4⟩ := h
  have := (drop_step hI ks).trans h2
  rw [List.append_nil] at this
  exact ⟨u, nx', m', ks2 ++ ks, wr, E', h1, this, h3, h4⟩
end
end Go.Sx
namespace Go.Sx
open Go.Vm

section
variable {S : Sg} {Y : Sy S} {P : Program} {G : Gl} {ro : Nat} {o0 : Nat → Prop} {E : En} {nx : Nat} {m : T (Ct S)} {st : St} {fr : T (U S)} {frV : T V}

theorem vfill_len {place : Nat → Option (Nat × Nat)} : ∀ {parts : List (Nat × U S)} {us us' : List (U S)}, sFill place us parts = some us' → us'.length = us.length
  | [], us, us', h => by simp only [sFill, Option.some.injEq] at h; rw [h]
  | (i, u) :: parts, us, us', h => by
    simp only [sFill] at h
    cases hp : place i with
    | none => simp [hp] at h
    | some q =>
      obtain ⟨off, size⟩ := q
      simp only [hp] at h
      (cases hq : (solid u && (Nat.beq (cellsU u).length size && Nat.ble (off + (cellsU u).length) us.length)) with
        | false => simp [hq] at h
        | true => rw [hq] at h; rw [vfill_len h, setAtU_len])

theorem sBuildSlice_ok (hI : Inv Y G o0 ro E nx m st) {t : TypeId} {len : Nat} {parts : List (Nat × U S)} {pv : List (Nat × V)} {k : Kn S} (h : sBuildSlice Y P nx m t len parts k) (hp : RelP Y (Dat Y (ownOf o0 E m) st) E parts pv) :
    ∃ v st', vbuildSlice P st t len pv = some (v, st') ∧ Done Y G o0 ro E m st k (some v) st' := by
  unfold sBuildSlice at h
  split at h
  · rename_i e hu
    split at h
    · rename_i n z c hn hz hcode
      cases hc : (Nat.ble (len * n) 16777216 && Nat.blt 0 n && Nat.beq (cellsU z).length n && solid z && Nat.beq n (Y.wid c)) with
      | false => rw [hc] at h; exact h.elim
      | true =>
        rw [hc] at h
        simp only [Bool.and_eq_true] at hc
        obtain ⟨⟨⟨⟨c1, c2⟩, c3⟩, c4⟩, c5⟩ := hc
        obtain ⟨us, h1, h2⟩ := onO_ok h
        obtain ⟨w, e1, e2⟩ := zeroU_ok (Y := Y) hz
        have e2 := RelV.cells c4 (e2 (Dat Y (ownOf o0 E m) st) E)
        obtain ⟨vs, h3, h4⟩ := sFill_ok h1 (repeatU_rel e2 len) hp
        rw [Nat.beq_eq] at c5 c3
        subst c5
        have hl : us.length = len * Y.wid c := by rw [vfill_len h1, repeatU_len, c3]
        obtain ⟨xs, g1, g2, g3⟩ := sRows_ok h2 (by rw [nrmr_len, hl])
        have h5 := nrmr_rel (lk := Y.lk c) (n := Y.wid c) (j := len) h4
        have hcel : ∀ (i : Nat) x, xs[i]? = some x → ∀ (j : Nat) u, (Y.cells c x)[j]? = some u → ∃ v, vs[i * Y.wid c + j]? = some v ∧ DatA Y (ownOf o0 E m) st u v := by
          intro i x hx j u hu
          obtain ⟨v, q1, q2⟩ := h5.get (g3 i x hx j u hu)
          exact ⟨v, q1, DatA.of_rel (Y.flat c x u (List.mem_of_getElem? hu)) q2⟩
        have hat : ∀ v ∈ vs, v.atom = true := by
          intro v hv
          obtain ⟨j, hj⟩ := List.mem_iff_getElem?.1 hv
          have hjl : j < len * Y.wid c := by rw [← hl, ← h4.length]; exact (List.getElem?_eq_some_iff.1 hj).1
          have hw := Y.wpos c
          have q1 : j / Y.wid c < xs.length := by rw [g1]; exact Nat.div_lt_of_lt_mul (by rw [Nat.mul_comm]; exact hjl)
          have q2 : j % Y.wid c < Y.wid c := Nat.mod_lt _ hw
          have hx := List.getElem?_eq_getElem q1
          have hu : (Y.cells c xs[j / Y.wid c])[j % Y.wid c]? = some _ := List.getElem?_eq_getElem (by rw [Y.len]; exact q2)
          obtain ⟨v', e3, e4⟩ := hcel _ _ hx _ _ hu
          rw [Nat.div_add_mod', hj] at e3
          cases e3
          exact atomU_ok (E := E) (flat_atom (Y.flat _ _ _ (List.mem_of_getElem? hu))) e4.rel
        obtain ⟨b, hb⟩ := blkOf_ok vs (Y.wid c) false hat
        obtain ⟨p1, p2, p3, p4, p5, p6⟩ := blkOf_spec hb
        have hd : Done Y G o0 ro E m st k (some (.sl st.nx 0 xs.length xs.length false)) (st.alloc b) := by
          cases ho : Y.opn c with
          | true =>
            rw [ho, cond_true] at g2
            cases hsm : Nat.ble len 2 with
            | true => rw [hsm, cond_true] at g2; exact data_new hI g2 (Nat.le_refl _) (fun i x hx j u hu => by rw [p5]; exact hcel i x hx j u hu)
            | false => rw [hsm, cond_false] at g2; exact row_ok2 hI g2 ⟨p3, p2, blkOf_mp hb⟩ (fun i x hx j u hu => by rw [p5]; exact hcel i x hx j u hu)
          | false =>
            rw [ho, cond_false] at g2
            exact buf_ok (b := b) (cap := xs.length) (op := false) hI g2 ⟨p2, blkOf_mp hb⟩ (by rw [p1, h4.length, hl, g1]) (Nat.le_refl _) ⟨fun z => (by cases z), fun z => by rw [ho] at z; cases z⟩ (fun i x hx j u hu => by rw [p5]; exact hcel i x hx j u hu)
        rw [g1] at hd
        refine ⟨_, _, ?_, hd⟩
        unfold vbuildSlice
        have c3' : Nat.beq w.cells.length (Y.wid c) = true := by rw [Nat.beq_eq, e2.length, c3]
        simp only [hu, hn, e1, c1, c2, c3', Bool.and_self, cond_true, h3, hb, natF_eq]
    · exact h.elim
  · exact h.elim

theorem sMakeSlice_ok (hI : Inv Y G o0 ro E nx m st) {t : TypeId} {len cap : Int} {k : Kn S} (h : sMakeSlice Y P nx m t len cap k) : ∃ v st', vmakeSlice P st t len cap = some (v, st') ∧ Done Y G o0 ro E m st k (some v) st' := by
  unfold sMakeSlice at h
  split at h
  · rename_i e hu
    split at h
    · rename_i ti z c hn hz hcode
      cases hc : (Nat.blt 0 ti.size && Nat.beq (cellsU z).length ti.size && solid z && Nat.beq ti.size (Y.wid c) && !(Y.opn c)) with
      | false => rw [hc] at h; exact h.elim
      | true =>
        rw [hc] at h
        simp only [Bool.and_eq_true, Bool.not_eq_true'] at hc
        obtain ⟨⟨⟨⟨c1, c3⟩, c4⟩, c5⟩, ho⟩ := hc
        obtain ⟨⟨s1, s2, s3, s4⟩, h⟩ := h
        obtain ⟨x, g1, g2⟩ := Y.dec_ok _ _ _ h
        obtain ⟨w, e1, e2⟩ := zeroU_ok (Y := Y) hz
        have e2 := RelV.cells c4 (e2 (Dat Y (ownOf o0 E m) st) E)
        have e3 := nrml_rel (lk := Y.lk c) e2
        rw [g1] at e3
        rw [Nat.beq_eq] at c3 c5
        have hwl : w.cells.length = Y.wid c := by rw [e2.length, c3, c5]
        have hat : w.cells.all V.atom = true := by
          rw [List.all_eq_true]
          intro v hv
          obtain ⟨j, hj⟩ := List.mem_iff_getElem?.1 hv
          have hjl : j < Y.wid c := by rw [← hwl]; exact (List.getElem?_eq_some_iff.1 hj).1
          have hu : (Y.cells c x)[j]? = some _ := List.getElem?_eq_getElem (by rw [Y.len]; exact hjl)
          obtain ⟨v', q1, q2⟩ := e3.get hu
          rw [hj] at q1
          cases q1
          exact atomU_ok (flat_atom (Y.flat _ _ _ (List.mem_of_getElem? hu))) q2
        have hcap : len.toNat ≤ cap.toNat := by omega
        have hd := buf_ok (xs := List.replicate len.toNat x) (b := ⟨.e, w.cells, cap.toNat * ti.size, ti.size, false, none⟩) (cap := cap.toNat) (op := false) hI g2 ⟨c5, rfl⟩ (by dsimp only; rw [c5]) (by simpa using hcap) ⟨fun z => (by cases z), fun z => by rw [ho] at z; cases z⟩ (fun i y hy j u hu => by
          have hi : i < len.toNat := by have := (List.getElem?_eq_some_iff.1 hy).1; simpa using this
          have : y = x := by rw [List.getElem?_replicate_of_lt hi] at hy; exact (Option.some.inj hy).symm
          subst this
          have hj : j < Y.wid c := by rw [← Y.len c y]; exact (List.getElem?_eq_some_iff.1 hu).1
          obtain ⟨v, q1, q2⟩ := e3.get hu
          refine ⟨v, ?_, DatA.of_rel (Y.flat c y u (List.mem_of_getElem? hu)) q2⟩
          unfold Blk.get
          dsimp only
          have hlt : i * Y.wid c + j < cap.toNat * ti.size := by
            rw [c5]
            have : (i + 1) * Y.wid c ≤ cap.toNat * Y.wid c := Nat.mul_le_mul_right _ (by omega)
            rw [Nat.succ_mul] at this
            omega
          have hb : Nat.blt (i * Y.wid c + j) (cap.toNat * ti.size) = true := by rw [Nat.blt_eq]; exact hlt
          rw [hb, cond_true, T.get_e]
          dsimp only
          rw [c5, Nat.mul_comm i, Nat.mul_add_mod, Nat.mod_eq_of_lt hj]
          exact q1)
        rw [List.length_replicate] at hd
        refine ⟨_, _, ?_, hd⟩
        unfold vmakeSlice
        have hcond : (ile 0 len && ile len cap && ile ((ti.bytes : Int) * cap) 1099511627776 && ile cap 1099511627776 && Nat.blt 0 ti.size && Nat.beq w.cells.length ti.size && w.cells.all V.atom) = true := by
          have z1 : Nat.beq w.cells.length ti.size = true := by rw [Nat.beq_eq, hwl, c5]
          rw [hat, z1, c1]
          simp only [ile, Bool.and_true, Bool.and_eq_true, decide_eq_true_eq]
          exact ⟨⟨⟨s1, s2⟩, s3⟩, s4⟩
        simp only [hu, hn, e1, hcond, cond_true, natF_eq]
    · exact h.elim
  · exact h.elim

/-- Behind old elements new ones. -/
theorem cel_app {c : S.Cd} {xs ys : List (S.Den c)} {get : Nat → Option V} {new : List V} {DA : U S → V → Prop} (h1 : Cel Y c xs get DA) (h2 : Cel Y c ys (fun k => new[k]?) DA) {get' : Nat → Option V} (hg : ∀ k, get' k = if xs.length * Y.wid c ≤ k ∧ k < xs.length * Y.wid c + new.length then new[k - xs.length * Y.wid c]? else get k) : Cel Y c (xs ++ ys) get' DA := by
  intro i x hx j u hu
  have hj : j < Y.wid c := by rw [← Y.len c x]; exact (List.getElem?_eq_some_iff.1 hu).1
  rcases Nat.lt_or_ge i xs.length with q | q
  · rw [List.getElem?_append_left q] at hx
    obtain ⟨v, e1, e2⟩ := h1 i x hx j u hu
    refine ⟨v, ?_, e2⟩
    have : (i + 1) * Y.wid c ≤ xs.length * Y.wid c := Nat.mul_le_mul_right _ q
    rw [Nat.succ_mul] at this
    rw [hg, if_neg (by omega), e1]
  · rw [List.getElem?_append_right q] at hx
    obtain ⟨v, e1, e2⟩ := h2 _ x hx j u hu
    dsimp only at e1
    have hlt := (List.getElem?_eq_some_iff.1 e1).1
    have e3 : i * Y.wid c = xs.length * Y.wid c + (i - xs.length) * Y.wid c := by rw [← Nat.add_mul]; congr 1; omega
    refine ⟨v, ?_, e2⟩
    rw [hg, if_pos (by rw [e3]; omega), show i * Y.wid c + j - xs.length * Y.wid c = (i - xs.length) * Y.wid c + j from by rw [e3]; omega, e1]

theorem sAppend_ok (hI : Inv Y G o0 ro E nx m st) {t : TypeId} {s x : U S} {sv xv : V} {k : Kn S} (h : sAppend Y P nx m t s x k) (hs : RelV Y (Dat Y (ownOf o0 E m) st) E s sv) (hx : RelV Y (Dat Y (ownOf o0 E m) st) E x xv) :
    ∃ v st', vappend P ro st t sv xv = some (v, st') ∧ Done Y G o0 ro E m st k (some v) st' := by
  unfold sAppend at h
  split at h
  · rename_i e hu
    split at h
    · rename_i ti c hi hcode
      cases hc : (Nat.beq ti.size (Y.wid c) && Nat.blt 0 ti.bytes && zeroFits P e ti.size) with
      | false => rw [hc] at h; exact h.elim
      | true =>
        rw [hc] at h
        simp only [Bool.and_eq_true] at hc
        obtain ⟨⟨c1, c2⟩, c3⟩ := hc
        rw [Nat.beq_eq] at c1
        have hw := Y.wpos c
        have c0 : (Nat.blt 0 (Y.wid c) && Nat.blt 0 ti.bytes && zeroFits P e (Y.wid c)) = true := by rw [← c1, c2, c3]; simp; omega
        obtain ⟨ys, new, h2, l1, l2, l3, l4, l5⟩ := sElems_ok hI h hx
        have base : ∀ r, vappend P ro st t sv xv = some r ↔ (match (generalizing := false) sv with
          | .sn => cond (Nat.ble (ys.length * ti.bytes) 1099511627776)
            (cond (Nat.beq ys.length 0) (some (V.sn, st)) (match blkOf new (Y.wid c) true with
              | some b => natF st.nx fun nx => natF ys.length fun n => some (V.sl nx 0 n n true, St.alloc ⟨nx, st.hp, st.ver⟩ b)
              | none => none)) none
          | .sl id off len cap op => match st.hp.get id with
            | some b => cond (Nat.ble ((len + ys.length) * ti.bytes) 1099511627776)
              (cond (Nat.ble (len + ys.length) cap)
                (cond (Nat.ble ro id) (match b.put new (off + len * Y.wid c) with
                  | some b => natF (len + ys.length) fun m => some (V.sl id off m cap op, st.write id b)
                  | none => none) none)
                (match vgrown b off len (Y.wid c) new with
                | some b' => cond op
                  (cond (Nat.ble ro id && b.op && Nat.beq b.es (Y.wid c) && Nat.beq (off + cap * Y.wid c) b.sz)
                    (natF st.nx fun nx => natF (len + ys.length) fun m => some (V.sl nx 0 m m true, St.alloc ⟨nx, (st.kill id).hp, (st.kill id).ver⟩ b')) none)
                  (natF st.nx fun nx => natF (len + ys.length) fun m => some (V.sl nx 0 m m true, St.alloc ⟨nx, st.hp, st.ver⟩ b'))
                | none => none)) none
            | none => none
          | .sy g o q => cond (Nat.ble (ys.length * ti.bytes) 1099511627776)
            (cond (Nat.beq ys.length 0) (some (V.sy g o q, st)) (match blkOf new (Y.wid c) true with
              | some b => natF st.nx fun nx => natF ys.length fun n => some (V.sl nx 0 n n true, St.alloc ⟨nx, st.hp, st.ver⟩ b)
              | none => none)) none
          | .ze a => cond (Nat.ble (ys.length * ti.bytes) 1099511627776)
            (cond (Nat.beq ys.length 0) (some (V.ze a, st)) (match blkOf new (Y.wid c) true with
              | some b => natF st.nx fun nx => natF ys.length fun n => some (V.sl nx 0 n n true, St.alloc ⟨nx, st.hp, st.ver⟩ b)
              | none => none)) none
          | _ => none) = some r := by
          intro r
          unfold vappend
          simp only [hu, hi, l1, c1, l2, c0, cond_true]
          exact Iff.rfl
        have no : noRoom sv = true → ∀ r, cond (Nat.ble (ys.length * ti.bytes) 1099511627776)
            (cond (Nat.beq ys.length 0) (some (sv, st)) (match blkOf new (Y.wid c) true with
              | some b => natF st.nx fun nx => natF ys.length fun n => some (V.sl nx 0 n n true, St.alloc ⟨nx, st.hp, st.ver⟩ b)
              | none => none)) none = some r → vappend P ro st t sv xv = some r := by
          intro q r hr
          rw [base]
          clear base hs h2 h hx
          cases sv <;> simp only [noRoom, Bool.false_eq_true] at q <;> exact hr
        have first : noRoom sv = true → (ys.length * ti.bytes ≤ 1099511627776 ∧ sBuf nx m c ys k) → ∃ v st', vappend P ro st t sv xv = some (v, st') ∧ Done Y G o0 ro E m st k (some v) st' := by
          intro q0 h2
          obtain ⟨b1, hk⟩ := h2
          have b1' : Nat.ble (ys.length * ti.bytes) 1099511627776 = true := by rw [Nat.ble_eq]; exact b1
          rcases Nat.eq_zero_or_pos ys.length with z | z
          · have : ys = [] := List.length_eq_zero_iff.1 z
            subst this
            refine ⟨sv, st, no q0 _ ?_, nil_ok hI q0 hk⟩
            have b0 : Nat.ble (0 * ti.bytes) 1099511627776 = true := b1'
            simp only [List.length_nil, b0, cond_true]
            rfl
          · obtain ⟨b, hb⟩ := blkOf_ok new (Y.wid c) true l5
            obtain ⟨p1, p2, p3, p4, p5, p6⟩ := blkOf_spec hb
            have hd := buf_ok (b := b) (cap := ys.length) (op := true) hI hk ⟨p2, blkOf_mp hb⟩ (by rw [p1, l3]) (Nat.le_refl _) ⟨fun _ => ⟨.inl p3, rfl⟩, fun _ => rfl⟩ (fun i x hx j u hu => by rw [p5]; exact l4 i x hx j u hu)
            refine ⟨_, _, no q0 _ ?_, hd⟩
            have z' : Nat.beq ys.length 0 = false := by rw [Bool.eq_false_iff]; intro q; rw [Nat.beq_eq] at q; omega
            simp only [b1', cond_true, z', cond_false, hb, natF_eq]
        split at h2
        · simp only [RelV] at hs
          subst hs
          exact first rfl h2
        · exact first hs h2
        · rename_i r
          split at h2
          · rename_i c' xs hr
            cases hcv : (Y.cvb && !(Y.opn c')) with
            | true => rw [hcv] at h2; exact h2.elim
            | false =>
            rw [hcv, cond_false] at h2
            obtain ⟨rfl, h3⟩ := Y.cast_ok _ _ _ _ h2
            obtain ⟨b1, hk⟩ := h3
            simp only [RelV] at hs
            obtain ⟨y, e1, _⟩ := hs
            have hrl := (List.getElem?_eq_some_iff.1 e1).1
            have DAk : ∀ {E' : En} {m' : T (Ct S)} {st' : St} {ks wr : List Nat}, Step o0 E m st E' m' st' ks wr → ∀ {u : U S} {v : V}, DatA Y (ownOf o0 E m) st u v → DatA Y (ownOf o0 E' m') st' u v := fun hs _ _ hd => hs.datA hd
            have hm0 : ∀ k c, (Tmap (killCt [r]) m).get k = some c → ∃ c', m.get k = some c' := by
              intro k c e
              rw [Tmap_get] at e
              cases q : m.get k with
              | none => rw [q] at e; cases e
              | some c' => exact ⟨c', rfl⟩
            -- what is left to show: the block behind it
            have fin : ∀ (id : Nat) (cap : Nat) (op : Bool) (b' : Blk) (st' : St), (∀ id', some id = some id' → (∃ y, E[r]? = some (some id', y)) ∨ st.nx ≤ id') → ro ≤ id → id < st'.nx → st.nx ≤ st'.nx → (∀ j, j < st.nx → (∀ y, E[r]? ≠ some (some j, y)) → st'.hp.get j = st.hp.get j) →
                (∀ j, j ≤ st.nx → j ≤ st.ver → (∀ id y, E[r]? = some (some id, y) → j ≤ id) → j ≤ st'.ver) → st'.hp.get id = some b' → (b'.es = Y.wid c' ∧ b'.mp = none) → b'.sz = cap * Y.wid c' → (xs ++ ys).length ≤ cap → ((op = true → (b'.op = true ∨ (Y.cvb && !(Y.opn c')) = true) ∧ cap = (xs ++ ys).length) ∧ (Y.opn c' = true → op = true)) → Cel Y c' (xs ++ ys) b'.get (DatA Y (ownOf o0 E m) st) →
                Done Y G o0 ro E m st k (some (.sl id 0 (xs ++ ys).length cap op)) st' := by
              intro id cap op b' st' f1 f2 f3 f4 f5 f6 f7 f8 f9 f10 f11 f12
              have hst := step_re (st' := st') (m0 := Tmap (killCt [r]) m) hI (.buf c' (xs ++ ys)) hr [r] (.inl rfl) (some id) (.sl id 0 (xs ++ ys).length cap op) f1 (fun q => by cases q) hm0 f4 f5 f6
              have hE : (E.set r (some id, V.sl id 0 (xs ++ ys).length cap op))[r]? = some (some id, .sl id 0 (xs ++ ys).length cap op) := List.getElem?_set_self hrl
              obtain ⟨vs, r1, r2⟩ := rows_of_cel (off := 0) (b := b') (DA := DatA Y (ownOf o0 E m) st) (by simpa only [Nat.zero_add] using f12)
              exact ⟨some (.o r), nx, _, [r], [r], _, inv_re hI (.buf c' (xs ++ ys)) hr [r] (some id) _ f1 hst f5 (.inr ⟨id, cap, op, b', hE, f2, f3, f7, f10, f8, f9, f11, vs, fun i x hx => by rw [← r1 i x hx, Nat.zero_add], fun i x hx j u v hu hv => DAk hst (r2 i x hx j u v hu hv)⟩), hst, ⟨_, hE, rfl⟩, hk⟩
            rcases hI.ent r _ hr with ⟨v0, q1, q2, q0⟩ | ⟨id, cap, op, b, q1, q2, q3, q4, q5, q6, q7, q8, vs, q9, q10⟩
            · -- nil before
              rw [e1] at q1
              cases q1
              subst q2
              simp only [List.length_nil, Nat.zero_add] at b1
              have b1' : Nat.ble (ys.length * ti.bytes) 1099511627776 = true := by rw [Nat.ble_eq]; exact b1
              rcases Nat.eq_zero_or_pos ys.length with z | z
              · have : ys = [] := List.length_eq_zero_iff.1 z
                subst this
                have hst := step_re (st' := st) (m0 := Tmap (killCt [r]) m) hI (.buf c' []) hr [r] (.inl rfl) none sv (fun _ q => by cases q) (fun q => by cases q) hm0 (Nat.le_refl _) (fun _ _ _ => rfl) (fun _ _ q _ => q)
                have hE : (E.set r ((none : Option Nat), sv))[r]? = some (none, sv) := List.getElem?_set_self hrl
                have b0 : Nat.ble (0 * ti.bytes) 1099511627776 = true := b1'
                exact ⟨sv, st, no q0 _ (by simp only [List.length_nil, b0, cond_true]; rfl), some (.o r), nx, _, [r], [r], _, inv_re hI (.buf c' []) hr [r] none sv (fun _ q => by cases q) hst (fun _ _ _ => rfl) (.inl ⟨sv, hE, rfl, q0⟩), hst, ⟨_, hE, noRoom_atom q0⟩, hk⟩
              · obtain ⟨b, hb⟩ := blkOf_ok new (Y.wid c') true l5
                obtain ⟨p1, p2, p3, p4, p5, p6⟩ := blkOf_spec hb
                have hd := fin st.nx ys.length true b (st.alloc b) (fun id' e => .inr (by cases e; exact Nat.le_refl _)) hI.ro (Nat.lt_succ_self _) (Nat.le_succ _) (fun j hj _ => alloc_hp st b j hj) (fun _ _ q _ => q) (alloc_self st b) ⟨p2, blkOf_mp hb⟩ (by rw [p1, l3]) (by simp) ⟨fun _ => ⟨.inl p3, by simp⟩, fun _ => rfl⟩ (fun i x hx j u hu => by rw [p5]; exact l4 i x (by simpa using hx) j u hu)
                refine ⟨_, _, no q0 _ ?_, hd⟩
                have z' : Nat.beq ys.length 0 = false := by rw [Bool.eq_false_iff]; intro q; rw [Nat.beq_eq] at q; omega
                simp only [b1', cond_true, z', cond_false, hb, natF_eq, List.nil_append]
            · rw [e1] at q1
              cases q1
              have hold := cel_of_rows (off := 0) (b := b) (DA := DatA Y (ownOf o0 E m) st) (fun i x hx => by rw [Nat.zero_add]; exact q9 i x hx) q10
              simp only [Nat.zero_add] at hold
              have b1' : Nat.ble ((xs.length + ys.length) * ti.bytes) 1099511627776 = true := by rw [Nat.ble_eq]; exact b1
              have roT : Nat.ble ro id = true := by rw [Nat.ble_eq]; exact q2
              have le1 : xs.length * Y.wid c' ≤ cap * Y.wid c' := Nat.mul_le_mul_right _ q5
              by_cases hcap : xs.length + ys.length ≤ cap
              · have le2 : (xs.length + ys.length) * Y.wid c' ≤ cap * Y.wid c' := Nat.mul_le_mul_right _ hcap
                obtain ⟨b', hp⟩ := Blk.put_ok new b (xs.length * Y.wid c') (by rw [q7, l3, ← Nat.add_mul]; exact le2) l5
                obtain ⟨p1, p2, p3, p4, p5, p6, p7⟩ := Blk.put_spec _ _ _ _ hp
                have hd := fin id cap op b' (st.write id b') (fun id' e => .inl (by cases e; exact ⟨_, e1⟩)) q2 (by rw [write_nx]; exact q3) (by rw [write_nx]; exact Nat.le_refl _) (fun j hj hh => write_hp st b' id j (fun z => by subst z; exact hh _ e1)) (fun j _ h2 h3 => write_ver st b' id j h2 (h3 id _ e1)) (write_self st b' id) ⟨p2.trans q6.1, (Blk.put_mp _ _ _ _ hp).trans q6.2⟩ (p1.trans q7) (by rw [List.length_append]; exact hcap)
                  ⟨fun z => by rw [p3, List.length_append]; have := q8.1 z; exact ⟨this.1, by omega⟩, q8.2⟩ (cel_app hold l4 (fun k => p5 k))
                refine ⟨_, _, (base _).2 ?_, hd⟩
                have c4 : Nat.ble (xs.length + ys.length) cap = true := by rw [Nat.ble_eq]; exact hcap
                simp only [q4, b1', c4, cond_true, roT, Nat.zero_add, hp, natF_eq, List.length_append]
              · have c4 : Nat.ble (xs.length + ys.length) cap = false := by rw [Bool.eq_false_iff]; intro q; rw [Nat.ble_eq] at q; exact hcap q
                have grown : ∃ b', vgrown b 0 xs.length (Y.wid c') new = some b' ∧ (b'.es = Y.wid c' ∧ b'.mp = none) ∧ b'.op = true ∧ b'.sz = (xs.length + ys.length) * Y.wid c' ∧ Cel Y c' (xs ++ ys) b'.get (DatA Y (ownOf o0 E m) st) := by
                  unfold vgrown
                  rw [q6.2]
                  dsimp only
                  cases hq : (b.op && Nat.beq 0 0 && Nat.beq (xs.length * Y.wid c') b.sz && Nat.beq b.es (Y.wid c')) with
                  | true =>
                    simp only [Bool.and_eq_true, Nat.beq_eq] at hq
                    simp only [cond_true]
                    unfold Blk.grow
                    have hq2 := hq.1.2
                    obtain ⟨b', hb'⟩ := Blk.put_ok new { b with sz := b.sz + new.length, op := true } b.sz (by dsimp only; omega) l5
                    obtain ⟨p1, p2, p3, p4, p5, p6, p7⟩ := Blk.put_spec _ _ _ _ hb'
                    refine ⟨b', hb', ⟨p2.trans q6.1, (Blk.put_mp _ _ _ _ hb').trans q6.2⟩, p3, by rw [p1]; dsimp only; rw [← hq2, l3, ← Nat.add_mul], fun i x hx j u hu => ?_⟩
                    refine cel_app (get := fun k => if k < b.sz then b.get k else none) (get' := fun k => if k < b.sz + new.length then b'.get k else none) ?_ l4 ?_ i x hx j u hu |>.elim fun v hv => ⟨v, ?_, hv.2⟩
                    · intro i x hx j u hu
                      obtain ⟨v, z1, z2⟩ := hold i x hx j u hu
                      exact ⟨v, by dsimp only; rw [if_pos (Blk.get_lt z1)]; exact z1, z2⟩
                    · intro k
                      rw [hq2]
                      by_cases z1 : k < b.sz + new.length
                      · rw [if_pos z1, p5 k]
                        by_cases z2 : b.sz ≤ k
                        · rw [if_pos ⟨z2, z1⟩, if_pos ⟨z2, z1⟩]
                        · rw [if_neg (by omega), if_neg (by omega), if_pos (by omega)]
                          unfold Blk.get
                          dsimp only
                          have a1 : Nat.blt k (b.sz + new.length) = true := by rw [Nat.blt_eq]; exact z1
                          have a2 : Nat.blt k b.sz = true := by rw [Nat.blt_eq]; omega
                          rw [a1, a2]
                      · rw [if_neg z1, if_neg (by omega), if_neg (by omega)]
                    · have := hv.1
                      dsimp only at this
                      split at this
                      · exact this
                      · cases this
                  | false =>
                    have hw0 := hw
                    have key : ∀ k, k < xs.length * Y.wid c' → ∃ v, b.get k = some v ∧ v.atom = true := by
                      intro k hk
                      have h1 : k / Y.wid c' < xs.length := Nat.div_lt_of_lt_mul (by rw [Nat.mul_comm]; exact hk)
                      have h2 : k % Y.wid c' < Y.wid c' := Nat.mod_lt _ hw0
                      have hx := List.getElem?_eq_getElem h1
                      have hu : (Y.cells c' xs[k / Y.wid c'])[k % Y.wid c']? = some _ := List.getElem?_eq_getElem (by rw [Y.len]; exact h2)
                      obtain ⟨v, z1, z2⟩ := hold _ _ hx _ _ hu
                      rw [Nat.div_add_mod'] at z1
                      exact ⟨v, z1, atomU_ok (E := E) (flat_atom (Y.flat _ _ _ (List.mem_of_getElem? hu))) z2.rel⟩
                    let old : List V := (List.range (xs.length * Y.wid c')).map fun k => (b.get k).getD (.b false)
                    have hol : old.length = xs.length * Y.wid c' := by simp [old]
                    have hog : ∀ k, k < xs.length * Y.wid c' → old[k]? = b.get k := by
                      intro k hk
                      obtain ⟨v, z1, _⟩ := key k hk
                      simp only [old]
                      rw [List.getElem?_map, List.getElem?_range hk, Option.map_some, z1, Option.getD_some]
                    have hrow : b.row (xs.length * Y.wid c') 0 = some old := by
                      have := Blk.row_ok (b := b) old 0 (fun j hj => by rw [Nat.zero_add, hog j (by rw [← hol]; exact hj)])
                      rwa [hol] at this
                    have hoa : ∀ v ∈ old ++ new, v.atom = true := by
                      intro v hv
                      rcases List.mem_append.1 hv with z | z
                      · obtain ⟨j, hj⟩ := List.mem_iff_getElem?.1 z
                        have hjl : j < xs.length * Y.wid c' := by rw [← hol]; exact (List.getElem?_eq_some_iff.1 hj).1
                        rw [hog j hjl] at hj
                        obtain ⟨v', z1, z2⟩ := key j hjl
                        rw [hj] at z1
                        cases z1
                        exact z2
                      · exact l5 v z
                    obtain ⟨b', hb'⟩ := blkOf_ok (old ++ new) (Y.wid c') true hoa
                    obtain ⟨p1, p2, p3, p4, p5, p6⟩ := blkOf_spec hb'
                    refine ⟨b', by simp only [cond_false, hrow, hb'], ⟨p2, blkOf_mp hb'⟩, p3, by rw [p1, List.length_append, hol, l3, ← Nat.add_mul], cel_app (get := fun k => old[k]?) ?_ l4 (fun k => ?_)⟩
                    · intro i x hx j u hu
                      obtain ⟨v, z1, z2⟩ := hold i x hx j u hu
                      have hj : j < Y.wid c' := by rw [← Y.len c' x]; exact (List.getElem?_eq_some_iff.1 hu).1
                      have : (i + 1) * Y.wid c' ≤ xs.length * Y.wid c' := Nat.mul_le_mul_right _ (List.getElem?_eq_some_iff.1 hx).1
                      rw [Nat.succ_mul] at this
                      exact ⟨v, by dsimp only; rw [hog _ (by omega)]; exact z1, z2⟩
                    · rw [p5]
                      by_cases z : xs.length * Y.wid c' ≤ k
                      · rw [List.getElem?_append_right (by rw [hol]; exact z), hol]
                        by_cases z2 : k < xs.length * Y.wid c' + new.length
                        · rw [if_pos ⟨z, z2⟩]
                        · rw [if_neg (by omega), List.getElem?_eq_none (by omega), List.getElem?_eq_none (by rw [hol]; exact z)]
                      · rw [if_neg (by omega), List.getElem?_append_left (by rw [hol]; omega)]
                obtain ⟨b', g1, g2, g3, g4, g5⟩ := grown
                have ver2 : ∀ st' : St, (∀ j, j ≤ st.ver → j ≤ id → j ≤ st'.ver) → (∀ j, j ≤ st.nx → j ≤ st.ver → (∀ id y, E[r]? = some (some id, y) → j ≤ id) → j ≤ st'.ver) := fun st' hh j _ h2 h3 => hh j h2 (h3 id _ e1)
                cases op with
                | true =>
                  obtain ⟨o1, o2⟩ := q8.1 rfl
                  have o1 : b.op = true := o1.resolve_right (by rw [hcv]; decide)
                  have hd := fin st.nx (xs ++ ys).length true b' (St.alloc ⟨st.nx, (st.kill id).hp, (st.kill id).ver⟩ b') (fun id' e => .inr (by cases e; exact Nat.le_refl _)) hI.ro (Nat.lt_succ_self _) (Nat.le_succ _)
                    (fun j hj hh => by
                      show (St.alloc ⟨st.nx, (st.kill id).hp, (st.kill id).ver⟩ b').hp.get j = _
                      rw [alloc_hp ⟨st.nx, (st.kill id).hp, (st.kill id).ver⟩ b' j hj, St.kill_eq]
                      dsimp only
                      rw [T.get_upd, if_neg (fun z => by subst z; exact hh _ e1)])
                    (ver2 _ (fun j h1 h2 => by show j ≤ (st.kill id).ver; rw [St.kill_eq]; exact low_ge h1 h2)) (alloc_self ⟨st.nx, (st.kill id).hp, (st.kill id).ver⟩ b') g2 (by rw [g4, List.length_append]) (Nat.le_refl _) ⟨fun _ => ⟨.inl g3, rfl⟩, fun _ => rfl⟩ g5
                  refine ⟨_, _, (base _).2 ?_, hd⟩
                  have c5 : (Nat.ble ro id && b.op && Nat.beq b.es (Y.wid c') && Nat.beq (0 + cap * Y.wid c') b.sz) = true := by rw [roT, o1, q6.1, q7]; simp
                  simp only [q4, b1', c4, cond_true, cond_false, g1, c5, natF_eq, List.length_append]
                | false =>
                  have hd := fin st.nx (xs ++ ys).length true b' (st.alloc b') (fun id' e => .inr (by cases e; exact Nat.le_refl _)) hI.ro (Nat.lt_succ_self _) (Nat.le_succ _) (fun j hj _ => alloc_hp st b' j hj) (fun _ _ q _ => q) (alloc_self st b') g2 (by rw [g4, List.length_append]) (Nat.le_refl _) ⟨fun _ => ⟨.inl g3, rfl⟩, fun _ => rfl⟩ g5
                  refine ⟨_, _, (base _).2 ?_, hd⟩
                  simp only [q4, b1', c4, cond_true, cond_false, g1, natF_eq, List.length_append]
          · exact h2.elim
        · exact h2.elim
    · exact h.elim
  · exact h.elim

theorem map_get {α β : Type} {f : α → List (U S)} {g : β → List (U S)} {xs : List α} {ys : List β} (h : xs.map f = ys.map g) : xs.length = ys.length ∧ ∀ (i : Nat) x, xs[i]? = some x → ∃ y, ys[i]? = some y ∧ f x = g y := by
  refine ⟨by have := congrArg List.length h; simpa using this, fun i x hx => ?_⟩
  have := congrArg (·[i]?) h
  simp only [List.getElem?_map, hx, Option.map_some] at this
  cases hy : ys[i]? with
  | none => rw [hy] at this; cases this
  | some y => rw [hy] at this; exact ⟨y, rfl, Option.some.inj this⟩

/-- Bytes of a block, as a text. -/
theorem text_ok {own : Nat → Prop} {c : S.Cd} {xs : List (S.Den c)} {bs : List UInt8} {b : Blk} {off : Nat} (hw : Y.wid c = 1) (hm : xs.map (Y.cells c) = bs.map (fun y => [.i .u8 (y.toNat : Int)])) (hc : Cel Y c xs (fun k => b.get (off + k)) (DatA Y own st)) : vtext b xs.length off = some (V.str bs) := by
  obtain ⟨hl, hg⟩ := map_get hm
  have cell : ∀ j, j < bs.length → b.get (off + j) = (cB bs)[j]? := by
    intro j hj
    have hx := List.getElem?_eq_getElem (l := xs) (i := j) (by omega)
    obtain ⟨y, e1, e2⟩ := hg j _ hx
    obtain ⟨v, e3, e4⟩ := hc j _ hx 0 (.i .u8 (y.toNat : Int)) (by rw [e2]; rfl)
    dsimp only at e3
    rw [hw, Nat.mul_one, Nat.add_zero] at e3
    cases e4
    rw [e3, cB_get, e1]
    rfl
  have := Blk.row_ok (b := b) (cB bs) off (fun j hj => cell j (by rwa [cB_len] at hj))
  rw [cB_len] at this
  rw [hl]
  exact vtext_of this (bytesOf_cB bs)

theorem noRoom_conv {v : V} (h : noRoom v = true) {s d e : TypeId} (hs : P.underlying s = some (.slice e)) (hd : P.underlying d = some .string) (he : P.underlying e = some (.int .u8)) : vconvert P st s d v = some (.s 0 0, st) := by
  cases v <;> simp only [noRoom, Bool.false_eq_true] at h <;> (unfold vconvert; simp only [hs, hd, he])

theorem sConvert_ok (hI : Inv Y G o0 ro E nx m st) {s d : TypeId} {x : U S} {xv : V} {k : Kn S} (h : sConvert Y P nx m s d x k) (hx : RelV Y (Dat Y (ownOf o0 E m) st) E x xv) :
    ∃ v st', vconvert P st s d xv = some (v, st') ∧ Done Y G o0 ro E m st k (some v) st' := by
  unfold sConvert at h
  split at h
  · rename_i hs hd
    simp only [RelV] at hx
    subst hx
    exact ⟨_, st, by unfold vconvert; simp only [hs, hd], done_pure hI (u := .i _ _) rfl (sArith_ok h)⟩
  · rename_i hs hd
    simp only [RelV] at hx
    subst hx
    exact ⟨_, st, by unfold vconvert V.str; simp only [hs, hd], done_pure hI (u := .s _) rfl h⟩
  · rename_i e l hs hd
    split at h
    · rename_i c he hcode
      simp only [RelV] at hx
      subst hx
      obtain ⟨h1, h⟩ := h
      obtain ⟨xs, hw, hm, hk⟩ := Y.ofB_ok _ _ _ h
      obtain ⟨hl, hg⟩ := map_get hm
      obtain ⟨b, hb⟩ := blkOf_ok (cB l) 1 false (cB_atom l)
      obtain ⟨p1, p2, p3, p4, p5, p6⟩ := blkOf_spec hb
      have hcl : Cel Y c xs b.get (DatA Y (ownOf o0 E m) st) := (fun i x hx j u hu => by
        obtain ⟨y, e1, e2⟩ := hg i x hx
        rw [e2] at hu
        cases j with
        | zero =>
          simp only [List.getElem?_cons_zero, Option.some.injEq] at hu
          subst hu
          exact ⟨_, by rw [hw, Nat.mul_one, Nat.add_zero, p5, cB_get, e1]; rfl, .i _ _⟩
        | succ j => simp at hu)
      have hd2 : Done Y G o0 ro E m st k (some (.sl st.nx 0 xs.length xs.length true)) (st.alloc b) := by
        cases hcv : (Y.cvb && !(Y.opn c)) with
        | false =>
          rw [hcv, cond_false] at hk
          exact data_new (b := b) (cap := xs.length) (op := true) hI hk (Nat.le_refl _) hcl
        | true =>
          rw [hcv, cond_true] at hk
          exact buf_ok (b := b) (cap := xs.length) (op := true) hI hk ⟨p2.trans hw.symm, blkOf_mp hb⟩ (by rw [p1, cB_len, hw, Nat.mul_one, hl]) (Nat.le_refl _) ⟨fun _ => ⟨.inr hcv, rfl⟩, fun _ => rfl⟩ hcl
      rw [hl] at hd2
      refine ⟨_, _, ?_, hd2⟩
      have c1 : Nat.ble l.length 1099511627776 = true := by rw [Nat.ble_eq]; exact h1
      unfold vconvert V.str
      simp only [hs, hd, he, c1, cond_true, cellsOf_str, hb, natF_eq]
    · exact h.elim
  · rename_i e hs hd
    split at h
    · rename_i he
      simp only [RelV] at hx
      subst hx
      exact ⟨.s 0 0, st, by unfold vconvert; simp only [hs, hd, he], done_pure hI (u := .s []) rfl h⟩
    · exact h.elim
  · rename_i e c xs hs hd
    split at h
    · rename_i he
      obtain ⟨bs, hw, hm, hk⟩ := Y.byt_ok _ _ _ h
      simp only [RelV] at hx
      cases hx with
      | nil =>
        obtain ⟨hl, _⟩ := map_get hm
        have : bs = [] := List.length_eq_zero_iff.1 hl.symm
        subst this
        exact ⟨.s 0 0, st, by unfold vconvert; simp only [hs, hd, he], done_pure hI (u := .s []) rfl hk⟩
      | ne =>
        obtain ⟨hl, _⟩ := map_get hm
        have : bs = [] := List.length_eq_zero_iff.1 hl.symm
        subst this
        exact ⟨.s 0 0, st, by unfold vconvert; simp only [hs, hd, he], done_pure hI (u := .s []) rfl hk⟩
      | ny =>
        obtain ⟨hl, _⟩ := map_get hm
        have : bs = [] := List.length_eq_zero_iff.1 hl.symm
        subst this
        exact ⟨.s 0 0, st, by unfold vconvert; simp only [hs, hd, he], done_pure hI (u := .s []) rfl hk⟩
      | ze =>
        obtain ⟨hl, _⟩ := map_get hm
        have : bs = [] := List.length_eq_zero_iff.1 hl.symm
        subst this
        exact ⟨.s 0 0, st, by unfold vconvert; simp only [hs, hd, he], done_pure hI (u := .s []) rfl hk⟩
      | mk vs h1 h2 h3 h4 h5 h6 =>
        exact ⟨V.str bs, st, by unfold vconvert; simp only [hs, hd, he, h3, text_ok hw hm (cel_of_rows h4 h5)], done_pure hI (u := .s bs) rfl hk⟩
    · exact h.elim
  · rename_i e r hs hd
    split at h
    · rename_i c xs he hr
      obtain ⟨bs, hw, hm, hk⟩ := Y.byt_ok _ _ _ h
      simp only [RelV] at hx
      obtain ⟨y, e1, _⟩ := hx
      rcases hI.ent r _ hr with ⟨v0, q1, q2, q0⟩ | ⟨id, cap, op, b, q1, q2, q3, q4, q5, q6, q7, q8, vs, q9, q10⟩
      · rw [e1] at q1
        cases q1
        subst q2
        obtain ⟨hl, _⟩ := map_get hm
        have : bs = [] := List.length_eq_zero_iff.1 hl.symm
        subst this
        exact ⟨.s 0 0, st, noRoom_conv q0 hs hd he, done_pure hI (u := .s []) rfl hk⟩
      · rw [e1] at q1
        cases q1
        exact ⟨V.str bs, st, by unfold vconvert; simp only [hs, hd, he, q4, text_ok hw hm (cel_of_rows (fun i x hx => by rw [Nat.zero_add]; exact q9 i x hx) q10)], done_pure hI (u := .s bs) rfl hk⟩
    · exact h.elim
  · rename_i e r w i hs hd
    split at h
    · rename_i c xs he hr
      cases hwc : Nat.beq w (Y.wid c) with
      | false => rw [hwc] at h; exact h.elim
      | true =>
        rw [hwc, cond_true] at h
        rw [Nat.beq_eq] at hwc
        subst hwc
        obtain ⟨bs, hw, hm, hk⟩ := Y.byt_ok _ _ _ h
        obtain ⟨hl, _⟩ := map_get hm
        simp only [RelV] at hx
        obtain ⟨x, y, e1, hv⟩ := hx
        have none : xs.drop i = [] → bs = [] := fun q => List.length_eq_zero_iff.1 (by rw [← hl, q]; rfl)
        rcases hI.ent r _ hr with ⟨v0, q1, q2, q0⟩ | ⟨id, cap, op, b, q1, q2, q3, q4, q5, q6, q7, q8, vs, q9, q10⟩
        · rw [e1] at q1
          cases q1
          subst q2
          have := none (by simp)
          subst this
          obtain ⟨_, rfl⟩ | ⟨_, _, _, _, q, _⟩ := hv
          · exact ⟨.s 0 0, st, noRoom_conv q0 hs hd he, done_pure hI (u := .s []) rfl hk⟩
          · rw [q] at q0; cases q0
        · rw [e1] at q1
          cases q1
          obtain ⟨q, _⟩ | ⟨_, _, _, _, q, hi, hv⟩ := hv
          · cases q
          cases q
          have hlen : (xs.drop i).length = xs.length - i := List.length_drop
          obtain ⟨o, cap', op', ho, rfl⟩ | ⟨hi2, o, o2, rfl⟩ := hv
          · have hc : Cel Y c (xs.drop i) (fun k => b.get (o + k)) (DatA Y (ownOf o0 E m) st) := by
              by_cases hlt : i < xs.length
              · rw [ho hlt]
                refine cel_of_rows (vs := fun j => vs (i + j)) (fun j x hx => ?_) (fun j x hx => ?_)
                · rw [← Nat.add_mul]
                  exact q9 (i + j) x (by rw [List.getElem?_drop] at hx; exact hx)
                · exact q10 (i + j) x (by rw [List.getElem?_drop] at hx; exact hx)
              · intro j x hx
                rw [List.getElem?_eq_none (by omega)] at hx
                cases hx
            have ht := text_ok hw hm hc
            rw [hlen] at ht
            exact ⟨V.str bs, st, by unfold vconvert; simp only [hs, hd, he, q4, ht], done_pure hI (u := .s bs) rfl hk⟩
          · have := none (List.length_eq_zero_iff.1 (by omega))
            subst this
            exact ⟨.s 0 0, st, by unfold vconvert; simp only [hs, hd, he], done_pure hI (u := .s []) rfl hk⟩
    · exact h.elim
  · exact h.elim

theorem sConv2_ok (hI : Inv Y G o0 ro E nx m st) {s d : TypeId} {x : U S} {xv : V} {k : Kn S} (h : sConv2 Y P nx m s d x k) (hx : RelV Y (Dat Y (ownOf o0 E m) st) E x xv) :
    ∃ v st', vconv2 P ro st s d xv = some (v, st') ∧ Done Y G o0 ro E m st k (some v) st' := by
  unfold sConv2 at h
  split at h
  · rename_i e e2 r hs hd
    split at h
    · rename_i c xs he hr
      cases hq0 : (decide (s = d) && Nat.beq (Y.wid c) 1) with
      | false => rw [hq0] at h; exact h.elim
      | true =>
        rw [hq0, cond_true] at h
        rw [Bool.and_eq_true, Nat.beq_eq] at hq0
        obtain ⟨hq, hw1⟩ := hq0
        have hx0 := hx
        simp only [RelV] at hx
        obtain ⟨y, e1, _⟩ := hx
        obtain ⟨id, b, q1, q2, q3, q4, q5, q6⟩ := hI.ent r _ hr
        rw [e1] at q1
        cases q1
        have c1 : (decide (s = d) && !b.full && Nat.ble ro id && b.mp.isNone) = true := by
          unfold Blk.full
          rw [hq, q5.1, q5.2.1, q5.2.2, hw1, show Nat.ble ro id = true from by rw [Nat.ble_eq]; exact q2]
          rfl
        exact ⟨_, st, by unfold vconv2; simp only [hs, hd, he, q4, c1, cond_true], done_pure hI hx0 h⟩
    · exact h.elim
  · obtain ⟨v, st', h7, h8⟩ := sConvert_ok hI h hx
    exact ⟨v, st', vconv2_of h7, h8⟩

theorem sE_ok (hI : Inv Y G o0 ro E nx m st) {o : Op} {k : Kn S} (h : sE Y P fr nx m o k) (hf : RelF Y (Dat Y (ownOf o0 E m) st) E fr frV) : ∃ res st', (∀ call, vop P ro call frV st o = some (res, st')) ∧ Done Y G o0 ro E m st k res st' := by
  unfold sE at h
  split at h
  · obtain ⟨u, v, h1, h2, h3⟩ := sOpd_ok h hf
    obtain ⟨w, z, h4, h5, h6⟩ := sOpd_ok h3 hf
    split at h6
    · rename_i r w i off
      obtain ⟨u', ks, g1, g2⟩ := frzU_ok hI h6 h5
      obtain ⟨id, off, st', rfl, h7, h8⟩ := sStore_ok (drop_inv hI ks) g1 ((drop_step hI ks).relK h2) (g2 ks fun _ h => h)
      exact ⟨none, st', fun call => by simp only [vop, h1, h4, h7], h8.drop hI⟩
    · obtain ⟨id, off, st', rfl, h7, h8⟩ := sStore_ok hI h6 h2 h5
      exact ⟨none, st', fun call => by simp only [vop, h1, h4, h7], h8⟩
  · split at h
    · rename_i z n hz hn
      cases hs : solid z with
      | false => rw [hs] at h; exact h.elim
      | true =>
        rw [hs] at h
        obtain ⟨w, e1, e2⟩ := zeroU_ok (Y := Y) hz
        obtain ⟨b, h1, h2⟩ := new_ok (es := n) hI h (RelV.cells hs (e2 (Dat Y (ownOf o0 E m) st) E))
        exact ⟨_, _, fun call => by simp only [vop, e1, hn, valloc, h1, natF_eq], h2⟩
    · exact h.elim
  · split at h
    · rename_i n hn
      obtain ⟨u, v, h1, h2, h3⟩ := sOpd_ok h hf
      cases hs : solid u with
      | false => rw [hs] at h3; exact h3.elim
      | true =>
        rw [hs] at h3
        obtain ⟨b, h4, h5⟩ := new_ok (es := n) hI h3 (RelV.cells hs h2)
        exact ⟨_, _, fun call => by simp only [vop, h1, hn, valloc, h4, natF_eq], h5⟩
    · exact h.elim
  · obtain ⟨us, vs, h1, h2, h3⟩ := sParts_ok hf h
    obtain ⟨us', ks, g1, g2⟩ := frzP_ok hI h3 h2
    obtain ⟨v, st', h4, h5⟩ := sBuildSlice_ok (drop_inv hI ks) g1 (g2 ks fun _ h => h)
    exact ⟨some v, st', fun call => by simp only [vop, h1, h4], h5.drop hI⟩
  · obtain ⟨u, v, h1, h2, h3⟩ := sOpd_ok h hf
    obtain ⟨w, z, h4, h5, h6⟩ := sOpd_ok h3 hf
    split at h6
    · simp only [RelV] at h2 h5
      subst h2 h5
      obtain ⟨v, st', h7, h8⟩ := sMakeSlice_ok hI h6
      exact ⟨some v, st', fun call => by simp only [vop, h1, h4, h7], h8⟩
    · exact h6.elim
  · obtain ⟨u, v, h1, h2, h3⟩ := sOpd_ok h hf
    obtain ⟨v, st', h7, h8⟩ := sConv2_ok hI h3 h2
    exact ⟨some v, st', fun call => by simp only [vop, h1, h7], h8⟩
  · rename_i c
    obtain ⟨callee, args, ts⟩ := c
    dsimp only at h
    split at h
    · rename_i s x t u hc ha ht
      split at h
      · exact h.elim
      · rename_i d hni hu
        obtain ⟨su, sv, h1, h2, h3⟩ := sOpd_ok h hf
        obtain ⟨xu, xv, h4, h5, h6⟩ := sOpd_ok h3 hf
        obtain ⟨v, st', h7, h8⟩ := sAppend_ok hI h6 h2 h5
        refine ⟨some v, st', fun call => ?_, h8⟩
        simp only [vop, ha, ht, opnds, h1, h4, vbuiltin, hu]
        cases d <;> first | exact absurd rfl (hni _) | simp only [h7]
      · exact h.elim
    · exact h.elim
  · exact h.elim
end
end Go.Sx
namespace Go.Sx
open Go.Vm

/-- A state: a frame, how many names, what they hold, and the names that were given anew. -/
structure Z (S : Sg) where
  fr : T (U S)
  nx : Nat
  m : T (Ct S)
  ks : List Nat

abbrev CallT (S : Sg) := FuncId → List (U S) → Nat → T (Ct S) → Kn S → Prop
abbrev LoopT (S : Sg) := Code → Z S → (Ex → Z S → Prop) → Prop

/-! ### Trees are written and kept as they are, and not as what is to be done to them -/

def pathP : Nat → Nat → List Bool
  | 0, _ => []
  | f + 1, i => match i with
    | 0 => []
    | k + 1 => Nat.beq (k % 2) 0 :: pathP f (k / 2)
def updP {α : Type} : List Bool → T α → Option α → (T α → Prop) → Prop
  | [], .e, v, k => k (.n .e v .e)
  | [], .n l _ r, v, k => k (.n l v r)
  | true :: p, .e, v, k => updP p .e v fun l => k (.n l none .e)
  | true :: p, .n l x r, v, k => updP p l v fun l => k (.n l x r)
  | false :: p, .e, v, k => updP p .e v fun r => k (.n .e none r)
  | false :: p, .n l x r, v, k => updP p r v fun r => k (.n l x r)
theorem mkL_eq {α : Type} (v : Option α) (r x : T α) : T.mkL v r x = .n x v r := by cases x <;> rfl
theorem mkR_eq {α : Type} (v : Option α) (l x : T α) : T.mkR l v x = .n l v x := by cases x <;> rfl
theorem updP_go {α : Type} (v : Option α) : ∀ (f : Nat) (t : T α) (i : Nat) (k : T α → Prop), i < f → updP (pathP f i) t v k = k (T.go v f t i)
  | 0, _, _, _, h => absurd h (Nat.not_lt_zero _)
  | f + 1, t, i, k, h => by
    cases i with
    | zero => cases t <;> rfl
    | succ j =>
      have hj : j / 2 < f := by omega
      simp only [pathP, T.go]
      cases hb : Nat.beq (j % 2) 0 <;> cases t <;> simp only [updP, cond_true, cond_false, mkL_eq, mkR_eq] <;> rw [updP_go v f _ _ _ hj]
def updI {α : Type} (t : T α) (i : Nat) (v : Option α) (k : T α → Prop) : Prop := updP (pathP (i + 1) i) t v k
theorem updI_eq {α : Type} (t : T α) (i : Nat) (v : Option α) (k : T α → Prop) : updI t i v k = k (t.upd i v) := updP_go v (i + 1) t i k (Nat.lt_succ_self i)
def forceP {α : Type} : T α → (T α → Prop) → Prop
  | .e, k => k .e
  | .n l v r, k => forceP l fun l => forceP r fun r => k (.n l v r)
theorem forceP_eq {α : Type} : ∀ (t : T α) (k : T α → Prop), forceP t k = k t
  | .e, k => rfl
  | .n l v r, k => by rw [forceP, forceP_eq l, forceP_eq r]

section
variable {S : Sg} (Y : Sy S) (P : Program) (G : Gl)

def forceZ (z : Z S) (k : Z S → Prop) : Prop := forceP z.fr fun fr => forceP z.m fun m => k ⟨fr, z.nx, m, z.ks⟩
theorem forceZ_eq (z : Z S) (k : Z S → Prop) : forceZ z k = k z := by unfold forceZ; rw [forceP_eq, forceP_eq]
def killK (ks : List Nat) (fr : T (U S)) (k : T (U S) → Prop) : Prop := match ks with
  | [] => k fr
  | n :: r => forceP (Tmap (kill (n :: r)) fr) k
def killF (ks : List Nat) (fr : T (U S)) : T (U S) := match ks with
  | [] => fr
  | k :: r => Tmap (kill (k :: r)) fr

def plainU : U S → Bool
  | .b _ | .kb _ | .i _ _ | .s _ | .pn | .sn | .fz | .nz => true
  | _ => false
def plainsU : List (U S) → Bool
  | [] => true
  | u :: us => plainU u && plainsU us
def plainTU : U S → Bool
  | .a us | .t us => plainsU us
  | u => plainU u

def sOp (C : CallT S) (fr : T (U S)) (nx : Nat) (m : T (Ct S)) (o : Op) (k : Kn S) : Prop := match o with
  | .store t x v => sE Y P fr nx m (.store t x v) k
  | .alloc t => sE Y P fr nx m (.alloc t) k
  | .box t x => sE Y P fr nx m (.box t x) k
  | .buildSlice t l ps => sE Y P fr nx m (.buildSlice t l ps) k
  | .makeSlice t l c => sE Y P fr nx m (.makeSlice t l c) k
  | .convert s d x => sE Y P fr nx m (.convert s d x) k
  | .call c => match c.callee with
    | .value f => sOpd fr f fun w => match w with
      | .f fn caps => sOpds fr c.args.toList fun us => C fn (us ++ caps) nx m k
      | _ => False
    | .builtin .append => sE Y P fr nx m (.call c) k
    | _ => sQ Y P G fr m (.call c) fun u => k (some u) nx m [] []
  | o => sQ Y P G fr m o fun u => k (some u) nx m [] []
def quietK (k : U S → Prop) : Kn S := fun u _ _ ks wr => match u, ks, wr with
  | some u, [], [] => cond (plainTU u) (k u) False
  | _, _, _ => False
def sOpQ (C : CallT S) (fr : T (U S)) (nx : Nat) (m : T (Ct S)) (o : Op) (k : U S → Prop) : Prop := match o with
  | .call c => match c.callee with
    | .value f => sOpd fr f fun w => match w with
      | .f fn caps => sOpds fr c.args.toList fun us => C fn (us ++ caps) nx m (quietK k)
      | _ => False
    | _ => sQ Y P G fr m (.call c) k
  | o => sQ Y P G fr m o k

def sPut (nt : Nat) (fr : T (U S)) (dst : Option Nat) (v : Option (U S)) (k : T (U S) → Prop) : Prop := match dst with
  | none => k fr
  | some d => cond (Nat.blt d nt) (match v with
    | some u => updI fr d (some u) k
    | none => updI fr d (some (.t [])) k) False

/-- Is it carried out? -/
def sGuard (ops : Array Oper) (g : Option (Nat × Bool)) (fr : T (U S)) (run skip : T (U S) → Prop) : Prop := match g with
  | none => run fr
  | some (j, want) => match (ops[j]?).bind (·.dst) with
    | none => skip fr
    | some d => match fr.get d with
      | some (.kb x) => cond (x == want) (run fr) (skip fr)
      | some (.b x) => (x = want → updI fr d (some (.kb want)) run) ∧ (x = !want → updI fr d (some (.kb (!want))) skip)
      | some (.t _) => skip fr
      | _ => False

def sOps (C : CallT S) (nt : Nat) (ops : Array Oper) : List Oper → Z S → (Z S → Prop) → Prop
  | [], z, K => K z
  | o :: r, z, K => sGuard ops o.guard z.fr
    (fun fr => sOp Y P G C fr z.nx z.m o.op fun u nx' m' ks _ => forceP m' fun m' => killK ks fr fun fr => sPut nt fr o.dst u fun fr' => sOps C nt ops r ⟨fr', nx', m', ks ++ z.ks⟩ K)
    (fun fr => sPut nt fr o.dst none fun fr' => sOps C nt ops r ⟨fr', z.nx, z.m, z.ks⟩ K)
def sOpsQ (C : CallT S) (nt : Nat) (ops : Array Oper) (nx : Nat) (m : T (Ct S)) : List Oper → T (U S) → (T (U S) → Prop) → Prop
  | [], fr, K => K fr
  | o :: r, fr, K => sGuard ops o.guard fr
    (fun fr => sOpQ Y P G C fr nx m o.op fun u => sPut nt fr o.dst (some u) fun fr' => sOpsQ C nt ops nx m r fr' K)
    (fun fr => sPut nt fr o.dst none fun fr' => sOpsQ C nt ops nx m r fr' K)

/-- A load that was carried out: where, and what it read. -/
structure SE (S : Sg) where
  x : Nat
  t : TypeId
  a : U S
  u : U S
def aliveS (ops : Array Oper) (i : Nat) : List (SE S) → List (SE S)
  | [] => []
  | e :: r => match Region.waitsT .any ops i e.x with
    | true => aliveS ops i r
    | false => e :: aliveS ops i r
def killS (ks : List Nat) (es : List (SE S)) : List (SE S) := match ks with
  | [] => es
  | k :: r => es.map fun e => ⟨e.x, e.t, kill (k :: r) e.a, kill (k :: r) e.u⟩
/-- Values that stand for one value alone. -/
def detU (m : T (Ct S)) : U S → Bool
  | .b _ | .kb _ | .i _ _ | .s _ | .pn | .sn | .fz | .nz | .p _ _ | .g _ _ => true
  | .o r => match m.get r with
    | some (.buf _ _) => true
    | _ => false
  | _ => false
def detL (m : T (Ct S)) : List (U S) → Bool
  | [] => true
  | u :: us => detU m u && detL m us
def detT (m : T (Ct S)) : U S → Bool
  | .a us => detL m us
  | u => detU m u
/-- Loads that were carried out read the same again. -/
def sKeep (m : T (Ct S)) : List (SE S) → Prop → Prop
  | [], p => p
  | e :: r, p => sLoad Y P G m e.t e.a fun u => u = e.u ∧ cond (detT m u) (sKeep m r p) False

def sRun (C : CallT S) (nt : Nat) (ops : Array Oper) : List (Nat × Oper) → List (SE S) → Z S → (Z S → Prop) → Prop
  | [], _, z, K => K z
  | (i, o) :: r, es, z, K => sGuard ops o.guard z.fr
    (fun fr => match opCls o.op with
      | 0 => sQ Y P G fr z.m o.op fun u => sPut nt fr o.dst (some u) fun fr' => sRun C nt ops r es ⟨fr', z.nx, z.m, z.ks⟩ K
      | 1 => match o.op with
        | .load t x => sOpd fr x fun a => sLoad Y P G z.m t a fun u => sPut nt fr o.dst (some u) fun fr' => sRun C nt ops r (⟨i, t, a, u⟩ :: es) ⟨fr', z.nx, z.m, z.ks⟩ K
        | _ => False
      | _ => sOp Y P G C fr z.nx z.m o.op fun u nx' m' ks wr => forceP m' fun m' => killK ks fr fun fr => match wr with
        | [] => sPut nt fr o.dst u fun fr' => sRun C nt ops r (killS ks (aliveS ops i es)) ⟨fr', nx', m', ks ++ z.ks⟩ K
        | _ :: _ => sKeep Y P G m' (killS ks (aliveS ops i es)) (sPut nt fr o.dst u fun fr' => sRun C nt ops r (killS ks (aliveS ops i es)) ⟨fr', nx', m', ks ++ z.ks⟩ K))
    (fun fr => sPut nt fr o.dst none fun fr' => sRun C nt ops r es ⟨fr', z.nx, z.m, z.ks⟩ K)

def sC (C : CallT S) (L : LoopT S) (nt : Nat) : Code → Z S → (Ex → Z S → Prop) → Prop
  | .skip, z, K => K .nrm z
  | .label _, z, K => K .nrm z
  | .exit i, z, K => K (.exit i) z
  | .goto i, z, K => K (.goto i) z
  | .ret, z, K => K .ret z
  | .region _ ops draw, z, K => match draw with
    | false => sOps Y P G C nt ops ops.toList z (K .nrm)
    | true => cond (lexQ1 P ops) (sOpsQ Y P G C nt ops z.nx z.m ops.toList z.fr fun fr => K .nrm ⟨fr, z.nx, z.m, z.ks⟩)
      (cond (tailB ops) (sOpsQ Y P G C nt ops z.nx z.m (ops.toList.take (ops.size - 1)) z.fr fun fr => sOps Y P G C nt ops (ops.toList.drop (ops.size - 1)) ⟨fr, z.nx, z.m, z.ks⟩ (K .nrm))
      (match planOf P ops with
        | some l => sRun Y P G C nt ops l [] z (K .nrm)
        | none => cond (lexQ ops) (sOpsQ Y P G C nt ops z.nx z.m ops.toList z.fr fun fr => K .nrm ⟨fr, z.nx, z.m, z.ks⟩) False))
  | .seq a b, z, K => match flagOf P nt a b with
    | some _ => False
    | none => sC C L nt a z fun e z' => match e with
      | .nrm => sC C L nt b z' K
      | .exit i => K (.exit i) z'
      | .goto i => K (.goto i) z'
      | .ret => K .ret z'
  | .cond c a b, z, K => match c with
    | .tmp t => match z.fr.get t with
      | some (.kb true) => sC C L nt a z K
      | some (.kb false) => sC C L nt b z K
      | some (.b x) => (x = true → updI z.fr t (some (.kb true)) fun fr => sC C L nt a ⟨fr, z.nx, z.m, z.ks⟩ K) ∧ (x = false → updI z.fr t (some (.kb false)) fun fr => sC C L nt b ⟨fr, z.nx, z.m, z.ks⟩ K)
      | _ => False
    | _ => False
  | .block i b, z, K => sC C L nt b z fun e z' => match e with
    | .nrm => K .nrm z'
    | .exit j => cond (Nat.beq j i) (K .nrm z') (K (.exit j) z')
    | .goto i => K (.goto i) z'
    | .ret => K .ret z'
  | .loop b, z, K => L b z K
  | .scope b, z, K => sC C L nt b z fun e z' => match e with
    | .nrm => K .nrm z'
    | .exit j => K (.exit j) z'
    | .goto _ => False
    | .ret => K .ret z'
  | _, _, _ => False

def loopsOf : Code → List Code
  | .seq a b => loopsOf a ++ loopsOf b
  | .cond _ a b => loopsOf a ++ loopsOf b
  | .block _ b => loopsOf b
  | .scope b => loopsOf b
  | .loop b => [b]
  | _ => []

/-! ### It is so -/

variable {Y P G}
variable {o0 : Nat → Prop} {ro nt : Nat} {ov : Ov}
theorem killK_eq (ks : List Nat) (fr : T (U S)) (k : T (U S) → Prop) : killK ks fr k = k (killF ks fr) := by
  cases ks with
  | nil => rfl
  | cons n r => simp only [killK, killF, forceP_eq]

/-- Where a run begins. -/
structure Bs (S : Sg) where
  E : En
  m : T (Ct S)
  st : St
def Zat (Y : Sy S) (G : Gl) (o0 : Nat → Prop) (ro : Nat) (B : Bs S) (z : Z S) (frV : T V) (st : St) : Prop :=
  ∃ E, Inv Y G o0 ro E z.nx z.m st ∧ Step o0 B.E B.m B.st E z.m st z.ks [0] ∧ RelF Y (Dat Y (ownOf o0 E z.m) st) E z.fr frV

/-- What a call comes to is told by its transformer. -/
def CalOK (Y : Sy S) (P : Program) (G : Gl) (ov : Ov) (o0 : Nat → Prop) (ro : Nat) (C : CallT S) : Prop :=
  ∀ f us nx m k, C f us nx m k → ∀ E st vs, Inv Y G o0 ro E nx m st → RelL Y (Dat Y (ownOf o0 E m) st) E us vs → ∃ v st', (∃ M, ∀ n, M ≤ n → evF P ov ro n f vs st = some (v, st')) ∧ Done Y G o0 ro E m st k (some v) st'

def Sem (Y : Sy S) (P : Program) (G : Gl) (ov : Ov) (o0 : Nat → Prop) (ro nt : Nat) (st0 : Bs S) (c : Code) (z : Z S) (K : Ex → Z S → Prop) : Prop :=
  ∀ frV st, Zat Y G o0 ro st0 z frV st → ∃ e frV' st', (∃ M, ∀ n, M ≤ n → evC P ov ro n nt c frV st = some (e, frV', st')) ∧ ∃ z', Zat Y G o0 ro st0 z' frV' st' ∧ K e z'

theorem Step.anyW {E E' : En} {m m' : T (Ct S)} {st st' : St} {ks wr : List Nat} (h : Step o0 E m st E' m' st' ks wr) : Step o0 E m st E' m' st' ks [0] := ⟨h.len, h.same, h.nx, h.keep, h.nam, fun j h1 h2 hw => h.ver j h1 h2 (.inr (hw.elim (fun q => by cases q) fun q => q))⟩

theorem killF_rel {E E' : En} {m m' : T (Ct S)} {st st' : St} {ks wr : List Nat} {fr : T (U S)} {frV : T V} (hs : Step o0 E m st E' m' st' ks wr) (hf : RelF Y (Dat Y (ownOf o0 E m) st) E fr frV) : RelF Y (Dat Y (ownOf o0 E' m') st') E' (killF ks fr) frV := by
  intro t u hu
  cases ks with
  | nil =>
    obtain ⟨v, h1, h2⟩ := hf t u hu
    exact ⟨v, h1, hs.rel h2⟩
  | cons k r =>
    simp only [killF] at hu
    rw [Tmap_get] at hu
    cases hg : fr.get t with
    | none => rw [hg] at hu; cases hu
    | some u0 =>
      rw [hg] at hu
      cases hu
      obtain ⟨v, h1, h2⟩ := hf t u0 hg
      exact ⟨v, h1, hs.relK h2⟩

theorem relF_upd {D : DD S} {E : En} {fr : T (U S)} {frV : T V} (hf : RelF Y D E fr frV) {d : Nat} {u : U S} {v : V} (h : RelV Y D E u v) : RelF Y D E (fr.upd d (some u)) (frV.upd d (some v)) := by
  intro t w hw
  rw [T.get_upd] at hw
  by_cases e : t = d
  · subst e
    rw [if_pos rfl] at hw
    cases hw
    exact ⟨v, T.get_same, h⟩
  · rw [if_neg e] at hw
    obtain ⟨x, h1, h2⟩ := hf t w hw
    exact ⟨x, by rw [T.get_upd, if_neg e]; exact h1, h2⟩
/-- What is known of a slot is put there. -/
theorem relF_known {D : DD S} {E : En} {fr : T (U S)} {frV : T V} (hf : RelF Y D E fr frV) {d : Nat} {u : U S} {v : V} (hv : frV.get d = some v) (h : RelV Y D E u v) : RelF Y D E (fr.upd d (some u)) frV := by
  intro t w hw
  rw [T.get_upd] at hw
  by_cases e : t = d
  · subst e
    rw [if_pos rfl] at hw
    cases hw
    exact ⟨v, hv, h⟩
  · rw [if_neg e] at hw
    exact hf t w hw

theorem sPut_ok {D : DD S} {E : En} {fr : T (U S)} {frV : T V} {dst : Option Nat} {u : Option (U S)} {v : Option V} {k : T (U S) → Prop} (h : sPut nt fr dst u k) (hf : RelF Y D E fr frV) (hr : RelO Y D E u v) : ∃ fr' frV', vput nt frV dst v = some frV' ∧ RelF Y D E fr' frV' ∧ k fr' := by
  unfold sPut at h
  simp only [updI_eq] at h
  cases dst with
  | none => exact ⟨fr, frV, rfl, hf, h⟩
  | some d =>
    dsimp only at h
    cases hd : Nat.blt d nt with
    | false => rw [hd] at h; exact h.elim
    | true =>
      rw [hd] at h
      cases u with
      | none =>
        cases v with
        | some v => exact hr.elim
        | none => exact ⟨_, _, by simp only [vput, hd, cond_true], relF_upd hf (u := .t []) (v := .t []) ⟨[], rfl, rfl⟩, h⟩
      | some u =>
        cases v with
        | none => exact hr.elim
        | some v => exact ⟨_, _, by simp only [vput, hd, cond_true, V.force_eq], relF_upd hf hr, h⟩

theorem sGuard_ok {D : DD S} {E : En} {fr : T (U S)} {frV : T V} {ops : Array Oper} {o : Oper} {run skip : T (U S) → Prop} (h : sGuard ops o.guard fr run skip) (hf : RelF Y D E fr frV) : ∃ fr', RelF Y D E fr' frV ∧ ((vwanted ops frV o = some true ∧ run fr') ∨ (vwanted ops frV o = some false ∧ skip fr')) := by
  unfold sGuard at h
  simp only [updI_eq] at h
  unfold vwanted
  cases hg : o.guard with
  | none => rw [hg] at h; exact ⟨fr, hf, .inl ⟨rfl, h⟩⟩
  | some g =>
    obtain ⟨j, want⟩ := g
    rw [hg] at h
    dsimp only at h ⊢
    cases hd : (ops[j]?).bind (·.dst) with
    | none => rw [hd] at h; exact ⟨fr, hf, .inr ⟨rfl, h⟩⟩
    | some d =>
      rw [hd] at h
      dsimp only at h ⊢
      split at h
      · rename_i x hx
        obtain ⟨v, h1, h2⟩ := hf d _ hx
        simp only [RelV] at h2
        subst h2
        rw [h1]
        dsimp only
        cases hq : (x == want) with
        | true => rw [hq] at h; exact ⟨fr, hf, .inl ⟨rfl, h⟩⟩
        | false => rw [hq] at h; exact ⟨fr, hf, .inr ⟨rfl, h⟩⟩
      · rename_i x hx
        obtain ⟨v, h1, h2⟩ := hf d _ hx
        simp only [RelV] at h2
        subst h2
        rw [h1]
        dsimp only
        by_cases e : x = want
        · subst e
          exact ⟨_, relF_known hf h1 (u := .kb x) rfl, .inl ⟨by simp, h.1 rfl⟩⟩
        · have e' : x = !want := by cases x <;> cases want <;> first | rfl | exact absurd rfl e
          refine ⟨_, relF_known hf h1 (u := .kb (!want)) (by simp only [RelV]; rw [e']), .inr ⟨?_, h.2 e'⟩⟩
          have : (x == want) = false := by cases x <;> cases want <;> first | rfl | exact absurd rfl e
          rw [this]
      · rename_i us hx
        obtain ⟨v, h1, h2⟩ := hf d _ hx
        simp only [RelV] at h2
        obtain ⟨vs, rfl, _⟩ := h2
        rw [h1]
        exact ⟨fr, hf, .inr ⟨rfl, h⟩⟩
      · exact h.elim

theorem sOp_ok {C : CallT S} (hC : CalOK Y P G ov o0 ro C) {E : En} {nx : Nat} {m : T (Ct S)} {st : St} {fr : T (U S)} {frV : T V} (hI : Inv Y G o0 ro E nx m st) {o : Op} {k : Kn S} (h : sOp Y P G C fr nx m o k) (hf : RelF Y (Dat Y (ownOf o0 E m) st) E fr frV) :
    ∃ res st', (∃ M, ∀ n, M ≤ n → vop P ro (evF P ov ro n) frV st o = some (res, st')) ∧ Done Y G o0 ro E m st k res st' := by
  have eff : ∀ o, sE Y P fr nx m o k → ∃ res st', (∃ M, ∀ n, M ≤ n → vop P ro (evF P ov ro n) frV st o = some (res, st')) ∧ Done Y G o0 ro E m st k res st' := fun o h =>
    let ⟨res, st', h1, h2⟩ := sE_ok hI h hf
    ⟨res, st', ⟨0, fun n _ => h1 _⟩, h2⟩
  have quiet : ∀ o, (sQ Y P G fr m o fun u => k (some u) nx m [] []) → ∃ res st', (∃ M, ∀ n, M ≤ n → vop P ro (evF P ov ro n) frV st o = some (res, st')) ∧ Done Y G o0 ro E m st k res st' := fun o h =>
    let ⟨u, v, h1, h2, h3⟩ := sQ_ok (ro := ro) hI h hf
    ⟨some v, st, ⟨0, fun n _ => h1.2 _ st.ver⟩, done_pure hI h2 h3⟩
  unfold sOp at h
  split at h
  · exact eff _ h
  · exact eff _ h
  · exact eff _ h
  · exact eff _ h
  · exact eff _ h
  · exact eff _ h
  · rename_i c
    obtain ⟨callee, args, ts⟩ := c
    dsimp only at h
    split at h
    · obtain ⟨w, wv, h1, h2, h3⟩ := sOpd_ok h hf
      split at h3
      · simp only [RelV] at h2
        obtain ⟨cv, rfl, h2⟩ := h2
        obtain ⟨us, vs, h4, h5, h6⟩ := sOpds_ok hf h3
        obtain ⟨v, st', ⟨M, h7⟩, h8⟩ := hC _ _ _ _ _ h6 E st (vs ++ cv) hI (h5.append h2)
        exact ⟨some v, st', ⟨M, fun n hn => by simp only [vop, h4, h1, List.nil_append, h7 n hn]⟩, h8⟩
      · exact h3.elim
    · exact eff _ h
    · exact quiet _ h
  · exact quiet _ h

theorem sOps_ok {C : CallT S} (hC : CalOK Y P G ov o0 ro C) {st0 : Bs S} {ops : Array Oper} : ∀ (l : List Oper) {z : Z S} {K : Z S → Prop} {frV : T V} {st : St}, sOps Y P G C nt ops l z K → Zat Y G o0 ro st0 z frV st →
    ∃ frV' st', (∃ M, ∀ n, M ≤ n → vops P ro nt (evF P ov ro n) ops l frV st = some (frV', st')) ∧ ∃ z', Zat Y G o0 ro st0 z' frV' st' ∧ K z'
  | [], z, K, frV, st, h, hz => ⟨frV, st, ⟨0, fun _ _ => rfl⟩, z, hz, h⟩
  | o :: r, z, K, frV, st, h, hz => by
    obtain ⟨E, hI, hS, hf⟩ := hz
    simp only [sOps, forceP_eq, killK_eq] at h
    obtain ⟨fr', hf', ⟨hw, h⟩ | ⟨hw, h⟩⟩ := sGuard_ok h hf
    · obtain ⟨res, st', ⟨M, h1⟩, u, nx', m', ks, wr, E', hI', hS', hr, hk⟩ := sOp_ok hC hI h hf'
      obtain ⟨fr2, frV2, h2, h3, h4⟩ := sPut_ok hk (killF_rel hS' hf') hr
      obtain ⟨frV3, st3, ⟨M2, h5⟩, h6⟩ := sOps_ok hC r h4 ⟨E', hI', (hS.trans hS').anyW, h3⟩
      exact ⟨frV3, st3, ⟨max M M2, fun n hn => by simp only [vops, hw, h1 n (by omega), h2, h5 n (by omega)]⟩, h6⟩
    · obtain ⟨fr2, frV2, h2, h3, h4⟩ := sPut_ok (v := none) h hf' trivial
      obtain ⟨frV3, st3, ⟨M2, h5⟩, h6⟩ := sOps_ok hC r h4 ⟨E, hI, hS, h3⟩
      exact ⟨frV3, st3, ⟨M2, fun n hn => by simp only [vops, hw, h2, h5 n hn]⟩, h6⟩

theorem plainU_ok {D : DD S} {E E' : En} {D' : DD S} {u : U S} {v : V} (hp : plainU u = true) (h : RelV Y D E u v) : v.plain = true ∧ RelV Y D' E' u v := by
  cases u <;> simp only [plainU, Bool.false_eq_true] at hp <;> simp only [RelV] at h ⊢ <;> (subst h; exact ⟨rfl, rfl⟩)
theorem plainsU_ok {D : DD S} {E E' : En} {D' : DD S} : ∀ {us : List (U S)} {vs : List V}, plainsU us = true → RelL Y D E us vs → vs.all V.plain = true ∧ RelL Y D' E' us vs
  | [], vs, _, h => by simp only [RelL] at h ⊢; subst h; exact ⟨rfl, rfl⟩
  | u :: us, vs, hp, h => by
    simp only [RelL] at h ⊢
    obtain ⟨v, r, rfl, h1, h2⟩ := h
    simp only [plainsU, Bool.and_eq_true] at hp
    obtain ⟨a1, a2⟩ := plainU_ok (D' := D') (E' := E') hp.1 h1
    obtain ⟨b1, b2⟩ := plainsU_ok (D' := D') (E' := E') hp.2 h2
    exact ⟨by simp [a1, b1], v, r, rfl, a2, b2⟩
theorem plainTU_ok {D : DD S} {E E' : En} {D' : DD S} {u : U S} {v : V} (hp : plainTU u = true) (h : RelV Y D E u v) : v.plainT = true ∧ RelV Y D' E' u v := by
  have one : plainU u = true → v.plainT = true ∧ RelV Y D' E' u v := fun hp => by
    obtain ⟨a1, a2⟩ := plainU_ok (D' := D') (E' := E') hp h
    exact ⟨by cases v <;> simp_all [V.plain, V.plainT], a2⟩
  cases u with
  | a us =>
    simp only [RelV] at h ⊢
    obtain ⟨vs, rfl, h⟩ := h
    obtain ⟨a1, a2⟩ := plainsU_ok (D' := D') (E' := E') hp h
    exact ⟨a1, vs, rfl, a2⟩
  | t us =>
    simp only [RelV] at h ⊢
    obtain ⟨vs, rfl, h⟩ := h
    obtain ⟨a1, a2⟩ := plainsU_ok (D' := D') (E' := E') hp h
    exact ⟨a1, vs, rfl, a2⟩
  | _ => exact one hp

theorem sOpQ_ok {C : CallT S} (hC : CalOK Y P G ov o0 ro C) {E : En} {nx : Nat} {m : T (Ct S)} {st : St} {fr : T (U S)} {frV : T V} (hI : Inv Y G o0 ro E nx m st) {op : Op} {k : U S → Prop} (h : sOpQ Y P G C fr nx m op k) (hf : RelF Y (Dat Y (ownOf o0 E m) st) E fr frV) :
    ∃ u v st', quietOp op = true ∧ (∃ M, ∀ n, M ≤ n → vop P ro (evF P ov ro n) frV ⟨st.nx, st.hp, st.nx⟩ op = some (some v, st')) ∧ (Nat.ble st.nx st'.ver && (Nat.beq st'.nx st.nx || plainO (some v))) = true ∧ RelV Y (Dat Y (ownOf o0 E m) st) E u v ∧ k u := by
  have quiet : ∀ op, sQ Y P G fr m op k → ∃ u v st', quietOp op = true ∧ (∃ M, ∀ n, M ≤ n → vop P ro (evF P ov ro n) frV ⟨st.nx, st.hp, st.nx⟩ op = some (some v, st')) ∧ (Nat.ble st.nx st'.ver && (Nat.beq st'.nx st.nx || plainO (some v))) = true ∧ RelV Y (Dat Y (ownOf o0 E m) st) E u v ∧ k u := fun op h =>
    let ⟨u, v, h1, h2, h3⟩ := sQ_ok (ro := ro) hI h hf
    ⟨u, v, ⟨st.nx, st.hp, st.nx⟩, h1.1, ⟨0, fun n _ => h1.2 _ st.nx⟩, by simp, h2, h3⟩
  unfold sOpQ at h
  split at h
  · rename_i c
    obtain ⟨callee, args, ts⟩ := c
    dsimp only at h
    split at h
    · obtain ⟨w, wv, h1, h2, h3⟩ := sOpd_ok h hf
      split at h3
      · simp only [RelV] at h2
        obtain ⟨cv, rfl, h2⟩ := h2
        obtain ⟨us, vs, h4, h5, h6⟩ := sOpds_ok hf h3
        have st2 : Step o0 E m st E m ⟨st.nx, st.hp, st.nx⟩ [] [] := ⟨Nat.le_refl _, fun _ _ _ => rfl, Nat.le_refl _, fun _ _ _ => rfl, fun _ h => .inl h, fun _ h _ _ => h⟩
        have hI2 : Inv Y G o0 ro E nx m ⟨st.nx, st.hp, st.nx⟩ := ⟨hI.len, hI.ro, hI.lt, fun r ct hr => by
          have := Ent.keep st2 (hI.ent r ct hr) rfl (fun _ _ _ _ => rfl)
          rwa [killCt_nil] at this, hI.out, hI.glob, hI.inj, hI.dis⟩
        obtain ⟨v, st', ⟨M, h7⟩, u, nx', m', ks, wr, E', hI', hS', hr, hk⟩ := hC _ _ _ _ _ h6 E ⟨st.nx, st.hp, st.nx⟩ (vs ++ cv) hI2 (st2.rels (h5.append h2))
        unfold quietK at hk
        split at hk
        · rename_i u
          cases hp : plainTU u with
          | false => rw [hp] at hk; exact hk.elim
          | true =>
            rw [hp] at hk
            obtain ⟨p1, p2⟩ := plainTU_ok (D' := Dat Y (ownOf o0 E m) st) (E' := E) hp hr
            refine ⟨u, v, st', rfl, ⟨M, fun n hn => by simp only [vop, h4, h1, List.nil_append, h7 n hn]⟩, ?_, p2, hk⟩
            have : st.nx ≤ st'.ver := hS'.ver st.nx (Nat.le_refl _) (Nat.le_refl _) (.inl rfl)
            rw [Bool.and_eq_true, Nat.ble_eq]
            exact ⟨this, by simp only [plainO, p1, Bool.or_true]⟩
        · exact hk.elim
      · exact h3.elim
    · exact quiet _ h
  · exact quiet _ h

theorem sOpsQ_ok {C : CallT S} (hC : CalOK Y P G ov o0 ro C) {E : En} {nx : Nat} {m : T (Ct S)} {st : St} (hI : Inv Y G o0 ro E nx m st) {ops : Array Oper} : ∀ (l : List Oper) {fr : T (U S)} {K : T (U S) → Prop} {frV : T V}, sOpsQ Y P G C nt ops nx m l fr K → RelF Y (Dat Y (ownOf o0 E m) st) E fr frV →
    ∃ frV', (∃ M, ∀ n, M ≤ n → vopsQ P ro nt (evF P ov ro n) ops l frV st = some frV') ∧ ∃ fr', RelF Y (Dat Y (ownOf o0 E m) st) E fr' frV' ∧ K fr'
  | [], fr, K, frV, h, hf => ⟨frV, ⟨0, fun _ _ => rfl⟩, fr, hf, h⟩
  | o :: r, fr, K, frV, h, hf => by
    simp only [sOpsQ] at h
    obtain ⟨fr', hf', ⟨hw, h⟩ | ⟨hw, h⟩⟩ := sGuard_ok h hf
    · have key := sOpQ_ok hC hI h hf'
      obtain ⟨u, v, st', k1, ⟨M, k2⟩, k3, k4, k5⟩ := key
      obtain ⟨fr2, frV2, h2, h3, h4⟩ := sPut_ok (v := some v) k5 hf' k4
      obtain ⟨frV3, ⟨M2, h5⟩, h6⟩ := sOpsQ_ok hC hI r h4 h3
      exact ⟨frV3, ⟨max M M2, fun n hn => by simp only [vopsQ, hw, k1, k2 n (by omega), k3, cond_true, h2, h5 n (by omega)]⟩, h6⟩
    · obtain ⟨fr2, frV2, h2, h3, h4⟩ := sPut_ok (v := none) h hf' trivial
      obtain ⟨frV3, ⟨M2, h5⟩, h6⟩ := sOpsQ_ok hC hI r h4 h3
      exact ⟨frV3, ⟨M2, fun n hn => by simp only [vopsQ, hw, h2, h5 n hn]⟩, h6⟩

/-! ### Regions whose order is open -/

theorem Dat.reVer {own : Nat → Prop} {st : St} {n : Nat} {c : S.Cd} {xs : List (S.Den c)} {v : V} (h : Dat Y own st c xs v) : Dat Y own ⟨st.nx, st.hp, n⟩ c xs v := Dat.keep (st := st) (st' := ⟨st.nx, st.hp, n⟩) (Nat.le_refl st.nx) (fun _ _ _ => rfl) (fun _ _ h => h) h
theorem DatA.reVer {own : Nat → Prop} {st : St} {n : Nat} {u : U S} {v : V} (h : DatA Y own st u v) : DatA Y own ⟨st.nx, st.hp, n⟩ u v := DatA.keep (st := st) (st' := ⟨st.nx, st.hp, n⟩) (Nat.le_refl st.nx) (fun _ _ _ => rfl) (fun _ _ h => h) h
theorem RelV.reVer {own : Nat → Prop} {st : St} {n : Nat} {E : En} {u : U S} {v : V} (h : RelV Y (Dat Y own st) E u v) : RelV Y (Dat Y own ⟨st.nx, st.hp, n⟩) E u v := RelV.mono (fun _ _ h => h) (fun _ _ _ => Dat.reVer) u v h
theorem RelL.reVer {own : Nat → Prop} {st : St} {n : Nat} {E : En} {u : List (U S)} {v : List V} (h : RelL Y (Dat Y own st) E u v) : RelL Y (Dat Y own ⟨st.nx, st.hp, n⟩) E u v := RelL.mono (fun _ _ h => h) (fun _ _ _ => Dat.reVer) u v h
theorem RelF.reVer {own : Nat → Prop} {st : St} {n : Nat} {E : En} {fr : T (U S)} {frV : T V} (h : RelF Y (Dat Y own st) E fr frV) : RelF Y (Dat Y own ⟨st.nx, st.hp, n⟩) E fr frV := fun t u hu => by
  obtain ⟨v, h1, h2⟩ := h t u hu
  exact ⟨v, h1, h2.reVer⟩
theorem Inv.reVer {E : En} {nx : Nat} {m : T (Ct S)} {st : St} (hI : Inv Y G o0 ro E nx m st) (n : Nat) : Inv Y G o0 ro E nx m ⟨st.nx, st.hp, n⟩ := by
  refine ⟨hI.len, hI.ro, hI.lt, fun r ct hr => ?_, hI.out, hI.glob, hI.inj, hI.dis⟩
  have h := hI.ent r ct hr
  cases ct with
  | cells us =>
    obtain ⟨id, hd, b, vs, e1, e2, e3, e4, e5, e6, e7⟩ := h
    exact ⟨id, hd, b, vs, e1, e2, e3, e4, e5, e6.reVer, e7⟩
  | buf c xs =>
    rcases h with h | ⟨id, cap, op, b, q1, q2, q3, q4, q5, q6, q7, q8, vs, q9, q10⟩
    · exact .inl h
    · exact .inr ⟨id, cap, op, b, q1, q2, q3, q4, q5, q6, q7, q8, vs, q9, fun i x hx j u v hu hv => (q10 i x hx j u v hu hv).reVer⟩
  | row c xs =>
    obtain ⟨id, b, q1, q2, q3, q4, q5, vs, q9, q10⟩ := h
    exact ⟨id, b, q1, q2, q3, q4, q5, vs, q9, fun i x hx j u v hu hv => (q10 i x hx j u v hu hv).reVer⟩

theorem keepB_ver {st : St} {n : Nat} : ∀ es : List Vm.Ent, keepB P ⟨st.nx, st.hp, n⟩ es = keepB P st es
  | [] => rfl
  | e :: r => by
    simp only [keepB, keepB_ver r]
    rfl
theorem vbuiltin_anyMem {b : Builtin} (hb : b = .len ∨ b = .min ∨ b = .max) {ts : List TypeId} {vs : List V} {st st' : St} {v : V} (h : vbuiltin P ro b ts vs st = some (v, st')) (st2 : St) : vbuiltin P ro b ts vs st2 = some (v, st2) := by
  rcases hb with rfl | rfl | rfl
  · rcases ts with _ | ⟨t, _ | ⟨t2, tr⟩⟩ <;> rcases vs with _ | ⟨x, _ | ⟨y, r⟩⟩ <;> simp only [vbuiltin, reduceCtorEq] at h ⊢
    cases hv : vlenOp P t x with
    | none => simp [hv] at h
    | some w => simp only [hv, Option.some.injEq, Prod.mk.injEq] at h ⊢; exact ⟨h.1, trivial⟩
  · rcases vs with _ | ⟨x, r⟩ <;> simp only [vbuiltin, reduceCtorEq] at h ⊢
    cases hv : vminL true x r with
    | none => simp [hv] at h
    | some w => simp only [hv, Option.some.injEq, Prod.mk.injEq] at h ⊢; exact ⟨h.1, trivial⟩
  · rcases vs with _ | ⟨x, r⟩ <;> simp only [vbuiltin, reduceCtorEq] at h ⊢
    cases hv : vminL false x r with
    | none => simp [hv] at h
    | some w => simp only [hv, Option.some.injEq, Prod.mk.injEq] at h ⊢; exact ⟨h.1, trivial⟩
/-- What looks at no memory comes to the same in every memory. -/
theorem vop_anyMem {call : CallF} {frV : T V} {op : Op} (hc : opCls op = 0) {st : St} {v : V} (h : ∀ ver, vop P ro call frV ⟨st.nx, st.hp, ver⟩ op = some (some v, ⟨st.nx, st.hp, ver⟩)) (st2 : St) : vop P ro call frV st2 op = some (some v, st2) := by
  replace h := h 0
  have key : ∀ (o : Option V) (s1 : St), (match o with | some v => some (some v, s1) | none => none) = some (some v, s1) → o = some v := by
    intro o s1 h
    cases o with
    | none => cases h
    | some u => simpa using h
  cases op <;> simp only [opCls, quietOp, cond_true, cond_false, reduceCtorEq, Nat.succ_ne_zero] at hc <;> simp only [vop] at h ⊢
  case call c =>
    obtain ⟨callee, args, ts⟩ := c
    cases callee <;> simp only [Nat.succ_ne_zero, reduceCtorEq] at hc
    rename_i b
    cases ha : opnds frV args.toList with
    | none => simp [ha] at h
    | some vs =>
      simp only [ha] at h ⊢
      have hb : b = .len ∨ b = .min ∨ b = .max := by cases b <;> simp_all
      cases hv : vbuiltin P ro b ts.toList vs ⟨st.nx, st.hp, 0⟩ with
      | none => simp [hv] at h
      | some w =>
        obtain ⟨w, s1⟩ := w
        simp only [hv, Option.some.injEq, Prod.mk.injEq] at h
        obtain ⟨rfl, rfl⟩ := h
        simp only [vbuiltin_anyMem hb hv st2]
  all_goals ((repeat' split at h) <;> simp_all)

def EsRel (Y : Sy S) (D : DD S) (E : En) : List (SE S) → List Vm.Ent → Prop
  | [], es => es = []
  | s :: r, es => ∃ e es', es = e :: es' ∧ (e.x = s.x ∧ e.t = s.t ∧ RelV Y D E s.a (.p e.id e.off) ∧ RelV Y D E s.u e.v) ∧ EsRel Y D E r es'
theorem EsRel.mono {D D' : DD S} {E E' : En} (f : ∀ u v, RelV Y D E u v → RelV Y D' E' u v) : ∀ {ses : List (SE S)} {es : List Vm.Ent}, EsRel Y D E ses es → EsRel Y D' E' ses es
  | [], es, h => h
  | s :: r, es, h => by
    obtain ⟨e, es', h1, ⟨h2, h3, h4, h5⟩, h6⟩ := h
    exact ⟨e, es', h1, ⟨h2, h3, f _ _ h4, f _ _ h5⟩, EsRel.mono f h6⟩
theorem EsRel.kills {D D' : DD S} {E E' : En} {ks : List Nat} (f : ∀ u v, RelV Y D E u v → RelV Y D' E' (kill ks u) v) (f0 : ks = [] → ∀ u v, RelV Y D E u v → RelV Y D' E' u v) {ses : List (SE S)} {es : List Vm.Ent} (h : EsRel Y D E ses es) : EsRel Y D' E' (killS ks ses) es := by
  unfold killS
  cases ks with
  | nil => exact h.mono (f0 rfl)
  | cons k ks =>
    have go : ∀ {ses : List (SE S)} {es : List Vm.Ent}, EsRel Y D E ses es → EsRel Y D' E' (ses.map fun e => ⟨e.x, e.t, kill (k :: ks) e.a, kill (k :: ks) e.u⟩) es := by
      intro ses
      induction ses with
      | nil => intro es h; exact h
      | cons s r ih =>
        intro es h
        obtain ⟨e, es', h1, ⟨h2, h3, h4, h5⟩, h6⟩ := h
        exact ⟨e, es', h1, ⟨h2, h3, f _ _ h4, f _ _ h5⟩, ih h6⟩
    exact go h
theorem EsRel.alive {D : DD S} {E : En} {ops : Array Oper} {i : Nat} : ∀ {ses : List (SE S)} {es : List Vm.Ent}, EsRel Y D E ses es → EsRel Y D E (aliveS ops i ses) (aliveE ops i es)
  | [], es, h => by simp only [EsRel] at h; subst h; rfl
  | s :: r, es, h => by
    obtain ⟨e, es', rfl, ⟨h2, h3, h4, h5⟩, h6⟩ := h
    simp only [aliveS, aliveE, h2]
    cases Region.waitsT .any ops i s.x with
    | true => exact h6.alive
    | false => exact ⟨e, _, rfl, ⟨h2, h3, h4, h5⟩, h6.alive⟩

theorem detU_ok {E : En} {nx : Nat} {m : T (Ct S)} {st : St} (hI : Inv Y G o0 ro E nx m st) {D D' : DD S} {u : U S} {v w : V} (hd : detU m u = true) (h : RelV Y D E u v) (h' : RelV Y D' E u w) : same1 v w = true := by
  have refl : ∀ v : V, (noRoom v = true ∨ ∃ a b c d e, v = .sl a b c d e) → same1 v v = true := by
    rintro v (q | ⟨a, b, c, d, e, rfl⟩)
    · cases v <;> simp only [noRoom, Bool.false_eq_true] at q <;> simp [same1]
    · cases e <;> simp [same1]
  cases u <;> simp only [detU, Bool.false_eq_true] at hd <;> simp only [RelV] at h h'
  case b x => subst h h'; cases x <;> rfl
  case kb x => subst h h'; cases x <;> rfl
  case i k n => subst h h'; simp [same1]
  case s l => subst h h'; simp [V.str, same1]
  case pn => subst h h'; rfl
  case sn => subst h h'; rfl
  case fz => subst h h'; rfl
  case nz => subst h h'; rfl
  case p r off =>
    obtain ⟨id, y, e1, rfl⟩ := h
    obtain ⟨id', y', e1', rfl⟩ := h'
    rw [e1] at e1'
    cases e1'
    simp [same1]
  case g g off =>
    obtain ⟨_, rfl⟩ := h
    obtain ⟨_, rfl⟩ := h'
    simp [same1]
  case o r =>
    obtain ⟨y, e1, _⟩ := h
    obtain ⟨y', e1', _⟩ := h'
    rw [e1] at e1'
    cases e1'
    split at hd
    · rename_i c xs hr
      rcases hI.ent r _ hr with ⟨_, q1, _, q0⟩ | ⟨id, cap, op, b, q1, _⟩
      · rw [e1] at q1; cases q1; exact refl _ (.inl q0)
      · rw [e1] at q1; cases q1; exact refl _ (.inr ⟨_, _, _, _, _, rfl⟩)
    · cases hd
theorem detL_ok {E : En} {nx : Nat} {m : T (Ct S)} {st : St} (hI : Inv Y G o0 ro E nx m st) {D D' : DD S} : ∀ {us : List (U S)} {vs ws : List V}, detL m us = true → RelL Y D E us vs → RelL Y D' E us ws → sameL vs ws = true
  | [], vs, ws, _, h, h' => by simp only [RelL] at h h'; subst h h'; rfl
  | u :: us, vs, ws, hd, h, h' => by
    simp only [RelL] at h h'
    simp only [detL, Bool.and_eq_true] at hd
    obtain ⟨v, r, rfl, h1, h2⟩ := h
    obtain ⟨v', r', rfl, h1', h2'⟩ := h'
    simp only [sameL, Bool.and_eq_true]
    exact ⟨detU_ok hI hd.1 h1 h1', detL_ok hI hd.2 h2 h2'⟩
theorem detT_ok {E : En} {nx : Nat} {m : T (Ct S)} {st : St} (hI : Inv Y G o0 ro E nx m st) {D D' : DD S} {u : U S} {v w : V} (hd : detT m u = true) (h : RelV Y D E u v) (h' : RelV Y D' E u w) : sameV v w = true := by
  have one : detU m u = true → sameV v w = true := fun hd => by
    have := detU_ok hI hd h h'
    unfold sameV
    split
    · simp [same1] at this
    · exact this
  cases u with
  | a us =>
    simp only [RelV] at h h'
    obtain ⟨vs, rfl, h⟩ := h
    obtain ⟨ws, rfl, h'⟩ := h'
    exact detL_ok hI hd h h'
  | _ => exact one hd

theorem sKeep_ok {E : En} {nx : Nat} {m : T (Ct S)} {st : St} (hI : Inv Y G o0 ro E nx m st) : ∀ {ses : List (SE S)} {es : List Vm.Ent} {p : Prop}, sKeep Y P G m ses p → EsRel Y (Dat Y (ownOf o0 E m) st) E ses es → keepB P st es = true ∧ p
  | [], es, p, h, hr => by simp only [EsRel] at hr; subst hr; exact ⟨rfl, h⟩
  | s :: r, es, p, h, hr => by
    obtain ⟨e, es', rfl, ⟨h2, h3, h4, h5⟩, h6⟩ := hr
    simp only [sKeep] at h
    obtain ⟨id, off, u, w, k1, k2, k3, rfl, k4⟩ := sLoad_ok hI h h4
    cases k1
    cases hd : detT m s.u with
    | false => rw [hd] at k4; exact k4.elim
    | true =>
      rw [hd] at k4
      obtain ⟨k5, k6⟩ := sKeep_ok hI k4 h6
      refine ⟨?_, k6⟩
      simp only [keepB]
      rw [h3, k2]
      simp only [detT_ok hI hd k3 h5, cond_true, k5]

theorem sRun_ok {C : CallT S} (hC : CalOK Y P G ov o0 ro C) {st0 : Bs S} {ops : Array Oper} : ∀ (l : List (Nat × Oper)) {ses : List (SE S)} {es : List Vm.Ent} {z : Z S} {K : Z S → Prop} {frV : T V} {st : St} {E : En}, sRun Y P G C nt ops l ses z K →
    Inv Y G o0 ro E z.nx z.m st → Step o0 st0.E st0.m st0.st E z.m st z.ks [0] → RelF Y (Dat Y (ownOf o0 E z.m) st) E z.fr frV → EsRel Y (Dat Y (ownOf o0 E z.m) st) E ses es →
    ∃ frV' st', (∃ M, ∀ n, M ≤ n → runO P ro nt (evF P ov ro n) ops l es frV st = some (frV', st')) ∧ ∃ z', Zat Y G o0 ro st0 z' frV' st' ∧ K z'
  | [], ses, es, z, K, frV, st, E, h, hI, hS, hf, he => ⟨frV, st, ⟨0, fun _ _ => rfl⟩, z, ⟨E, hI, hS, hf⟩, h⟩
  | (i, o) :: r, ses, es, z, K, frV, st, E, h, hI, hS, hf, he => by
    simp only [sRun, forceP_eq, killK_eq] at h
    obtain ⟨fr', hf', ⟨hw, h⟩ | ⟨hw, h⟩⟩ := sGuard_ok h hf
    · split at h
      · rename_i hc
        obtain ⟨u, v, h1, h2, h3⟩ := sQ_ok (ro := ro) hI h hf'
        obtain ⟨fr2, frV2, k1, k2, k3⟩ := sPut_ok (v := some v) h3 hf' h2
        obtain ⟨frV3, st3, ⟨M2, h5⟩, h6⟩ := sRun_ok hC r k3 hI hS k2 he
        refine ⟨frV3, st3, ⟨M2, fun n hn => ?_⟩, h6⟩
        unfold runO
        simp only [hw, hc, vop_anyMem hc (h1.2 _) ⟨st.nx, .e, 0⟩, k1]
        exact h5 n hn
      · rename_i hc
        split at h
        · rename_i t x hop
          obtain ⟨a, av, h1, h2, h3⟩ := sOpd_ok h hf'
          obtain ⟨id, off, u, w, rfl, h4, h5, h6⟩ := sLoad_ok hI h3 h2
          obtain ⟨fr2, frV2, k1, k2, k3⟩ := sPut_ok (v := some w) h6 hf' h5
          obtain ⟨frV3, st3, ⟨M2, h7⟩, h8⟩ := sRun_ok (es := ⟨i, t, id, off, w⟩ :: es) hC r k3 hI hS k2 ⟨_, _, rfl, ⟨rfl, rfl, h2, h5⟩, he⟩
          refine ⟨frV3, st3, ⟨M2, fun n hn => ?_⟩, h8⟩
          unfold runO
          simp only [hw, hc]
          rw [hop]
          simp only [h1, h4, k1]
          exact h7 n hn
        · exact h.elim
      · rename_i hc0 hc1
        have hI1 := hI.reVer st.nx
        obtain ⟨res, st1, ⟨M, h1⟩, u, nx', m', ks, wr, E', hI', hS', hr, hk⟩ := sOp_ok hC hI1 h (RelF.reVer hf')
        have hSx : Step o0 E z.m st E' m' ⟨st1.nx, st1.hp, low st.ver st1.ver⟩ ks wr := ⟨hS'.len, hS'.same, hS'.nx, hS'.keep, hS'.nam, fun j j1 j2 j3 => by
          have := hS'.ver j j1 j1 j3
          show j ≤ low st.ver st1.ver
          unfold low
          cases Nat.ble st.ver st1.ver <;> simp only [cond_true, cond_false] <;> assumption⟩
        have hI2 := hI'.reVer (low st.ver st1.ver)
        have hf2 : RelF Y (Dat Y (ownOf o0 E' m') ⟨st1.nx, st1.hp, low st.ver st1.ver⟩) E' (killF ks fr') frV := killF_rel hSx hf'
        have he2 : EsRel Y (Dat Y (ownOf o0 E' m') ⟨st1.nx, st1.hp, low st.ver st1.ver⟩) E' (killS ks (aliveS ops i ses)) (aliveE ops i es) :=
          he.alive.kills (fun u v h => hSx.relK h) (fun q u v h => by subst q; exact hSx.rel h)
        have fin : (Nat.ble st.nx st1.ver || keepB P st1 (aliveE ops i es)) = true → (sPut nt (killF ks fr') o.dst u fun fr' => sRun Y P G C nt ops r (killS ks (aliveS ops i ses)) ⟨fr', nx', m', ks ++ z.ks⟩ K) →
            ∃ frV' st', (∃ M, ∀ n, M ≤ n → runO P ro nt (evF P ov ro n) ops ((i, o) :: r) es frV st = some (frV', st')) ∧ ∃ z', Zat Y G o0 ro st0 z' frV' st' ∧ K z' := by
          intro hkeep hk
          have hr2 : RelO Y (Dat Y (ownOf o0 E' m') ⟨st1.nx, st1.hp, low st.ver st1.ver⟩) E' u res := by
            cases u <;> cases res <;> first | exact hr | exact RelV.reVer hr
          obtain ⟨fr2, frV2, k1, k2, k3⟩ := sPut_ok hk hf2 hr2
          obtain ⟨frV3, st3, ⟨M2, h5⟩, h6⟩ := sRun_ok hC r k3 hI2 (hS.trans hSx).anyW k2 he2
          obtain ⟨n0, hn0⟩ : ∃ n, opCls o.op = n + 2 := by
            cases hq : opCls o.op with
            | zero => exact absurd hq hc0
            | succ q => cases q with
              | zero => exact absurd hq hc1
              | succ q => exact ⟨q, rfl⟩
          refine ⟨frV3, st3, ⟨max M M2, fun n hn => ?_⟩, h6⟩
          unfold runO
          simp only [hw, hn0, h1 n (by omega), hkeep, k1, natF_eq]
          exact h5 n (by omega)
        split at hk
        · refine fin ?_ hk
          have : st.nx ≤ st1.ver := hS'.ver st.nx (Nat.le_refl _) (Nat.le_refl _) (.inl rfl)
          rw [Bool.or_eq_true, Nat.ble_eq]
          exact .inl this
        · obtain ⟨k1, k2⟩ := sKeep_ok hI2 hk he2
          refine fin ?_ k2
          rw [Bool.or_eq_true]
          exact .inr (by rw [← keepB_ver]; exact k1)
    · obtain ⟨fr2, frV2, h2, h3, h4⟩ := sPut_ok (v := none) h hf' trivial
      obtain ⟨frV3, st3, ⟨M2, h5⟩, h6⟩ := sRun_ok hC r h4 hI hS h3 he
      exact ⟨frV3, st3, ⟨M2, fun n hn => by unfold runO; simp only [hw, h2]; exact h5 n hn⟩, h6⟩

theorem sC_ok {C : CallT S} (hC : CalOK Y P G ov o0 ro C) {L : LoopT S} {st0 : Bs S} : ∀ (c : Code), (∀ b ∈ loopsOf c, ∀ z K, L b z K → Sem Y P G ov o0 ro nt st0 (.loop b) z K) → ∀ (z : Z S) (K : Ex → Z S → Prop), sC Y P G C L nt c z K → Sem Y P G ov o0 ro nt st0 c z K
  | .skip, _, z, K, h => fun frV st hz => ⟨.nrm, frV, st, ⟨1, fun n hn => by obtain ⟨k, rfl⟩ := Nat.exists_eq_succ_of_ne_zero (Nat.pos_iff_ne_zero.1 hn); rfl⟩, z, hz, h⟩
  | .label _, _, z, K, h => fun frV st hz => ⟨.nrm, frV, st, ⟨1, fun n hn => by obtain ⟨k, rfl⟩ := Nat.exists_eq_succ_of_ne_zero (Nat.pos_iff_ne_zero.1 hn); rfl⟩, z, hz, h⟩
  | .exit i, _, z, K, h => fun frV st hz => ⟨.exit i, frV, st, ⟨1, fun n hn => by obtain ⟨k, rfl⟩ := Nat.exists_eq_succ_of_ne_zero (Nat.pos_iff_ne_zero.1 hn); rfl⟩, z, hz, h⟩
  | .goto i, _, z, K, h => fun frV st hz => ⟨.goto i, frV, st, ⟨1, fun n hn => by obtain ⟨k, rfl⟩ := Nat.exists_eq_succ_of_ne_zero (Nat.pos_iff_ne_zero.1 hn); rfl⟩, z, hz, h⟩
  | .ret, _, z, K, h => fun frV st hz => ⟨.ret, frV, st, ⟨1, fun n hn => by obtain ⟨k, rfl⟩ := Nat.exists_eq_succ_of_ne_zero (Nat.pos_iff_ne_zero.1 hn); rfl⟩, z, hz, h⟩
  | .region id ops draw, _, z, K, h => fun frV st hz => by
    cases draw with
    | false =>
      obtain ⟨frV', st', ⟨M, h1⟩, z', hz', hk⟩ := sOps_ok hC ops.toList h hz
      exact ⟨.nrm, frV', st', ⟨M + 1, fun n hn => by
        obtain ⟨k, rfl⟩ := Nat.exists_eq_succ_of_ne_zero (show n ≠ 0 by omega)
        have := h1 k (by omega)
        simp only [evC]
        rw [show callGo P ov (evC P ov ro k) = evF P ov ro k from rfl, this]⟩, z', hz', hk⟩
    | true =>
      simp only [sC] at h
      cases hB : lexQ1 P ops with
      | false =>
        rw [hB] at h
        cases hT : tailB ops with
        | false =>
          rw [hT] at h
          simp only [cond_false] at h
          cases hpl : planOf P ops with
          | some l =>
            rw [hpl] at h
            obtain ⟨E, hI, hS, hf⟩ := hz
            obtain ⟨frV', st', ⟨M, h1⟩, z', hz', hk⟩ := sRun_ok (es := []) hC l h hI hS hf rfl
            exact ⟨.nrm, frV', st', ⟨M + 1, fun n hn => by
              obtain ⟨k, rfl⟩ := Nat.exists_eq_succ_of_ne_zero (show n ≠ 0 by omega)
              have := h1 k (by omega)
              simp only [evC, hB, hT, hpl]
              rw [show callGo P ov (evC P ov ro k) = evF P ov ro k from rfl, this]⟩, z', hz', hk⟩
          | none =>
            rw [hpl] at h
            cases hL : lexQ ops with
            | false => rw [hL] at h; exact h.elim
            | true =>
              rw [hL] at h
              obtain ⟨E, hI, hS, hf⟩ := hz
              obtain ⟨frV', ⟨M, h1⟩, fr', hf', hk⟩ := sOpsQ_ok hC hI ops.toList h hf
              exact ⟨.nrm, frV', st, ⟨M + 1, fun n hn => by
                obtain ⟨k, rfl⟩ := Nat.exists_eq_succ_of_ne_zero (show n ≠ 0 by omega)
                have := h1 k (by omega)
                simp only [evC, hB, hT, hpl, hL]
                rw [show callGo P ov (evC P ov ro k) = evF P ov ro k from rfl, this]⟩, ⟨fr', z.nx, z.m, z.ks⟩, ⟨E, hI, hS, hf'⟩, hk⟩
        | true =>
          rw [hT] at h
          simp only [cond_true, cond_false] at h
          obtain ⟨E, hI, hS, hf⟩ := hz
          obtain ⟨frV', ⟨M, h1⟩, fr', hf', hk⟩ := sOpsQ_ok hC hI (ops.toList.take (ops.size - 1)) h hf
          obtain ⟨frV2, st2, ⟨M2, h2⟩, z2, hz2, hk2⟩ := sOps_ok hC (ops.toList.drop (ops.size - 1)) hk ⟨E, hI, hS, hf'⟩
          exact ⟨.nrm, frV2, st2, ⟨max M M2 + 1, fun n hn => by
            obtain ⟨k, rfl⟩ := Nat.exists_eq_succ_of_ne_zero (show n ≠ 0 by omega)
            have q1 := h1 k (by omega)
            have q2 := h2 k (by omega)
            simp only [evC, hB, hT]
            rw [show callGo P ov (evC P ov ro k) = evF P ov ro k from rfl, q1]
            simp only
            rw [q2]⟩, z2, hz2, hk2⟩
      | true =>
        rw [hB] at h
        obtain ⟨E, hI, hS, hf⟩ := hz
        obtain ⟨frV', ⟨M, h1⟩, fr', hf', hk⟩ := sOpsQ_ok hC hI ops.toList h hf
        exact ⟨.nrm, frV', st, ⟨M + 1, fun n hn => by
          obtain ⟨k, rfl⟩ := Nat.exists_eq_succ_of_ne_zero (show n ≠ 0 by omega)
          have := h1 k (by omega)
          simp only [evC, hB]
          rw [show callGo P ov (evC P ov ro k) = evF P ov ro k from rfl, this]⟩, ⟨fr', z.nx, z.m, z.ks⟩, ⟨E, hI, hS, hf'⟩, hk⟩
  | .seq a b, hL, z, K, h => fun frV st hz => by
    have hLa : ∀ c ∈ loopsOf a, ∀ z K, L c z K → Sem Y P G ov o0 ro nt st0 (.loop c) z K := fun c hc => hL c (by simp only [loopsOf]; exact List.mem_append_left _ hc)
    have hLb : ∀ c ∈ loopsOf b, ∀ z K, L c z K → Sem Y P G ov o0 ro nt st0 (.loop c) z K := fun c hc => hL c (by simp only [loopsOf]; exact List.mem_append_right _ hc)
    simp only [sC] at h
    cases hfl : flagOf P nt a b with
    | some F => rw [hfl] at h; exact h.elim
    | none =>
    rw [hfl] at h
    obtain ⟨e, frV1, st1, ⟨M, h1⟩, z1, hz1, hk⟩ := sC_ok hC a hLa z _ h frV st hz
    cases e with
    | nrm =>
      obtain ⟨e2, frV2, st2, ⟨M2, h2⟩, h3⟩ := sC_ok hC b hLb z1 K hk frV1 st1 hz1
      exact ⟨e2, frV2, st2, ⟨max M M2 + 1, fun n hn => by
        obtain ⟨k, rfl⟩ := Nat.exists_eq_succ_of_ne_zero (show n ≠ 0 by omega)
        simp only [evC, hfl, h1 k (by omega), h2 k (by omega)]⟩, h3⟩
    | exit i => exact ⟨.exit i, frV1, st1, ⟨M + 1, fun n hn => by
        obtain ⟨k, rfl⟩ := Nat.exists_eq_succ_of_ne_zero (show n ≠ 0 by omega)
        simp only [evC, hfl, h1 k (by omega)]⟩, z1, hz1, hk⟩
    | goto i => exact ⟨.goto i, frV1, st1, ⟨M + 1, fun n hn => by
        obtain ⟨k, rfl⟩ := Nat.exists_eq_succ_of_ne_zero (show n ≠ 0 by omega)
        simp only [evC, hfl, h1 k (by omega)]⟩, z1, hz1, hk⟩
    | ret => exact ⟨.ret, frV1, st1, ⟨M + 1, fun n hn => by
        obtain ⟨k, rfl⟩ := Nat.exists_eq_succ_of_ne_zero (show n ≠ 0 by omega)
        simp only [evC, hfl, h1 k (by omega)]⟩, z1, hz1, hk⟩
  | .cond c a b, hL, z, K, h => fun frV st hz => by
    have hLa : ∀ c ∈ loopsOf a, ∀ z K, L c z K → Sem Y P G ov o0 ro nt st0 (.loop c) z K := fun x hc => hL x (by simp only [loopsOf]; exact List.mem_append_left _ hc)
    have hLb : ∀ c ∈ loopsOf b, ∀ z K, L c z K → Sem Y P G ov o0 ro nt st0 (.loop c) z K := fun x hc => hL x (by simp only [loopsOf]; exact List.mem_append_right _ hc)
    obtain ⟨E, hI, hS, hf⟩ := hz
    simp only [sC, updI_eq] at h
    split at h
    · rename_i t
      have fin : ∀ (x : Bool) (z1 : Z S), frV.get t = some (.b x) → Zat Y G o0 ro st0 z1 frV st → (x = true → sC Y P G C L nt a z1 K) → (x = false → sC Y P G C L nt b z1 K) → ∃ e frV' st', (∃ M, ∀ n, M ≤ n → evC P ov ro n nt (.cond (.tmp t) a b) frV st = some (e, frV', st')) ∧ ∃ z', Zat Y G o0 ro st0 z' frV' st' ∧ K e z' := by
        intro x z1 hx hz1 ha hb
        cases x with
        | true =>
          obtain ⟨e, frV2, st2, ⟨M, h2⟩, h3⟩ := sC_ok hC a hLa z1 K (ha rfl) frV st hz1
          exact ⟨e, frV2, st2, ⟨M + 1, fun n hn => by
            obtain ⟨k, rfl⟩ := Nat.exists_eq_succ_of_ne_zero (show n ≠ 0 by omega)
            simp only [evC, opnd, hx, h2 k (by omega)]⟩, h3⟩
        | false =>
          obtain ⟨e, frV2, st2, ⟨M, h2⟩, h3⟩ := sC_ok hC b hLb z1 K (hb rfl) frV st hz1
          exact ⟨e, frV2, st2, ⟨M + 1, fun n hn => by
            obtain ⟨k, rfl⟩ := Nat.exists_eq_succ_of_ne_zero (show n ≠ 0 by omega)
            simp only [evC, opnd, hx, h2 k (by omega)]⟩, h3⟩
      split at h
      · rename_i hx
        obtain ⟨v, h1, h2⟩ := hf t _ hx
        simp only [RelV] at h2
        subst h2
        exact fin true z h1 ⟨E, hI, hS, hf⟩ (fun _ => h) (fun q => by cases q)
      · rename_i hx
        obtain ⟨v, h1, h2⟩ := hf t _ hx
        simp only [RelV] at h2
        subst h2
        exact fin false z h1 ⟨E, hI, hS, hf⟩ (fun q => by cases q) (fun _ => h)
      · rename_i x hx
        obtain ⟨v, h1, h2⟩ := hf t _ hx
        simp only [RelV] at h2
        subst h2
        cases x with
        | true => exact fin true ⟨z.fr.upd t (some (.kb true)), z.nx, z.m, z.ks⟩ h1 ⟨E, hI, hS, relF_known hf h1 rfl⟩ (fun _ => h.1 rfl) (fun q => by cases q)
        | false => exact fin false ⟨z.fr.upd t (some (.kb false)), z.nx, z.m, z.ks⟩ h1 ⟨E, hI, hS, relF_known hf h1 rfl⟩ (fun q => by cases q) (fun _ => h.2 rfl)
      · exact h.elim
    · exact h.elim
  | .block i b, hL, z, K, h => fun frV st hz => by
    obtain ⟨e, frV1, st1, ⟨M, h1⟩, z1, hz1, hk⟩ := sC_ok hC b hL z _ h frV st hz
    cases e with
    | exit j =>
      dsimp only at hk
      cases hj : Nat.beq j i with
      | true =>
        rw [hj] at hk
        exact ⟨.nrm, frV1, st1, ⟨M + 1, fun n hn => by
          obtain ⟨k, rfl⟩ := Nat.exists_eq_succ_of_ne_zero (show n ≠ 0 by omega)
          simp only [evC, h1 k (by omega), hj, cond_true]⟩, z1, hz1, hk⟩
      | false =>
        rw [hj] at hk
        exact ⟨.exit j, frV1, st1, ⟨M + 1, fun n hn => by
          obtain ⟨k, rfl⟩ := Nat.exists_eq_succ_of_ne_zero (show n ≠ 0 by omega)
          simp only [evC, h1 k (by omega), hj, cond_false]⟩, z1, hz1, hk⟩
    | nrm => exact ⟨.nrm, frV1, st1, ⟨M + 1, fun n hn => by
        obtain ⟨k, rfl⟩ := Nat.exists_eq_succ_of_ne_zero (show n ≠ 0 by omega)
        simp only [evC, h1 k (by omega)]⟩, z1, hz1, hk⟩
    | goto i => exact ⟨.goto i, frV1, st1, ⟨M + 1, fun n hn => by
        obtain ⟨k, rfl⟩ := Nat.exists_eq_succ_of_ne_zero (show n ≠ 0 by omega)
        simp only [evC, h1 k (by omega)]⟩, z1, hz1, hk⟩
    | ret => exact ⟨.ret, frV1, st1, ⟨M + 1, fun n hn => by
        obtain ⟨k, rfl⟩ := Nat.exists_eq_succ_of_ne_zero (show n ≠ 0 by omega)
        simp only [evC, h1 k (by omega)]⟩, z1, hz1, hk⟩
  | .loop b, hL, z, K, h => hL b (by simp [loopsOf]) z K h
  | .scope b, hL, z, K, h => fun frV st hz => by
    obtain ⟨e, frV1, st1, ⟨M, h1⟩, z1, hz1, hk⟩ := sC_ok hC b hL z _ h frV st hz
    have sc : ∀ n, M + 2 ≤ n → ∃ k, n = k + 2 ∧ M ≤ k := fun n hn => ⟨n - 2, by omega, by omega⟩
    cases e with
    | goto i => exact hk.elim
    | nrm => exact ⟨.nrm, frV1, st1, ⟨M + 2, fun n hn => by
        obtain ⟨k, rfl, hk⟩ := sc n hn
        rw [show evC P ov ro (k + 2) nt (.scope b) frV st = scopeGo (evC P ov ro (k + 1) nt) b (k + 1) b frV st from rfl]
        simp only [scopeGo, h1 (k + 1) (by omega)]⟩, z1, hz1, hk⟩
    | exit j => exact ⟨.exit j, frV1, st1, ⟨M + 2, fun n hn => by
        obtain ⟨k, rfl, hk⟩ := sc n hn
        rw [show evC P ov ro (k + 2) nt (.scope b) frV st = scopeGo (evC P ov ro (k + 1) nt) b (k + 1) b frV st from rfl]
        simp only [scopeGo, h1 (k + 1) (by omega)]⟩, z1, hz1, hk⟩
    | ret => exact ⟨.ret, frV1, st1, ⟨M + 2, fun n hn => by
        obtain ⟨k, rfl, hk⟩ := sc n hn
        rw [show evC P ov ro (k + 2) nt (.scope b) frV st = scopeGo (evC P ov ro (k + 1) nt) b (k + 1) b frV st from rfl]
        simp only [scopeGo, h1 (k + 1) (by omega)]⟩, z1, hz1, hk⟩
  | .rangeFunc _ _ _ _, _, _, _, h => by simp [sC] at h
  | .refuse _, _, _, _, h => by simp [sC] at h
end
end Go.Sx
