/-
  Operations that change nothing, at values that are not known. Nothing is claimed here.
-/
import Derived.Test.YtnfddmjbfkfnhaaGreatDoorSb
namespace Go.Sx
open Go.Vm

def onO {α : Type} (o : Option α) (k : α → Prop) : Prop := match o with
  | some x => k x
  | none => False
theorem onO_ok {α : Type} {o : Option α} {k : α → Prop} (h : onO o k) : ∃ x, o = some x ∧ k x := by
  cases o with
  | none => exact h.elim
  | some x => exact ⟨x, rfl, h⟩
/-- The number fits. -/
def I64 (n : Int) : Prop := -9223372036854775808 ≤ n ∧ n ≤ 9223372036854775807
def I32 (n : Int) : Prop := -2147483648 ≤ n ∧ n ≤ 2147483647

section
variable {S : Sg}

def ofC : Nat → Value → Option (U S)
  | 0, _ => none
  | _ + 1, .bool x => some (.kb x)
  | _ + 1, .int k n => some (.i k n)
  | _ + 1, .string x => some (.s x.data.toList)
  | _ + 1, .pointer none => some .pn
  | _ + 1, .slice none 0 0 => some .sn
  | _ + 1, .nilFunc => some .fz
  | _ + 1, .nilIface => some .nz
  | d + 1, .agg cs => (mapO (ofC d) cs.toList).map .a
  | d + 1, .tuple cs => (mapO (ofC d) cs.toList).map .t
  | _ + 1, _ => none

def cellsU : U S → List (U S)
  | .a cs => cs
  | u => [u]
def solid : U S → Bool
  | .dead => false
  | _ => true
def asB : U S → Option Bool
  | .b x => some x
  | .kb x => some x
  | _ => none

variable (Y : Sy S) (P : Program)

def RelF (Y : Sy S) (D : DD S) (E : En) (fr : T (U S)) (frV : T V) : Prop := ∀ t u, fr.get t = some u → ∃ v, frV.get t = some v ∧ RelV Y D E u v

def sOpd (fr : T (U S)) (o : Operand) (k : U S → Prop) : Prop := match o with
  | .tmp t => onO (fr.get t) k
  | .const v => onO (ofC 4 v) k
  | .global g => cond (Nat.blt g GL) (k (.g g 0)) False
  | .func f => k (.f f [])
def sOpds (fr : T (U S)) : List Operand → (List (U S) → Prop) → Prop
  | [], k => k []
  | o :: r, k => sOpd fr o fun u => sOpds fr r fun us => k (u :: us)
def sParts (fr : T (U S)) : List (Nat × Operand) → (List (Nat × U S) → Prop) → Prop
  | [], k => k []
  | (i, o) :: r, k => sOpd fr o fun u => sParts fr r fun us => k ((i, u) :: us)

def sArith (kd : IntKind) (n : Int) (k : U S → Prop) : Prop := match kd with
  | .i64 => I64 n ∧ k (.i .i64 n)
  | .i32 => I32 n ∧ k (.i .i32 n)
  | kd => k (.i kd (kd.wrap n))
def sArithY (kd : IntKind) (n : Int) (k : U S → Prop) : Prop := match kd with
  | .i64 => cond Y.wrp (k (.i .i64 (IntKind.i64.wrap n))) (sArith .i64 n k)
  | kd => sArith kd n k
def sBits (kd : IntKind) (n : Nat) (k : U S → Prop) : Prop := k (.i kd (kd.wrap n))
def sInt (op : BinOp) (kd : IntKind) (a b : Int) (k : U S → Prop) : Prop := match op with
  | .add => sArithY Y kd (a + b) k
  | .sub => sArithY Y kd (a - b) k
  | .mul => sArithY Y kd (a * b) k
  | .quo => b ≠ 0 ∧ sArith kd (a.tdiv b) k
  | .rem => b ≠ 0 ∧ k (.i kd (a.tmod b))
  | .eql => k (.b (decide (a = b)))
  | .neq => k (.b (decide (a ≠ b)))
  | .lss => k (.b (decide (a < b)))
  | .leq => k (.b (decide (a ≤ b)))
  | .gtr => k (.b (decide (b < a)))
  | .geq => k (.b (decide (b ≤ a)))
  | .and => sBits kd (BitVec.ofInt kd.bits a &&& BitVec.ofInt kd.bits b).toNat k
  | .or => sBits kd (BitVec.ofInt kd.bits a ||| BitVec.ofInt kd.bits b).toNat k
  | .xor => sBits kd (BitVec.ofInt kd.bits a ^^^ BitVec.ofInt kd.bits b).toNat k
  | .andNot => sBits kd (BitVec.ofInt kd.bits a &&& ~~~(BitVec.ofInt kd.bits b)).toNat k
  | _ => False
def sShift (op : BinOp) (kd : IntKind) (x y : Int) (k : U S → Prop) : Prop := match op with
  | .shl => 0 ≤ y ∧ k (.i kd (kd.wrap (x * 2 ^ (min y.toNat kd.bits))))
  | .shr => 0 ≤ y ∧ k (.i kd (x.fdiv (2 ^ (min y.toNat kd.bits))))
  | _ => False
def sStr (op : BinOp) (l m : List UInt8) (k : U S → Prop) : Prop := match op with
  | .add => l.length + m.length ≤ 1099511627776 ∧ k (.s (l ++ m))
  | .eql => k (.b (l == m))
  | .neq => k (.b (!(l == m)))
  | .lss => k (.b (Op.bytesLess l m))
  | .leq => k (.b (Op.bytesLess l m || (l == m)))
  | .gtr => k (.b (!(Op.bytesLess l m || (l == m))))
  | .geq => k (.b (!(Op.bytesLess l m)))
  | _ => False

def sPart (t : TypeId) (cs : List (U S)) (off : Nat) : Option (U S) :=
  match P.info? t, P.underlying t with
  | some ti, some _ => cond (isAggB P t) (some (.a ((cs.drop off).take ti.size))) (cs[off]?)
  | _, _ => none
def sEqFields (eq : TypeId → U S → U S → Option Bool) (xs ys : List (U S)) : List Field → Option Bool
  | [] => some true
  | f :: r => cond (f.name == "_") (sEqFields eq xs ys r)
    (match sPart P f.type xs f.offset, sPart P f.type ys f.offset with
    | some x, some y => match eq f.type x y, sEqFields eq xs ys r with
      | some a, some b => some (a && b)
      | _, _ => none
    | _, _ => none)
def sEqElems (eq : TypeId → U S → U S → Option Bool) (t : TypeId) (sz : Nat) (xs ys : List (U S)) (i : Nat) : Nat → Option Bool
  | 0 => some true
  | n + 1 => match sPart P t xs (i * sz), sPart P t ys (i * sz) with
    | some x, some y => match eq t x y, sEqElems eq t sz xs ys (i + 1) n with
      | some a, some b => some (a && b)
      | _, _ => none
    | _, _ => none
def sEq : Nat → TypeId → U S → U S → Option Bool
  | 0, _, _, _ => none
  | d + 1, t, x, y => match P.underlying t with
    | some .bool => match asB x, asB y with
      | some a, some b => some (a == b)
      | _, _ => none
    | some (.int _) => match x, y with
      | .i k a, .i k' b => cond (decide (k = k')) (some (decide (a = b))) none
      | _, _ => none
    | some .string => match x, y with
      | .s l, .s m => some (l == m)
      | _, _ => none
    | some (.pointer _) => match x, y with
      | .pn, .pn => some true
      | .pn, .p _ _ => some false
      | .p _ _, .pn => some false
      | _, _ => none
    | some (.func ..) => match x, y with
      | .fz, .fz => some true
      | .fz, .f .. => some false
      | .f .., .fz => some false
      | _, _ => none
    | some (.struct fs) => match x, y with
      | .a xs, .a ys => cond (P.stoodInHeld t) none (sEqFields P (sEq d) xs ys fs.toList)
      | _, _ => none
    | some (.array n e) => match x, y with
      | .a xs, .a ys => match P.info? e with
        | some ti => sEqElems P (sEq d) e ti.size xs ys 0 n
        | none => none
      | _, _ => none
    | _ => none
def sEqual (t : TypeId) (x y : U S) : Option Bool := match x, y with
  | .a _, .a _ => cond (P.eqGuardType P.depth t) none (sEq P 60 t x y)
  | .nz, _ => none
  | _, _ => sEq P 60 t x y
def sBin (op : BinOp) (xt : TypeId) (x y : U S) (k : U S → Prop) : Prop := match x, y with
  | .i kd a, .i kd' b => match op with
    | .shl => sShift .shl kd a b k
    | .shr => sShift .shr kd a b k
    | op => cond (decide (kd = kd')) (sInt Y op kd a b k) False
  | .s l, .s m => sStr op l m k
  | x, y => match op with
    | .eql => onO (sEqual P xt x y) fun r => k (.b r)
    | .neq => onO (sEqual P xt x y) fun r => k (.b (!r))
    | _ => False
def sUn (op : UnOp) (x : U S) (k : U S → Prop) : Prop := match op, x with
  | .neg, .i kd n => sArith kd (0 - n) k
  | .not, .b x => k (.b (!x))
  | .not, .kb true => k (.kb false)
  | .not, .kb false => k (.kb true)
  | _, _ => False

def zeroU (t : TypeId) : Option (U S) := match P.info? t with
  | some ti => match ti.zero with | some z => ofC 4 z | none => none
  | none => none
def setAtU (cells : List (U S)) (off : Nat) : List (U S) → List (U S)
  | [] => cells
  | v :: r => setAtU (cells.set off v) (off + 1) r
def sFill (place : Nat → Option (Nat × Nat)) (cells : List (U S)) : List (Nat × U S) → Option (List (U S))
  | [] => some cells
  | (i, v) :: rest => match place i with
    | none => none
    | some (off, size) => cond (solid v && (Nat.beq (cellsU v).length size && Nat.ble (off + (cellsU v).length) cells.length)) (sFill place (setAtU cells off (cellsU v)) rest) none
def sBuild (t : TypeId) (parts : List (Nat × U S)) (k : U S → Prop) : Prop :=
  match zeroU P t, P.underlying t with
  | some z, some (.struct fs) => match mapO (placeOf P) fs.toList with
    | some places => cond (solid z) (onO (sFill (fun i => places[i]?) (cellsU z) parts) fun cs => k (.a cs)) False
    | none => False
  | some z, some (.array _ e) => match sizeB P e with
    | some n => cond (solid z) (onO (sFill (fun i => some (i * n, n)) (cellsU z) parts) fun cs => k (.a cs)) False
    | none => False
  | _, _ => False
def sField (t : TypeId) (x : U S) (f : Nat) (k : U S → Prop) : Prop := match P.underlying t, x with
  | some (.struct fs), .a cs => match fs[f]? with
    | some fd => onO (sPart P fd.type cs fd.offset) k
    | none => False
  | _, _ => False
def sIndex (t : TypeId) (x : U S) (i : Int) (k : U S → Prop) : Prop := match P.underlying t, x with
  | some .string, .s l => (0 ≤ i ∧ i < (l.length : Int)) ∧ k (.i .u8 ((l.getD i.toNat 0).toNat : Int))
  | some (.array len e), .a cs => match sizeB P e with
    | some n => (0 ≤ i ∧ i < (len : Int)) ∧ onO (sPart P e cs (i.toNat * n)) k
    | none => False
  | _, _ => False
def sSlice (t : TypeId) (x : U S) (lo hi : Option Int) (k : U S → Prop) : Prop := match P.underlying t, x, lo, hi with
  | some .string, .s l, some a, none => (0 ≤ a ∧ a ≤ (l.length : Int)) ∧ k (.s (l.drop a.toNat))
  | some .string, .s l, none, some b => (0 ≤ b ∧ b ≤ (l.length : Int)) ∧ k (.s (l.take b.toNat))
  | some .string, .s l, some a, some b => (0 ≤ a ∧ a ≤ b ∧ b ≤ (l.length : Int)) ∧ k (.s ((l.drop a.toNat).take (b.toNat - a.toNat)))
  | some .string, .s l, none, none => k (.s l)
  | _, _, _, _ => False
/-- An operand that is a number, or none. -/
def sOpt (fr : T (U S)) (o : Option Operand) (k : Option Int → Prop) : Prop := match o with
  | none => k none
  | some o => sOpd fr o fun u => match u with
    | .i _ n => k (some n)
    | _ => False
def sMin2 (mn : Bool) (x y : U S) (k : U S → Prop) : Prop := match x, y with
  | .i kd a, .i _ b => k (.i kd (cond mn (if b < a then b else a) (if a < b then b else a)))
  | _, _ => False
def sMinL (mn : Bool) (x : U S) (l : List (U S)) (k : U S → Prop) : Prop := match l with
  | [] => k x
  | y :: r => sMin2 mn x y fun z => sMinL mn z r k

/-! ### They are so -/

variable {Y P}
variable {D : DD S} {E : En} {fr : T (U S)} {frV : T V}

theorem ofC_ok : ∀ (d : Nat) (v : Value) (u : U S), ofC d v = some u → ∃ w, ofV d v = some w ∧ ∀ (D : DD S) (E : En), RelV Y D E u w
  | 0, v, u, h => by simp [ofC] at h
  | d + 1, v, u, h => by
    have list : ∀ (l : List Value) (us : List (U S)), mapO (ofC d) l = some us → ∃ ws, mapO (ofV d) l = some ws ∧ ∀ (D : DD S) (E : En), RelL Y D E us ws := by
      intro l
      induction l with
      | nil => intro us h; simp only [mapO, Option.some.injEq] at h; subst h; exact ⟨[], rfl, fun _ _ => rfl⟩
      | cons x l ih =>
        intro us h
        simp only [mapO] at h
        cases h1 : ofC (S := S) d x with
        | none => simp [h1] at h
        | some y =>
          cases h2 : mapO (ofC (S := S) d) l with
          | none => simp [h1, h2] at h
          | some ys =>
            simp only [h1, h2, Option.some.injEq] at h
            subst h
            obtain ⟨w, e1, e2⟩ := ofC_ok d x y h1
            obtain ⟨ws, e3, e4⟩ := ih ys h2
            exact ⟨w :: ws, by simp only [mapO, e1, e3], fun D E => ⟨w, ws, rfl, e2 D E, e4 D E⟩⟩
    cases v with
    | bool x => cases h; exact ⟨_, rfl, fun _ _ => rfl⟩
    | int k n => cases h; exact ⟨_, rfl, fun _ _ => rfl⟩
    | string x => cases h; exact ⟨_, rfl, fun _ _ => rfl⟩
    | pointer a => cases a with
      | none => cases h; exact ⟨_, rfl, fun _ _ => rfl⟩
      | some a => cases h
    | slice a l c =>
      unfold ofC at h
      split at h <;> first | (rename_i q; cases q) | skip
      all_goals first | (cases h; exact ⟨_, rfl, fun _ _ => rfl⟩) | cases h
    | nilFunc => cases h; exact ⟨_, rfl, fun _ _ => rfl⟩
    | nilIface => cases h; exact ⟨_, rfl, fun _ _ => rfl⟩
    | agg cs =>
      simp only [ofC] at h
      cases h1 : mapO (ofC (S := S) d) cs.toList with
      | none => rw [h1] at h; cases h
      | some us =>
        rw [h1] at h
        cases h
        obtain ⟨ws, e1, e2⟩ := list _ _ h1
        exact ⟨.a ws, by simp only [ofV, e1, Option.map_some], fun D E => ⟨ws, rfl, e2 D E⟩⟩
    | tuple cs =>
      simp only [ofC] at h
      cases h1 : mapO (ofC (S := S) d) cs.toList with
      | none => rw [h1] at h; cases h
      | some us =>
        rw [h1] at h
        cases h
        obtain ⟨ws, e1, e2⟩ := list _ _ h1
        exact ⟨.t ws, by simp only [ofV, e1, Option.map_some], fun D E => ⟨ws, rfl, e2 D E⟩⟩
    | _ => cases h

theorem sOpd_ok {o : Operand} {k : U S → Prop} (h : sOpd fr o k) (hf : RelF Y D E fr frV) : ∃ u v, opnd frV o = some v ∧ RelV Y D E u v ∧ k u := by
  cases o with
  | tmp t =>
    obtain ⟨u, h1, h2⟩ := onO_ok h
    obtain ⟨v, h3, h4⟩ := hf t u h1
    exact ⟨u, v, h3, h4, h2⟩
  | const c =>
    obtain ⟨u, h1, h2⟩ := onO_ok h
    obtain ⟨w, h3, h4⟩ := ofC_ok (Y := Y) 4 c u h1
    exact ⟨u, w, h3, h4 D E, h2⟩
  | global g =>
    simp only [sOpd] at h
    cases hg : Nat.blt g GL with
    | false => rw [hg] at h; exact h.elim
    | true =>
      rw [hg] at h
      exact ⟨.g g 0, .p g 0, by simp only [opnd, hg, cond_true], ⟨Nat.blt_eq.mp hg, rfl⟩, h⟩
  | func f => exact ⟨.f f [], .f (.func f) [] [], rfl, ⟨[], rfl, rfl⟩, h⟩
theorem sOpds_ok (hf : RelF Y D E fr frV) : ∀ {l : List Operand} {k : List (U S) → Prop}, sOpds fr l k → ∃ us vs, opnds frV l = some vs ∧ RelL Y D E us vs ∧ k us
  | [], k, h => ⟨[], [], rfl, rfl, h⟩
  | o :: r, k, h => by
    obtain ⟨u, v, h1, h2, h3⟩ := sOpd_ok h hf
    obtain ⟨us, vs, h4, h5, h6⟩ := sOpds_ok hf h3
    exact ⟨u :: us, v :: vs, by simp only [opnds, h1, h4], ⟨v, vs, rfl, h2, h5⟩, h6⟩
/-- Parts of a literal. -/
def RelP (Y : Sy S) (D : DD S) (E : En) : List (Nat × U S) → List (Nat × V) → Prop
  | [], vs => vs = []
  | (i, u) :: us, vs => ∃ v r, vs = (i, v) :: r ∧ RelV Y D E u v ∧ RelP Y D E us r
theorem sParts_ok (hf : RelF Y D E fr frV) : ∀ {l : List (Nat × Operand)} {k : List (Nat × U S) → Prop}, sParts fr l k → ∃ us vs, partsOf frV l = some vs ∧ RelP Y D E us vs ∧ k us
  | [], k, h => ⟨[], [], rfl, rfl, h⟩
  | (i, o) :: r, k, h => by
    obtain ⟨u, v, h1, h2, h3⟩ := sOpd_ok h hf
    obtain ⟨us, vs, h4, h5, h6⟩ := sParts_ok hf h3
    exact ⟨(i, u) :: us, (i, v) :: vs, by simp only [partsOf, h1, h4], ⟨v, vs, rfl, h2, h5⟩, h6⟩

theorem sArith_ok {kd : IntKind} {n : Int} {k : U S → Prop} (h : sArith kd n k) : k (.i kd (kd.wrap n)) := by
  unfold sArith at h
  split at h
  · obtain ⟨⟨h1, h2⟩, h3⟩ := h
    rw [wrap64 h1 h2]; exact h3
  · obtain ⟨⟨h1, h2⟩, h3⟩ := h
    have : IntKind.i32.wrap n = n := by simp [IntKind.wrap, IntKind.bits, IntKind.signed]; omega
    rw [this]; exact h3
  · exact h
theorem sArithY_ok {kd : IntKind} {n : Int} {k : U S → Prop} (h : sArithY Y kd n k) : k (.i kd (kd.wrap n)) := by
  unfold sArithY at h
  split at h
  · cases hw : Y.wrp with
    | true => rw [hw] at h; exact h
    | false => rw [hw] at h; exact sArith_ok h
  · exact sArith_ok h
theorem sInt_ok {op : BinOp} {kd : IntKind} {a b : Int} {k : U S → Prop} (h : sInt Y op kd a b k) : ∃ u v, vint op kd a b = some v ∧ RelV Y D E u v ∧ k u := by
  cases op <;> simp only [sInt] at h <;> try exact h.elim
  · exact ⟨.i kd _, _, rfl, rfl, sArithY_ok h⟩
  · exact ⟨.i kd _, _, rfl, rfl, sArithY_ok h⟩
  · exact ⟨.i kd _, _, rfl, rfl, sArithY_ok h⟩
  · exact ⟨.i kd _, .i kd (kd.wrap (a.tdiv b)), by simp only [vint, h.1, decide_false, cond_false], rfl, sArith_ok h.2⟩
  · exact ⟨.i kd _, .i kd (a.tmod b), by simp only [vint, h.1, decide_false, cond_false], rfl, h.2⟩
  all_goals first
    | exact ⟨.i kd _, _, rfl, rfl, h⟩
    | (refine ⟨.b _, _, rfl, ?_, h⟩; simp only [RelV, V.b.injEq]; rw [Bool.eq_iff_iff]; simp [ilt, ile])

theorem sStr_ok {op : BinOp} {l m : List UInt8} {k : U S → Prop} (h : sStr op l m k) : ∃ u v, vstr op l.length (packL l) m.length (packL m) = some v ∧ RelV Y D E u v ∧ k u := by
  cases op <;> simp only [sStr] at h <;> try exact h.elim
  · obtain ⟨h1, h2⟩ := h
    have e : Nat.ble (l.length + m.length) 1099511627776 = true := by rw [Nat.ble_eq]; exact h1
    exact ⟨.s _, sApp l.length (packL l) m.length (packL m), by simp only [vstr, e, cond_true], str_app l m, h2⟩
  all_goals exact ⟨.b _, _, rfl, by simp only [RelV, V.b.injEq, str_beq, unpackL_packL], h⟩

theorem sPart_ok {t : TypeId} {cs : List (U S)} {vs : List V} {off : Nat} {u : U S} (h : sPart P t cs off = some u) (hr : RelL Y D E cs vs) : ∃ v, vpart P t vs off = some v ∧ RelV Y D E u v := by
  unfold sPart at h
  unfold vpart
  cases h1 : P.info? t with
  | none => simp [h1] at h
  | some ti =>
    cases h2 : P.underlying t with
    | none => simp [h1, h2] at h
    | some d =>
      simp only [h1, h2] at h ⊢
      cases hA : isAggB P t with
      | true =>
        rw [hA] at h
        cases h
        exact ⟨_, rfl, ⟨_, rfl, (hr.drop off).take ti.size⟩⟩
      | false =>
        rw [hA] at h
        exact hr.get h

theorem sEqFields_ok {eq : TypeId → U S → U S → Option Bool} {eqV : TypeId → V → V → Option Bool} (he : ∀ t x y r v w, eq t x y = some r → RelV Y D E x v → RelV Y D E y w → eqV t v w = some r) {xs ys : List (U S)} {vs ws : List V} (hx : RelL Y D E xs vs) (hy : RelL Y D E ys ws) :
    ∀ (fs : List Field) (r : Bool), sEqFields P eq xs ys fs = some r → veqFields P eqV vs ws fs = some r
  | [], r, h => h
  | f :: fs, r, h => by
    simp only [sEqFields] at h
    simp only [veqFields]
    cases hn : (f.name == "_") with
    | true => rw [hn] at h; exact sEqFields_ok he hx hy fs r h
    | false =>
      rw [hn] at h
      simp only [cond_false] at h ⊢
      cases h1 : sPart P f.type xs f.offset with
      | none => simp [h1] at h
      | some x =>
        cases h2 : sPart P f.type ys f.offset with
        | none => simp [h1, h2] at h
        | some y =>
          simp only [h1, h2] at h
          cases h3 : eq f.type x y with
          | none => simp [h3] at h
          | some a =>
            cases h4 : sEqFields P eq xs ys fs with
            | none => simp [h3, h4] at h
            | some b =>
              simp only [h3, h4, Option.some.injEq] at h
              subst h
              obtain ⟨v, e1, e2⟩ := sPart_ok h1 hx
              obtain ⟨w, e3, e4⟩ := sPart_ok h2 hy
              simp only [e1, e3, he _ _ _ _ _ _ h3 e2 e4]
              cases a with
              | false => rfl
              | true => simpa using sEqFields_ok he hx hy fs b h4
theorem sEqElems_ok {eq : TypeId → U S → U S → Option Bool} {eqV : TypeId → V → V → Option Bool} (he : ∀ t x y r v w, eq t x y = some r → RelV Y D E x v → RelV Y D E y w → eqV t v w = some r) {xs ys : List (U S)} {vs ws : List V} (hx : RelL Y D E xs vs) (hy : RelL Y D E ys ws) {t : TypeId} {sz : Nat} :
    ∀ (n i : Nat) (r : Bool), sEqElems P eq t sz xs ys i n = some r → veqElems P eqV t sz vs ws i n = some r
  | 0, i, r, h => h
  | n + 1, i, r, h => by
    simp only [sEqElems] at h
    simp only [veqElems]
    cases h1 : sPart P t xs (i * sz) with
    | none => simp [h1] at h
    | some x =>
      cases h2 : sPart P t ys (i * sz) with
      | none => simp [h1, h2] at h
      | some y =>
        simp only [h1, h2] at h
        cases h3 : eq t x y with
        | none => simp [h3] at h
        | some a =>
          cases h4 : sEqElems P eq t sz xs ys (i + 1) n with
          | none => simp [h3, h4] at h
          | some b =>
            simp only [h3, h4, Option.some.injEq] at h
            subst h
            obtain ⟨v, e1, e2⟩ := sPart_ok h1 hx
            obtain ⟨w, e3, e4⟩ := sPart_ok h2 hy
            simp only [e1, e3, he _ _ _ _ _ _ h3 e2 e4]
            cases a with
            | false => rfl
            | true => simpa using sEqElems_ok he hx hy n (i + 1) b h4

theorem asB_ok {u : U S} {x : Bool} {v : V} (h : asB u = some x) (hr : RelV Y D E u v) : v = .b x := by
  cases u <;> simp only [asB, reduceCtorEq, Option.some.injEq] at h <;> (subst h; exact hr)

theorem sEq_ok : ∀ (d : Nat) (t : TypeId) (x y : U S) (r : Bool) (v w : V), sEq P d t x y = some r → RelV Y D E x v → RelV Y D E y w → veq P d t v w = some r
  | 0, _, _, _, _, _, _, h, _, _ => by simp [sEq] at h
  | d + 1, t, x, y, r, v, w, h, hx, hy => by
    have ih := fun t x y r v w => sEq_ok d t x y r v w
    unfold sEq at h
    split at h
    · rename_i hu
      cases h1 : asB x with
      | none => simp [h1] at h
      | some a =>
        cases h2 : asB y with
        | none => simp [h1, h2] at h
        | some b =>
          simp only [h1, h2] at h
          rw [asB_ok h1 hx, asB_ok h2 hy]
          unfold veq
          simp only [hu]
          exact h
    · rename_i hu
      split at h
      · rename_i k a k' b
        simp only [RelV] at hx hy
        subst hx hy
        unfold veq
        simp only [hu]
        cases hk : decide (k = k') with
        | false => rw [hk] at h; cases h
        | true =>
          rw [hk] at h
          simp only [cond_true, Option.some.injEq] at h ⊢
          rw [← h, Bool.eq_iff_iff]
          simp
      · cases h
    · rename_i hu
      split at h
      · rename_i l m
        simp only [RelV] at hx hy
        subst hx hy
        unfold veq V.str
        simp only [hu, str_beq]
        exact h
      · cases h
    · rename_i hu
      split at h
      · simp only [RelV] at hx hy; subst hx hy; unfold veq; simp only [hu]; exact h
      · simp only [RelV] at hx hy; subst hx; obtain ⟨_, _, _, rfl⟩ := hy; unfold veq; simp only [hu]; exact h
      · simp only [RelV] at hx hy; subst hy; obtain ⟨_, _, _, rfl⟩ := hx; unfold veq; simp only [hu]; exact h
      · cases h
    · rename_i hu
      split at h
      · simp only [RelV] at hx hy; subst hx hy; unfold veq; simp only [hu]; exact h
      · simp only [RelV] at hx hy; subst hx; obtain ⟨_, rfl, _⟩ := hy; unfold veq; simp only [hu]; exact h
      · simp only [RelV] at hx hy; subst hy; obtain ⟨_, rfl, _⟩ := hx; unfold veq; simp only [hu]; exact h
      · cases h
    · rename_i fs hu
      split at h
      · rename_i xs ys
        simp only [RelV] at hx hy
        obtain ⟨vs, rfl, hx⟩ := hx
        obtain ⟨ws, rfl, hy⟩ := hy
        unfold veq
        simp only [hu]
        cases hs : P.stoodInHeld t with
        | true => rw [hs] at h; cases h
        | false =>
          rw [hs] at h
          exact sEqFields_ok ih hx hy _ _ h
      · cases h
    · rename_i n e hu
      split at h
      · rename_i xs ys
        simp only [RelV] at hx hy
        obtain ⟨vs, rfl, hx⟩ := hx
        obtain ⟨ws, rfl, hy⟩ := hy
        unfold veq
        simp only [hu]
        split at h
        · rename_i ti hi
          simp only [hi]
          exact sEqElems_ok ih hx hy _ _ _ h
        · cases h
      · cases h
    · cases h

end
end Go.Sx
