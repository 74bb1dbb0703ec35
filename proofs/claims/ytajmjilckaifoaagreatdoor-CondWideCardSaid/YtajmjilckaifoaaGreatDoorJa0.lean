/-
  An evaluator of the model's code over a small memory of its own: definitions. Nothing is claimed here.
-/
import Derived.Deep.Quiet
import Derived.StillTail
import Derived.Below
import Derived.Laws.Strings
import Derived.Laws.Cells
import Derived.Lib.Strings
import Derived.Laws.StructEq
import Derived.Laws.BytesString
import Derived.Laws.AppendOwn
import Derived.Laws.MakeOwn
import Derived.Laws.Strings2
import Derived.ChangeKeysEq
import Derived.LaidEql
import Derived.Laws.Slices
namespace Go.Vm

/-- A map of numbers, as a binary tree. -/
inductive T (α : Type) where
  | e : T α
  | n (l : T α) (v : Option α) (r : T α) : T α

def T.get {α : Type} : T α → Nat → Option α
  | .e, _ => none
  | .n l v r, i => match i with
    | 0 => v
    | k + 1 => cond (Nat.beq (k % 2) 0) (l.get (k / 2)) (r.get (k / 2))

/-- The tree with left part l, forced. -/
def T.mkL {α : Type} (v : Option α) (r : T α) : T α → T α
  | .e => .n .e v r
  | .n a b c => .n (.n a b c) v r
def T.mkR {α : Type} (l : T α) (v : Option α) : T α → T α
  | .e => .n l v .e
  | .n a b c => .n l v (.n a b c)

def T.go {α : Type} (x : Option α) : Nat → T α → Nat → T α
  | 0, t, _ => t
  | f + 1, t, i => match i with
    | 0 => match t with
      | .e => .n .e x .e
      | .n l _ r => .n l x r
    | k + 1 => match t with
      | .e => cond (Nat.beq (k % 2) 0) (T.mkL none .e (T.go x f .e (k / 2))) (T.mkR .e none (T.go x f .e (k / 2)))
      | .n l v r => cond (Nat.beq (k % 2) 0) (T.mkL v r (T.go x f l (k / 2))) (T.mkR l v (T.go x f r (k / 2)))

def T.upd {α : Type} (t : T α) (i : Nat) (x : Option α) : T α := T.go x (i + 1) t i

/-- Values. -/
inductive V where
  | b (x : Bool)
  | i (k : IntKind) (n : Int)
  | s (len bits : Nat)
  | p (id off : Nat)
  | pn
  | sl (id off len cap : Nat) (opn : Bool)
  | sn
  | f (fn : Fn) (first caps : List V)
  | fz
  | nz
  | a (cs : List V)
  | t (vs : List V)
  /-- An empty slice at the end of a row of open room: off if there is no room behind it, else off2. -/
  | se (id off off2 : Nat)
  /-- An empty slice without room, wherever it points. -/
  | ze (a : Addr)
  /-- A map. -/
  | m (id : Nat)
  /-- No map. -/
  | mz
  /-- An empty slice without room: where .se would be. -/
  | sy (id off off2 : Nat)

/-- A block of memory: cells that were written, and what stands in all others (zero, again and again). -/
structure Blk where
  cs : T V
  zero : List V
  sz : Nat
  es : Nat
  op : Bool
  /-- The entries of a map (none: no map). -/
  mp : Option (List (V × V))

structure St where
  nx : Nat
  hp : T Blk
  ver : Nat

def natF {R : Type} (n : Nat) (k : Nat → R) : R := Nat.rec (motive := fun _ => R) (k 0) (fun m _ => k (Nat.succ m)) n
def intF {R : Type} (n : Int) (k : Int → R) : R := match n with
  | .ofNat m => natF m fun m => k (.ofNat m)
  | .negSucc m => natF m fun m => k (.negSucc m)
def boolF {R : Type} (x : Bool) (k : Bool → R) : R := match x with
  | true => k true
  | false => k false
def kindF {R : Type} (x : IntKind) (k : IntKind → R) : R := match x with
  | .i8 => k .i8 | .i16 => k .i16 | .i32 => k .i32 | .i64 => k .i64 | .u8 => k .u8 | .u16 => k .u16 | .u32 => k .u32 | .u64 => k .u64

/-- A value is forced, so that what is kept is no thunk. -/
def V.force {R : Type} (v : V) (k : V → R) : R := match v with
  | .b x => boolF x fun x => k (.b x)
  | .i kd n => kindF kd fun kd => intF n fun n => k (.i kd n)
  | .s l x => natF l fun l => natF x fun x => k (.s l x)
  | .p g o => natF g fun g => natF o fun o => k (.p g o)
  | .sl g o l c op => natF g fun g => natF o fun o => natF l fun l => natF c fun c => boolF op fun op => k (.sl g o l c op)
  | .pn => k .pn
  | .sn => k .sn
  | .se g o q => natF g fun g => natF o fun o => natF q fun q => k (.se g o q)
  | .ze x => k (.ze x)
  | .m g => natF g fun g => k (.m g)
  | .mz => k .mz
  | .sy g o q => natF g fun g => natF o fun o => natF q fun q => k (.sy g o q)
  | .f fn xs ys => k (.f fn xs ys)
  | .fz => k .fz
  | .nz => k .nz
  | .a cs => k (.a cs)
  | .t vs => k (.t vs)

/-! ### Strings: the bytes as the digits of one number -/

def packL : List UInt8 → Nat
  | [] => 0
  | c :: r => c.toNat + 256 * packL r
def V.str (l : List UInt8) : V := .s l.length (packL l)
/-- The bytes of a number. -/
def unpackL : Nat → Nat → List UInt8
  | 0, _ => []
  | n + 1, x => UInt8.ofNat (x % 256) :: unpackL n (x / 256)

def byteAt (x i : Nat) : Nat := x / 256 ^ i % 256
def sApp (l x m y : Nat) : V := .s (l + m) (x + 256 ^ l * y)
def sCut (x lo hi : Nat) : V := .s (hi - lo) (x / 256 ^ lo % 256 ^ (hi - lo))

/-! ### Values of the model -/

def mapO {α β : Type} (f : α → Option β) : List α → Option (List β)
  | [] => some []
  | x :: r => match f x with
    | some y => match mapO f r with
      | some ys => some (y :: ys)
      | none => none
    | none => none

def ofV : Nat → Value → Option V
  | 0, _ => none
  | _ + 1, .bool x => some (.b x)
  | _ + 1, .int k n => some (.i k n)
  | _ + 1, .string x => some (.str x.data.toList)
  | _ + 1, .pointer none => some .pn
  | _ + 1, .slice none 0 0 => some .sn
  | _ + 1, .nilFunc => some .fz
  | _ + 1, .map none => some .mz
  | _ + 1, .nilIface => some .nz
  | d + 1, .agg cs => (mapO (ofV d) cs.toList).map .a
  | d + 1, .tuple cs => (mapO (ofV d) cs.toList).map .t
  | d + 1, .func fn xs ys => match mapO (ofV d) xs.toList, mapO (ofV d) ys.toList with
    | some xs, some ys => some (.f fn xs ys)
    | _, _ => none
  | _ + 1, _ => none

/-- How many places are kept for package-level variables. -/
def GL : Nat := 64

def opnd (fr : T V) : Operand → Option V
  | .tmp t => fr.get t
  | .const v => ofV 4 v
  | .global g => cond (Nat.blt g GL) (some (.p g 0)) none
  | .func f => some (.f (.func f) [] [])

def opnds (fr : T V) : List Operand → Option (List V)
  | [] => some []
  | o :: r => match opnd fr o with
    | some v => match opnds fr r with
      | some vs => some (v :: vs)
      | none => none
    | none => none

def V.atom : V → Bool
  | .a _ | .t _ => false
  | _ => true
/-- Values that are the same in every memory. -/
def V.plain : V → Bool
  | .b _ | .i _ _ | .s _ _ | .pn | .sn | .fz | .nz | .mz => true
  | _ => false
def V.plainT : V → Bool
  | .a vs | .t vs => vs.all V.plain
  | v => v.plain
def plainO : Option V → Bool
  | some v => v.plainT
  | none => false
def V.cells : V → List V
  | .a cs => cs
  | v => [v]

section
variable (P : Program)

def isAggB (t : TypeId) : Bool := match P.underlying t with
  | some (.struct _) | some (.array _ _) => true
  | _ => false

def vpart (t : TypeId) (cs : List V) (off : Nat) : Option V :=
  match P.info? t, P.underlying t with
  | some ti, some _ => cond (isAggB P t) (some (.a ((cs.drop off).take ti.size))) (cs[off]?)
  | _, _ => none

/-! ### Operations on values -/

def ilt (a b : Int) : Bool := decide (a < b)
def ile (a b : Int) : Bool := decide (a ≤ b)

def vbits (op : BinOp) (k : IntKind) (a b : Int) : Option V :=
  match op with
  | .and => some (.i k (k.wrap (BitVec.ofInt k.bits a &&& BitVec.ofInt k.bits b).toNat))
  | .or => some (.i k (k.wrap (BitVec.ofInt k.bits a ||| BitVec.ofInt k.bits b).toNat))
  | .xor => some (.i k (k.wrap (BitVec.ofInt k.bits a ^^^ BitVec.ofInt k.bits b).toNat))
  | .andNot => some (.i k (k.wrap (BitVec.ofInt k.bits a &&& ~~~(BitVec.ofInt k.bits b)).toNat))
  | _ => none

def vint (op : BinOp) (k : IntKind) (a b : Int) : Option V :=
  match op with
  | .add => some (.i k (k.wrap (a + b)))
  | .sub => some (.i k (k.wrap (a - b)))
  | .mul => some (.i k (k.wrap (a * b)))
  | .quo => cond (decide (b = 0)) none (some (.i k (k.wrap (a.tdiv b))))
  | .rem => cond (decide (b = 0)) none (some (.i k (a.tmod b)))
  | .eql => some (.b (a == b))
  | .neq => some (.b (a != b))
  | .lss => some (.b (ilt a b))
  | .leq => some (.b (ile a b))
  | .gtr => some (.b (ilt b a))
  | .geq => some (.b (ile b a))
  | op => vbits op k a b

def vshift (op : BinOp) (k : IntKind) (x y : Int) : Option V :=
  match op with
  | .shl => cond (ilt y 0) none (some (.i k (k.wrap (x * 2 ^ (min y.toNat k.bits)))))
  | .shr => cond (ilt y 0) none (some (.i k (x.fdiv (2 ^ (min y.toNat k.bits)))))
  | _ => none

def vstr (op : BinOp) (l x m y : Nat) : Option V :=
  match op with
  | .add => cond (Nat.ble (l + m) 1099511627776) (some (sApp l x m y)) none
  | .eql => some (.b (Nat.beq l m && Nat.beq x y))
  | .neq => some (.b (!(Nat.beq l m && Nat.beq x y)))
  | .lss => some (.b (Op.bytesLess (unpackL l x) (unpackL m y)))
  | .leq => some (.b (Op.bytesLess (unpackL l x) (unpackL m y) || (Nat.beq l m && Nat.beq x y)))
  | .gtr => some (.b (!(Op.bytesLess (unpackL l x) (unpackL m y) || (Nat.beq l m && Nat.beq x y))))
  | .geq => some (.b (!(Op.bytesLess (unpackL l x) (unpackL m y))))
  | _ => none

/-- '==' at a type. -/
def veqFields (eq : TypeId → V → V → Option Bool) (xs ys : List V) : List Field → Option Bool
  | [] => some true
  | f :: r => cond (f.name == "_") (veqFields eq xs ys r)
    (match vpart P f.type xs f.offset, vpart P f.type ys f.offset with
    | some x, some y => match eq f.type x y with
      | some true => veqFields eq xs ys r
      | some false => some false
      | none => none
    | _, _ => none)
def veqElems (eq : TypeId → V → V → Option Bool) (t : TypeId) (sz : Nat) (xs ys : List V) (i : Nat) : Nat → Option Bool
  | 0 => some true
  | n + 1 => match vpart P t xs (i * sz), vpart P t ys (i * sz) with
    | some x, some y => match eq t x y with
      | some true => veqElems eq t sz xs ys (i + 1) n
      | some false => some false
      | none => none
    | _, _ => none
def veq : Nat → TypeId → V → V → Option Bool
  | 0, _, _, _ => none
  | d + 1, t, x, y => match P.underlying t, x, y with
    | some .bool, .b a, .b b => some (a == b)
    | some (.int _), .i k a, .i k' b => cond (decide (k = k')) (some (a == b)) none
    | some .string, .s l x, .s m y => some (Nat.beq l m && Nat.beq x y)
    | some (.pointer _), .pn, .pn => some true
    | some (.pointer _), .pn, .p _ _ => some false
    | some (.pointer _), .p _ _, .pn => some false
    | some (.slice _), .sn, .sn => some true
    | some (.slice _), .sn, .sl .. => some false
    | some (.slice _), .sl .., .sn => some false
    | some (.slice _), .sn, .se .. => some false
    | some (.slice _), .se .., .sn => some false
    | some (.slice _), .sn, .ze _ => some false
    | some (.slice _), .ze _, .sn => some false
    | some (.func ..), .fz, .fz => some true
    | some (.func ..), .fz, .f .. => some false
    | some (.func ..), .f .., .fz => some false
    | some (.struct fs), .a xs, .a ys => cond (P.stoodInHeld t) none (veqFields P (veq d) xs ys fs.toList)
    | some (.array n e), .a xs, .a ys => match P.info? e with
      | some ti => veqElems P (veq d) e ti.size xs ys 0 n
      | none => none
    | _, _, _ => none

def vequal (t : TypeId) (x y : V) : Option Bool :=
  match x, y with
  | .a _, .a _ => cond (P.eqGuardType P.depth t) none (veq P 60 t x y)
  | .nz, .nz => none
  | _, _ => veq P 60 t x y

def vbin (op : BinOp) (xt : TypeId) (x y : V) : Option V :=
  match x, y with
  | .i k a, .i k' b => match op with
    | .shl | .shr => vshift op k a b
    | _ => cond (decide (k = k')) (vint op k a b) none
  | .s l x, .s m y => vstr op l x m y
  | x, y => match op with
    | .eql => match vequal P xt x y with | some r => some (.b r) | none => none
    | .neq => match vequal P xt x y with | some r => some (.b (!r)) | none => none
    | _ => none

def vun (op : UnOp) (x : V) : Option V :=
  match op, x with
  | .neg, .i k n => some (.i k (k.wrap (0 - n)))
  | .xor, .i k n => vbits .xor k (if k.signed then -1 else k.max) n
  | .not, .b x => some (.b (!x))
  | _, _ => none

/-! ### Memory -/

def Blk.get (b : Blk) (o : Nat) : Option V :=
  cond (Nat.blt o b.sz) (match b.cs.get o with | some v => some v | none => b.zero[o % b.es]?) none
/-- No byte of it may be marked at its end. -/
def Blk.full (b : Blk) : Bool := b.op || !(Nat.beq b.es 1)
def Blk.set (b : Blk) (o : Nat) (v : V) : Blk := { b with cs := b.cs.upd o (some v) }
/-- n cells from o on. -/
def Blk.row (b : Blk) : Nat → Nat → Option (List V)
  | 0, _ => some []
  | n + 1, o => match b.get o with
    | some v => match b.row n (o + 1) with
      | some r => some (v :: r)
      | none => none
    | none => none
/-- Cells are written, one behind the other. -/
def Blk.put (b : Blk) : List V → Nat → Option Blk
  | [], _ => some b
  | v :: r, o => cond (Nat.blt o b.sz && v.atom) (v.force fun v => Blk.put (b.set o v) r (o + 1)) none

def St.alloc (st : St) (b : Blk) : St := ⟨st.nx + 1, st.hp.upd st.nx (some b), st.ver⟩
/-- 'ver': no block below was written. -/
def low (a b : Nat) : Nat := cond (Nat.ble a b) a b
def St.write (st : St) (id : Nat) (b : Blk) : St := natF (low st.ver id) fun v => ⟨st.nx, st.hp.upd id (some b), v⟩

/-- A block of some cells. -/
def blkOf (cs : List V) (es : Nat) (op : Bool) : Option Blk := (Blk.mk .e [] cs.length es op none).put cs 0

def vload (st : St) (t : TypeId) (id off : Nat) : Option V :=
  match st.hp.get id, P.info? t, P.underlying t with
  | some b, some ti, some _ => cond (isAggB P t) (match b.row ti.size off with | some cs => some (.a cs) | none => none) (b.get off)
  | _, _, _ => none

/-- ro: the blocks below are not written. -/
def vstore (ro : Nat) (st : St) (t : TypeId) (id off : Nat) (v : V) : Option St :=
  match st.hp.get id, P.info? t with
  | some b, some ti => cond (Nat.ble ro id && Nat.beq v.cells.length ti.size) (match b.put v.cells off with
    | some b => some (st.write id b)
    | none => none) none
  | _, _ => none

def zeroOf (t : TypeId) : Option V := match P.info? t with
  | some ti => match ti.zero with | some z => ofV 4 z | none => none
  | none => none

def valloc (st : St) (v : V) (es : Nat) : Option (V × St) := match blkOf v.cells es false with
  | some b => natF st.nx fun nx => some (.p nx 0, St.alloc ⟨nx, st.hp, st.ver⟩ b)
  | none => none

/-- Parts are laid into cells. -/
def setAt (cells : List V) (off : Nat) : List V → List V
  | [] => cells
  | v :: r => setAt (cells.set off v) (off + 1) r
def vfill (place : Nat → Option (Nat × Nat)) (cells : List V) : List (Nat × V) → Option (List V)
  | [] => some cells
  | (i, v) :: rest => match place i with
    | none => none
    | some (off, size) => cond (Nat.beq v.cells.length size && Nat.ble (off + v.cells.length) cells.length) (vfill place (setAt cells off v.cells) rest) none

def partsOf (fr : T V) : List (Nat × Operand) → Option (List (Nat × V))
  | [] => some []
  | (i, o) :: r => match opnd fr o with
    | some v => match partsOf fr r with
      | some vs => some ((i, v) :: vs)
      | none => none
    | none => none

def sizeB (t : TypeId) : Option Nat := match P.info? t with | some ti => some ti.size | none => none

def placeOf (f : Field) : Option (Nat × Nat) := match sizeB P f.type with | some n => some (f.offset, n) | none => none

def vbuild (t : TypeId) (parts : List (Nat × V)) : Option V :=
  match zeroOf P t, P.underlying t with
  | some z, some (.struct fs) => match mapO (placeOf P) fs.toList with
    | some places => match vfill (fun i => places[i]?) z.cells parts with | some cs => some (.a cs) | none => none
    | none => none
  | some z, some (.array _ e) => match sizeB P e with
    | some n => match vfill (fun i => some (i * n, n)) z.cells parts with | some cs => some (.a cs) | none => none
    | none => none
  | _, _ => none

def repeatL (z : List V) : Nat → List V
  | 0 => []
  | n + 1 => z ++ repeatL z n

def vbuildSlice (st : St) (t : TypeId) (len : Nat) (parts : List (Nat × V)) : Option (V × St) :=
  match P.underlying t with
  | some (.slice e) => match sizeB P e, zeroOf P e with
    | some n, some z => cond (Nat.ble (len * n) 16777216 && Nat.blt 0 n && Nat.beq z.cells.length n) (match vfill (fun i => some (i * n, n)) (repeatL z.cells len) parts with
      | some cs => match blkOf cs n false with
        | some b => natF st.nx fun nx => some (.sl nx 0 len len false, St.alloc ⟨nx, st.hp, st.ver⟩ b)
        | none => none
      | none => none) none
    | _, _ => none
  | _ => none

def vmakeSlice (st : St) (t : TypeId) (len cap : Int) : Option (V × St) :=
  match P.underlying t with
  | some (.slice e) => match P.info? e, zeroOf P e with
    | some ti, some z => cond (ile 0 len && ile len cap && ile (ti.bytes * cap) 1099511627776 && ile cap 1099511627776 && Nat.blt 0 ti.size && Nat.beq z.cells.length ti.size && z.cells.all V.atom)
      (natF len.toNat fun l => natF cap.toNat fun c => natF st.nx fun nx => some (.sl nx 0 l c false, St.alloc ⟨nx, st.hp, st.ver⟩ ⟨.e, z.cells, c * ti.size, ti.size, false, none⟩)) none
    | _, _ => none
  | _ => none

def vbound (x : V) (y : Nat) : Option Nat := match x with
  | .i _ n => cond (ile 0 n && ile n y) (natF n.toNat some) none
  | _ => none
def vboundO (x : Option V) (y d : Nat) : Option Nat := match x with
  | some x => vbound x y
  | none => some d
/-- low, high, max -/
def vbounds (len cap : Nat) (lo hi mx : Option V) : Option (Nat × Nat × Nat) :=
  match vboundO mx cap cap with
  | some m => match vboundO hi m len with
    | some h => match vboundO lo h 0 with
      | some l => some (l, h, m)
      | none => none
    | none => none
  | none => none

def vslice (t : TypeId) (x : V) (lo hi mx : Option V) : Option V :=
  match P.underlying t, x with
  | some .string, .s len bits => match mx with
    | some _ => none
    | none => match vbounds len len lo hi none with
      | some (l, h, _) => some (sCut bits l h)
      | none => none
  | some (.slice e), .sl id off len cap op => match sizeB P e with
    | some n => match hi, mx with
      | none, some _ => none
      | _, _ => match vbounds len cap lo hi mx with
        | some (l, h, m) => cond (op && mx.isNone)
          (cond (Nat.blt l cap || Nat.beq l 0) (some (.sl id (off + l * n) (h - l) (cap - l) true)) (some (.se id off (off + l * n))))
          (cond (!mx.isNone && Nat.beq m l) (some (.sy id off off)) (some (.sl id (cond (Nat.beq m l) off (off + l * n)) (h - l) (m - l) false)))
        | none => none
    | none => none
  | some (.slice e), .sn => match sizeB P e with
    | some _ => match hi, mx with
      | none, some _ => none
      | _, _ => match vbounds 0 0 lo hi mx with
        | some _ => some .sn
        | none => none
    | none => none
  | some (.slice e), .se id off off2 => match sizeB P e, mx with
    | some _, none => match vbounds 0 0 lo hi none with
      | some _ => some (.se id off off2)
      | none => none
    | some _, some m => match hi with
      | some hv => match vbounds 0 0 lo (some hv) (some m) with
        | some _ => some (.sy id off off2)
        | none => none
      | none => none
    | _, _ => none
  | some (.slice e), .sy id off off2 => match sizeB P e with
    | some _ => match hi, mx with
      | none, some _ => none
      | _, _ => match vbounds 0 0 lo hi mx with
        | some _ => some (.sy id off off2)
        | none => none
    | none => none
  | some (.slice e), .ze a => match sizeB P e with
    | some _ => match hi, mx with
      | none, some _ => none
      | _, _ => match vbounds 0 0 lo hi mx with
        | some _ => some (.ze a)
        | none => none
    | none => none
  | some (.array n e), .p id off => match sizeB P e with
    | some k => match hi, mx with
      | none, some _ => none
      | _, _ => match vbounds n n lo hi mx with
        | some (l, h, m) => some (.sl id (cond (Nat.beq m l) off (off + l * k)) (h - l) (m - l) false)
        | none => none
    | none => none
  | _, _ => none

def vfieldAddr (t : TypeId) (id off f : Nat) : Option V :=
  match P.underlying t with
  | some (.struct fs) => match fs[f]? with
    | some fd => match sizeB P fd.type with
      | some n => cond (Nat.blt 0 n) (some (.p id (off + fd.offset))) none
      | none => none
    | none => none
  | _ => none

def vindexAddr (t : TypeId) (x : V) (i : Int) : Option V :=
  match P.underlying t, x with
  | some (.slice e), .sl id off len _ _ => match sizeB P e with
    | some n => cond (ile 0 i && ilt i len) (some (.p id (off + i.toNat * n))) none
    | none => none
  | some (.array len e), .p id off => match sizeB P e with
    | some n => cond (ile 0 i && ilt i len) (some (.p id (off + i.toNat * n))) none
    | none => none
  | _, _ => none

def vindex (t : TypeId) (x : V) (i : Int) : Option V :=
  match P.underlying t, x with
  | some .string, .s len bits => cond (ile 0 i && ilt i len) (some (.i .u8 (.ofNat (byteAt bits i.toNat)))) none
  | some (.array len e), .a cs => match sizeB P e with
    | some n => cond (ile 0 i && ilt i len) (vpart P e cs (i.toNat * n)) none
    | none => none
  | _, _ => none

def vfield (t : TypeId) (x : V) (f : Nat) : Option V :=
  match P.underlying t, x with
  | some (.struct fs), .a cs => match fs[f]? with
    | some fd => vpart P fd.type cs fd.offset
    | none => none
  | _, _ => none

def bytesOfCells : List V → Option (List UInt8)
  | [] => some []
  | .i .u8 n :: r => match bytesOfCells r with | some l => some (UInt8.ofNat n.toNat :: l) | none => none
  | _ :: _ => none
def cellsOfBytes : Nat → Nat → List V
  | 0, _ => []
  | n + 1, x => .i .u8 (.ofNat (x % 256)) :: cellsOfBytes n (x / 256)

/-- A block that was never written, of zero bytes. -/
def Blk.zeros (b : Blk) (len off : Nat) : Bool := match b.cs, b.zero with
  | .e, [.i .u8 (.ofNat 0)] => Nat.beq b.es 1 && Nat.ble (off + len) b.sz
  | _, _ => false
def vtext (b : Blk) (len off : Nat) : Option V := match b.zeros len off with
  | true => some (.s len 0)
  | false => match b.row len off with
    | some cs => match bytesOfCells cs with
      | some l => some (.str l)
      | none => none
    | none => none

def vconvert (st : St) (src dst : TypeId) (x : V) : Option (V × St) :=
  match P.underlying src, P.underlying dst, x with
  | some _, some (.int k), .i _ n => some (.i k (k.wrap n), st)
  | some _, some .string, .s l x => some (.s l x, st)
  | some _, some (.slice e), .s l x => match P.underlying e with
    | some (.int .u8) => cond (Nat.ble l 1099511627776) (match blkOf (cellsOfBytes l x) 1 false with
      | some b => natF st.nx fun nx => some (.sl nx 0 l l true, St.alloc ⟨nx, st.hp, st.ver⟩ b)
      | none => none) none
    | _ => none
  | some (.slice e), some .string, .sn => match P.underlying e with
    | some (.int .u8) => some (.s 0 0, st)
    | _ => none
  | some (.slice e), some .string, .sl id off len _ _ => match P.underlying e, st.hp.get id with
    | some (.int .u8), some b => match vtext b len off with
      | some v => some (v, st)
      | none => none
    | _, _ => none
  | some (.slice e), some .string, .se _ _ _ => match P.underlying e with
    | some (.int .u8) => some (.s 0 0, st)
    | _ => none
  | some (.slice e), some .string, .ze _ => match P.underlying e with
    | some (.int .u8) => some (.s 0 0, st)
    | _ => none
  | some (.slice e), some .string, .sy .. => match P.underlying e with
    | some (.int .u8) => some (.s 0 0, st)
    | _ => none
  | _, _, _ => none

/-- The bytes of a text that the program gives are marked as such: what is there stays as it is. -/
def vconv2 (ro : Nat) (st : St) (src dst : TypeId) (x : V) : Option (V × St) :=
  match P.underlying src, P.underlying dst, x with
  | some (.slice e), some (.slice _), .sl g o l c op => match P.underlying e, st.hp.get g with
    | some (.int .u8), some b => cond (decide (src = dst) && !b.full && Nat.ble ro g && b.mp.isNone) (some (.sl g o l c op, st)) none
    | _, _ => none
  | _, _, _ => vconvert P st src dst x

/-- The cells of the first n elements of a slice, or a string. -/
def vfirst (st : St) (es n : Nat) : V → Option (List V)
  | .sn => some []
  | .s _ x => cond (Nat.beq es 1) (some (cellsOfBytes n x)) none
  | .sl id off _ _ _ => match st.hp.get id with
    | some b => b.row (n * es) off
    | none => none
  | .se _ _ _ => cond (Nat.beq n 0) (some []) none
  | .ze _ => cond (Nat.beq n 0) (some []) none
  | .sy _ _ _ => cond (Nat.beq n 0) (some []) none
  | _ => none

def vlen : V → Option Nat
  | .sn => some 0
  | .s l _ => some l
  | .sl _ _ l _ _ => some l
  | .se _ _ _ => some 0
  | .ze _ => some 0
  | .sy _ _ _ => some 0
  | _ => none

def St.kill (st : St) (id : Nat) : St := natF (low st.ver id) fun v => ⟨st.nx, st.hp.upd id none, v⟩

def zeroFits (e : TypeId) (n : Nat) : Bool := match zeroOf P e with
  | some z => Nat.beq z.cells.length n
  | none => false

/-- A block of some old cells and some new ones behind them; where the old ones are a whole block, this is taken over. -/
def Blk.grow (b : Blk) (cs : List V) : Option Blk := Blk.put { b with sz := b.sz + cs.length, op := true } cs b.sz

def vgrown (b : Blk) (off len es : Nat) (new : List V) : Option Blk :=
  match b.mp with
  | none => cond (b.op && Nat.beq off 0 && Nat.beq (len * es) b.sz && Nat.beq b.es es) (b.grow new) (match b.row (len * es) off with
    | some old => blkOf (old ++ new) es true
    | none => none)
  | some _ => none

def vappend (ro : Nat) (st : St) (t : TypeId) (s x : V) : Option (V × St) :=
  match P.underlying t with
  | some (.slice e) => match P.info? e, vlen x with
    | some ti, some n => match vfirst st ti.size n x with
      | some new => cond (Nat.blt 0 ti.size && Nat.blt 0 ti.bytes && zeroFits P e ti.size) (match s with
        | .sn => cond (Nat.ble (n * ti.bytes) 1099511627776)
          (cond (Nat.beq n 0) (some (.sn, st)) (match blkOf new ti.size true with
            | some b => natF st.nx fun nx => natF n fun n => some (.sl nx 0 n n true, St.alloc ⟨nx, st.hp, st.ver⟩ b)
            | none => none)) none
        | .sl id off len cap op => match st.hp.get id with
          | some b => cond (Nat.ble ((len + n) * ti.bytes) 1099511627776)
            (cond (Nat.ble (len + n) cap)
              (cond (Nat.ble ro id) (match b.put new (off + len * ti.size) with
                | some b => natF (len + n) fun m => some (.sl id off m cap op, st.write id b)
                | none => none) none)
              (match vgrown b off len ti.size new with
              | some b' => cond op
                (cond (Nat.ble ro id && b.op && Nat.beq b.es ti.size && Nat.beq (off + cap * ti.size) b.sz)
                  (natF st.nx fun nx => natF (len + n) fun m => some (.sl nx 0 m m true, St.alloc ⟨nx, (st.kill id).hp, (st.kill id).ver⟩ b')) none)
                (natF st.nx fun nx => natF (len + n) fun m => some (.sl nx 0 m m true, St.alloc ⟨nx, st.hp, st.ver⟩ b'))
              | none => none)) none
          | none => none
        | .sy g o q => cond (Nat.ble (n * ti.bytes) 1099511627776)
          (cond (Nat.beq n 0) (some (.sy g o q, st)) (match blkOf new ti.size true with
            | some b => natF st.nx fun nx => natF n fun n => some (.sl nx 0 n n true, St.alloc ⟨nx, st.hp, st.ver⟩ b)
            | none => none)) none
        | .ze a => cond (Nat.ble (n * ti.bytes) 1099511627776)
          (cond (Nat.beq n 0) (some (.ze a, st)) (match blkOf new ti.size true with
            | some b => natF st.nx fun nx => natF n fun n => some (.sl nx 0 n n true, St.alloc ⟨nx, st.hp, st.ver⟩ b)
            | none => none)) none
        | _ => none) none
      | none => none
    | _, _ => none
  | _ => none

def vcopy (ro : Nat) (st : St) (t : TypeId) (d x : V) : Option (V × St) :=
  match P.underlying t with
  | some (.slice e) => match P.info? e, vlen x with
    | some ti, some n => match d with
      | .sn => match vfirst st ti.size 0 x with
        | some _ => some (.i .i64 0, st)
        | none => none
      | .sl id off len _ _ => match vfirst st ti.size (Nat.min n len) x, st.hp.get id with
        | some new, some b => cond (Nat.ble ro id) (match b.put new off with
          | some b => some (.i .i64 (.ofNat (Nat.min n len)), st.write id b)
          | none => none) none
        | _, _ => none
      | _ => none
    | _, _ => none
  | _ => none

def vlenOp (t : TypeId) (x : V) : Option V :=
  match P.underlying t, x with
  | some .string, .s l _ => some (.i .i64 (.ofNat l))
  | some (.slice _), .sl _ _ l _ _ => some (.i .i64 (.ofNat l))
  | some (.slice _), .sn => some (.i .i64 0)
  | some (.slice _), .se .. => some (.i .i64 0)
  | some (.slice _), .ze _ => some (.i .i64 0)
  | some (.slice _), .sy .. => some (.i .i64 0)
  | some (.array n _), _ => some (.i .i64 (.ofNat n))
  | _, _ => none

def vmin2 (mn : Bool) : V → V → Option V
  | .i k x, .i _ y => some (.i k (cond mn (cond (ilt y x) y x) (cond (ilt x y) y x)))
  | _, _ => none
def vminL (mn : Bool) (x : V) : List V → Option V
  | [] => some x
  | y :: r => match vmin2 mn x y with
    | some z => vminL mn z r
    | none => none

def vbuiltin (ro : Nat) (b : Builtin) (ts : List TypeId) (args : List V) (st : St) : Option (V × St) :=
  match b, ts, args with
  | .len, [t], [x] => match vlenOp P t x with | some v => some (v, st) | none => none
  | .append, [t, u], [s, x] => match P.underlying u with
    | some (.int _) => none
    | some _ => vappend P ro st t s x
    | none => none
  | .copy, [t, _], [d, x] => vcopy P ro st t d x
  | .min, _, x :: r => match vminL true x r with | some v => some (v, st) | none => none
  | .max, _, x :: r => match vminL false x r with | some v => some (v, st) | none => none
  | _, _, _ => none

/-! ### An operation -/

abbrev CallF := FuncId → List V → St → Option (V × St)
/-- Answers of calls that are known beforehand, and the memory behind them. -/
abbrev Ov := FuncId → List V → St → Option (V × St)
/-- Answers that leave the memory as it is. -/
abbrev Ov0 := FuncId → List V → Option V
def ofOv0 (o : Ov0) : Ov := fun f args st => match o f args with
  | some v => some (v, st)
  | none => none

/-! ### Maps -/

/-- Are two keys that are no structs the same? -/
def keq1 (ro : Nat) (st : St) (t : TypeId) (x y : V) : Option Bool := match P.underlying t, x, y with
  | some .bool, .b a, .b b => some (a == b)
  | some (.int _), .i k a, .i k' b => cond (decide (k = k')) (some (a == b)) none
  | some .string, .s l x, .s m y => some (Nat.beq l m && Nat.beq x y)
  | some (.pointer _), .pn, .pn => some true
  | some (.pointer _), .pn, .p _ _ => some false
  | some (.pointer _), .p _ _, .pn => some false
  | some (.pointer e), .p g o, .p g' o' => match sizeB P e with
    | some (_ + 1) => cond (Nat.beq g g') (some (Nat.beq o o')) (match st.hp.get g, st.hp.get g' with
      | some b, some b' => cond (b.mp.isNone && b'.mp.isNone && Nat.ble ro g && Nat.ble ro g' && Nat.blt o b.sz && Nat.blt o' b'.sz && (b.full || b'.full)) (some false) none
      | _, _ => none)
    | _ => none
  | _, _, _ => none
def keqS (ro : Nat) (st : St) (eq : TypeId → V → V → Option Bool) (t : TypeId) (x y : V) : Option Bool := match P.underlying t, x, y with
  | some (.struct fs), .a xs, .a ys => cond (P.stoodInHeld t) none (veqFields P eq xs ys fs.toList)
  | _, x, y => keq1 P ro st t x y
def keq (ro : Nat) (st : St) (t : TypeId) (x y : V) : Option Bool := keqS P ro st (keqS P ro st (keq1 P ro st)) t x y
def ck1 (t : TypeId) (x : V) : Bool := match P.underlying t, x with
  | some .bool, .b _ => true
  | some (.int _), .i _ _ => true
  | some .string, .s _ _ => true
  | some (.pointer _), .pn => true
  | some (.pointer _), .p _ _ => true
  | _, _ => false
def ckFields (ck : TypeId → V → Bool) (xs : List V) : List Field → Bool
  | [] => true
  | f :: r => cond (f.name == "_") (ckFields ck xs r) (match vpart P f.type xs f.offset with
    | some x => ck f.type x && ckFields ck xs r
    | none => false)
def ckS (ck : TypeId → V → Bool) (t : TypeId) (x : V) : Bool := match P.underlying t, x with
  | some (.struct fs), .a xs => ckFields P ck xs fs.toList
  | _, x => ck1 P t x
/-- A value that may be a key. -/
def ckV (t : TypeId) (x : V) : Bool := ckS P (ckS P (ck1 P)) t x
/-- Where a key stands, and what is there. -/
def findV (ro : Nat) (st : St) (t : TypeId) (k : V) : List (V × V) → Nat → Option (Option (Nat × V))
  | [], _ => some none
  | e :: r, i => match keq P ro st t k e.1 with
    | some true => some (some (i, e.2))
    | some false => findV ro st t k r (i + 1)
    | none => none
def sameA : V → V → Bool
  | .b a, .b b => a == b
  | .i k a, .i k' b => decide (k = k') && a == b
  | .s l x, .s m y => Nat.beq l m && Nat.beq x y
  | .pn, .pn => true
  | .p g o, .p g' o' => Nat.beq g g' && Nat.beq o o'
  | _, _ => false
def sameAs : List V → List V → Bool
  | [], [] => true
  | x :: r, y :: s => sameA x y && sameAs r s
  | _, _ => false
def sameKey : V → V → Bool
  | .a xs, .a ys => sameAs xs ys
  | x, y => sameA x y
def vmakeMap (st : St) : V × St := natF st.nx fun nx => (.m nx, St.alloc ⟨nx, st.hp, st.ver⟩ ⟨.e, [], 0, 0, false, some []⟩)
def vlookup (ro : Nat) (st : St) (t : TypeId) (x k : V) (ok : Bool) : Option V := match P.underlying t, x with
  | some (.map kt et), .m g => match st.hp.get g, zeroOf P et with
    | some b, some z => match b.mp with
      | some es => cond (ckV P kt k) (match findV P ro st kt k es 0 with
        | some (some (_, v)) => some (cond ok (.t [v, .b true]) v)
        | some none => some (cond ok (.t [z, .b false]) z)
        | none => none) none
      | none => none
    | _, _ => none
  | _, _ => none
def vmapUpdate (ro : Nat) (st : St) (t : TypeId) (x k v : V) : Option St := match P.underlying t, x with
  | some (.map kt _), .m g => match st.hp.get g with
    | some b => match b.mp with
      | some es => cond (ckV P kt k) (match findV P ro st kt k es 0 with
        | some (some (i, _)) => match es[i]? with
          | some e => cond (sameKey e.1 k) (some (st.write g { b with mp := some (es.set i (k, v)) })) none
          | none => none
        | some none => some (st.write g { b with mp := some (es ++ [(k, v)]) })
        | none => none) none
      | none => none
    | none => none
  | _, _ => none

/-- What it hands back (none: nothing), and the memory behind it. -/
def vop (ro : Nat) (call : CallF) (fr : T V) (st : St) : Op → Option (Option V × St)
  | .move x | .assign x => match opnd fr x with | some v => some (some v, st) | none => none
  | .pick c a b => match opnd fr c with
    | some (.b x) => match opnd fr (cond x a b) with | some v => some (some v, st) | none => none
    | _ => none
  | .binOp op t x y _ => match opnd fr x, opnd fr y with
    | some x, some y => match vbin P op t x y with | some v => some (some v, st) | none => none
    | _, _ => none
  | .unOp op _ x => match opnd fr x with
    | some x => match vun op x with | some v => some (some v, st) | none => none
    | none => none
  | .convert s d x => match opnd fr x with
    | some x => match vconv2 P ro st s d x with | some (v, st) => some (some v, st) | none => none
    | none => none
  | .field t x f => match opnd fr x with
    | some x => match vfield P t x f with | some v => some (some v, st) | none => none
    | none => none
  | .index t x i => match opnd fr x, opnd fr i with
    | some x, some (.i _ i) => match vindex P t x i with | some v => some (some v, st) | none => none
    | _, _ => none
  | .indexAddr t x i => match opnd fr x, opnd fr i with
    | some x, some (.i _ i) => match vindexAddr P t x i with | some v => some (some v, st) | none => none
    | _, _ => none
  | .fieldAddr t x f => match opnd fr x with
    | some (.p id off) => match vfieldAddr P t id off f with | some v => some (some v, st) | none => none
    | _ => none
  | .load t x => match opnd fr x with
    | some (.p id off) => match vload P st t id off with | some v => some (some v, st) | none => none
    | _ => none
  | .store t x v => match opnd fr x, opnd fr v with
    | some (.p id off), some v => match vstore P ro st t id off v with | some st => some (none, st) | none => none
    | _, _ => none
  | .alloc t => match zeroOf P t, sizeB P t with
    | some z, some n => match valloc st z n with | some (v, st) => some (some v, st) | none => none
    | _, _ => none
  | .box t x => match opnd fr x, sizeB P t with
    | some z, some n => match valloc st z n with | some (v, st) => some (some v, st) | none => none
    | _, _ => none
  | .build t ps => match partsOf fr ps.toList with
    | some ps => match vbuild P t ps with | some v => some (some v, st) | none => none
    | none => none
  | .buildSlice t len ps => match partsOf fr ps.toList with
    | some ps => match vbuildSlice P st t len ps with | some (v, st) => some (some v, st) | none => none
    | none => none
  | .makeSlice t l c => match opnd fr l, opnd fr c with
    | some (.i _ l), some (.i _ c) => match vmakeSlice P st t l c with | some (v, st) => some (some v, st) | none => none
    | _, _ => none
  | .slice t x lo hi mx => match opnd fr x with
    | some x => match (match lo with | none => some none | some o => (opnd fr o).map some), (match hi with | none => some none | some o => (opnd fr o).map some), (match mx with | none => some none | some o => (opnd fr o).map some) with
      | some lo, some hi, some mx => match vslice P t x lo hi mx with | some v => some (some v, st) | none => none
      | _, _, _ => none
    | none => none
  | .nilCheck x => match opnd fr x with
    | some (.p id off) => some (some (.p id off), st)
    | _ => none
  | .makeFunc fn first caps => match opnds fr first.toList, opnds fr caps.toList with
    | some xs, some ys => some (some (.f fn xs ys), st)
    | _, _ => none
  | .extract x i => match opnd fr x with
    | some (.t vs) => match vs[i]? with | some v => some (some v, st) | none => none
    | _ => none
  | .call c => match opnds fr c.args.toList with
    | some args => match c.callee with
      | .builtin b => match vbuiltin P ro b c.argTypes.toList args st with | some (v, st) => some (some v, st) | none => none
      | .value f => match opnd fr f with
        | some (.f (.func f) first caps) => match call f (first ++ args ++ caps) st with | some (v, st) => some (some v, st) | none => none
        | _ => none
      | .invoke _ _ => none
    | none => none
  | .makeMap _ none => some (some (vmakeMap st).1, (vmakeMap st).2)
  | .lookup t x k ok => match opnd fr x, opnd fr k with
    | some x, some k => match vlookup P ro st t x k ok with | some v => some (some v, st) | none => none
    | _, _ => none
  | .mapUpdate t m k x => match opnd fr m, opnd fr k, opnd fr x with
    | some m, some k, some x => match vmapUpdate P ro st t m k x with | some st => some (none, st) | none => none
    | _, _, _ => none
  | _ => none

/-- Operations that leave the memory as it is (calls are looked at by what they do). -/
def quietOp : Op → Bool
  | .move _ | .assign _ | .pick .. | .binOp .. | .unOp .. | .field .. | .index .. | .indexAddr .. | .fieldAddr .. | .load .. | .build .. | .slice .. | .nilCheck _ | .makeFunc .. | .extract .. => true
  | .call c => match c.callee with
    | .builtin .len | .builtin .min | .builtin .max | .value _ => true
    | _ => false
  | _ => false

def vput (nt : Nat) (fr : T V) (dst : Option Nat) (v : Option V) : Option (T V) :=
  match dst with
  | none => some fr
  | some d => cond (Nat.blt d nt) (match v with
    | some v => v.force fun v => some (fr.upd d (some v))
    | none => some (fr.upd d (some (.t [])))) none

/-- Is the operation carried out? -/
def vwanted (ops : Array Oper) (fr : T V) (o : Oper) : Option Bool :=
  match o.guard with
  | none => some true
  | some (j, want) => match (ops[j]?).bind (·.dst) with
    | none => some false
    | some d => match fr.get d with
      | some (.b x) => some (x == want)
      | some _ => some false
      | none => none

def vops (ro nt : Nat) (call : CallF) (ops : Array Oper) : List Oper → T V → St → Option (T V × St)
  | [], fr, st => some (fr, st)
  | o :: r, fr, st => match vwanted ops fr o with
    | some true => match vop P ro call fr st o.op with
      | some (v, st) => match vput nt fr o.dst v with
        | some fr => vops ro nt call ops r fr st
        | none => none
      | none => none
    | some false => match vput nt fr o.dst none with
      | some fr => vops ro nt call ops r fr st
      | none => none
    | none => none

/-- The same where the order is open: each one leaves the memory as it is; what calls make is thrown away. -/
def vopsQ (ro nt : Nat) (call : CallF) (ops : Array Oper) : List Oper → T V → St → Option (T V)
  | [], fr, _ => some fr
  | o :: r, fr, st => match vwanted ops fr o with
    | some true => match quietOp o.op with
      | true => match vop P ro call fr ⟨st.nx, st.hp, st.nx⟩ o.op with
        | some (v, st') => cond (Nat.ble st.nx st'.ver && (Nat.beq st'.nx st.nx || plainO v))
          (match vput nt fr o.dst v with
          | some fr => vopsQ ro nt call ops r fr st
          | none => none) none
        | none => none
      | false => none
    | some false => match vput nt fr o.dst none with
      | some fr => vopsQ ro nt call ops r fr st
      | none => none
    | none => none

inductive Ex where
  | nrm
  | exit (id : Nat)
  | goto (l : Nat)
  | ret

abbrev RunF := Code → T V → St → Option (Ex × T V × St)

def loopGo (run : T V → St → Option (Ex × T V × St)) : Nat → T V → St → Option (Ex × T V × St)
  | 0, _, _ => none
  | n + 1, fr, st => match run fr st with
    | some (.nrm, fr, st) => loopGo run n fr st
    | r => r

def scopeGo (run : RunF) (body : Code) : Nat → Code → T V → St → Option (Ex × T V × St)
  | 0, _, _, _ => none
  | n + 1, c, fr, st => match run c fr st with
    | some (.goto l, fr, st) => match findLabel body l with
      | some rest => scopeGo run body n rest fr st
      | none => some (.goto l, fr, st)
    | r => r

def frameOf : List V → Nat → T V → T V
  | [], _, fr => fr
  | v :: r, i, fr => v.force fun v => frameOf r (i + 1) (fr.upd i (some v))

def resultOf (fr : T V) (st : St) : ResultVar → Option V
  | .tmp t => fr.get t
  | .cell a t => match fr.get a with
    | some (.p id off) => vload P st t id off
    | _ => none
def resultsOf (fr : T V) (st : St) : List ResultVar → Option (List V)
  | [] => some []
  | r :: rs => match resultOf P fr st r with
    | some v => match resultsOf fr st rs with
      | some vs => some (v :: vs)
      | none => none
    | none => none
def oneOf : List V → V
  | [v] => v
  | vs => .t vs

def callGo (ov : Ov) (run : Nat → RunF) (f : FuncId) (args : List V) (st : St) : Option (V × St) :=
  match ov f args st with
  | some (v, st) => some (v, st)
  | none => match P.funcs[f]? with
  | some fn => match fn.body with
    | some c => cond (Nat.ble args.length fn.ntmps) (match run fn.ntmps c (frameOf args 0 .e) st with
      | some (.nrm, fr, st) | some (.ret, fr, st) => match resultsOf P fr st fn.results.toList with
        | some vs => some (oneOf vs, st)
        | none => none
      | _ => none) none
    | none => none
  | none => none

def notCall : Op → Bool
  | .call c => match c.callee with
    | .builtin _ => true
    | _ => false
  | _ => true

/-- A region whose order is open, of quiet operations alone. -/
def lexQ (ops : Array Oper) : Bool := Region.lexB .any ops && ops.toList.all fun o => quietOp o.op
/-- A region whose order is open, but whose last operation waits for all others. -/
def tailB (ops : Array Oper) : Bool := Region.lexTailB .any ops (ops.size - 1) && ((ops.toList.take (ops.size - 1)).all (fun o => notCall o.op) && (ops.toList.take (ops.size - 1)).all fun o => quietOp o.op)

/-! ### A region whose order is open: loads and what looks at no memory come first -/

/-- 0: memory is not looked at; 1: a load; 2: all others. -/
def opCls : Op → Nat
  | .load _ _ => 1
  | .call c => match c.callee with
    | .builtin .len | .builtin .min | .builtin .max => 0
    | _ => 2
  | op => cond (quietOp op) 0 2
def clsAt (ops : Array Oper) (i : Nat) : Bool := match ops[i]? with
  | some o => Nat.ble (opCls o.op) 1
  | none => false
/-- The order in which a region is carried out here: what may come first first, then the only one that may come. -/
def planGo (ops : Array Oper) : Nat → Array Bool → Option (List (Nat × Oper))
  | 0, listed => match Region.ready .any ops listed with
    | [] => some []
    | _ :: _ => none
  | f + 1, listed => match (Region.ready .any ops listed).find? (clsAt ops) with
    | some i => match Region.free .any ops listed i, ops[i]? with
      | true, some o => match planGo ops f (listed.setIfInBounds i true) with
        | some l => some ((i, o) :: l)
        | none => none
      | _, _ => none
    | none => match Region.ready .any ops listed with
      | [i] => match ops[i]? with
        | some o => match planGo ops f (listed.setIfInBounds i true) with
          | some l => some ((i, o) :: l)
          | none => none
        | none => none
      | _ => none
/-- A call that is handed more than numbers, strings and truth values: it may write. -/
def mayWrite : Op → Bool
  | .call c => match c.callee with
    | .builtin _ => false
    | _ => c.argTypes.toList.any fun t => match P.underlying t with
      | some (.int _) | some .string | some .bool => false
      | _ => true
  | _ => false
def lexQ1 (ops : Array Oper) : Bool := lexQ ops && !(ops.toList.any fun o => mayWrite P o.op)
/-- A row of constants that is laid anew, or a variable that is made: it may be laid before its turn comes. -/
def allocB (o : Oper) : Bool := match o.guard, o.dst, o.op with
  | none, some _, .buildSlice t n ps => match partsOf .e ps.toList with
    | some pv => (vbuildSlice P ⟨0, .e, 0⟩ t n pv).isSome
    | none => false
  | none, some _, .alloc t => match zeroOf P t, sizeB P t with
    | some z, some n => (valloc ⟨0, .e, 0⟩ z n).isSome
    | _, _ => false
  | _, _, _ => false
def allocAt (ops : Array Oper) (i : Nat) : Bool := match ops[i]? with
  | some o => allocB P o
  | none => false
/-- What may have come up: all that is listed, and every such row but i. -/
def mayL (ops : Array Oper) (listed : Array Bool) (i : Nat) : Array Bool := ((List.range ops.size).map fun j => listed.getD j true || (allocAt P ops j && !(Nat.beq j i))).toArray
def pickP (ops : Array Oper) (l : List Nat) : Option Nat := match l.find? (fun i => !allocAt P ops i) with
  | some i => some i
  | none => l.head?
def planP (ops : Array Oper) : Nat → Array Bool → Option (List (Nat × Oper))
  | 0, listed => match (List.range ops.size).all fun j => listed.getD j false with
    | true => some []
    | false => none
  | f + 1, listed => match (Region.ready .any ops listed).find? (clsAt ops) with
    | some i => match Region.free .any ops listed i, ops[i]? with
      | true, some o => match planP ops f (listed.setIfInBounds i true) with
        | some l => some ((i, o) :: l)
        | none => none
      | _, _ => none
    | none => match pickP P ops (Region.ready .any ops listed) with
      | some i => match (Region.ready .any ops listed).contains i && (Region.ready .any ops (mayL P ops listed i)).all (fun j => Nat.beq j i || allocAt P ops j), ops[i]? with
        | true, some o => match planP ops f (listed.setIfInBounds i true) with
          | some l => some ((i, o) :: l)
          | none => none
        | _, _ => none
      | none => none
def penOK (ops : Array Oper) : Bool := (List.range ops.size).all fun p => !allocAt P ops p || (List.range ops.size).all fun j => Nat.beq j p || match ops[p]?, ops[j]? with
  | some x, some y => (Region.waitsFor .any ops j p || x.apart ops y) && (!allocAt P ops j || decide (x.dst ≠ y.dst))
  | _, _ => false
def planOf (ops : Array Oper) : Option (List (Nat × Oper)) := match Region.noSelect ops with
  | true => match planGo ops ops.size (Array.replicate ops.size false) with
    | some l => some l
    | none => cond (penOK P ops) (planP P ops ops.size (Array.replicate ops.size false)) none
  | false => none

def same1 : V → V → Bool
  | .b x, .b y => cond x y (!y)
  | .i k n, .i k' m => decide (k = k') && decide (n = m)
  | .s l x, .s m y => Nat.beq l m && Nat.beq x y
  | .p g o, .p g' o' => Nat.beq g g' && Nat.beq o o'
  | .pn, .pn | .sn, .sn | .fz, .fz | .nz, .nz => true
  | .sl g o l c op, .sl g' o' l' c' op' => Nat.beq g g' && Nat.beq o o' && Nat.beq l l' && Nat.beq c c' && cond op op' (!op')
  | .se g o q, .se g' o' q' => Nat.beq g g' && Nat.beq o o' && Nat.beq q q'
  | .sy g o q, .sy g' o' q' => Nat.beq g g' && Nat.beq o o' && Nat.beq q q'
  | .ze a, .ze b => decide (a = b)
  | _, _ => false
def sameL : List V → List V → Bool
  | [], [] => true
  | x :: xs, y :: ys => same1 x y && sameL xs ys
  | _, _ => false
def sameV : V → V → Bool
  | .a xs, .a ys => sameL xs ys
  | x, y => same1 x y

/-- A load that was carried out: where, and what it read. -/
structure Ent where
  x : Nat
  t : TypeId
  id : Nat
  off : Nat
  v : V
/-- An operation waits for another, or for one that waits for it. -/
def _root_.Go.Region.waitsT (md : Region.Mode) (ops : Array Oper) (i x : Nat) : Bool := match Region.waitsFor md ops i x with
  | true => true
  | false => match ops[i]? with
    | some o => o.after.any fun d => Region.binds md d && Region.waitsFor md ops d.on x
    | none => false
/-- Loads that need not have come before this operation. -/
def aliveE (ops : Array Oper) (i : Nat) : List Ent → List Ent
  | [] => []
  | e :: r => match Region.waitsT .any ops i e.x with
    | true => aliveE ops i r
    | false => e :: aliveE ops i r
def keepB (st : St) : List Ent → Bool
  | [] => true
  | e :: r => match vload P st e.t e.id e.off with
    | some v => cond (sameV v e.v) (keepB st r) false
    | none => false

def runO (ro nt : Nat) (call : CallF) (ops : Array Oper) : List (Nat × Oper) → List Ent → T V → St → Option (T V × St)
  | [], _, fr, st => some (fr, st)
  | (i, o) :: r, es, fr, st => match vwanted ops fr o with
    | some true => match opCls o.op with
      | 0 => match vop P ro call fr ⟨st.nx, .e, 0⟩ o.op with
        | some (v, _) => match vput nt fr o.dst v with
          | some fr => runO ro nt call ops r es fr st
          | none => none
        | none => none
      | 1 => match o.op with
        | .load t x => match opnd fr x with
          | some (.p id off) => match vload P st t id off with
            | some v => match vput nt fr o.dst (some v) with
              | some fr => runO ro nt call ops r (⟨i, t, id, off, v⟩ :: es) fr st
              | none => none
            | none => none
          | _ => none
        | _ => none
      | _ => match vop P ro call fr ⟨st.nx, st.hp, st.nx⟩ o.op with
        | some (v, st') => match Nat.ble st.nx st'.ver || keepB P st' (aliveE ops i es) with
          | true => match vput nt fr o.dst v with
            | some fr => natF (low st.ver st'.ver) fun ver => runO ro nt call ops r (aliveE ops i es) fr ⟨st'.nx, st'.hp, ver⟩
            | none => none
          | false => none
        | none => none
    | some false => match vput nt fr o.dst none with
      | some fr => runO ro nt call ops r es fr st
      | none => none
    | none => none

/-! ### Two stores at the end of a region, in either order -/

def isStoreB (o : Oper) : Bool := match o.guard, o.dst, o.op with
  | none, none, .store _ _ _ => true
  | _, _, _ => false
def nilB {α : Type} : List α → Bool
  | [] => true
  | _ :: _ => false
def sameN : List Nat → List Nat → Bool
  | [], [] => true
  | x :: r, y :: s => Nat.beq x y && sameN r s
  | _, _ => false
/-- All loads come before this operation. -/
def waitsAll (ops : Array Oper) (i : Nat) : Bool := (List.range ops.size).all fun j => match ops[j]? with
  | some o => !(Nat.beq (opCls o.op) 1) || Region.waitsT .any ops i j
  | none => true
def endB (ops : Array Oper) (listed : Array Bool) (i j : Nat) : Bool :=
  sameN (Region.ready .any ops (listed.setIfInBounds i true)) [j] && sameN (Region.ready .any ops (listed.setIfInBounds j true)) [i] &&
  nilB (Region.ready .any ops ((listed.setIfInBounds i true).setIfInBounds j true)) && nilB (Region.ready .any ops ((listed.setIfInBounds j true).setIfInBounds i true)) &&
  waitsAll ops i && waitsAll ops j
/-- The plan up to where more than one may come; how much is left, and what has come. -/
def planStop (ops : Array Oper) : Nat → Array Bool → Option (List (Nat × Oper) × Nat × Array Bool)
  | 0, listed => some ([], 0, listed)
  | f + 1, listed => match (Region.ready .any ops listed).find? (clsAt ops) with
    | some i => match Region.free .any ops listed i, ops[i]? with
      | true, some o => match planStop ops f (listed.setIfInBounds i true) with
        | some (l, r) => some ((i, o) :: l, r)
        | none => none
      | _, _ => none
    | none => match Region.ready .any ops listed with
      | [i] => match ops[i]? with
        | some o => match planStop ops f (listed.setIfInBounds i true) with
          | some (l, r) => some ((i, o) :: l, r)
          | none => none
        | none => none
      | _ => some ([], f + 1, listed)
/-- A region that ends in two stores of open order. -/
def planPair (ops : Array Oper) : Option (List (Nat × Oper) × Oper × Oper) := match Region.noSelect ops with
  | true => match planStop ops ops.size (Array.replicate ops.size false) with
    | some (l, _ + 2, listed) => match Region.ready .any ops listed with
      | [i, j] => match ops[i]?, ops[j]? with
        | some o, some q => cond (isStoreB o && isStoreB q && endB ops listed i j) (some (l, o, q)) none
        | _, _ => none
      | _ => none
    | _ => none
  | false => none
/-- Two stores, at different blocks. -/
def runPair (ro : Nat) (o q : Oper) (fr : T V) (st : St) : Option St := match o.op, q.op with
  | .store t x v, .store t' y u => match opnd fr x, opnd fr v, opnd fr y, opnd fr u with
    | some (.p g a), some v, some (.p g' a'), some u => cond (Nat.beq g g') none (match vstore P ro st t g a v with
      | some st => vstore P ro st t' g' a' u
      | none => none)
    | _, _, _, _ => none
  | _, _ => none

/-! ### x.F = append(x.F, v), in either of two ways -/

/-- A truth value. -/
def boolTy (t : TypeId) : Bool := match P.underlying t, zeroOf P t, P.info? t with
  | some .bool, some (.b false), some ti => Nat.beq ti.size 1
  | _, _, _ => false
/-- The first comes first, the fourth last. -/
def orders4 (ops : Array Oper) : Bool :=
  sameN (Region.ready .any ops (Array.replicate ops.size false)) [0] && sameN (Region.ready .any ops ((Array.replicate ops.size false).setIfInBounds 0 true)) [1, 2] &&
  sameN (Region.ready .any ops (((Array.replicate ops.size false).setIfInBounds 0 true).setIfInBounds 1 true)) [2] && sameN (Region.ready .any ops (((Array.replicate ops.size false).setIfInBounds 0 true).setIfInBounds 2 true)) [1] &&
  sameN (Region.ready .any ops ((((Array.replicate ops.size false).setIfInBounds 0 true).setIfInBounds 1 true).setIfInBounds 2 true)) [3] && sameN (Region.ready .any ops ((((Array.replicate ops.size false).setIfInBounds 0 true).setIfInBounds 2 true).setIfInBounds 1 true)) [3] &&
  sameN (Region.ready .any ops (((((Array.replicate ops.size false).setIfInBounds 0 true).setIfInBounds 1 true).setIfInBounds 2 true).setIfInBounds 3 true)) [] && sameN (Region.ready .any ops (((((Array.replicate ops.size false).setIfInBounds 0 true).setIfInBounds 2 true).setIfInBounds 1 true).setIfInBounds 3 true)) []
/-- A choice in memory: a variable, two stores, a load. -/
def flagR (nt : Nat) (ops : Array Oper) : Option (Nat × Nat) := match ops.toList with
  | [o1, o2, o3, o4] => match o1.guard, o1.dst, o1.op, o2.guard, o2.dst, o2.op, o3.guard, o3.dst, o3.op, o4.guard, o4.dst, o4.op with
    | none, some p, .alloc t1, none, none, .store t2 (.tmp p2) (.const (.bool true)), none, none, .store t3 (.tmp p3) (.const (.bool false)), none, some f, .load t4 (.tmp p4) =>
      cond ((decide (t2 = t1) && decide (t3 = t1) && decide (t4 = t1)) && (Nat.beq p2 p && Nat.beq p3 p && Nat.beq p4 p && !(Nat.beq p f)) && boolTy P t1 && orders4 ops && Nat.blt p nt && Nat.blt f nt) (some (p, f)) none
    | _, _, _, _, _, _, _, _, _, _, _, _ => none
  | _ => none

structure TailI where
  pre : List (Nat × Oper)
  i1 : Nat
  o1 : Oper
  i2 : Nat
  o2 : Oper
  ad : List (Nat × Oper)
  i3 : Nat
  o3 : Oper
  z : Nat
  r : Nat
  tl : TypeId
  ps : Array (Nat × Operand)
  cur : Operand
  t : TypeId
  x : Operand
def clsL (x : Nat × Oper) : Bool := Nat.ble (opCls x.2.op) 1
def cls0 (r : Nat) (x : Nat × Oper) : Bool := Nat.beq (opCls x.2.op) 0 && !(match x.2.dst with | some d => Nat.beq d r | none => false)
/-- Loads, a row of one, append, addresses, a store. -/
def tailOf (l : List (Nat × Oper)) : Option TailI := match l.dropWhile clsL with
  | (i1, o1) :: (i2, o2) :: rest => match rest.getLast? with
    | some (i3, o3) => match o1.guard, o1.dst, o1.op, o2.guard, o2.dst, o2.op, o3.guard, o3.dst, o3.op with
      | none, some z, .buildSlice tl 1 ps, none, some r, .call ⟨.builtin .append, args, tys⟩, none, none, .store t x (.tmp r') => match args.toList, tys.toList with
        | [cur, .tmp z'], [u1, u2] => cond (Nat.beq z z' && Nat.beq r r' && decide (u1 = tl) && decide (u2 = tl) && rest.dropLast.all (cls0 r)) (some ⟨l.takeWhile clsL, i1, o1, i2, o2, rest.dropLast, i3, o3, z, r, tl, ps, cur, t, x⟩) none
        | _, _ => none
      | _, _, _, _, _, _, _, _, _ => none
    | none => none
  | _ => none
/-- The element is laid: where, and what. -/
structure ElemI where
  e : Nat
  tl : TypeId
  r : Nat
  ix : Operand
  te : TypeId
  v : Operand
def notTmp (e : Nat) : Operand → Bool
  | .tmp q => !(Nat.beq q e)
  | _ => true
def elemOf (ops : Array Oper) : Option ElemI := match ops.toList with
  | [o1, o2] => match o1.guard, o1.dst, o1.op, o2.guard, o2.dst, o2.op with
    | none, some e, .indexAddr tl (.tmp r) ix, none, none, .store te (.tmp e') v => cond (Nat.beq e e' && notTmp e v) (some ⟨e, tl, r, ix, te, v⟩) none
    | _, _, _, _, _, _ => none
  | _ => none
structure FlagI where
  p : Nat
  f : Nat
  opsA : Array Oper
  opsE : Array Oper
  opsB : Array Oper
  lA : List (Nat × Oper)
  lB : List (Nat × Oper)
  tA : TailI
  tB : TailI
  eI : ElemI
  dead : List Nat
def dstsOf (ops : Array Oper) : List Nat := ops.toList.filterMap fun o => o.dst
def flagOf (nt : Nat) (a b : Code) : Option FlagI := match a, b with
  | .region _ ops1 true, .cond (.tmp f) (.seq (.region _ opsA true) (.region _ opsE false)) (.region _ opsB true) => match flagR P nt ops1, planOf P opsA, planOf P opsB, elemOf opsE with
    | some (p, f'), some lA, some lB, some eI => match tailOf lA, tailOf lB with
      | some tA, some tB => cond (Nat.beq f f' && decide (tA.tl = tB.tl) && decide (tA.t = tB.t) && decide (eI.tl = tA.tl) && Nat.beq eI.r tA.r)
        (some ⟨p, f, opsA, opsE, opsB, lA, lB, tA, tB, eI, p :: f :: ((lA.filterMap fun x => x.2.dst) ++ dstsOf opsE ++ lB.filterMap fun x => x.2.dst)⟩) none
      | _, _ => none
    | _, _, _, _ => none
  | _, _ => none
def eraseL : List Nat → T V → T V
  | [], fr => fr
  | t :: r, fr => eraseL r (fr.upd t none)
def elemSz (tl : TypeId) : Nat := match P.underlying tl with
  | some (.slice e) => match sizeB P e with | some n => n | none => 0
  | _ => 0
def sameO : Option V → Option V → Bool
  | some x, some y => same1 x y
  | _, _ => false
/-- The values at which both ways agree. -/
def flagChk (ro nt : Nat) (call : CallF) (F : FlagI) (fr : T V) (st : St) (frA frB : T V) : Bool :=
  match runO P ro nt call F.opsA (F.tA.pre ++ [(F.tA.i1, F.tA.o1)]) [] fr st, runO P ro nt call F.opsB (F.tB.pre ++ [(F.tB.i1, F.tB.o1)]) [] fr st with
  | some (fA, _), some (fB, sB) => sameO (opnd fA F.tA.cur) (opnd fB F.tB.cur) && sameO (opnd frA F.tA.x) (opnd frB F.tB.x) &&
    (match opnd fB F.tB.cur, opnd frA F.eI.ix, opnd frA F.eI.v, opnd frB F.tB.x, opnd frB (.tmp F.tB.r) with
    | some c, some (.i _ n), some v, some (.p g _), some (.sl gr _ _ _ _) => (match vlen c, sB.hp.get st.nx with
      | some len, some b => decide (n = .ofNat len) && (match b.row (elemSz P F.tB.tl) 0 with | some cs => sameL cs v.cells | none => false)
      | _, _ => false) && (match c with | .sl id _ _ _ _ => Nat.blt id st.nx | _ => true) && !(Nat.beq g gr) && !(Nat.beq g st.nx) && !(Nat.beq gr st.nx)
    | _, _, _, _, _ => false)
  | _, _ => false
def flagSt (ro nt : Nat) (call : CallF) (F : FlagI) (fr : T V) (st : St) : Option St :=
  match runO P ro nt call F.opsA F.lA [] fr st, runO P ro nt call F.opsB F.lB [] fr st with
  | some (frA, stA), some (frB, stB) => match vops P ro nt call F.opsE F.opsE.toList frA stA with
    | some (_, stE) => cond (flagChk P ro nt call F fr st frA frB && Nat.beq stE.nx stB.nx) (some ⟨stB.nx, stB.hp.upd st.nx none, low (low stB.ver stE.ver) st.nx⟩) none
    | none => none
  | _, _ => none

def evC (ov : Ov) (ro : Nat) : Nat → Nat → RunF
  | 0, _, _, _, _ => none
  | n + 1, nt, c, fr, st => match c with
    | .skip | .label _ => some (.nrm, fr, st)
    | .region _ ops draw => match draw with
      | false => match vops P ro nt (callGo P ov (evC ov ro n)) ops ops.toList fr st with
        | some (fr, st) => some (.nrm, fr, st)
        | none => none
      | true => match lexQ1 P ops with
        | true => match vopsQ P ro nt (callGo P ov (evC ov ro n)) ops ops.toList fr st with
          | some fr => some (.nrm, fr, st)
          | none => none
        | false => match tailB ops with
          | true => match vopsQ P ro nt (callGo P ov (evC ov ro n)) ops (ops.toList.take (ops.size - 1)) fr st with
            | some fr => match vops P ro nt (callGo P ov (evC ov ro n)) ops (ops.toList.drop (ops.size - 1)) fr st with
              | some (fr, st) => some (.nrm, fr, st)
              | none => none
            | none => none
          | false => match planOf P ops with
            | some pl => match runO P ro nt (callGo P ov (evC ov ro n)) ops pl [] fr st with
              | some (fr, st) => some (.nrm, fr, st)
              | none => none
            | none => match lexQ ops with
              | true => match vopsQ P ro nt (callGo P ov (evC ov ro n)) ops ops.toList fr st with
                | some fr => some (.nrm, fr, st)
                | none => none
              | false => match planPair ops with
                | some (l, o, q) => match runO P ro nt (callGo P ov (evC ov ro n)) ops l [] fr st with
                  | some (fr, st) => match runPair P ro o q fr st with
                    | some st => some (.nrm, fr, st)
                    | none => none
                  | none => none
                | none => none
    | .seq a b => match flagOf P nt a b with
      | some F => match flagSt P ro nt (callGo P ov (evC ov ro n)) F (eraseL [F.p, F.f] fr) ⟨st.nx + 1, st.hp, st.ver⟩ with
        | some st => some (.nrm, eraseL F.dead fr, st)
        | none => none
      | none => match evC ov ro n nt a fr st with
        | some (.nrm, fr, st) => evC ov ro n nt b fr st
        | r => r
    | .cond c a b => match opnd fr c with
      | some (.b true) => evC ov ro n nt a fr st
      | some (.b false) => evC ov ro n nt b fr st
      | _ => none
    | .block id b => match evC ov ro n nt b fr st with
      | some (.exit id', fr, st) => cond (Nat.beq id' id) (some (.nrm, fr, st)) (some (.exit id', fr, st))
      | r => r
    | .loop b => loopGo (evC ov ro n nt b) n fr st
    | .exit id => some (.exit id, fr, st)
    | .goto l => some (.goto l, fr, st)
    | .scope b => scopeGo (evC ov ro n nt) b n b fr st
    | .ret => some (.ret, fr, st)
    | _ => none

def evF (ov : Ov) (ro n : Nat) (f : FuncId) (args : List V) (st : St) : Option (V × St) := callGo P ov (evC P ov ro n) f args st
def noOv : Ov := fun _ _ _ => none

end

/-- Package-level variables and what they hold. -/
def globs : List (Nat × List V) → T Blk
  | [] => .e
  | (g, cs) :: r => match blkOf cs 1 false with
    | some b => (globs r).upd g (some b)
    | none => globs r
def st0 (gs : List (Nat × List V)) : St := ⟨GL, globs gs, GL⟩
/-- A function answers true, from the memory that holds the package-level variables alone. -/
def answersTrue (P : Program) (ov : Ov) (gs : List (Nat × List V)) (n : Nat) (f : FuncId) (args : List V) : Bool :=
  match evF P ov GL n f args (st0 gs) with
  | some (.b x, _) => x
  | _ => false
end Go.Vm
namespace Go.Vm

/-! ### Trees -/

theorem T.get_mkL {α : Type} (v : Option α) (r t : T α) (k : Nat) : (T.mkL v r t).get k = (T.n t v r).get k := by cases t <;> rfl
theorem T.get_mkR {α : Type} (l : T α) (v : Option α) (t : T α) (k : Nat) : (T.mkR l v t).get k = (T.n l v t).get k := by cases t <;> rfl
theorem T.get_e {α : Type} (k : Nat) : (T.e : T α).get k = none := rfl
theorem T.get_n {α : Type} (l r : T α) (v : Option α) (k : Nat) : (T.n l v r).get k = match k with
    | 0 => v
    | m + 1 => cond (Nat.beq (m % 2) 0) (l.get (m / 2)) (r.get (m / 2)) := rfl

theorem T.get_go {α : Type} (x : Option α) : ∀ (f : Nat) (t : T α) (i k : Nat), i < f → (T.go x f t i).get k = if k = i then x else t.get k := by
  intro f
  induction f with
  | zero => intro t i k h; omega
  | succ f ih =>
    intro t i k h
    cases i with
    | zero =>
      cases t <;> cases k <;> simp [T.go, T.get_n, T.get_e]
    | succ m =>
      have hm : m / 2 < f := by omega
      have key : ∀ (l r : T α) (v : Option α), (cond (Nat.beq (m % 2) 0) (T.mkL v r (T.go x f l (m / 2))) (T.mkR l v (T.go x f r (m / 2)))).get k = if k = m + 1 then x else (T.n l v r).get k := by
        intro l r v
        by_cases hp : m % 2 = 0
        · have hb : Nat.beq (m % 2) 0 = true := by rw [Nat.beq_eq]; exact hp
          simp only [hb, cond_true, T.get_mkL]
          cases k with
          | zero => simp [T.get_n]
          | succ j =>
            simp only [T.get_n]
            by_cases hj : j % 2 = 0
            · have hb' : Nat.beq (j % 2) 0 = true := by rw [Nat.beq_eq]; exact hj
              simp only [hb', cond_true, ih l (m / 2) (j / 2) hm]
              by_cases e : j = m
              · subst e; simp
              · have : ¬ (j / 2 = m / 2) := by omega
                have : ¬ (j + 1 = m + 1) := by omega
                simp [*]
            · have hb' : Nat.beq (j % 2) 0 = false := by rw [Bool.eq_false_iff]; intro h; rw [Nat.beq_eq] at h; exact hj h
              have : ¬ j = m := by omega
              simp [hb', this]
        · have hb : Nat.beq (m % 2) 0 = false := by rw [Bool.eq_false_iff]; intro h; rw [Nat.beq_eq] at h; exact hp h
          simp only [hb, cond_false, T.get_mkR]
          cases k with
          | zero => simp [T.get_n]
          | succ j =>
            simp only [T.get_n]
            by_cases hj : j % 2 = 0
            · have hb' : Nat.beq (j % 2) 0 = true := by rw [Nat.beq_eq]; exact hj
              have : ¬ j = m := by omega
              simp [hb', this]
            · have hb' : Nat.beq (j % 2) 0 = false := by rw [Bool.eq_false_iff]; intro h; rw [Nat.beq_eq] at h; exact hj h
              simp only [hb', cond_false, ih r (m / 2) (j / 2) hm]
              by_cases e : j = m
              · subst e; simp
              · have : ¬ (j / 2 = m / 2) := by omega
                have : ¬ (j + 1 = m + 1) := by omega
                simp [*]
      cases t with
      | e =>
        simp only [T.go]
        rw [key]
        cases k <;> simp [T.get_n, T.get_e]
      | n l v r =>
        simp only [T.go]
        rw [key]

theorem T.get_upd {α : Type} (t : T α) (i k : Nat) (x : Option α) : (t.upd i x).get k = if k = i then x else t.get k := T.get_go x (i + 1) t i k (Nat.lt_succ_self i)

/-! ### Forcing changes nothing -/

theorem natF_eq {R : Type} (n : Nat) (k : Nat → R) : natF n k = k n := by cases n <;> rfl
theorem intF_eq {R : Type} (n : Int) (k : Int → R) : intF n k = k n := by cases n <;> simp [intF, natF_eq]
theorem boolF_eq {R : Type} (n : Bool) (k : Bool → R) : boolF n k = k n := by cases n <;> rfl
theorem kindF_eq {R : Type} (n : IntKind) (k : IntKind → R) : kindF n k = k n := by cases n <;> rfl
theorem V.force_eq {R : Type} (v : V) (k : V → R) : v.force k = k v := by cases v <;> simp [V.force, natF_eq, intF_eq, boolF_eq, kindF_eq]

/-! ### Strings -/

theorem packL_lt (l : List UInt8) : packL l < 256 ^ l.length := by
  induction l with
  | nil => simp [packL]
  | cons c r ih =>
    have hc := c.toNat_lt
    simp only [packL, List.length_cons, Nat.pow_succ]
    have : 256 * packL r + 256 ≤ 256 * 256 ^ r.length := by
      have := Nat.mul_le_mul_left 256 (Nat.succ_le_of_lt ih)
      simpa [Nat.mul_add] using this
    omega
theorem length_unpackL (n x : Nat) : (unpackL n x).length = n := by
  induction n generalizing x with
  | zero => rfl
  | succ n ih => simp [unpackL, ih]
theorem unpackL_packL (l : List UInt8) : unpackL l.length (packL l) = l := by
  induction l with
  | nil => rfl
  | cons c r ih =>
    have hc := c.toNat_lt
    have h1 : (c.toNat + 256 * packL r) % 256 = c.toNat := by omega
    have h2 : (c.toNat + 256 * packL r) / 256 = packL r := by omega
    simp only [packL, List.length_cons, unpackL, h1, h2, ih]
    simp
theorem packL_unpackL (n x : Nat) (h : x < 256 ^ n) : packL (unpackL n x) = x := by
  induction n generalizing x with
  | zero => simp at h; simp [unpackL, packL, h]
  | succ n ih =>
    have : x / 256 < 256 ^ n := by rw [Nat.pow_succ] at h; omega
    simp only [unpackL, packL, ih _ this]
    have : (UInt8.ofNat (x % 256)).toNat = x % 256 := by simp
    rw [this]; omega
theorem unpackL_app (l m x y : Nat) (h : x < 256 ^ l) : unpackL (l + m) (x + 256 ^ l * y) = unpackL l x ++ unpackL m y := by
  induction l generalizing x with
  | zero => simp at h; subst h; simp [unpackL]
  | succ l ih =>
    have e : 256 ^ (l + 1) * y = 256 * (256 ^ l * y) := by rw [Nat.pow_succ, Nat.mul_comm (256 ^ l) 256, Nat.mul_assoc]
    have h1 : (x + 256 ^ (l + 1) * y) % 256 = x % 256 := by rw [e]; omega
    have h2 : (x + 256 ^ (l + 1) * y) / 256 = x / 256 + 256 ^ l * y := by rw [e]; omega
    have h3 : x / 256 < 256 ^ l := by rw [Nat.pow_succ] at h; omega
    rw [show l + 1 + m = (l + m) + 1 from by omega]
    simp only [unpackL, h1, h2, ih _ h3, List.cons_append]
theorem app_lt (l m x y : Nat) (h : x < 256 ^ l) (h' : y < 256 ^ m) : x + 256 ^ l * y < 256 ^ (l + m) := by
  rw [Nat.pow_add]
  calc x + 256 ^ l * y < 256 ^ l + 256 ^ l * y := by omega
    _ = 256 ^ l * (y + 1) := by rw [Nat.mul_add]; omega
    _ ≤ 256 ^ l * 256 ^ m := Nat.mul_le_mul_left _ h'
theorem unpackL_drop (n k x : Nat) : (unpackL (k + n) x).drop k = unpackL n (x / 256 ^ k) := by
  induction k generalizing x with
  | zero => simp
  | succ k ih =>
    rw [show k + 1 + n = (k + n) + 1 from by omega]
    simp only [unpackL, List.drop_succ_cons, ih]
    rw [Nat.div_div_eq_div_mul, Nat.pow_succ, Nat.mul_comm 256]
theorem unpackL_take (n k x : Nat) : (unpackL (n + k) x).take n = unpackL n x := by
  induction n generalizing x with
  | zero => simp [unpackL]
  | succ n ih =>
    rw [show n + 1 + k = (n + k) + 1 from by omega]
    simp only [unpackL, List.take_succ_cons, ih]
theorem unpackL_mod (n x : Nat) : unpackL n (x % 256 ^ n) = unpackL n x := by
  induction n generalizing x with
  | zero => rfl
  | succ n ih =>
    have h1 : x % 256 ^ (n + 1) % 256 = x % 256 := by
      rw [Nat.pow_succ, Nat.mul_comm]; exact Nat.mod_mul_right_mod x 256 (256 ^ n)
    have h2 : x % 256 ^ (n + 1) / 256 = x / 256 % 256 ^ n := by
      rw [Nat.pow_succ, Nat.mul_comm]; exact Nat.mod_mul_right_div_self x 256 (256 ^ n)
    simp only [unpackL, h1, h2, ih]
theorem unpackL_cut (n x lo hi : Nat) (h1 : lo ≤ hi) (h2 : hi ≤ n) : unpackL (hi - lo) (x / 256 ^ lo % 256 ^ (hi - lo)) = ((unpackL n x).drop lo).take (hi - lo) := by
  rw [unpackL_mod]
  have e : n = lo + ((hi - lo) + (n - hi)) := by omega
  rw [e, unpackL_drop, unpackL_take]
theorem unpackL_get (n x i : Nat) (h : i < n) : (unpackL n x)[i]? = some (UInt8.ofNat (byteAt x i)) := by
  induction n generalizing x i with
  | zero => omega
  | succ n ih =>
    cases i with
    | zero => simp [unpackL, byteAt]
    | succ i =>
      simp only [unpackL, List.getElem?_cons_succ, ih (x / 256) i (by omega), byteAt]
      rw [Nat.div_div_eq_div_mul, Nat.pow_succ, Nat.mul_comm 256]
theorem byteAt_lt (x i : Nat) : byteAt x i < 256 := Nat.mod_lt _ (by decide)
theorem unpackL_inj (l m x y : Nat) (hx : x < 256 ^ l) (hy : y < 256 ^ m) : (unpackL l x = unpackL m y) = (l = m ∧ x = y) := by
  apply propext
  constructor
  · intro h
    have h1 := congrArg List.length h
    rw [length_unpackL, length_unpackL] at h1
    have h2 := congrArg packL h
    rw [packL_unpackL _ _ hx, packL_unpackL _ _ hy] at h2
    exact ⟨h1, h2⟩
  · rintro ⟨rfl, rfl⟩; rfl
theorem unpackL_beq (l m x y : Nat) (hx : x < 256 ^ l) (hy : y < 256 ^ m) : (unpackL l x == unpackL m y) = (Nat.beq l m && Nat.beq x y) := by
  rw [Bool.eq_iff_iff]
  simp only [beq_iff_eq, Bool.and_eq_true, Nat.beq_eq]
  exact iff_of_eq (unpackL_inj l m x y hx hy)

/-! ### What a value stands for -/

/-- Where the blocks lie: block, first cell, further elements at the end. -/
structure Inj where
  nx : Nat
  m : Nat → Nat × Nat × Nat
  fix : ∀ g, g < GL → g < nx ∧ m g = (g, 0, 0)

mutual
def V.real (J : Inj) : V → Value
  | .b x => .bool x
  | .i k n => .int k n
  | .s l x => .string ⟨(unpackL l x).toArray⟩
  | .p g o => .pointer (some ⟨(J.m g).1, (J.m g).2.1 + o, none⟩)
  | .pn => .pointer none
  | .sl g o l c op => .slice (some ⟨(J.m g).1, (J.m g).2.1 + o, none⟩) l (c + cond op (J.m g).2.2 0)
  | .sn => .slice none 0 0
  | .se g o q => .slice (some ⟨(J.m g).1, (J.m g).2.1 + cond (Nat.beq (J.m g).2.2 0) o q, none⟩) 0 (J.m g).2.2
  | .ze x => .slice (some x) 0 0
  | .m g => .map (some (J.m g).1)
  | .mz => .map none
  | .sy g o q => .slice (some ⟨(J.m g).1, (J.m g).2.1 + cond (Nat.beq (J.m g).2.2 0) o q, none⟩) 0 0
  | .f fn xs ys => .func fn (V.reals J xs).toArray (V.reals J ys).toArray
  | .fz => .nilFunc
  | .nz => .nilIface
  | .a cs => .agg (V.reals J cs).toArray
  | .t vs => .tuple (V.reals J vs).toArray
def V.reals (J : Inj) : List V → List Value
  | [] => []
  | v :: r => V.real J v :: V.reals J r
end

mutual
/-- Its blocks are there, and its letters are bytes. -/
def V.ok (n : Nat) : V → Prop
  | .s l x => x < 256 ^ l
  | .p g _ => g < n
  | .sl g _ l c _ => g < n ∧ l ≤ c
  | .se g _ _ => g < n
  | .m g => g < n
  | .sy g _ _ => g < n
  | .f _ xs ys => V.oks n xs ∧ V.oks n ys
  | .a cs => V.oks n cs
  | .t vs => V.oks n vs
  | _ => True
def V.oks (n : Nat) : List V → Prop
  | [] => True
  | v :: r => V.ok n v ∧ V.oks n r
end

theorem V.reals_eq (J : Inj) (l : List V) : V.reals J l = l.map (V.real J) := by
  induction l with
  | nil => simp [V.reals]
  | cons v r ih => simp [V.reals, ih]
theorem V.oks_iff (n : Nat) (l : List V) : V.oks n l ↔ ∀ v ∈ l, V.ok n v := by
  induction l with
  | nil => simp [V.oks]
  | cons v r ih => simp [V.oks, ih]

structure Inj.le (J J' : Inj) : Prop where
  nx : J.nx ≤ J'.nx
  m : ∀ g, g < J.nx → J'.m g = J.m g
theorem Inj.le.refl (J : Inj) : J.le J := ⟨Nat.le_refl _, fun _ _ => rfl⟩
theorem Inj.le.trans {a b c : Inj} (h : a.le b) (k : b.le c) : a.le c := ⟨Nat.le_trans h.nx k.nx, fun g hg => (k.m g (Nat.lt_of_lt_of_le hg h.nx)).trans (h.m g hg)⟩

mutual
theorem V.real_le {J J' : Inj} (h : J.le J') : (v : V) → v.ok J.nx → v.real J' = v.real J
  | .b _, _ => rfl
  | .i _ _, _ => rfl
  | .s _ _, _ => rfl
  | .p g _, k => by simp only [V.ok] at k; simp only [V.real, h.m g k]
  | .pn, _ => rfl
  | .sl g _ _ _ _, k => by simp only [V.ok] at k; simp only [V.real, h.m g k.1]
  | .sn, _ => rfl
  | .se g _ _, k => by simp only [V.ok] at k; simp only [V.real, h.m g k]
  | .ze _, _ => rfl
  | .m g, k => by simp only [V.ok] at k; simp only [V.real, h.m g k]
  | .mz, _ => rfl
  | .sy g _ _, k => by simp only [V.ok] at k; simp only [V.real, h.m g k]
  | .f _ xs ys, k => by simp only [V.ok] at k; simp only [V.real, V.reals_le h xs k.1, V.reals_le h ys k.2]
  | .fz, _ => rfl
  | .nz, _ => rfl
  | .a cs, k => by simp only [V.ok] at k; simp only [V.real, V.reals_le h cs k]
  | .t vs, k => by simp only [V.ok] at k; simp only [V.real, V.reals_le h vs k]
theorem V.reals_le {J J' : Inj} (h : J.le J') : (l : List V) → V.oks J.nx l → V.reals J' l = V.reals J l
  | [], _ => rfl
  | v :: r, k => by simp only [V.oks] at k; simp only [V.reals, V.real_le h v k.1, V.reals_le h r k.2]
end
mutual
theorem V.ok_le {n m : Nat} (h : n ≤ m) : (v : V) → v.ok n → v.ok m
  | .b _, _ => by simp [V.ok]
  | .i _ _, _ => by simp [V.ok]
  | .s _ _, k => by simpa [V.ok] using k
  | .p g _, k => by simp only [V.ok] at k ⊢; omega
  | .pn, _ => by simp [V.ok]
  | .sl g _ _ _ _, k => by simp only [V.ok] at k ⊢; omega
  | .sn, _ => by simp [V.ok]
  | .se g _ _, k => by simp only [V.ok] at k ⊢; omega
  | .ze _, _ => by simp [V.ok]
  | .m g, k => by simp only [V.ok] at k ⊢; omega
  | .mz, _ => by simp [V.ok]
  | .sy g _ _, k => by simp only [V.ok] at k ⊢; omega
  | .f _ xs ys, k => by simp only [V.ok] at k ⊢; exact ⟨V.oks_le h xs k.1, V.oks_le h ys k.2⟩
  | .fz, _ => by simp [V.ok]
  | .nz, _ => by simp [V.ok]
  | .a cs, k => by simp only [V.ok] at k ⊢; exact V.oks_le h cs k
  | .t vs, k => by simp only [V.ok] at k ⊢; exact V.oks_le h vs k
theorem V.oks_le {n m : Nat} (h : n ≤ m) : (l : List V) → V.oks n l → V.oks m l
  | [], _ => by simp [V.oks]
  | v :: r, k => by simp only [V.oks] at k ⊢; exact ⟨V.ok_le h v k.1, V.oks_le h r k.2⟩
end

theorem V.real_plain (J J' : Inj) (v : V) (h : v.plain = true) : v.real J' = v.real J := by cases v <;> simp_all [V.plain, V.real]
theorem V.reals_plain (J J' : Inj) (l : List V) (h : l.all V.plain = true) : V.reals J' l = V.reals J l := by
  induction l with
  | nil => rfl
  | cons v r ih => simp only [List.all_cons, Bool.and_eq_true] at h; simp only [V.reals, V.real_plain J J' v h.1, ih h.2]
theorem V.real_plainT (J J' : Inj) (v : V) (h : v.plainT = true) : v.real J' = v.real J := by
  cases v with
  | a cs => simp only [V.real, V.reals_plain J J' cs (show cs.all V.plain = true from h)]
  | t cs => simp only [V.real, V.reals_plain J J' cs (show cs.all V.plain = true from h)]
  | _ => exact V.real_plain J J' _ h
theorem V.ok_plain (n m : Nat) (v : V) (h : v.plain = true) (k : v.ok n) : v.ok m := by cases v <;> simp_all [V.plain, V.ok]
theorem V.ok_plainT (n m : Nat) (v : V) (h : v.plainT = true) (k : v.ok n) : v.ok m := by
  have all : ∀ l : List V, l.all V.plain = true → V.oks n l → V.oks m l := by
    intro l h k
    rw [V.oks_iff] at k ⊢
    intro v hv
    rw [List.all_eq_true] at h
    exact V.ok_plain n m v (h v hv) (k v hv)
  cases v with
  | a cs => simp only [V.ok] at k ⊢; exact all cs (show cs.all V.plain = true from h) k
  | t cs => simp only [V.ok] at k ⊢; exact all cs (show cs.all V.plain = true from h) k
  | _ => exact V.ok_plain n m _ h k

theorem V.cells_real (J : Inj) (v : V) : (v.real J).cells = (v.cells.map (V.real J)).toArray := by
  cases v <;> simp [V.real, V.cells, Value.cells, V.reals_eq]
theorem V.oneCell_real (J : Inj) (v : V) (h : v.atom = true) : (v.real J).oneCell' = true := by
  cases v <;> simp_all [V.atom, V.real, Value.oneCell']
theorem V.ok_cells {n : Nat} {v : V} (h : v.ok n) : ∀ c ∈ v.cells, c.ok n := by
  cases v <;> simp_all [V.cells, V.ok, V.oks_iff]

end Go.Vm
namespace Go.Vm
open Go.RowKit

/-! ### Memory -/

/-- The blocks of the first world are as they were. -/
structure Old (B w : World) : Prop where
  size : B.heap.size ≤ w.heap.size
  block : ∀ i, i < B.heap.size → w.heap[i]? = B.heap[i]?
theorem Old.refl (B : World) : Old B B := ⟨Nat.le_refl _, fun _ _ => rfl⟩
theorem Old.below {B w w' : World} (h : Old B w) (k : Below B.heap.size w w') : Old B w' := ⟨Nat.le_trans h.size k.size, fun i hi => (k.block i hi).trans (h.block i hi)⟩

/-- One block, here and there. -/
def CR (J : Inj) (ro : Nat) (B : World) (g : Nat) (b : Blk) (w : World) : Prop :=
  ∃ c e fz, w.heap[(J.m g).1]? = some (.cells c e fz) ∧ (J.m g).2.1 + b.sz ≤ c.size ∧
    (b.op = true → (J.m g).2.1 + b.sz + (J.m g).2.2 * b.es = c.size ∧ b.zero = []) ∧
    (ro ≤ g → B.heap.size ≤ (J.m g).1 ∧ ∀ o, o < c.size + b.full.toNat → (decide (fz.1 ≤ o) && decide (o < fz.2)) = false ∧ fz.1 ≤ fz.2) ∧
    (∀ o v, b.get o = some v → v.ok J.nx ∧ v.atom = true ∧ c[(J.m g).2.1 + o]? = some (v.real J))

/-- A map, here and there. -/
def MR (J : Inj) (B : World) (g : Nat) (b : Blk) (es : List (V × V)) (w : World) : Prop :=
  b.sz = 0 ∧ B.heap.size ≤ (J.m g).1 ∧ (∃ ms ck, w.heap[(J.m g).1]? = some (.map ms ck) ∧ ms.toList.map (fun e => (e.key, e.val)) = es.map fun x => (x.1.real J, x.2.real J)) ∧ ∀ x ∈ es, x.1.ok J.nx ∧ x.2.ok J.nx
def BR (J : Inj) (ro : Nat) (B : World) (g : Nat) (b : Blk) (w : World) : Prop :=
  g < J.nx ∧ match b.mp with
    | none => CR J ro B g b w
    | some es => MR J B g b es w
theorem BR.cells {J : Inj} {ro g : Nat} {B : World} {b : Blk} {w : World} (h : BR J ro B g b w) (hm : b.mp = none) : g < J.nx ∧ CR J ro B g b w := by
  unfold BR at h
  rw [hm] at h
  exact h
theorem BR.of_cells {J : Inj} {ro g : Nat} {B : World} {b : Blk} {w : World} (hm : b.mp = none) (h : g < J.nx ∧ CR J ro B g b w) : BR J ro B g b w := by
  unfold BR
  rw [hm]
  exact h
theorem BR.mp0 {J : Inj} {ro g : Nat} {B : World} {b : Blk} {w : World} (h : BR J ro B g b w) {o : Nat} (ho : o < b.sz) : b.mp = none := by
  unfold BR at h
  cases hm : b.mp with
  | none => rfl
  | some es => rw [hm] at h; have := h.2.1; omega

theorem BR.mp_cells {J : Inj} {ro g : Nat} {B : World} {b : Blk} {w : World} (h : BR J ro B g b w) {c : Array Value} {e : TypeId} {fz : Nat × Nat} (hc : w.heap[(J.m g).1]? = some (.cells c e fz)) : b.mp = none := by
  unfold BR at h
  cases hm : b.mp with
  | none => rfl
  | some es => rw [hm] at h; obtain ⟨_, _, _, ⟨ms, ck, h3, _⟩, _⟩ := h; rw [h3] at hc; cases hc

structure HR (J : Inj) (ro : Nat) (B : World) (h : Nat → Option Blk) (w : World) : Prop where
  base : Old B w
  blk : ∀ g b, h g = some b → BR J ro B g b w
  inj : ∀ g g' b b', h g = some b → h g' = some b' → (J.m g).1 = (J.m g').1 → g = g'

/-- Memory that is the same but for draws. -/
theorem HR.congr {J : Inj} {ro : Nat} {B : World} {h : Nat → Option Blk} {w w' : World} (hh : HR J ro B h w) (e : w'.heap = w.heap) : HR J ro B h w' :=
  ⟨⟨by rw [e]; exact hh.base.size, by rw [e]; exact hh.base.block⟩, fun g b hg => by have := hh.blk g b hg; unfold BR CR MR at *; rw [e]; exact this, hh.inj⟩

theorem BR.lt {J : Inj} {ro g : Nat} {B : World} {b : Blk} {w : World} (h : BR J ro B g b w) : (J.m g).1 < w.heap.size := by
  have key : ∃ o, w.heap[(J.m g).1]? = some o := by
    unfold BR at h
    cases hm : b.mp with
    | none => rw [hm] at h; obtain ⟨_, c, e, fz, hc, _⟩ := h; exact ⟨_, hc⟩
    | some es => rw [hm] at h; obtain ⟨_, _, _, ⟨ms, ck, hc, _⟩, _⟩ := h; exact ⟨_, hc⟩
  obtain ⟨o, hc⟩ := key
  rcases Nat.lt_or_ge (J.m g).1 w.heap.size with h | h
  · exact h
  · rw [Array.getElem?_eq_none h] at hc; cases hc

theorem Blk.get_lt {b : Blk} {o : Nat} {v : V} (h : b.get o = some v) : o < b.sz := by
  unfold Blk.get at h
  cases e : Nat.blt o b.sz
  · rw [e] at h; simp at h
  · rw [Nat.blt_eq] at e; exact e

theorem BR.cell {J : Inj} {ro g : Nat} {B : World} {b : Blk} {w : World} (h : BR J ro B g b w) {o : Nat} {v : V} (hv : b.get o = some v) :
    w.cell? ⟨(J.m g).1, (J.m g).2.1 + o, none⟩ = some (v.real J) ∧ v.ok J.nx ∧ v.atom = true := by
  obtain ⟨_, c, e, fz, hc, _, _, _, h4⟩ := h.cells (h.mp0 (Blk.get_lt hv))
  obtain ⟨h1, h2, h3⟩ := h4 o v hv
  exact ⟨by simp [World.cell?, hc, h3], h1, h2⟩

theorem Blk.row_spec {b : Blk} : ∀ (n o : Nat) (cs : List V), b.row n o = some cs → cs.length = n ∧ ∀ j v, cs[j]? = some v → b.get (o + j) = some v
  | 0, o, cs, h => by simp only [Blk.row, Option.some.injEq] at h; subst h; simp
  | n + 1, o, cs, h => by
    simp only [Blk.row] at h
    cases hv : b.get o with
    | none => simp [hv] at h
    | some v =>
      cases hr : b.row n (o + 1) with
      | none => simp [hv, hr] at h
      | some r =>
        simp only [hv, hr, Option.some.injEq] at h
        subst h
        obtain ⟨h1, h2⟩ := Blk.row_spec n (o + 1) r hr
        refine ⟨by simp [h1], fun j x hj => ?_⟩
        cases j with
        | zero => simp only [List.getElem?_cons_zero, Option.some.injEq] at hj; subst hj; simpa using hv
        | succ j => simp only [List.getElem?_cons_succ] at hj; have := h2 j x hj; rw [show o + (j + 1) = o + 1 + j from by omega]; exact this

theorem BR.row {P : Program} {J : Inj} {ro g : Nat} {B : World} {b : Blk} {w : World} (h : BR J ro B g b w) {n o : Nat} {cs : List V} (hr : b.row n o = some cs) :
    (loadCells ⟨(J.m g).1, (J.m g).2.1 + o, none⟩ n).run P w = .ok (cs.map (V.real J)).toArray w ∧ cs.length = n ∧ (∀ v ∈ cs, v.ok J.nx) ∧ ∀ v ∈ cs, v.atom = true := by
  obtain ⟨h1, h2⟩ := Blk.row_spec n o cs hr
  have hc : ∀ j v, (cs.map (V.real J))[j]? = some v → w.cell? ((⟨(J.m g).1, (J.m g).2.1 + o, none⟩ : Addr).add j) = some v := by
    intro j v hj
    rw [List.getElem?_map] at hj
    cases hx : cs[j]? with
    | none => simp [hx] at hj
    | some x =>
      simp only [hx, Option.map_some, Option.some.injEq] at hj
      subst hj
      rw [Addr.add_lit, Nat.add_assoc]
      exact (h.cell (h2 j x hx)).1
  have := run_loadCells_list (P := P) (w := w) ⟨(J.m g).1, (J.m g).2.1 + o, none⟩ (cs.map (V.real J)) hc
  rw [List.length_map, h1] at this
  refine ⟨this, h1, fun v hv => ?_, fun v hv => ?_⟩
  · obtain ⟨j, hj⟩ := List.getElem?_of_mem hv
    exact (h.cell (h2 j v hj)).2.1
  · obtain ⟨j, hj⟩ := List.getElem?_of_mem hv
    exact (h.cell (h2 j v hj)).2.2

theorem Blk.get_set (b : Blk) (o k : Nat) (v : V) (ho : o < b.sz) : (b.set o v).get k = if k = o then some v else b.get k := by
  unfold Blk.get Blk.set
  dsimp only
  rw [T.get_upd]
  by_cases e : k = o
  · subst e; simp [show Nat.blt k b.sz = true from by rw [Nat.blt_eq]; exact ho]
  · simp [e]

/-- Cells that are written, one behind the other: the whole of it. -/
theorem Blk.put_spec : ∀ (vs : List V) (b b' : Blk) (o : Nat), b.put vs o = some b' →
    b'.sz = b.sz ∧ b'.es = b.es ∧ b'.op = b.op ∧ b'.zero = b.zero ∧ (∀ k, b'.get k = if o ≤ k ∧ k < o + vs.length then vs[k - o]? else b.get k) ∧ (∀ v ∈ vs, v.atom = true) ∧ (vs = [] ∨ o + vs.length ≤ b.sz)
  | [], b, b', o, h => by
    simp only [Blk.put, Option.some.injEq] at h
    subst h
    exact ⟨rfl, rfl, rfl, rfl, fun k => by rw [if_neg (by simp)], by simp, .inl rfl⟩
  | v :: r, b, b', o, h => by
    simp only [Blk.put, V.force_eq] at h
    cases hc : (Nat.blt o b.sz && v.atom) with
    | false => simp [hc] at h
    | true =>
      simp only [hc, cond_true] at h
      simp only [Bool.and_eq_true, Nat.blt_eq] at hc
      obtain ⟨h1, h2, h3, h4, h5, h6, h7⟩ := Blk.put_spec r (b.set o v) b' (o + 1) h
      refine ⟨h1, h2, h3, h4, fun k => ?_, fun x hx => ?_, .inr ?_⟩
      · rw [h5 k, Blk.get_set b o k v hc.1]
        by_cases e : k = o
        · subst e
          rw [if_neg (by omega), if_pos rfl, if_pos (by simp)]
          simp
        · by_cases e2 : o + 1 ≤ k ∧ k < o + 1 + r.length
          · rw [if_pos e2, if_pos (by simp; omega), show k - o = (k - (o + 1)) + 1 from by omega]
            simp
          · rw [if_neg e2, if_neg e, if_neg (by simp; omega)]
      · rcases List.mem_cons.1 hx with rfl | hx
        · exact hc.2
        · exact h6 x hx
      · rcases h7 with rfl | h7
        · simp; omega
        · have : (b.set o v).sz = b.sz := rfl
          rw [this] at h7; simp; omega

theorem Blk.put_mp : ∀ (vs : List V) (b b' : Blk) (o : Nat), b.put vs o = some b' → b'.mp = b.mp
  | [], b, b', o, h => by
    simp only [Blk.put, Option.some.injEq] at h
    subst h; rfl
  | v :: r, b, b', o, h => by
    simp only [Blk.put, V.force_eq] at h
    cases hc : (Nat.blt o b.sz && v.atom) with
    | false => simp [hc] at h
    | true =>
      simp only [hc, cond_true] at h
      exact Blk.put_mp r (b.set o v) b' (o + 1) h
theorem blkOf_mp {cs : List V} {es : Nat} {op : Bool} {b : Blk} (h : blkOf cs es op = some b) : b.mp = none := Blk.put_mp _ _ _ _ h
theorem blkOf_spec {cs : List V} {es : Nat} {op : Bool} {b : Blk} (h : blkOf cs es op = some b) :
    b.sz = cs.length ∧ b.es = es ∧ b.op = op ∧ b.zero = [] ∧ (∀ k : Nat, b.get k = cs[k]?) ∧ ∀ v ∈ cs, v.atom = true := by
  obtain ⟨h1, h2, h3, h4, h5, h6, _⟩ := Blk.put_spec _ _ _ _ h
  refine ⟨h1, h2, h3, h4, fun k => ?_, h6⟩
  rw [h5 k]
  by_cases e : k < cs.length
  · rw [if_pos (by omega)]; simp
  · rw [if_neg (by omega)]
    rw [List.getElem?_eq_none (by omega)]
    cases hg : (Blk.mk T.e [] cs.length es op none).get k with
    | none => rfl
    | some v => have := Blk.get_lt hg; dsimp only at this; omega

/-- One cell is written. -/
theorem HR.set {J : Inj} {ro : Nat} {B : World} {h : Nat → Option Blk} {w : World} (hh : HR J ro B h w) {g o : Nat} {b : Blk} {v : V} (hg : h g = some b) (hro : ro ≤ g) (ho : o < b.sz)
    (hv : v.ok J.nx) (ha : v.atom = true) :
    HR J ro B (fun k => if k = g then some (b.set o v) else h k) (w.setCell ⟨(J.m g).1, (J.m g).2.1 + o, none⟩ (v.real J)) := by
  have hm0 : b.mp = none := (hh.blk g b hg).mp0 ho
  obtain ⟨hlt, c, e, fz, hc, h1, h2, h3, h4⟩ := (hh.blk g b hg).cells hm0
  have hheap : ∀ k, k ≠ (J.m g).1 → (w.setCell ⟨(J.m g).1, (J.m g).2.1 + o, none⟩ (v.real J)).heap[k]? = w.heap[k]? := fun k hk => Below.heap_setCell _ _ _ _ hk
  have hself : (w.setCell ⟨(J.m g).1, (J.m g).2.1 + o, none⟩ (v.real J)).heap[(J.m g).1]? = some (.cells (c.setIfInBounds ((J.m g).2.1 + o) (v.real J)) e fz) := by
    simp only [World.setCell, Array.getElem?_modify, hc, if_true, Option.map_some]
    rfl
  refine ⟨hh.base.below ((Below.refl _ w).setCell (h3 hro).1 _), fun k bk hk => ?_, fun k k' bk bk' hk hk' heq => ?_⟩
  · by_cases hkg : k = g
    · subst hkg
      simp only [if_true, Option.some.injEq] at hk
      subst hk
      refine BR.of_cells (b := b.set o v) hm0 ⟨hlt, c.setIfInBounds ((J.m k).2.1 + o) (v.real J), e, fz, hself, by rw [Array.size_setIfInBounds]; exact h1, by rw [Array.size_setIfInBounds]; exact h2, by rw [Array.size_setIfInBounds]; exact h3, fun j x hx => ?_⟩
      rw [Blk.get_set b o j v ho] at hx
      by_cases hjo : j = o
      · subst hjo
        simp only [if_true, Option.some.injEq] at hx
        subst hx
        refine ⟨hv, ha, ?_⟩
        rw [Array.getElem?_setIfInBounds_self_of_lt (by omega)]
      · rw [if_neg hjo] at hx
        obtain ⟨q1, q2, q3⟩ := h4 j x hx
        exact ⟨q1, q2, by rw [Array.getElem?_setIfInBounds_ne (by omega)]; exact q3⟩
    · rw [if_neg hkg] at hk
      have hne : (J.m k).1 ≠ (J.m g).1 := fun e => hkg (hh.inj k g bk b hk hg e)
      have := hh.blk k bk hk
      unfold BR CR MR at *
      rw [hheap _ hne]
      exact this
  · have hex : ∀ q bq, (if q = g then some (b.set o v) else h q) = some bq → ∃ b', h q = some b' := by
      intro q bq hq
      by_cases e : q = g
      · subst e; exact ⟨b, hg⟩
      · rw [if_neg e] at hq; exact ⟨bq, hq⟩
    obtain ⟨b1, hb1⟩ := hex k bk hk
    obtain ⟨b2, hb2⟩ := hex k' bk' hk'
    exact hh.inj k k' b1 b2 hb1 hb2 heq

theorem ext_set {h : Nat → Option Blk} {g : Nat} (x y : Option Blk) : (fun k => if k = g then x else (fun k => if k = g then y else h k) k) = fun k => if k = g then x else h k := by
  funext k; by_cases e : k = g <;> simp [e]
theorem ext_same {h : Nat → Option Blk} {g : Nat} {b : Blk} (hg : h g = some b) : (fun k => if k = g then some b else h k) = h := by
  funext k; by_cases e : k = g <;> simp [e, hg]

/-- Cells are written, one behind the other. -/
theorem HR.put {P : Program} {J : Inj} {ro : Nat} {B : World} : ∀ (vs : List V) {h : Nat → Option Blk} {w : World} (_ : HR J ro B h w) {g o i : Nat} {b b' : Blk} (_ : h g = some b) (_ : ro ≤ g) (_ : b.put vs (o + i) = some b')
    (_ : ∀ v ∈ vs, v.ok J.nx), ∃ w', (storeCells ⟨(J.m g).1, (J.m g).2.1 + o, none⟩ (vs.map (V.real J)) i).run P w = .ok () w' ∧
      HR J ro B (fun k => if k = g then some b' else h k) w' ∧ Below B.heap.size w w' ∧ ∀ k, k ≠ (J.m g).1 → w'.heap[k]? = w.heap[k]?
  | [], h, w, hh, g, o, i, b, b', hg, hro, hp, hv => by
    simp only [Blk.put, Option.some.injEq] at hp
    subst hp
    exact ⟨w, rfl, by rw [ext_same hg]; exact hh, Below.refl _ _, fun _ _ => rfl⟩
  | v :: r, h, w, hh, g, o, i, b, b', hg, hro, hp, hv => by
    simp only [Blk.put, V.force_eq] at hp
    cases hc : (Nat.blt (o + i) b.sz && v.atom) with
    | false => simp [hc] at hp
    | true =>
      simp only [hc, cond_true] at hp
      simp only [Bool.and_eq_true, Nat.blt_eq] at hc
      obtain ⟨hlt, c, e, fz, hcell, h1, h2, h3, h4⟩ := (hh.blk g b hg).cells ((hh.blk g b hg).mp0 hc.1)
      obtain ⟨hB, hfz⟩ := h3 hro
      have hsome : ∃ u, w.cell? ⟨(J.m g).1, (J.m g).2.1 + o + i, none⟩ = some u := by
        have : (J.m g).2.1 + o + i < c.size := by omega
        exact ⟨c[(J.m g).2.1 + o + i], by simp [World.cell?, hcell, Array.getElem?_eq_getElem this]⟩
      obtain ⟨u, hu⟩ := hsome
      have hfr : w.frozen? ⟨(J.m g).1, (J.m g).2.1 + o + i, none⟩ = false := by
        have := hfz ((J.m g).2.1 + o + i) (by omega)
        simp only [World.frozen?, hcell]
        exact this.1
      have hs := hh.set hg hro hc.1 (hv v (List.mem_cons_self ..)) hc.2
      rw [← Nat.add_assoc] at hs
      have hb1 : (fun k => if k = g then some (b.set (o + i) v) else h k) g = some (b.set (o + i) v) := by simp
      obtain ⟨w', hr, hh', hbel, hko⟩ := HR.put (P := P) r hs (g := g) (o := o) (i := i + 1) (b := b.set (o + i) v) (b' := b') hb1 hro (by rw [← Nat.add_assoc]; exact hp) (fun x hx => hv x (List.mem_cons_of_mem _ hx))
      refine ⟨w', ?_, by rw [ext_set] at hh'; exact hh', (Below.setCell (Below.refl B.heap.size w) (p := ⟨(J.m g).1, (J.m g).2.1 + o + i, none⟩) hB (v.real J)).trans hbel, fun k hk => (hko k hk).trans (Below.heap_setCell _ _ _ _ hk)⟩
      rw [List.map_cons]
      unfold storeCells
      rw [Sem.run_bind, Addr.add_lit, run_store P w _ _ .plain (V.oneCell_real J v hc.2), hu]
      simp only [hfr, Bool.false_eq_true, if_false, Result.andThen_ok]
      exact hr

/-- A further block: where it lies, and what is behind it. -/
def Inj.push (J : Inj) (x : Nat × Nat × Nat) : Inj := ⟨J.nx + 1, fun g => if g = J.nx then x else J.m g, fun g hg => ⟨Nat.lt_succ_of_lt (J.fix g hg).1, by rw [if_neg (Nat.ne_of_lt (J.fix g hg).1)]; exact (J.fix g hg).2⟩⟩
theorem Inj.le_push (J : Inj) (x : Nat × Nat × Nat) : J.le (J.push x) := ⟨Nat.le_succ _, fun g hg => by simp [Inj.push]; intro h; omega⟩
theorem Inj.push_self (J : Inj) (x : Nat × Nat × Nat) : (J.push x).m J.nx = x := by simp [Inj.push]

/-- A block that is as it was, under names that go on. -/
theorem BR.carry {J J' : Inj} {ro g : Nat} {B : World} {b : Blk} {w w' : World} (hle : J.le J') (_ : ∀ x : Nat, x = x → x = x) (hold : w'.heap[(J.m g).1]? = w.heap[(J.m g).1]?) (h : BR J ro B g b w) : BR J' ro B g b w' := by
  have k0 := h.1
  have hm := hle.m g k0
  cases hq : b.mp with
  | none =>
    obtain ⟨_, c0, e0, f0, k1, k2, k3, k4, k5⟩ := h.cells hq
    refine BR.of_cells hq ⟨Nat.lt_of_lt_of_le k0 hle.nx, c0, e0, f0, ?_, ?_, ?_, ?_, ?_⟩
    · rw [hm, hold]; exact k1
    · rw [hm]; exact k2
    · rw [hm]; exact k3
    · rw [hm]; exact k4
    · rw [hm]
      intro o v hv
      obtain ⟨q1, q2, q3⟩ := k5 o v hv
      exact ⟨V.ok_le hle.nx v q1, q2, by rw [V.real_le hle v q1]; exact q3⟩
  | some es =>
    unfold BR at h ⊢
    rw [hq] at h ⊢
    obtain ⟨_, m1, m2, ⟨ms, ck, m3, m4⟩, m5⟩ := h
    refine ⟨Nat.lt_of_lt_of_le k0 hle.nx, m1, by rw [hm]; exact m2, ⟨ms, ck, by rw [hm, hold]; exact m3, ?_⟩, fun x hx => ⟨V.ok_le hle.nx _ (m5 x hx).1, V.ok_le hle.nx _ (m5 x hx).2⟩⟩
    rw [m4]
    refine List.map_congr_left fun x hx => ?_
    rw [V.real_le hle x.1 (m5 x hx).1, V.real_le hle x.2 (m5 x hx).2]

/-- A block of one's own, of any real form. -/
theorem HR.push {J : Inj} {ro : Nat} {B : World} {h : Nat → Option Blk} {w w' : World} (hh : HR J ro B h w) {b : Blk} (hm0 : b.mp = none) {r d x : Nat} {c : Array Value} {e : TypeId} {fz : Nat × Nat}
    (hold : ∀ g b, h g = some b → w'.heap[(J.m g).1]? = w.heap[(J.m g).1]?) (hsz : Old B w')
    (hnew : w'.heap[r]? = some (.cells c e fz)) (hB : B.heap.size ≤ r) (hfree : ∀ g b, h g = some b → (J.m g).1 ≠ r)
    (h1 : d + b.sz ≤ c.size) (h2 : b.op = true → d + b.sz + x * b.es = c.size ∧ b.zero = []) (h3 : ∀ o, o < c.size + b.full.toNat → (decide (fz.1 ≤ o) && decide (o < fz.2)) = false ∧ fz.1 ≤ fz.2)
    (h4 : ∀ o v, b.get o = some v → v.ok J.nx ∧ v.atom = true ∧ c[d + o]? = some (v.real J)) :
    HR (J.push (r, d, x)) ro B (fun k => if k = J.nx then some b else h k) w' := by
  have hle := J.le_push (r, d, x)
  refine ⟨hsz, fun g bg hg => ?_, fun g g' bg bg' hg hg' heq => ?_⟩
  · by_cases e1 : g = J.nx
    · subst e1
      simp only [if_true, Option.some.injEq] at hg
      subst hg
      refine BR.of_cells hm0 ⟨Nat.lt_succ_self _, c, e, fz, ?_, ?_, ?_, ?_, ?_⟩
      · rw [Inj.push_self]; exact hnew
      · rw [Inj.push_self]; exact h1
      · rw [Inj.push_self]; exact h2
      · rw [Inj.push_self]; exact fun _ => ⟨hB, h3⟩
      · rw [Inj.push_self]
        intro o v hv
        obtain ⟨q1, q2, q3⟩ := h4 o v hv
        exact ⟨V.ok_le (Nat.le_succ _) v q1, q2, by rw [V.real_le hle v q1]; exact q3⟩
    · rw [if_neg e1] at hg
      exact BR.carry hle (fun _ hx => hx) (hold g bg hg) (hh.blk g bg hg)
  · by_cases e1 : g = J.nx <;> by_cases e2 : g' = J.nx
    · rw [e1, e2]
    · exfalso
      rw [if_neg e2] at hg'
      have hm := hle.m g' (hh.blk g' bg' hg').1
      rw [e1, Inj.push_self, hm] at heq
      exact hfree g' bg' hg' heq.symm
    · exfalso
      rw [if_neg e1] at hg
      have hm := hle.m g (hh.blk g bg hg).1
      rw [e2, Inj.push_self, hm] at heq
      exact hfree g bg hg heq
    · rw [if_neg e1] at hg
      rw [if_neg e2] at hg'
      rw [hle.m g (hh.blk g bg hg).1, hle.m g' (hh.blk g' bg' hg').1] at heq
      exact hh.inj g g' bg bg' hg hg' heq

/-- A new block. -/
theorem HR.alloc {J : Inj} {ro : Nat} {B : World} {h : Nat → Option Blk} {w : World} (hh : HR J ro B h w) {b : Blk} {x : Nat} {c : Array Value} {e : TypeId} {fz : Nat × Nat}
    (hm0 : b.mp = none) (h1 : b.sz ≤ c.size) (h2 : b.op = true → b.sz + x * b.es = c.size ∧ b.zero = []) (h3 : ∀ o, o < c.size + b.full.toNat → (decide (fz.1 ≤ o) && decide (o < fz.2)) = false ∧ fz.1 ≤ fz.2)
    (h4 : ∀ o v, b.get o = some v → v.ok J.nx ∧ v.atom = true ∧ c[o]? = some (v.real J)) :
    HR (J.push (w.heap.size, 0, x)) ro B (fun k => if k = J.nx then some b else h k) (w.alloc (.cells c e fz)) := by
  refine hh.push hm0 (c := c) (e := e) (fz := fz) (fun g b hg => Below.heap_alloc _ _ _ (hh.blk g b hg).lt) (hh.base.below ((Below.refl _ w).alloc hh.base.size _)) ?_ hh.base.size (fun g b hg => Nat.ne_of_lt (hh.blk g b hg).lt) (by omega) (fun k => ⟨by have := (h2 k).1; omega, (h2 k).2⟩) h3 (fun o v hv => by simpa using h4 o v hv)
  show (w.heap.push _)[w.heap.size]? = _
  simp

/-- Blocks may be left out. -/
theorem HR.less {J : Inj} {ro : Nat} {B : World} {h h' : Nat → Option Blk} {w : World} (hh : HR J ro B h w) (hs : ∀ g b, h' g = some b → h g = some b) : HR J ro B h' w :=
  ⟨hh.base, fun g b hg => hh.blk g b (hs g b hg), fun g g' b b' hg hg' => hh.inj g g' b b' (hs g b hg) (hs g' b' hg')⟩

/-- What is there from before is there as it was. -/
theorem HR.back {J J' : Inj} {ro : Nat} {B : World} {h h' : Nat → Option Blk} {w w' : World} (hh : HR J ro B h w) (hh' : HR J' ro B h' w') (hle : J.le J') (hs : ∀ g b, h g = some b → h' g = some b) : HR J ro B h w' := by
  refine ⟨hh'.base, fun g b hg => ?_, hh.inj⟩
  have h1 := hh'.blk g b (hs g b hg)
  have h2 := hh.blk g b hg
  have l0 := h2.1
  have hm := hle.m g l0
  cases hq : b.mp with
  | none =>
    obtain ⟨k0, c0, e0, f0, k1, k2, k3, k4, k5⟩ := h1.cells hq
    obtain ⟨_, _, _, _, _, _, _, _, l5⟩ := h2.cells hq
    rw [hm] at k1 k2 k3 k4 k5
    refine BR.of_cells hq ⟨l0, c0, e0, f0, k1, k2, k3, k4, fun o v hv => ?_⟩
    obtain ⟨q1, q2, _⟩ := l5 o v hv
    obtain ⟨_, _, q3⟩ := k5 o v hv
    exact ⟨q1, q2, by rw [V.real_le hle v q1] at q3; exact q3⟩
  | some es =>
    unfold BR at h1 h2 ⊢
    rw [hq] at h1 h2 ⊢
    obtain ⟨_, m1, m2, ⟨ms, ck, m3, m4⟩, _⟩ := h1
    obtain ⟨_, _, _, _, n5⟩ := h2
    rw [hm] at m2 m3
    refine ⟨l0, m1, m2, ⟨ms, ck, m3, ?_⟩, n5⟩
    rw [m4]
    refine List.map_congr_left fun x hx => ?_
    rw [V.real_le hle x.1 (n5 x hx).1, V.real_le hle x.2 (n5 x hx).2]
end Go.Vm
namespace Go.Vm
open Go.RowKit

theorem mapO_spec {α β : Type} {f : α → Option β} : ∀ (l : List α) (r : List β), mapO f l = some r → r.length = l.length ∧ ∀ (i : Nat) (x : α), l[i]? = some x → ∃ y, r[i]? = some y ∧ f x = some y
  | [], r, h => by simp only [mapO, Option.some.injEq] at h; subst h; simp
  | x :: l, r, h => by
    simp only [mapO] at h
    cases h1 : f x with
    | none => simp [h1] at h
    | some y =>
      cases h2 : mapO f l with
      | none => simp [h1, h2] at h
      | some ys =>
        simp only [h1, h2, Option.some.injEq] at h
        subst h
        obtain ⟨q1, q2⟩ := mapO_spec l ys h2
        refine ⟨by simp [q1], fun i z hz => ?_⟩
        cases i with
        | zero => simp only [List.getElem?_cons_zero, Option.some.injEq] at hz; subst hz; exact ⟨y, by simp, h1⟩
        | succ i => simp only [List.getElem?_cons_succ] at hz; obtain ⟨y', a1, a2⟩ := q2 i z hz; exact ⟨y', by simpa using a1, a2⟩

theorem mapO_map {α β γ : Type} {f : α → Option β} {g : β → γ} {k : α → γ} (hk : ∀ x y, f x = some y → g y = k x) : ∀ (l : List α) (r : List β), mapO f l = some r → r.map g = l.map k
  | [], r, h => by simp only [mapO, Option.some.injEq] at h; subst h; simp
  | x :: l, r, h => by
    simp only [mapO] at h
    cases h1 : f x with
    | none => simp [h1] at h
    | some y =>
      cases h2 : mapO f l with
      | none => simp [h1, h2] at h
      | some ys =>
        simp only [h1, h2, Option.some.injEq] at h
        subst h
        simp [hk x y h1, mapO_map hk l ys h2]
theorem mapO_all {α β : Type} {f : α → Option β} {p : β → Prop} (hk : ∀ x y, f x = some y → p y) : ∀ (l : List α) (r : List β), mapO f l = some r → ∀ y ∈ r, p y
  | [], r, h => by simp only [mapO, Option.some.injEq] at h; subst h; simp
  | x :: l, r, h => by
    simp only [mapO] at h
    cases h1 : f x with
    | none => simp [h1] at h
    | some y =>
      cases h2 : mapO f l with
      | none => simp [h1, h2] at h
      | some ys =>
        simp only [h1, h2, Option.some.injEq] at h
        subst h
        intro z hz
        rcases List.mem_cons.1 hz with rfl | hz
        · exact hk x _ h1
        · exact mapO_all hk l ys h2 z hz

theorem V.str_real (J : Inj) (l : List UInt8) : (V.str l).real J = .string ⟨l.toArray⟩ := by simp [V.str, V.real, unpackL_packL]
theorem V.str_ok (n : Nat) (l : List UInt8) : (V.str l).ok n := by simp only [V.str, V.ok]; exact packL_lt l

/-- A constant of the code. -/
theorem ofV_real (J : Inj) (n : Nat) : ∀ (d : Nat) (x : Value) (v : V), ofV d x = some v → v.real J = x ∧ v.ok n := by
  intro d
  induction d with
  | zero => intro x v h; simp [ofV] at h
  | succ d ih =>
    have lst : ∀ (cs : Array Value) (r : List V), mapO (ofV d) cs.toList = some r → (V.reals J r).toArray = cs ∧ V.oks n r := by
      intro cs r h
      refine ⟨?_, ?_⟩
      · rw [V.reals_eq, mapO_map (g := V.real J) (k := id) (fun x y hxy => (ih x y hxy).1) _ _ h]; simp
      · rw [V.oks_iff]; exact mapO_all (fun x y hxy => (ih x y hxy).2) _ _ h
    intro x v h
    unfold ofV at h
    split at h
    · simp at *
    · simp only [Option.some.injEq] at h; subst h; simp [V.real, V.ok]
    · simp only [Option.some.injEq] at h; subst h; simp [V.real, V.ok]
    · rename_i s _
      simp only [Option.some.injEq] at h; subst h; exact ⟨by rw [V.str_real], V.str_ok _ _⟩
    · simp only [Option.some.injEq] at h; subst h; simp [V.real, V.ok]
    · simp only [Option.some.injEq] at h; subst h; simp [V.real, V.ok]
    · simp only [Option.some.injEq] at h; subst h; simp [V.real, V.ok]
    · simp only [Option.some.injEq] at h; subst h; simp [V.real, V.ok]
    · simp only [Option.some.injEq] at h; subst h; simp [V.real, V.ok]
    · rename_i d' cs e
      simp only [Nat.succ_eq_add_one, Nat.add_right_cancel_iff] at e
      subst e
      rw [Option.map_eq_some_iff] at h
      obtain ⟨r, hr, rfl⟩ := h
      obtain ⟨q1, q2⟩ := lst cs r hr
      simp only [V.real, V.ok, q1]; exact ⟨trivial, q2⟩
    · rename_i d' cs e
      simp only [Nat.succ_eq_add_one, Nat.add_right_cancel_iff] at e
      subst e
      rw [Option.map_eq_some_iff] at h
      obtain ⟨r, hr, rfl⟩ := h
      obtain ⟨q1, q2⟩ := lst cs r hr
      simp only [V.real, V.ok, q1]; exact ⟨trivial, q2⟩
    · rename_i d' fn xs ys e
      simp only [Nat.succ_eq_add_one, Nat.add_right_cancel_iff] at e
      subst e
      cases h1 : mapO (ofV d) xs.toList with
      | none => simp [h1] at h
      | some r1 =>
        cases h2 : mapO (ofV d) ys.toList with
        | none => simp [h1, h2] at h
        | some r2 =>
          simp only [h1, h2, Option.some.injEq] at h
          subst h
          obtain ⟨q1, q2⟩ := lst xs r1 h1
          obtain ⟨q3, q4⟩ := lst ys r2 h2
          simp only [V.real, V.ok, q1, q3]; exact ⟨trivial, q2, q4⟩
    · simp at h

section
variable {P : Program} {J : Inj} (w : World)

theorem run_isAgg' {t : TypeId} {d : TypeDesc} (h : P.underlying t = some d) : (isAgg t).run P w = .ok (isAggB P t) w := by
  unfold isAgg isAggB
  simp only [Sem.run_bind, run_underlying h, Result.andThen_ok, h]
  cases d <;> rfl

theorem vpart_real {t : TypeId} {cs : List V} {off : Nat} {v : V} (h : vpart P t cs off = some v) :
    (part t (cs.map (V.real J)).toArray off).run P w = .ok (v.real J) w := by
  unfold vpart at h
  split at h
  · rename_i ti d hi hd
    unfold part
    simp only [Sem.run_bind, run_isAgg' w hd, Result.andThen_ok, Sem.run_ite]
    cases hb : isAggB P t with
    | true =>
      simp only [hb, cond_true, Option.some.injEq] at h
      subst h
      simp [sizeOf, typeInfo, hi, V.real, V.reals_eq, List.map_take, List.map_drop]
    | false =>
      simp only [hb, cond_false] at h
      simp [h]
  · simp at h

theorem vpart_ok {n : Nat} {t : TypeId} {cs : List V} {off : Nat} {v : V} (h : vpart P t cs off = some v) (hc : ∀ c ∈ cs, c.ok n) : v.ok n := by
  unfold vpart at h
  split at h
  · cases hb : isAggB P t with
    | true =>
      simp only [hb, cond_true, Option.some.injEq] at h
      subst h
      simp only [V.ok, V.oks_iff]
      exact fun c hx => hc c (List.mem_of_mem_drop (List.mem_of_mem_take hx))
    | false =>
      simp only [hb, cond_false] at h
      exact hc v (List.mem_of_getElem? h)
  · simp at h

theorem bytes_beq (l m x y : Nat) (hx : x < 256 ^ l) (hy : y < 256 ^ m) : ((⟨(unpackL l x).toArray⟩ : ByteArray).toList == (⟨(unpackL m y).toArray⟩ : ByteArray).toList) = (Nat.beq l m && Nat.beq x y) := by
  rw [ByteArray.toList_mk, ByteArray.toList_mk, unpackL_beq _ _ _ _ hx hy]

theorem veqFields_real {D : Nat} {eq : TypeId → V → V → Option Bool} {n : Nat} {xs ys : List V} (hxs : ∀ c ∈ xs, c.ok n) (hys : ∀ c ∈ ys, c.ok n)
    (he : ∀ t x y r, x.ok n → y.ok n → eq t x y = some r → (Op.equalIn D t (x.real J) (y.real J)).run P w = .ok r w) :
    ∀ (fs : List Field) (r : Bool), veqFields P eq xs ys fs = some r → (Op.eqFields D (xs.map (V.real J)).toArray (ys.map (V.real J)).toArray fs).run P w = .ok r w
  | [], r, h => by simp only [veqFields, Option.some.injEq] at h; subst h; simp [Op.eqFields]
  | f :: fs, r, h => by
    simp only [veqFields] at h
    unfold Op.eqFields
    cases hn : f.name == "_" with
    | true =>
      simp only [hn, cond_true] at h
      have : f.name = "_" := by simpa using hn
      simp only [this, ne_eq, not_true, if_false]
      exact veqFields_real hxs hys he fs r h
    | false =>
      simp only [hn, cond_false] at h
      have : ¬ f.name = "_" := by simpa using hn
      simp only [ne_eq, this, not_false_eq_true, if_true]
      cases h1 : vpart P f.type xs f.offset with
      | none => simp [h1] at h
      | some x =>
        cases h2 : vpart P f.type ys f.offset with
        | none => simp [h1, h2] at h
        | some y =>
          simp only [h1, h2] at h
          cases h3 : eq f.type x y with
          | none => simp [h3] at h
          | some q =>
            have := he f.type x y q (vpart_ok h1 hxs) (vpart_ok h2 hys) h3
            simp only [Sem.run_bind, vpart_real w h1, vpart_real w h2, Result.andThen_ok, this, Sem.run_ite]
            cases q with
            | true => simp only [h3] at h; simpa using veqFields_real hxs hys he fs r h
            | false => simp only [h3, Option.some.injEq] at h; subst h; simp

/-- The loop over an array's elements. -/
theorem run_arrayEq {D : Nat} {eq : TypeId → V → V → Option Bool} {n : Nat} {t : TypeId} {sz : Nat} {xs ys : List V} (hxs : ∀ c ∈ xs, c.ok n) (hys : ∀ c ∈ ys, c.ok n)
    (he : ∀ t x y r, x.ok n → y.ok n → eq t x y = some r → (Op.equalIn D t (x.real J) (y.real J)).run P w = .ok r w) :
    ∀ (m i : Nat) (r : Bool), veqElems P eq t sz xs ys i m = some r →
      (forIn (List.range' i m 1) ((none, PUnit.unit) : Option Bool × PUnit) fun i (_ : Option Bool × PUnit) => do
          if (!(← Op.equalIn D t (← part t (xs.map (V.real J)).toArray (i * sz)) (← part t (ys.map (V.real J)).toArray (i * sz)))) = true then pure (ForInStep.done ((some false, PUnit.unit) : Option Bool × PUnit))
          else pure (ForInStep.yield ((none, PUnit.unit) : Option Bool × PUnit)) : Sem (Option Bool × PUnit)).run P w = .ok (cond r none (some false), PUnit.unit) w
  | 0, i, r, h => by simp only [veqElems, Option.some.injEq] at h; subst h; simp
  | m + 1, i, r, h => by
    simp only [veqElems] at h
    cases h1 : vpart P t xs (i * sz) with
    | none => simp [h1] at h
    | some x =>
      cases h2 : vpart P t ys (i * sz) with
      | none => simp [h1, h2] at h
      | some y =>
        simp only [h1, h2] at h
        cases h3 : eq t x y with
        | none => simp [h3] at h
        | some q =>
          have := he t x y q (vpart_ok h1 hxs) (vpart_ok h2 hys) h3
          rw [List.range'_succ, List.forIn_cons]
          simp only [Sem.run_bind, vpart_real w h1, vpart_real w h2, Result.andThen_ok, this, Sem.run_ite]
          cases q with
          | true =>
            simp only [h3] at h
            have := run_arrayEq hxs hys he m (i + 1) r h
            simpa using this
          | false => simp only [h3, Option.some.injEq] at h; subst h; simp

theorem veq_real {n : Nat} : ∀ (d D : Nat) (t : TypeId) (x y : V) (r : Bool), d ≤ D → x.ok n → y.ok n → veq P d t x y = some r →
    (Op.equalIn D t (x.real J) (y.real J)).run P w = .ok r w := by
  intro d
  induction d with
  | zero => intro D t x y r _ _ _ h; simp [veq] at h
  | succ d ih =>
    intro D t x y r hD hx hy h
    obtain ⟨D, rfl⟩ : ∃ k, D = k + 1 := ⟨D - 1, by omega⟩
    unfold veq at h
    split at h
    · rename_i a b e; simp only [Option.some.injEq] at h; subst h; simp only [V.real]; exact run_equalIn_bool w D t a b e
    · rename_i k a k' b e
      cases hk : decide (k = k') with
      | false => simp [hk] at h
      | true =>
        simp only [hk, cond_true, Option.some.injEq] at h
        subst h
        have := of_decide_eq_true hk
        subst this
        simp only [V.real]; exact run_equalIn_int w D t k _ a b e
    · rename_i e
      simp only [Option.some.injEq] at h; subst h
      simp only [V.ok] at hx hy
      simp only [V.real]; rw [run_equalIn_string w D t _ _ e, bytes_beq _ _ _ _ hx hy]
    · rename_i e; simp only [Option.some.injEq] at h; subst h; simp [V.real, Op.equalIn, run_underlying e]
    · rename_i e; simp only [Option.some.injEq] at h; subst h; simp [V.real, Op.equalIn, run_underlying e]
    · rename_i e; simp only [Option.some.injEq] at h; subst h; simp [V.real, Op.equalIn, run_underlying e]
    · rename_i e; simp only [Option.some.injEq] at h; subst h; simp [V.real, Op.equalIn, run_underlying e]
    · rename_i e; simp only [Option.some.injEq] at h; subst h; simp [V.real, Op.equalIn, run_underlying e]
    · rename_i e; simp only [Option.some.injEq] at h; subst h; simp [V.real, Op.equalIn, run_underlying e]
    · rename_i e; simp only [Option.some.injEq] at h; subst h; simp [V.real, Op.equalIn, run_underlying e]
    · rename_i e; simp only [Option.some.injEq] at h; subst h; simp [V.real, Op.equalIn, run_underlying e]
    · rename_i e; simp only [Option.some.injEq] at h; subst h; simp [V.real, Op.equalIn, run_underlying e]
    · rename_i e; simp only [Option.some.injEq] at h; subst h; simp [V.real, Op.equalIn, run_underlying e]
    · rename_i e; simp only [Option.some.injEq] at h; subst h; simp [V.real, Op.equalIn, run_underlying e]
    · rename_i e; simp only [Option.some.injEq] at h; subst h; simp [V.real, Op.equalIn, run_underlying e]
    · rename_i e; simp only [Option.some.injEq] at h; subst h; simp [V.real, Op.equalIn, run_underlying e]
    · rename_i fs xs ys e
      cases hs : P.stoodInHeld t with
      | true => simp [hs] at h
      | false =>
        simp only [hs, cond_false] at h
        have hf : P.fieldsOf t = fs := by simp [Program.fieldsOf, e]
        simp only [V.real, V.reals_eq]
        rw [run_equalIn_struct w D t _ _ (by rw [hf]; exact e) hs, hf]
        simp only [V.ok, V.oks_iff] at hx hy
        exact veqFields_real w hx hy (fun t x y r h1 h2 h3 => ih D t x y r (by omega) h1 h2 h3) _ _ h
    · rename_i len el xs ys e
      cases hi : P.info? el with
      | none => simp [hi] at h
      | some ti =>
        simp only [hi] at h
        simp only [V.ok, V.oks_iff] at hx hy
        have := run_arrayEq w hx hy (fun t x y r h1 h2 h3 => ih D t x y r (by omega) h1 h2 h3) len 0 r h
        simp only [V.real, V.reals_eq, Op.equalIn, Sem.run_bind, run_underlying e, Result.andThen_ok, sizeOf, typeInfo, run_program, hi, Sem.run_pure, Std.Legacy.Range.forIn_eq_forIn_range', Std.Legacy.Range.size]
        simp only [Nat.sub_zero, Nat.add_sub_cancel, Nat.div_one] at this ⊢
        rw [this]
        cases r <;> rfl
    · simp at h
end
end Go.Vm
namespace Go.Vm
open Go.RowKit

section
variable {P : Program} {J : Inj} (w : World)

theorem vint_real {op : BinOp} {k : IntKind} {a b : Int} {v : V} {t : TypeId} (h1 : op ≠ .shl) (h2 : op ≠ .shr) (h : vint op k a b = some v) :
    (binOp op t (.int k a) (.int k b)).run P w = .ok (v.real J) w ∧ ∀ n, v.ok n := by
  cases op <;> simp only [vint, vbits] at h
  case quo =>
    by_cases hb : b = 0
    · simp [hb] at h
    · simp only [hb, decide_false, cond_false, Option.some.injEq] at h
      subst h
      simp [binOp, Op.intDiv, hb, V.real, V.ok]
  case rem =>
    by_cases hb : b = 0
    · simp [hb] at h
    · simp only [hb, decide_false, cond_false, Option.some.injEq] at h
      subst h
      simp [binOp, Op.intDiv, hb, V.real, V.ok]
  all_goals first
    | (simp only [Option.some.injEq] at h; subst h; simp [binOp, Op.intArith, Op.intBits, Op.intCmp, V.real, V.ok, ilt, ile]; done)
    | (simp only [Option.some.injEq] at h; subst h; constructor <;> simp [binOp, Op.intArith, Op.intBits, Op.intCmp, V.real, V.ok, ilt, ile] <;> rfl)
    | simp_all

theorem vshift_real {op : BinOp} {k yk : IntKind} {a b : Int} {v : V} {t : TypeId} (h : vshift op k a b = some v) :
    (binOp op t (.int k a) (.int yk b)).run P w = .ok (v.real J) w ∧ ∀ n, v.ok n := by
  cases op <;> simp only [vshift] at h
  case shl =>
    by_cases hb : b < 0
    · simp [ilt, hb] at h
    · simp only [ilt, hb, decide_false, cond_false, Option.some.injEq] at h
      subst h
      simp [binOp, Op.shift, hb, V.real, V.ok]
  case shr =>
    by_cases hb : b < 0
    · simp [ilt, hb] at h
    · simp only [ilt, hb, decide_false, cond_false, Option.some.injEq] at h
      subst h
      simp [binOp, Op.shift, hb, V.real, V.ok]
  all_goals simp at h

theorem ofList_append (a b : List UInt8) : (⟨a.toArray⟩ : ByteArray) ++ ⟨b.toArray⟩ = ⟨(a ++ b).toArray⟩ := by
  apply ByteArray.ext
  simp

theorem vstr_real {op : BinOp} {l x m y : Nat} {v : V} {t : TypeId} (hx : x < 256 ^ l) (hy : y < 256 ^ m) (h : vstr op l x m y = some v) :
    (binOp op t ((V.s l x).real J) ((V.s m y).real J)).run P w = .ok (v.real J) w ∧ ∀ n, v.ok n := by
  have hs : ∀ n x, (⟨(unpackL n x).toArray⟩ : ByteArray).size = n := fun n x => by simp [ByteArray.size, length_unpackL]
  cases op <;> simp only [vstr] at h
  case add =>
    cases hb : Nat.ble (l + m) 1099511627776 with
    | false => simp [hb] at h
    | true =>
      simp only [hb, cond_true, Option.some.injEq] at h
      rw [Nat.ble_eq] at hb
      subst h
      refine ⟨?_, fun n => by simp only [sApp, V.ok]; exact app_lt l m x y hx hy⟩
      have : ¬ (((l + m : Nat) : Int) > IntKind.i64.max) := by simp; omega
      simp only [V.real, binOp, Op.stringOp, hs, this, if_false, Sem.run_pure, sApp, unpackL_app l m x y hx, ofList_append]
  all_goals first
    | (simp only [Option.some.injEq] at h; subst h; constructor <;> simp [V.real, binOp, Op.stringOp, V.ok, ByteArray.toList_mk, unpackL_beq _ _ _ _ hx hy]; done)
    | simp at h
theorem vequal_real {n : Nat} {t : TypeId} {x y : V} {r : Bool} (hx : x.ok n) (hy : y.ok n) (h : vequal P t x y = some r) :
    (Op.equal t (x.real J) (y.real J)).run P w = .ok r w ∧ ∀ (op : BinOp) (a b : Operand), (eqGuard op t a b (x.real J) (y.real J)).run P w = .ok () w := by
  unfold vequal at h
  split at h
  · rename_i xs ys
    cases hg : P.eqGuardType P.depth t with
    | true => simp [hg] at h
    | false =>
      simp only [hg, cond_false] at h
      exact ⟨veq_real w 60 Op.maxDepth t _ _ r (by decide) hx hy h, fun op a b => by simp only [V.real]; exact run_eqGuard_agg w op t a b _ _ hg⟩
  · simp at h
  · rename_i h1 h2
    refine ⟨veq_real w 60 Op.maxDepth t _ _ r (by decide) hx hy h, fun op a b => ?_⟩
    have : eqGuard op t a b (x.real J) (y.real J) = pure () := by
      unfold eqGuard
      cases x <;> cases y <;> simp only [V.real] <;> first
        | rfl
        | (cases op <;> rfl)
        | (exact absurd rfl (h1 _ _ rfl))
        | (exact absurd rfl (h2 rfl))
        | (exact (h1 _ _ rfl rfl).elim)
        | (exact (h2 rfl rfl).elim)
    rw [this]; rfl

theorem binOp_eql {t : TypeId} {x y : V} (h1 : ∀ k a k' b, x = .i k a → y = .i k' b → False) (h2 : ∀ l a m b, x = .s l a → y = .s m b → False) :
    binOp .eql t (x.real J) (y.real J) = (do pure (.bool (← Op.equal t (x.real J) (y.real J)))) := by
  cases x <;> cases y <;> first
    | (exact (h1 _ _ _ _ rfl rfl).elim)
    | (exact (h2 _ _ _ _ rfl rfl).elim)
    | (simp only [V.real, binOp]; done)
    | (simp only [V.real]; unfold binOp; rfl)
theorem binOp_neq {t : TypeId} {x y : V} (h1 : ∀ k a k' b, x = .i k a → y = .i k' b → False) (h2 : ∀ l a m b, x = .s l a → y = .s m b → False) :
    binOp .neq t (x.real J) (y.real J) = (do pure (.bool (!(← Op.equal t (x.real J) (y.real J))))) := by
  cases x <;> cases y <;> first
    | (exact (h1 _ _ _ _ rfl rfl).elim)
    | (exact (h2 _ _ _ _ rfl rfl).elim)
    | (simp only [V.real, binOp]; done)
    | (simp only [V.real]; unfold binOp; rfl)

theorem vbin_real {n : Nat} {op : BinOp} {t : TypeId} {x y : V} {v : V} (a b : Operand) (hx : x.ok n) (hy : y.ok n) (h : vbin P op t x y = some v) :
    (do eqGuard op t a b (x.real J) (y.real J); binOp op t (x.real J) (y.real J) : Sem Value).run P w = .ok (v.real J) w ∧ v.ok n := by
  unfold vbin at h
  split at h
  · rename_i k p k' q
    simp only [V.real, eqGuard_at_int]
    split at h
    · obtain ⟨q1, q2⟩ := vshift_real (P := P) (J := J) w (t := t) (yk := k') h
      exact ⟨by simpa using q1, q2 n⟩
    · obtain ⟨q1, q2⟩ := vshift_real (P := P) (J := J) w (t := t) (yk := k') h
      exact ⟨by simpa using q1, q2 n⟩
    · rename_i h1 h2
      by_cases hk : k = k'
      · subst hk
        simp only [decide_true, cond_true] at h
        obtain ⟨q1, q2⟩ := vint_real (P := P) (J := J) w (t := t) (fun e => h1 e) (fun e => h2 e) h
        exact ⟨by simpa using q1, q2 n⟩
      · simp [hk] at h
  · rename_i l p m q
    simp only [V.ok] at hx hy
    obtain ⟨q1, q2⟩ := vstr_real (P := P) (J := J) w (t := t) hx hy h
    have : eqGuard op t a b ((V.s l p).real J) ((V.s m q).real J) = pure () := by simp only [V.real, eqGuard_at_string]
    rw [this]
    exact ⟨by simpa using q1, q2 n⟩
  · rename_i h1 h2
    split at h
    · cases he : vequal P t x y with
      | none => simp [he] at h
      | some r =>
        simp only [he, Option.some.injEq] at h
        subst h
        obtain ⟨q1, q2⟩ := vequal_real (J := J) w hx hy he
        rw [binOp_eql (fun k a k' b e1 e2 => h1 k a k' b e1 e2) (fun k a k' b e1 e2 => h2 k a k' b e1 e2)]
        simp [q1, q2, V.real, V.ok]
    · cases he : vequal P t x y with
      | none => simp [he] at h
      | some r =>
        simp only [he, Option.some.injEq] at h
        subst h
        obtain ⟨q1, q2⟩ := vequal_real (J := J) w hx hy he
        rw [binOp_neq (fun k a k' b e1 e2 => h1 k a k' b e1 e2) (fun k a k' b e1 e2 => h2 k a k' b e1 e2)]
        simp [q1, q2, V.real, V.ok]
    · simp at h

theorem vun_real {op : UnOp} {x v : V} (h : vun op x = some v) : (Op.unary op (x.real J)).run P w = .ok (v.real J) w ∧ ∀ n, v.ok n := by
  unfold vun at h
  split at h
  · simp only [Option.some.injEq] at h; subst h; simp [Op.unary, Op.intArith, V.real, V.ok]
  · simp only [vbits, Option.some.injEq] at h; subst h; simp [Op.unary, Op.intBits, V.real, V.ok]
  · simp only [Option.some.injEq] at h; subst h; simp [Op.unary, V.real, V.ok]
  · simp at h

theorem sizeB_run {t : TypeId} {n : Nat} (h : sizeB P t = some n) : (sizeOf t).run P w = .ok n w := by
  unfold sizeB at h
  cases hi : P.info? t with
  | none => simp [hi] at h
  | some ti => simp only [hi, Option.some.injEq] at h; subst h; simp [sizeOf, typeInfo, hi]

theorem vindex_real {n : Nat} {t : TypeId} {x v : V} {k : IntKind} {i : Int} (hx : x.ok n) (h : vindex P t x i = some v) :
    (Instr.index t (x.real J) (.int k i)).run P w = .ok (v.real J) w ∧ v.ok n := by
  unfold vindex at h
  split at h
  · rename_i len bits e
    simp only [V.ok] at hx
    cases hb : (ile 0 i && ilt i len) with
    | false => simp [hb] at h
    | true =>
      simp only [hb, cond_true, Option.some.injEq] at h
      simp only [ile, ilt, Bool.and_eq_true, decide_eq_true_eq] at hb
      subst h
      have hs : (⟨(unpackL len bits).toArray⟩ : ByteArray).size = len := by simp [ByteArray.size, length_unpackL]
      simp only [V.real]
      rw [run_index_string w t _ k i e, dif_pos (by rw [hs]; exact hb)]
      refine ⟨?_, by simp [V.ok]⟩
      have hg := unpackL_get len bits i.toNat (by omega)
      have : ((⟨(unpackL len bits).toArray⟩ : ByteArray)[i.toNat]'(by rw [hs]; omega)) = UInt8.ofNat (byteAt bits i.toNat) := by
        have h2 : i.toNat < (unpackL len bits).length := by rw [length_unpackL]; omega
        rw [List.getElem?_eq_getElem h2, Option.some.injEq] at hg
        rw [← hg]; rfl
      rw [this]
      have := byteAt_lt bits i.toNat
      simp; omega
  · rename_i len el cs e
    cases hn : sizeB P el with
    | none => simp [hn] at h
    | some sz =>
      simp only [hn] at h
      cases hb : (ile 0 i && ilt i len) with
      | false => simp [hb] at h
      | true =>
        simp only [hb, cond_true] at h
        simp only [ile, ilt, Bool.and_eq_true, decide_eq_true_eq] at hb
        simp only [V.ok, V.oks_iff] at hx
        refine ⟨?_, vpart_ok h hx⟩
        simp only [V.real, V.reals_eq, Instr.index, Sem.run_bind, asIntOf, Sem.run_pure, Result.andThen_ok, run_underlying e, Sem.run_ite, hb, and_self, if_true, sizeB_run w hn, vpart_real w h]
  · simp at h

theorem vfield_real {n : Nat} {t : TypeId} {x v : V} {f : Nat} (hx : x.ok n) (h : vfield P t x f = some v) :
    (Instr.field t (x.real J) f).run P w = .ok (v.real J) w ∧ v.ok n := by
  unfold vfield at h
  split at h
  · rename_i fs cs e
    cases hf : fs[f]? with
    | none => simp [hf] at h
    | some fd =>
      simp only [hf] at h
      simp only [V.ok, V.oks_iff] at hx
      refine ⟨?_, vpart_ok h hx⟩
      simp only [V.real, V.reals_eq, Instr.field, Sem.run_bind, run_underlying e, Result.andThen_ok, hf, asAgg, Sem.run_pure, vpart_real w h]
  · simp at h

theorem vfieldAddr_real {n : Nat} {t : TypeId} {g off f : Nat} {v : V} (hx : g < n) (h : vfieldAddr P t g off f = some v) :
    (Instr.fieldAt t ((V.p g off).real J) f).run P w = .ok (v.real J) w ∧ v.ok n := by
  unfold vfieldAddr at h
  split at h
  · rename_i fs e
    cases hf : fs[f]? with
    | none => simp [hf] at h
    | some fd =>
      simp only [hf] at h
      cases hn : sizeB P fd.type with
      | none => simp [hn] at h
      | some sz =>
        simp only [hn] at h
        cases hb : Nat.blt 0 sz with
        | false => simp [hb] at h
        | true =>
          simp only [hb, cond_true, Option.some.injEq] at h
          rw [Nat.blt_eq] at hb
          subst h
          refine ⟨?_, by simp only [V.ok]; exact hx⟩
          simp only [V.real, Instr.fieldAt, Sem.run_bind, run_underlying e, Result.andThen_ok, hf, Instr.sureAddr, Sem.run_pure, fieldPlace, sizeB_run w hn, Sem.run_ite, if_neg (show ¬ sz = 0 by omega), Addr.add_lit, Nat.add_assoc]
  · simp at h

theorem vindexAddr_real {n : Nat} {t : TypeId} {x v : V} {k : IntKind} {i : Int} (hx : x.ok n) (h : vindexAddr P t x i = some v) :
    (Instr.indexAt t (x.real J) (.int k i)).run P w = .ok (v.real J) w ∧ v.ok n := by
  unfold vindexAddr at h
  split at h
  · rename_i el g off len cap op e
    cases hn : sizeB P el with
    | none => simp [hn] at h
    | some sz =>
      simp only [hn] at h
      cases hb : (ile 0 i && ilt i len) with
      | false => simp [hb] at h
      | true =>
        simp only [hb, cond_true, Option.some.injEq] at h
        simp only [ile, ilt, Bool.and_eq_true, decide_eq_true_eq] at hb
        subst h
        simp only [V.ok] at hx
        refine ⟨?_, by simp only [V.ok]; exact hx.1⟩
        simp only [V.real, Instr.indexAt, Sem.run_bind, asIntOf, Sem.run_pure, Result.andThen_ok, run_underlying e, Sem.run_ite, hb, and_self, if_true, sizeB_run w hn, Addr.add_lit, Nat.add_assoc]
  · rename_i len el g off e
    cases hn : sizeB P el with
    | none => simp [hn] at h
    | some sz =>
      simp only [hn] at h
      cases hb : (ile 0 i && ilt i len) with
      | false => simp [hb] at h
      | true =>
        simp only [hb, cond_true, Option.some.injEq] at h
        simp only [ile, ilt, Bool.and_eq_true, decide_eq_true_eq] at hb
        subst h
        simp only [V.ok] at hx
        refine ⟨?_, by simp only [V.ok]; exact hx⟩
        simp only [V.real, Instr.indexAt, Sem.run_bind, asIntOf, Sem.run_pure, Result.andThen_ok, run_underlying e, Sem.run_ite, hb, and_self, if_true, sizeB_run w hn, Addr.add_lit, Nat.add_assoc, Instr.sureAddr]
  · simp at h
end
end Go.Vm
namespace Go.Vm
open Go.RowKit

/-- What is there from before stays, if nothing was written. -/
structure Ext (a b : St) : Prop where
  nx : a.nx ≤ b.nx
  ver : b.ver ≤ a.ver
  hp : ∀ g x, a.hp.get g = some x → g < b.ver → b.hp.get g = some x
theorem Ext.refl (a : St) : Ext a a := ⟨Nat.le_refl _, Nat.le_refl _, fun _ _ h _ => h⟩
theorem Ext.trans {a b c : St} (h : Ext a b) (k : Ext b c) : Ext a c :=
  ⟨Nat.le_trans h.nx k.nx, Nat.le_trans k.ver h.ver, fun g x hx hg => k.hp g x (h.hp g x hx (Nat.lt_of_lt_of_le hg k.ver)) hg⟩
theorem low_left (a b : Nat) : low a b ≤ a := by
  unfold low
  cases e : Nat.ble a b with
  | true => simp
  | false =>
    have : ¬ a ≤ b := by intro q; rw [← Nat.ble_eq] at q; rw [q] at e; cases e
    simp; omega
theorem low_right (a b : Nat) : low a b ≤ b := by
  unfold low
  cases e : Nat.ble a b with
  | true => rw [Nat.ble_eq] at e; simp [e]
  | false => simp
theorem St.write_eq (st : St) (id : Nat) (b : Blk) : st.write id b = ⟨st.nx, st.hp.upd id (some b), low st.ver id⟩ := by unfold St.write; rw [natF_eq]
theorem St.kill_eq (st : St) (id : Nat) : st.kill id = ⟨st.nx, st.hp.upd id none, low st.ver id⟩ := by unfold St.kill; rw [natF_eq]
theorem Ext.write (st : St) (g : Nat) (b : Blk) : Ext st (st.write g b) := by
  rw [St.write_eq]
  refine ⟨Nat.le_refl _, low_left _ _, fun k x hx hk => ?_⟩
  dsimp only at hk ⊢
  have := low_right st.ver g
  rw [T.get_upd, if_neg (by omega)]; exact hx

/-- No name leads to this block. -/
def Free (J : Inj) (h : Nat → Option Blk) (i : Nat) : Prop := ∀ g b, h g = some b → (J.m g).1 ≠ i
/-- What no name leads to is as it was, and no name leads there behind. -/
def Fr (J : Inj) (h : Nat → Option Blk) (w : World) (J' : Inj) (h' : Nat → Option Blk) (w' : World) : Prop := ∀ i, i < w.heap.size → Free J h i → w'.heap[i]? = w.heap[i]? ∧ Free J' h' i
theorem Fr.trans {J J1 J2 : Inj} {a b c : Nat → Option Blk} {w w1 w2 : World} (h : Fr J a w J1 b w1) (k : Fr J1 b w1 J2 c w2) (hs : w.heap.size ≤ w1.heap.size) : Fr J a w J2 c w2 := fun i hi hf => by
  obtain ⟨p1, p2⟩ := h i hi hf
  obtain ⟨q1, q2⟩ := k i (Nat.lt_of_lt_of_le hi hs) p2
  exact ⟨q1.trans p1, q2⟩
theorem Fr.same {J : Inj} {h : Nat → Option Blk} {w w' : World} (e : ∀ i, i < w.heap.size → w'.heap[i]? = w.heap[i]?) : Fr J h w J h w' := fun i hi hf => ⟨e i hi, hf⟩
theorem Fr.write {J : Inj} {st : St} {w w' : World} {g : Nat} {b b' : Blk} (hg : st.hp.get g = some b) (e : ∀ k, k ≠ (J.m g).1 → w'.heap[k]? = w.heap[k]?) : Fr J st.hp.get w J (st.write g b').hp.get w' := fun i hi hf => ⟨e i (fun q => hf g b hg q.symm), fun k bk hk => by
  rw [St.write_eq] at hk
  dsimp only at hk
  rw [T.get_upd] at hk
  by_cases e1 : k = g
  · subst e1; exact hf k b hg
  · rw [if_neg e1] at hk; exact hf k bk hk⟩
theorem Fr.push {J : Inj} {h h0 h' : Nat → Option Blk} {w w' : World} (hless : ∀ g b, h0 g = some b → h g = some b) (hlt : ∀ g b, h g = some b → g < J.nx) {r d x : Nat} (hr : w.heap.size ≤ r ∨ ∃ g b, h g = some b ∧ (J.m g).1 = r)
    (hh' : ∀ k b, h' k = some b → k = J.nx ∨ h0 k = some b) (e : ∀ i, i < w.heap.size → Free J h i → w'.heap[i]? = w.heap[i]?) : Fr J h w (J.push (r, d, x)) h' w' := fun i hi hf => ⟨e i hi hf, fun k b hk => by
  rcases hh' k b hk with rfl | q
  · rw [Inj.push_self]
    rcases hr with z | ⟨g, bg, z1, z2⟩
    · show r ≠ i; omega
    · intro z3; exact hf g bg z1 (z2.trans z3)
  · have q1 := hless k b q
    rw [(J.le_push (r, d, x)).m k (hlt k b q1)]
    exact hf k b q1⟩

/-- What an operation leaves: places that go on, the memory, the old blocks of the model. -/
structure Post (J : Inj) (ro : Nat) (B : World) (st : St) (w : World) (J' : Inj) (st' : St) (w' : World) : Prop where
  le : J.le J'
  nx : J'.nx = st'.nx
  hr : HR J' ro B st'.hp.get w'
  below : Below B.heap.size w w'
  ext : Ext st st'
  ro : ro ≤ J'.nx
  fr : Fr J st.hp.get w J' st'.hp.get w'
theorem Post.refl {J : Inj} {ro : Nat} {B : World} {st : St} {w : World} (hn : J.nx = st.nx) (hh : HR J ro B st.hp.get w) (hro : ro ≤ J.nx) : Post J ro B st w J st w :=
  ⟨Inj.le.refl J, hn, hh, Below.refl _ _, Ext.refl _, hro, Fr.same fun _ _ => rfl⟩
theorem Post.trans {J J1 J2 : Inj} {ro : Nat} {B : World} {st st1 st2 : St} {w w1 w2 : World} (h : Post J ro B st w J1 st1 w1) (k : Post J1 ro B st1 w1 J2 st2 w2) : Post J ro B st w J2 st2 w2 :=
  ⟨h.le.trans k.le, k.nx, k.hr, h.below.trans k.below, h.ext.trans k.ext, k.ro, h.fr.trans k.fr h.below.size⟩

theorem get_upd_fun (t : T Blk) (i : Nat) (x : Option Blk) : (t.upd i x).get = fun k => if k = i then x else t.get k := by funext k; rw [T.get_upd]

theorem Ext.alloc {st : St} {J : Inj} {ro : Nat} {B : World} {w : World} (hn : J.nx = st.nx) (hh : HR J ro B st.hp.get w) (b : Blk) : Ext st (st.alloc b) := by
  refine ⟨Nat.le_succ _, Nat.le_refl _, fun g x hx _ => ?_⟩
  have := (hh.blk g x hx).1
  show (st.hp.upd st.nx (some b)).get g = some x
  rw [T.get_upd, if_neg (by omega)]; exact hx

theorem Fr.alloc {J : Inj} {ro : Nat} {B : World} {st : St} {w : World} {x : Nat} {c : Array Value} {e : TypeId} {fz : Nat × Nat} (hn : J.nx = st.nx) (hh : HR J ro B st.hp.get w) (b : Blk) : Fr J st.hp.get w (J.push (w.heap.size, 0, x)) (st.alloc b).hp.get (w.alloc (.cells c e fz)) := by
  refine Fr.push (h0 := st.hp.get) (fun _ _ q => q) (fun g b hg => (hh.blk g b hg).1) (.inl (Nat.le_refl _)) (fun k bk hk => ?_) (fun i hi _ => Below.heap_alloc _ _ _ hi)
  have hk : (st.hp.upd st.nx (some b)).get k = some bk := hk
  rw [T.get_upd] at hk
  by_cases e1 : k = st.nx
  · exact .inl (e1.trans hn.symm)
  · rw [if_neg e1] at hk; exact .inr hk

section
variable {P : Program} {J : Inj} {ro : Nat} {B : World} {st : St} {w : World}

/-- A new block of some cells, and more behind it. -/
theorem alloc_post (hn : J.nx = st.nx) (hh : HR J ro B st.hp.get w) (hro : ro ≤ J.nx) {b : Blk} {x : Nat} {c : Array Value} {e : TypeId} {fz : Nat × Nat}
    (hm0 : b.mp = none) (h1 : b.sz ≤ c.size) (h2 : b.op = true → b.sz + x * b.es = c.size ∧ b.zero = []) (h3 : ∀ o, o < c.size + b.full.toNat → (decide (fz.1 ≤ o) && decide (o < fz.2)) = false ∧ fz.1 ≤ fz.2)
    (h4 : ∀ o v, b.get o = some v → v.ok J.nx ∧ v.atom = true ∧ c[o]? = some (v.real J)) :
    Post J ro B st w (J.push (w.heap.size, 0, x)) (st.alloc b) (w.alloc (.cells c e fz)) := by
  refine ⟨J.le_push _, by show J.nx + 1 = st.nx + 1; omega, ?_, (Below.refl B.heap.size w).alloc hh.base.size _, Ext.alloc hn hh b, Nat.le_succ_of_le hro, Fr.alloc hn hh (c := c) (e := e) (fz := fz) b⟩
  have := hh.alloc (b := b) (x := x) (c := c) (e := e) (fz := fz) hm0 h1 h2 h3 h4
  rw [hn] at this
  show HR _ ro B (st.hp.upd st.nx (some b)).get _
  rw [get_upd_fun]
  exact this

theorem valloc_post (hn : J.nx = st.nx) (hh : HR J ro B st.hp.get w) (hro : ro ≤ J.nx) {v x : V} {es : Nat} {st' : St} (t : TypeId) (hv : v.ok J.nx) (h : valloc st v es = some (x, st')) :
    ∃ J' w', (newVar t (v.real J)).run P w = .ok ⟨w.heap.size, 0, none⟩ w' ∧ x.real J' = .pointer (some ⟨w.heap.size, 0, none⟩) ∧ x.ok J'.nx ∧ Post J ro B st w J' st' w' := by
  unfold valloc at h
  cases hb : blkOf v.cells es false with
  | none => simp [hb] at h
  | some b =>
    simp only [hb, natF_eq, Option.some.injEq, Prod.mk.injEq] at h
    obtain ⟨rfl, rfl⟩ := h
    obtain ⟨q1, q2, q3, q4, q5, q6⟩ := blkOf_spec hb
    refine ⟨J.push (w.heap.size, 0, 0), w.alloc (.cells (v.cells.map (V.real J)).toArray t), ?_, ?_, ?_, ?_⟩
    · simp [newVar, newRow, V.cells_real]
    · rw [← hn]; simp [V.real, Inj.push_self]
    · simp only [V.ok, Inj.push]; omega
    · refine alloc_post hn hh hro (blkOf_mp hb) (by simp [q1]) (by simp [q3]) (fun o _ => by simp) (fun o u hu => ?_)
      rw [q5] at hu
      have hm := List.mem_of_getElem? hu
      exact ⟨V.ok_cells hv u hm, q6 u hm, by simp [hu]⟩

theorem vload_real (hn : J.nx = st.nx) (hh : HR J ro B st.hp.get w) {t : TypeId} {g off : Nat} {v : V} (h : vload P st t g off = some v) :
    (Instr.loadAt t ((V.p g off).real J)).run P w = .ok (v.real J) w ∧ v.ok st.nx := by
  unfold vload at h
  split at h
  · rename_i b ti d hb hi hd
    have br := hh.blk g b hb
    simp only [V.real, Instr.loadAt, Instr.sureAddr, Sem.run_bind, Sem.run_pure, Result.andThen_ok, loadVar, run_isAgg' w hd, Sem.run_ite]
    cases ha : isAggB P t with
    | true =>
      simp only [ha, cond_true] at h
      cases hr : b.row ti.size off with
      | none => simp [hr] at h
      | some cs =>
        simp only [hr, Option.some.injEq] at h
        subst h
        obtain ⟨q1, _, q3, _⟩ := br.row (P := P) hr
        refine ⟨?_, ?_⟩
        · simp [sizeOf, typeInfo, hi, q1, V.real, V.reals_eq]
        · simp only [V.ok, V.oks_iff]; rw [← hn]; exact q3
    | false =>
      simp only [ha, cond_false] at h
      obtain ⟨q1, q2, _⟩ := br.cell h
      exact ⟨by simp [q1], by rw [← hn]; exact q2⟩
  · simp at h

theorem vstore_post (hn : J.nx = st.nx) (hh : HR J ro B st.hp.get w) (hro : ro ≤ J.nx) {t : TypeId} {g off : Nat} {v : V} {st' : St} (hv : v.ok J.nx) (h : vstore P ro st t g off v = some st') :
    ∃ w', (Instr.storeAt t ((V.p g off).real J) (v.real J)).run P w = .ok () w' ∧ Post J ro B st w J st' w' := by
  unfold vstore at h
  split at h
  · rename_i b ti hb hi
    cases hc : (Nat.ble ro g && Nat.beq v.cells.length ti.size) with
    | false => simp [hc] at h
    | true =>
      simp only [hc, cond_true] at h
      simp only [Bool.and_eq_true, Nat.ble_eq, Nat.beq_eq] at hc
      cases hp : b.put v.cells off with
      | none => simp [hp] at h
      | some b' =>
        simp only [hp, Option.some.injEq] at h
        subst h
        obtain ⟨w', r1, r2, r3, r4⟩ := HR.put (P := P) v.cells hh (g := g) (o := off) (i := 0) hb hc.1 (by simpa using hp) (V.ok_cells hv)
        refine ⟨w', ?_, Inj.le.refl J, by rw [St.write_eq]; exact hn, ?_, r3, Ext.write _ _ _, hro, Fr.write hb r4⟩
        · have hs : ¬ (v.real J).cells.size ≠ ti.size := by rw [V.cells_real]; simp [hc.2]
          simp only [V.real, Instr.storeAt, Instr.sureAddr, Sem.run_bind, Sem.run_pure, Result.andThen_ok, storeVar, sizeOf, typeInfo, run_program, hi, Sem.run_ite, if_neg hs]
          rw [V.cells_real]
          exact r1
        · rw [St.write_eq]
          show HR J ro B (st.hp.upd g (some b')).get w'
          rw [get_upd_fun]; exact r2
  · simp at h

/-! ### Building -/

theorem foldl_setAt (J : Inj) (off : Nat) : ∀ (vs : List V) (k : Nat) (cs : List V),
    ((vs.map (V.real J)).zipIdx k).foldl (fun (a : Array Value) (x : Value × Nat) => a.setIfInBounds (off + x.2) x.1) (cs.map (V.real J)).toArray = ((setAt cs (off + k) vs).map (V.real J)).toArray
  | [], k, cs => rfl
  | v :: r, k, cs => by
    simp only [List.map_cons, List.zipIdx_cons, List.foldl_cons, setAt]
    have : (cs.map (V.real J)).toArray.setIfInBounds (off + k) (v.real J) = ((cs.set (off + k) v).map (V.real J)).toArray := by
      apply Array.ext'
      simp [List.map_set]
    rw [this, foldl_setAt J off r (k + 1) _]
    rfl
theorem length_setAt : ∀ (vs : List V) (cs : List V) (off : Nat), (setAt cs off vs).length = cs.length
  | [], _, _ => rfl
  | v :: r, cs, off => by simp [setAt, length_setAt r]
theorem mem_setAt {p : V → Prop} : ∀ (vs : List V) (cs : List V) (off : Nat), (∀ v ∈ vs, p v) → (∀ v ∈ cs, p v) → ∀ v ∈ setAt cs off vs, p v
  | [], _, _, _, h2 => h2
  | v :: r, cs, off, h1, h2 => by
    refine mem_setAt r _ _ (fun x hx => h1 x (List.mem_cons_of_mem _ hx)) (fun x hx => ?_)
    rcases List.mem_or_eq_of_mem_set hx with h | rfl
    · exact h2 x h
    · exact h1 _ (List.mem_cons_self ..)

theorem vfill_real (J : Inj) (place : Nat → Option (Nat × Nat)) : ∀ (ps : List (Nat × V)) (cs r : List V), vfill place cs ps = some r →
    Instr.fill place (cs.map (V.real J)).toArray (ps.map fun x => (x.1, x.2.real J)) = some (r.map (V.real J)).toArray ∧ r.length = cs.length ∧
    ∀ n, (∀ x ∈ ps, x.2.ok n) → (∀ v ∈ cs, v.ok n) → ∀ v ∈ r, v.ok n
  | [], cs, r, h => by simp only [vfill, Option.some.injEq] at h; subst h; exact ⟨rfl, rfl, fun n _ h2 => h2⟩
  | (i, v) :: ps, cs, r, h => by
    simp only [vfill] at h
    cases hp : place i with
    | none => simp [hp] at h
    | some q =>
      obtain ⟨off, size⟩ := q
      simp only [hp] at h
      cases hc : (Nat.beq v.cells.length size && Nat.ble (off + v.cells.length) cs.length) with
      | false => simp [hc] at h
      | true =>
        simp only [hc, cond_true] at h
        simp only [Bool.and_eq_true, Nat.beq_eq, Nat.ble_eq] at hc
        obtain ⟨q1, q2, q3⟩ := vfill_real J place ps _ r h
        have hz : (v.real J).cells.size = v.cells.length := by rw [V.cells_real]; simp
        refine ⟨?_, by rw [q2, length_setAt], fun n h1 h2 => q3 n (fun x hx => h1 x (List.mem_cons_of_mem _ hx)) (mem_setAt _ _ _ (V.ok_cells (h1 (i, v) (List.mem_cons_self ..))) h2)⟩
        simp only [List.map_cons, Instr.fill, hp]
        have hcond : ¬ ((decide ((v.real J).cells.size ≠ size) || decide (off + (v.real J).cells.size > (cs.map (V.real J)).toArray.size)) = true) := by
          rw [hz]
          simp only [Bool.or_eq_true, decide_eq_true_eq, List.size_toArray, List.length_map]
          omega
        rw [if_neg hcond]
        have := foldl_setAt J off v.cells 0 cs
        rw [V.cells_real]
        simp only [Array.zipIdx_toArray, List.foldl_toArray]
        simp only [Nat.add_zero] at this
        rw [this]
        exact q1

theorem zeroOf_real {t : TypeId} {z : V} (J : Inj) (n : Nat) (h : zeroOf P t = some z) : ∃ ti, P.info? t = some ti ∧ ti.zero = some (z.real J) ∧ z.ok n := by
  unfold zeroOf at h
  cases hi : P.info? t with
  | none => simp [hi] at h
  | some ti =>
    cases hz : ti.zero with
    | none => simp [hi, hz] at h
    | some x =>
      simp only [hi, hz] at h
      obtain ⟨q1, q2⟩ := ofV_real J n 4 x z h
      exact ⟨ti, rfl, by rw [q1]; exact hz, q2⟩
theorem zeroOf_run {t : TypeId} {z : V} (J : Inj) (h : zeroOf P t = some z) : (zeroValue t).run P w = .ok (z.real J) w := by
  obtain ⟨ti, h1, h2, _⟩ := zeroOf_real J 0 h
  simp [zeroValue, typeInfo, h1, h2]

theorem run_mapM_places (w : World) : ∀ (fs : List Field) (r : List (Nat × Nat)), mapO (placeOf P) fs = some r →
    (fs.mapM fun f => (do pure (f.offset, ← sizeOf f.type) : Sem (Nat × Nat))).run P w = .ok r w
  | [], r, h => by simp only [mapO, Option.some.injEq] at h; subst h; simp
  | f :: fs, r, h => by
    simp only [mapO] at h
    cases h1 : sizeB P f.type with
    | none => simp [placeOf, h1] at h
    | some n =>
      simp only [placeOf, h1] at h
      cases h2 : mapO (placeOf P) fs with
      | none => simp [h2] at h
      | some ys =>
        simp only [h2, Option.some.injEq] at h
        subst h
        simp only [List.mapM_cons, Sem.run_bind, sizeB_run w h1, Result.andThen_ok, Sem.run_pure, run_mapM_places w fs ys h2]

theorem vbuild_real {t : TypeId} {ps : List (Nat × V)} {v : V} {n : Nat} (hps : ∀ x ∈ ps, x.2.ok n) (h : vbuild P t ps = some v) :
    (Instr.build t (ps.map fun x => (x.1, x.2.real J)).toArray).run P w = .ok (v.real J) w ∧ v.ok n := by
  unfold vbuild at h
  split at h
  · rename_i z fs hz e
    cases hp : mapO (placeOf P) fs.toList with
    | none => simp [hp] at h
    | some places =>
      simp only [hp] at h
      cases hf : vfill (fun i => places[i]?) z.cells ps with
      | none => simp [hf] at h
      | some cs =>
        simp only [hf, Option.some.injEq] at h
        subst h
        obtain ⟨q1, q2, q3⟩ := vfill_real J _ ps _ cs hf
        obtain ⟨_, _, _, hzok⟩ := zeroOf_real J n hz
        refine ⟨?_, by simp only [V.ok, V.oks_iff]; exact q3 n hps (V.ok_cells hzok)⟩
        simp only [Instr.build, Sem.run_bind, zeroOf_run J hz, Result.andThen_ok, run_underlying e, Array.mapM_eq_mapM_toList, Sem.run_map, run_mapM_places w _ _ hp]
        rw [V.cells_real]
        simp only [List.getElem?_toArray]
        rw [q1]
        simp [V.real, V.reals_eq]
  · rename_i z len el hz e
    cases hs : sizeB P el with
    | none => simp [hs] at h
    | some k =>
      simp only [hs] at h
      cases hf : vfill (fun i => some (i * k, k)) z.cells ps with
      | none => simp [hf] at h
      | some cs =>
        simp only [hf, Option.some.injEq] at h
        subst h
        obtain ⟨q1, q2, q3⟩ := vfill_real J _ ps _ cs hf
        obtain ⟨_, _, _, hzok⟩ := zeroOf_real J n hz
        refine ⟨?_, by simp only [V.ok, V.oks_iff]; exact q3 n hps (V.ok_cells hzok)⟩
        simp only [Instr.build, Sem.run_bind, zeroOf_run J hz, Result.andThen_ok, run_underlying e, sizeB_run w hs]
        rw [V.cells_real]
        simp [q1, V.real, V.reals_eq]
  · simp at h
end
end Go.Vm
namespace Go.Vm
open Go.RowKit

theorem repeatL_length (z : List V) : ∀ n, (repeatL z n).length = n * z.length
  | 0 => by simp [repeatL]
  | n + 1 => by simp [repeatL, repeatL_length z n, Nat.add_mul]; omega
theorem repeatL_get (z : List V) : ∀ (n i : Nat), i < n * z.length → (repeatL z n)[i]? = z[i % z.length]?
  | 0, i, h => by simp at h
  | n + 1, i, h => by
    simp only [repeatL]
    by_cases e : i < z.length
    · rw [List.getElem?_append_left e, Nat.mod_eq_of_lt e]
    · rw [List.getElem?_append_right (by omega), repeatL_get z n (i - z.length) (by rw [Nat.add_mul] at h; omega)]
      rw [← Nat.mod_eq_sub_mod (by omega)]
theorem repeatL_mem {p : V → Prop} (z : List V) (h : ∀ v ∈ z, p v) : ∀ n, ∀ v ∈ repeatL z n, p v
  | 0, v, hv => by simp [repeatL] at hv
  | n + 1, v, hv => by
    simp only [repeatL, List.mem_append] at hv
    rcases hv with hv | hv
    · exact h v hv
    · exact repeatL_mem z h n v hv

section
variable {P : Program} {J : Inj} {ro : Nat} {B : World} {st : St} {w : World}

theorem partsOf_spec {fr : T V} {f : Operand → Value} (hf : ∀ x v, opnd fr x = some v → f x = v.real J ∧ v.ok J.nx) : ∀ (ps : List (Nat × Operand)) (r : List (Nat × V)), partsOf fr ps = some r →
    (ps.map fun x => (x.1, f x.2)) = (r.map fun x => (x.1, x.2.real J)) ∧ ∀ x ∈ r, x.2.ok J.nx
  | [], r, h => by simp only [partsOf, Option.some.injEq] at h; subst h; simp
  | (i, o) :: ps, r, h => by
    simp only [partsOf] at h
    cases h1 : opnd fr o with
    | none => simp [h1] at h
    | some v =>
      cases h2 : partsOf fr ps with
      | none => simp [h1, h2] at h
      | some ys =>
        simp only [h1, h2, Option.some.injEq] at h
        subst h
        obtain ⟨q1, q2⟩ := partsOf_spec hf ps ys h2
        obtain ⟨p1, p2⟩ := hf o v h1
        refine ⟨by simp [q1, p1], fun x hx => ?_⟩
        rcases List.mem_cons.1 hx with rfl | hx
        · exact p2
        · exact q2 x hx
theorem opnds_spec {fr : T V} {f : Operand → Value} (hf : ∀ x v, opnd fr x = some v → f x = v.real J ∧ v.ok J.nx) : ∀ (ps : List Operand) (r : List V), opnds fr ps = some r →
    ps.map f = r.map (V.real J) ∧ V.oks J.nx r
  | [], r, h => by simp only [opnds, Option.some.injEq] at h; subst h; simp [V.oks]
  | o :: ps, r, h => by
    simp only [opnds] at h
    cases h1 : opnd fr o with
    | none => simp [h1] at h
    | some v =>
      cases h2 : opnds fr ps with
      | none => simp [h1, h2] at h
      | some ys =>
        simp only [h1, h2, Option.some.injEq] at h
        subst h
        obtain ⟨q1, q2⟩ := opnds_spec hf ps ys h2
        obtain ⟨p1, p2⟩ := hf o v h1
        exact ⟨by simp [q1, p1], p2, q2⟩

theorem vbuildSlice_post (hn : J.nx = st.nx) (hh : HR J ro B st.hp.get w) (hro : ro ≤ J.nx) {t : TypeId} {len : Nat} {ps : List (Nat × V)} {v : V} {st' : St} (hps : ∀ x ∈ ps, x.2.ok J.nx)
    (h : vbuildSlice P st t len ps = some (v, st')) :
    ∃ J' w', (Instr.buildSlice t len (ps.map fun x => (x.1, x.2.real J)).toArray).run P w = .ok (v.real J') w' ∧ v.ok J'.nx ∧ Post J ro B st w J' st' w' := by
  unfold vbuildSlice at h
  split at h
  · rename_i e hd
    split at h
    · rename_i n z hs hz
      cases hc : (Nat.ble (len * n) 16777216 && Nat.blt 0 n && Nat.beq z.cells.length n) with
      | false => simp [hc] at h
      | true =>
        simp only [hc, cond_true] at h
        simp only [Bool.and_eq_true, Nat.ble_eq, Nat.blt_eq, Nat.beq_eq] at hc
        obtain ⟨⟨c1, c2⟩, c3⟩ := hc
        cases hf : vfill (fun i => some (i * n, n)) (repeatL z.cells len) ps with
        | none => simp [hf] at h
        | some cs =>
          simp only [hf] at h
          cases hb : blkOf cs n false with
          | none => simp [hb] at h
          | some b =>
            simp only [hb, natF_eq, Option.some.injEq, Prod.mk.injEq] at h
            obtain ⟨rfl, rfl⟩ := h
            obtain ⟨_, _, _, hzok⟩ := zeroOf_real J J.nx hz
            obtain ⟨q1, q2, q3⟩ := vfill_real J _ ps _ cs hf
            obtain ⟨b1, b2, b3, b4, b5, b6⟩ := blkOf_spec hb
            refine ⟨J.push (w.heap.size, 0, 0), w.alloc (.cells (cs.map (V.real J)).toArray e), ?_, ?_, ?_⟩
            · have hcells : (Array.range (len * n)).map (fun i => (if len * n = 0 then (#[] : Array Value) else (z.real J).cells)[i % (if len * n = 0 then (#[] : Array Value) else (z.real J).cells).size]!) = ((repeatL z.cells len).map (V.real J)).toArray := by
                apply Array.ext'
                apply List.ext_getElem?
                intro i
                by_cases hi : i < len * n
                · have h0 : ¬ len * n = 0 := by omega
                  have hlen : (z.real J).cells.size = n := by rw [V.cells_real]; simp [c3]
                  have hm : i % n < z.cells.length := by rw [c3]; exact Nat.mod_lt _ c2
                  simp only [h0, if_false, Array.toList_map, Array.toList_range, List.getElem?_map, List.getElem?_range hi, Option.map_some, hlen]
                  rw [repeatL_get _ _ _ (by rw [c3]; exact hi), c3, List.getElem?_eq_getElem hm, Option.map_some]
                  rw [V.cells_real]
                  simp [hm]
                · have : (repeatL z.cells len).length ≤ i := by rw [repeatL_length, c3]; omega
                  simp [hi, List.getElem?_eq_none this]
              have hbig : ¬ (len * n > 2 ^ 24) := by omega
              have hfin : (V.sl st.nx 0 len len false).real (J.push (w.heap.size, 0, 0)) = .slice (some ⟨w.heap.size, 0, none⟩) len len := by
                rw [← hn]; simp [V.real, Inj.push_self]
              rw [hfin]
              unfold Instr.buildSlice
              by_cases h0 : len * n = 0
              · simp only [h0, if_true] at hcells
                simp only [Sem.run_bind, run_underlying hd, Result.andThen_ok, sizeB_run w hs, h0, if_true, pure_bind]
                rw [if_neg (by omega), hcells, q1]
                simp [newRow]
              · simp only [h0, if_false] at hcells
                simp only [Sem.run_bind, run_underlying hd, Result.andThen_ok, sizeB_run w hs, h0, if_false, pure_bind]
                rw [if_neg hbig]
                simp only [Sem.run_bind, zeroOf_run J hz, Result.andThen_ok]
                rw [hcells, q1]
                simp [newRow]
            · simp only [V.ok, Inj.push]; omega
            · refine alloc_post hn hh hro (blkOf_mp hb) (by simp [b1]) (by simp [b3]) (fun o _ => by simp) (fun o u hu => ?_)
              rw [b5] at hu
              have hm := List.mem_of_getElem? hu
              exact ⟨q3 J.nx hps (repeatL_mem _ (V.ok_cells hzok) len) u hm, b6 u hm, by simp [hu]⟩
    · simp at h
  · simp at h

theorem vbuildSlice_fine {t : TypeId} {len : Nat} {ps : List (Nat × V)} {v : V} {st' : St} (h : vbuildSlice P st t len ps = some (v, st')) :
    ∃ e n cs b, blkOf cs n false = some b ∧ (∀ st2 : St, vbuildSlice P st2 t len ps = some (.sl st2.nx 0 len len false, St.alloc ⟨st2.nx, st2.hp, st2.ver⟩ b)) ∧
      ∀ (J : Inj), (∀ x ∈ ps, x.2.ok J.nx) → (∀ u ∈ cs, u.ok J.nx) ∧ ∀ w : World, (Instr.buildSlice t len (ps.map fun x => (x.1, x.2.real J)).toArray).run P w = .ok (.slice (some ⟨w.heap.size, 0, none⟩) len len) (w.alloc (.cells (cs.map (V.real J)).toArray e)) := by
  unfold vbuildSlice at h
  split at h
  · rename_i e hd
    split at h
    · rename_i n z hs hz
      cases hc : (Nat.ble (len * n) 16777216 && Nat.blt 0 n && Nat.beq z.cells.length n) with
      | false => simp [hc] at h
      | true =>
        simp only [hc, cond_true] at h
        have hc' := hc
        simp only [Bool.and_eq_true, Nat.ble_eq, Nat.blt_eq, Nat.beq_eq] at hc
        obtain ⟨⟨c1, c2⟩, c3⟩ := hc
        cases hf : vfill (fun i => some (i * n, n)) (repeatL z.cells len) ps with
        | none => simp [hf] at h
        | some cs =>
          simp only [hf] at h
          cases hb : blkOf cs n false with
          | none => simp [hb] at h
          | some b =>
            refine ⟨e, n, cs, b, hb, fun st2 => by simp only [vbuildSlice, hd, hs, hz, hc', cond_true, hf, hb, natF_eq], fun J hps => ?_⟩
            obtain ⟨_, _, _, hzok⟩ := zeroOf_real J J.nx hz
            obtain ⟨q1, q2, q3⟩ := vfill_real J _ ps _ cs hf
            refine ⟨fun u hu => q3 J.nx hps (repeatL_mem _ (V.ok_cells hzok) len) u hu, fun w => ?_⟩
            have hcells : (Array.range (len * n)).map (fun i => (if len * n = 0 then (#[] : Array Value) else (z.real J).cells)[i % (if len * n = 0 then (#[] : Array Value) else (z.real J).cells).size]!) = ((repeatL z.cells len).map (V.real J)).toArray := by
              apply Array.ext'
              apply List.ext_getElem?
              intro i
              by_cases hi : i < len * n
              · have h0 : ¬ len * n = 0 := by omega
                have hlen : (z.real J).cells.size = n := by rw [V.cells_real]; simp [c3]
                have hm : i % n < z.cells.length := by rw [c3]; exact Nat.mod_lt _ c2
                simp only [h0, if_false, Array.toList_map, Array.toList_range, List.getElem?_map, List.getElem?_range hi, Option.map_some, hlen]
                rw [repeatL_get _ _ _ (by rw [c3]; exact hi), c3, List.getElem?_eq_getElem hm, Option.map_some]
                rw [V.cells_real]
                simp [hm]
              · have : (repeatL z.cells len).length ≤ i := by rw [repeatL_length, c3]; omega
                simp [hi, List.getElem?_eq_none this]
            have hbig : ¬ (len * n > 2 ^ 24) := by omega
            unfold Instr.buildSlice
            by_cases h0 : len * n = 0
            · simp only [h0, if_true] at hcells
              simp only [Sem.run_bind, run_underlying hd, Result.andThen_ok, sizeB_run w hs, h0, if_true, pure_bind]
              rw [if_neg (by omega), hcells, q1]
              simp [newRow]
            · simp only [h0, if_false] at hcells
              simp only [Sem.run_bind, run_underlying hd, Result.andThen_ok, sizeB_run w hs, h0, if_false, pure_bind]
              rw [if_neg hbig]
              simp only [Sem.run_bind, zeroOf_run J hz, Result.andThen_ok]
              rw [hcells, q1]
              simp [newRow]
    · simp at h
  · simp at h

end
end Go.Vm

namespace Go.Vm
open Go.RowKit

section
variable {P : Program} {J : Inj} {ro : Nat} {B : World} {st : St} {w : World}

theorem vmakeSlice_post (hn : J.nx = st.nx) (hh : HR J ro B st.hp.get w) (hro : ro ≤ J.nx) {t : TypeId} {len cap : Int} {kl kc : IntKind} {v : V} {st' : St}
    (h : vmakeSlice P st t len cap = some (v, st')) :
    ∃ J' w', (Instr.makeSlice t (.int kl len) (.int kc cap)).run P w = .ok (v.real J') w' ∧ v.ok J'.nx ∧ Post J ro B st w J' st' w' := by
  unfold vmakeSlice at h
  split at h
  · rename_i e hd
    split at h
    · rename_i ti z hi hz
      generalize hcd : (ile 0 len && ile len cap && ile (ti.bytes * cap) 1099511627776 && ile cap 1099511627776 && Nat.blt 0 ti.size && Nat.beq z.cells.length ti.size && z.cells.all V.atom) = c at h
      cases c with
      | false => simp at h
      | true =>
        simp only [cond_true, natF_eq, Option.some.injEq, Prod.mk.injEq] at h
        obtain ⟨rfl, rfl⟩ := h
        simp only [Bool.and_eq_true, ile, decide_eq_true_eq, Nat.blt_eq, Nat.beq_eq, List.all_eq_true] at hcd
        obtain ⟨⟨⟨⟨⟨⟨c1, c2⟩, c3⟩, c4⟩, c5⟩, c6⟩, c7⟩ := hcd
        obtain ⟨ti', z1, z2, zok⟩ := zeroOf_real J J.nx hz
        rw [hi, Option.some.injEq] at z1
        subst z1
        have hr := run_make (P := P) w t e ti (z.real J) hd hi z2 kl kc len cap c1 c2 (by omega) (by omega)
        refine ⟨J.push (w.heap.size, 0, 0), _, ?_, ?_, alloc_post hn hh hro (b := ⟨.e, z.cells, cap.toNat * ti.size, ti.size, false, none⟩) (x := 0) (e := e) (c := madeCells (z.real J).cells (cap.toNat * ti.size)) (fz := (0, 0)) rfl (by rw [size_madeCells]; exact Nat.le_refl _) (by simp) (fun o _ => by simp) (fun o u hu => ?_)⟩
        · rw [hr, ← hn]
          simp [V.real, Inj.push_self]
        · simp only [V.ok, Inj.push]; omega
        · have ho := Blk.get_lt hu
          dsimp only at ho
          simp only [Blk.get, T.get_e] at hu
          rw [show Nat.blt o (cap.toNat * ti.size) = true from by rw [Nat.blt_eq]; exact ho, cond_true] at hu
          have hm := List.mem_of_getElem? hu
          refine ⟨V.ok_cells zok u hm, c7 u hm, ?_⟩
          have hlen : (z.real J).cells.size = ti.size := by rw [V.cells_real]; simp [c6]
          have hmod : o % ti.size < z.cells.length := by rw [c6]; exact Nat.mod_lt _ c5
          rw [List.getElem?_eq_getElem hmod, Option.some.injEq] at hu
          subst hu
          simp only [madeCells, hlen]
          rw [Array.getElem?_map, Array.getElem?_range, if_pos ho, Option.map_some]
          rw [V.cells_real]
          simp [hmod]
    · simp at h
  · simp at h

end
end Go.Vm

namespace Go.Vm
open Go.RowKit

section
variable {P : Program} {J : Inj} {ro : Nat} {B : World} {st : St} {w : World}

/-! ### Slicing -/

theorem vbound_real {x : V} {y m : Nat} (h : vbound x y = some m) (code : BoundsCode) : (Instr.sliceBound (x.real J) y code).run P w = .ok m w ∧ m ≤ y := by
  unfold vbound at h
  split at h
  · rename_i k n
    generalize hc : (ile 0 n && ile n y) = c at h
    cases c with
    | false => simp at h
    | true =>
      simp only [cond_true, natF_eq, Option.some.injEq] at h
      simp only [Bool.and_eq_true, ile, decide_eq_true_eq] at hc
      subst h
      simp only [V.real]
      exact ⟨run_sliceBound w k n y code hc.1 hc.2, by omega⟩
  · simp at h

/-- low, high and max of a slice whose capacity may be greater than is known. -/
theorem vbounds_real {isS : Bool} {len cap capr : Nat} {lo hi mx : Option V} {l h m : Nat} (hcap : cap ≤ capr) (hmx : mx = none ∨ hi.isSome = true) (hl : len ≤ cap) (e : vbounds len cap lo hi mx = some (l, h, m)) :
    (Instr.sliceBounds isS len capr (lo.map (V.real J)) (hi.map (V.real J)) (mx.map (V.real J))).run P w = .ok (l, h, if mx.isSome then m else capr) w ∧ l ≤ h ∧ h ≤ m ∧ m ≤ cap ∧ (mx = none → m = cap) := by
  have up : ∀ {x : V} {a b k : Nat} (code : BoundsCode), a ≤ b → vbound x a = some k → (Instr.sliceBound (x.real J) b code).run P w = .ok k w := by
    intro x a b k code hab hx
    unfold vbound at hx
    split at hx
    · rename_i kk n
      generalize hc : (ile 0 n && ile n a) = c at hx
      cases c with
      | false => simp at hx
      | true =>
        simp only [cond_true, natF_eq, Option.some.injEq] at hx
        simp only [Bool.and_eq_true, ile, decide_eq_true_eq] at hc
        subst hx
        simp only [V.real]
        exact run_sliceBound w kk n b code hc.1 (by omega)
    · simp at hx
  unfold vbounds at e
  cases mx with
  | none =>
    simp only [vboundO] at e
    cases hi with
    | none =>
      simp only at e
      cases lo with
      | none =>
        simp only [Option.some.injEq, Prod.mk.injEq] at e
        obtain ⟨rfl, rfl, rfl⟩ := e
        refine ⟨by simp [Instr.sliceBounds], by omega, hl, Nat.le_refl _, fun _ => rfl⟩
      | some x =>
        simp only at e
        cases hx : vbound x len with
        | none => simp [hx] at e
        | some k =>
          simp only [hx, Option.some.injEq, Prod.mk.injEq] at e
          obtain ⟨rfl, rfl, rfl⟩ := e
          refine ⟨?_, (vbound_real (P := P) (J := J) (w := w) hx .sliceB).2, hl, Nat.le_refl _, fun _ => rfl⟩
          simp [Instr.sliceBounds, (vbound_real (P := P) (J := J) (w := w) hx .sliceB).1]
    | some y =>
      simp only at e
      cases hy : vbound y cap with
      | none => simp [hy] at e
      | some q =>
        simp only [hy] at e
        have hy' := fun code => up (b := capr) code hcap hy
        have hq := (vbound_real (P := P) (J := J) (w := w) hy .sliceB).2
        cases lo with
        | none =>
          simp only [Option.some.injEq, Prod.mk.injEq] at e
          obtain ⟨rfl, rfl, rfl⟩ := e
          refine ⟨?_, by omega, hq, Nat.le_refl _, fun _ => rfl⟩
          simp [Instr.sliceBounds, hy']
        | some x =>
          simp only at e
          cases hx : vbound x q with
          | none => simp [hx] at e
          | some k =>
            simp only [hx, Option.some.injEq, Prod.mk.injEq] at e
            obtain ⟨rfl, rfl, rfl⟩ := e
            refine ⟨?_, (vbound_real (P := P) (J := J) (w := w) hx .sliceB).2, hq, Nat.le_refl _, fun _ => rfl⟩
            simp [Instr.sliceBounds, hy', (vbound_real (P := P) (J := J) (w := w) hx .sliceB).1]
  | some z =>
    simp only [vboundO] at e
    cases hz : vbound z cap with
    | none => simp [hz] at e
    | some p =>
      simp only [hz] at e
      have hz' := fun code => up (b := capr) code hcap hz
      have hp := (vbound_real (P := P) (J := J) (w := w) hz .sliceB).2
      cases hi with
      | none => simp at hmx
      | some y =>
        simp only at e
        cases hy : vbound y p with
        | none => simp [hy] at e
        | some q =>
          simp only [hy] at e
          have hy' := fun code => (vbound_real (P := P) (J := J) (w := w) hy code).1
          have hq := (vbound_real (P := P) (J := J) (w := w) hy .sliceB).2
          cases lo with
          | none =>
            simp only [Option.some.injEq, Prod.mk.injEq] at e
            obtain ⟨rfl, rfl, rfl⟩ := e
            refine ⟨?_, by omega, hq, hp, by simp⟩
            simp [Instr.sliceBounds, hy', hz']
          | some x =>
            simp only at e
            cases hx : vbound x q with
            | none => simp [hx] at e
            | some k =>
              simp only [hx, Option.some.injEq, Prod.mk.injEq] at e
              obtain ⟨rfl, rfl, rfl⟩ := e
              refine ⟨?_, (vbound_real (P := P) (J := J) (w := w) hx .sliceB).2, hq, hp, by simp⟩
              simp [Instr.sliceBounds, hy', hz', fun code => (vbound_real (P := P) (J := J) (w := w) hx code).1]

end
end Go.Vm

namespace Go.Vm
open Go.RowKit

section
variable {P : Program} {J : Inj} {ro : Nat} {B : World} {st : St} {w : World}

/-! ### Slicing -/

theorem vslice_real {n : Nat} {t : TypeId} {x v : V} {lo hi mx : Option V} (hx : x.ok n) (h : vslice P t x lo hi mx = some v) :
    (Instr.sliceAt t (x.real J) (lo.map (V.real J)) (hi.map (V.real J)) (mx.map (V.real J))).run P w = .ok (v.real J) w ∧ v.ok n := by
  unfold vslice at h
  split at h
  · rename_i len bits e
    cases mx with
    | some z => simp at h
    | none =>
      simp only at h
      cases hb : vbounds len len lo hi none with
      | none => simp [hb] at h
      | some q =>
        obtain ⟨l, hh, m⟩ := q
        simp only [hb, Option.some.injEq] at h
        subst h
        simp only [V.ok] at hx
        obtain ⟨r1, r2, r3, r4, r5⟩ := vbounds_real (P := P) (J := J) (w := w) (isS := false) (capr := len) (Nat.le_refl _) (.inl rfl) (Nat.le_refl _) hb
        have hs : (⟨(unpackL len bits).toArray⟩ : ByteArray).size = len := by simp [ByteArray.size, length_unpackL]
        refine ⟨?_, by simp only [sCut, V.ok]; exact Nat.mod_lt _ (Nat.pow_pos (by decide))⟩
        simp only [V.real, Instr.sliceAt, Sem.run_bind, run_underlying e, Result.andThen_ok, Instr.slice, Option.map_none]
        simp only [Option.map_none, Option.isSome_none] at r1
        simp only [hs, r1, Result.andThen_ok, Option.isSome_none, Bool.false_eq_true, if_false, Sem.run_pure, Sem.run_bind]
        rw [ByteArray.extract_mk, sCut, V.real, unpackL_cut len bits l hh r2 (by omega)]
  · rename_i el g off len cap op e
    cases hs : sizeB P el with
    | none => simp [hs] at h
    | some k =>
      simp only [hs] at h
      have hmx : mx = none ∨ hi.isSome = true := by cases hi <;> cases mx <;> simp_all
      have h' : (match vbounds len cap lo hi mx with
        | some (l, h, m) => cond (op && mx.isNone)
          (cond (Nat.blt l cap || Nat.beq l 0) (some (V.sl g (off + l * k) (h - l) (cap - l) true)) (some (V.se g off (off + l * k))))
          (cond (!mx.isNone && Nat.beq m l) (some (V.sy g off off)) (some (V.sl g (cond (Nat.beq m l) off (off + l * k)) (h - l) (m - l) false)))
        | none => none) = some v := by
        cases hi <;> cases mx <;> first | exact h | simp at h
      clear h
      cases hb : vbounds len cap lo hi mx with
      | none => simp [hb] at h'
      | some q =>
        obtain ⟨l, hh, m⟩ := q
        simp only [hb] at h'
        simp only [V.ok] at hx
        obtain ⟨r1, r2, r3, r4, r5⟩ := vbounds_real (P := P) (J := J) (w := w) (isS := true) (capr := cap + cond op (J.m g).2.2 0) (by omega) hmx hx.2 hb
        simp only [V.real, Instr.sliceAt, Sem.run_bind, run_underlying e, Result.andThen_ok, Instr.slice, r1, sizeB_run w hs, Sem.run_pure]
        cases hc : (op && mx.isNone) with
        | true =>
          simp only [hc, cond_true] at h'
          simp only [Bool.and_eq_true, Option.isNone_iff_eq_none] at hc
          obtain ⟨rfl, rfl⟩ := hc
          have hm := r5 rfl
          subst hm
          generalize hd : (Nat.blt l m || Nat.beq l 0) = d at h'
          cases d with
          | false =>
            simp only [cond_true, cond_false, Option.some.injEq] at h'
            subst h'
            simp only [Bool.or_eq_false_iff] at hd
            have d1 : ¬ l < m := fun q => by rw [← Nat.blt_eq, hd.1] at q; cases q
            refine ⟨?_, by simp only [V.ok]; omega⟩
            have d3 : hh - l = 0 := by omega
            simp only [V.real, cond_true, Option.isSome_none, Bool.false_eq_true, if_false, Result.ok.injEq, Value.slice.injEq, and_true, true_and, d3]
            refine ⟨?_, by omega⟩
            by_cases hml : (J.m g).2.2 = 0
            · rw [if_pos (by omega), hml]
              simp
            · rw [if_neg (by omega), show Nat.beq (J.m g).2.2 0 = false from by rw [Bool.eq_false_iff]; intro q; rw [Nat.beq_eq] at q; exact hml q]
              simp [Addr.add_lit, Nat.add_assoc]
          | true =>
            simp only [cond_true, Option.some.injEq] at h'
            subst h'
            simp only [Bool.or_eq_true, Nat.blt_eq, Nat.beq_eq] at hd
            refine ⟨?_, by simp only [V.ok]; omega⟩
            simp only [V.real, cond_true, Option.isSome_none, Bool.false_eq_true, if_false, Result.ok.injEq, Value.slice.injEq, and_true, true_and]
            refine ⟨?_, by omega⟩
            by_cases hml : m + (J.m g).2.2 = l
            · rw [if_pos hml]
              have : l = 0 := by omega
              subst this
              simp
            · rw [if_neg hml]
              simp [Addr.add_lit, Nat.add_assoc]
        | false =>
          simp only [hc, cond_false] at h'
          have h' : v = V.sy g off off ∧ m = l ∨ v = V.sl g (cond (Nat.beq m l) off (off + l * k)) (hh - l) (m - l) false := by
            cases hq : (!mx.isNone && Nat.beq m l) with
            | true =>
              rw [hq] at h'
              rw [Bool.and_eq_true, Nat.beq_eq] at hq
              exact .inl ⟨(Option.some.inj h').symm, hq.2⟩
            | false => rw [hq] at h'; exact .inr (Option.some.inj h').symm
          refine ⟨?_, by rcases h' with ⟨rfl, _⟩ | rfl <;> simp only [V.ok] <;> omega⟩
          have hM : (if mx.isSome = true then m else cap + cond op (J.m g).2.2 0) = m := by
            cases mx with
            | some z => simp
            | none =>
              have : op = false := by simpa using hc
              subst this
              simp [r5 rfl]
          rw [hM]
          rcases h' with ⟨rfl, rfl⟩ | rfl
          · have : hh - m = 0 := by omega
            simp [V.real, this]
          simp only [V.real, cond_false, Nat.add_zero, Result.ok.injEq, Value.slice.injEq, and_true]
          by_cases hml : m = l
          · subst hml; simp
          · have : Nat.beq m l = false := by rw [Bool.eq_false_iff]; intro h; rw [Nat.beq_eq] at h; exact hml h
            simp [hml, this, Addr.add_lit, Nat.add_assoc]
  · rename_i el e
    cases hs : sizeB P el with
    | none => simp [hs] at h
    | some k =>
      simp only [hs] at h
      have hmx : mx = none ∨ hi.isSome = true := by cases hi <;> cases mx <;> simp_all
      have h' : (match vbounds 0 0 lo hi mx with
        | some _ => some V.sn
        | none => none) = some v := by
        cases hi <;> cases mx <;> first | exact h | simp at h
      clear h
      cases hb : vbounds 0 0 lo hi mx with
      | none => simp [hb] at h'
      | some q =>
        obtain ⟨l, hh, m⟩ := q
        simp only [hb, Option.some.injEq] at h'
        subst h'
        obtain ⟨r1, r2, r3, r4, r5⟩ := vbounds_real (P := P) (J := J) (w := w) (isS := true) (capr := 0) (Nat.le_refl _) hmx (Nat.le_refl _) hb
        refine ⟨?_, by simp [V.ok]⟩
        have : m = 0 := by omega
        subst this
        have : hh = 0 := by omega
        subst this
        have : l = 0 := by omega
        subst this
        simp [V.real, Instr.sliceAt, run_underlying e, Instr.slice, r1, sizeB_run w hs]
  · rename_i el g off off2 e
    split at h
    · rename_i k hs
      cases hb : vbounds 0 0 lo hi none with
      | none => simp [hb] at h
      | some q =>
        obtain ⟨l, hh, m⟩ := q
        simp only [hb, Option.some.injEq] at h
        subst h
        obtain ⟨r1, r2, r3, r4, r5⟩ := vbounds_real (P := P) (J := J) (w := w) (isS := true) (capr := (J.m g).2.2) (Nat.zero_le _) (.inl rfl) (Nat.le_refl _) hb
        refine ⟨?_, by simpa [V.ok] using hx⟩
        have : m = 0 := r5 rfl
        subst this
        have : hh = 0 := by omega
        subst this
        have : l = 0 := by omega
        subst this
        simp only [Option.map_none, Option.isSome_none] at r1
        simp [V.real, Instr.sliceAt, run_underlying e, Instr.slice, r1, sizeB_run w hs]
        intro _; simp [Addr.add]
    · rename_i k m0 hs
      cases hi with
      | none => cases h
      | some hv =>
      dsimp only at h
      cases hb : vbounds 0 0 lo (some hv) (some m0) with
      | none => simp [hb] at h
      | some q =>
        obtain ⟨l, hh, m⟩ := q
        simp only [hb, Option.some.injEq] at h
        subst h
        obtain ⟨r1, r2, r3, r4, r5⟩ := vbounds_real (P := P) (J := J) (w := w) (isS := true) (capr := (J.m g).2.2) (Nat.zero_le _) (.inr rfl) (Nat.le_refl _) hb
        refine ⟨?_, by simpa [V.ok] using hx⟩
        have : m = 0 := by omega
        subst this
        have : hh = 0 := by omega
        subst this
        have : l = 0 := by omega
        subst this
        simp only [Option.map_some, Option.isSome_some, if_true] at r1
        simp [V.real, Instr.sliceAt, run_underlying e, Instr.slice, r1, sizeB_run w hs]
    · cases h
  · rename_i el g off off2 e
    cases hs : sizeB P el with
    | none => simp [hs] at h
    | some k =>
      simp only [hs] at h
      have hmx : mx = none ∨ hi.isSome = true := by cases hi <;> cases mx <;> simp_all
      have h' : (match vbounds 0 0 lo hi mx with
        | some _ => some (V.sy g off off2)
        | none => none) = some v := by
        cases hi <;> cases mx <;> first | exact h | simp at h
      clear h
      cases hb : vbounds 0 0 lo hi mx with
      | none => simp [hb] at h'
      | some q =>
        obtain ⟨l, hh, m⟩ := q
        simp only [hb, Option.some.injEq] at h'
        subst h'
        obtain ⟨r1, r2, r3, r4, r5⟩ := vbounds_real (P := P) (J := J) (w := w) (isS := true) (capr := 0) (Nat.le_refl _) hmx (Nat.le_refl _) hb
        refine ⟨?_, by simpa [V.ok] using hx⟩
        have : m = 0 := by omega
        subst this
        have : hh = 0 := by omega
        subst this
        have : l = 0 := by omega
        subst this
        simp [V.real, Instr.sliceAt, run_underlying e, Instr.slice, r1, sizeB_run w hs]
  · rename_i el a e
    cases hs : sizeB P el with
    | none => simp [hs] at h
    | some k =>
      simp only [hs] at h
      have hmx : mx = none ∨ hi.isSome = true := by cases hi <;> cases mx <;> simp_all
      have h' : (match vbounds 0 0 lo hi mx with
        | some _ => some (V.ze a)
        | none => none) = some v := by
        cases hi <;> cases mx <;> first | exact h | simp at h
      clear h
      cases hb : vbounds 0 0 lo hi mx with
      | none => simp [hb] at h'
      | some q =>
        obtain ⟨l, hh, m⟩ := q
        simp only [hb, Option.some.injEq] at h'
        subst h'
        obtain ⟨r1, r2, r3, r4, r5⟩ := vbounds_real (P := P) (J := J) (w := w) (isS := true) (capr := 0) (Nat.le_refl _) hmx (Nat.le_refl _) hb
        refine ⟨?_, by simp [V.ok]⟩
        have : m = 0 := by omega
        subst this
        have : hh = 0 := by omega
        subst this
        have : l = 0 := by omega
        subst this
        simp [V.real, Instr.sliceAt, run_underlying e, Instr.slice, r1, sizeB_run w hs]
  · rename_i len el g off e
    cases hs : sizeB P el with
    | none => simp [hs] at h
    | some k =>
      simp only [hs] at h
      have hmx : mx = none ∨ hi.isSome = true := by cases hi <;> cases mx <;> simp_all
      have h' : (match vbounds len len lo hi mx with
        | some (l, h, m) => some (V.sl g (cond (Nat.beq m l) off (off + l * k)) (h - l) (m - l) false)
        | none => none) = some v := by
        cases hi <;> cases mx <;> first | exact h | simp at h
      clear h
      cases hb : vbounds len len lo hi mx with
      | none => simp [hb] at h'
      | some q =>
        obtain ⟨l, hh, m⟩ := q
        simp only [hb, Option.some.injEq] at h'
        subst h'
        simp only [V.ok] at hx
        obtain ⟨r1, r2, r3, r4, r5⟩ := vbounds_real (P := P) (J := J) (w := w) (isS := false) (capr := len) (Nat.le_refl _) hmx (Nat.le_refl _) hb
        refine ⟨?_, by simp only [V.ok]; omega⟩
        have hM : (if mx.isSome = true then m else len) = m := by
          cases mx with
          | some z => simp
          | none => simp [r5 rfl]
        rw [hM] at r1
        simp only [V.real, Instr.sliceAt, Sem.run_bind, run_underlying e, Result.andThen_ok, Instr.sureAddr, Sem.run_pure, r1, sizeB_run w hs]
        by_cases hml : m = l
        · subst hml; simp
        · have : Nat.beq m l = false := by rw [Bool.eq_false_iff]; intro h; rw [Nat.beq_eq] at h; exact hml h
          simp [hml, this, Addr.add_lit, Nat.add_assoc]
  · simp at h
end
end Go.Vm
namespace Go.Vm
open Go.RowKit

theorem cellsOfBytes_eq : ∀ (n x : Nat), cellsOfBytes n x = (unpackL n x).map fun c => V.i .u8 (.ofNat c.toNat)
  | 0, _ => rfl
  | n + 1, x => by
    have : x % 256 % 2 ^ 8 = x % 256 := by omega
    simp [cellsOfBytes, unpackL, cellsOfBytes_eq n, this]

section
variable {P : Program} {J : Inj} {ro : Nat} {B : World} {st : St} {w : World}

theorem vlen_real {x : V} {n : Nat} (h : vlen x = some n) : (Builtin.lenOf (x.real J)).run P w = .ok n w := by
  unfold vlen at h
  split at h <;> simp only [Option.some.injEq, reduceCtorEq] at h <;> subst h <;> simp [V.real, Builtin.lenOf, ByteArray.size, length_unpackL]

theorem bytes_extract (s n x : Nat) (h : n ≤ s) : ((⟨(unpackL s x).toArray⟩ : ByteArray).extract 0 n).data.toList = unpackL n x := by
  rw [ByteArray.extract_mk]
  have := unpackL_cut s x 0 n (by omega) h
  simp only [Nat.sub_zero, Nat.pow_zero, Nat.div_one] at this
  simp only [Nat.sub_zero]
  rw [← this, unpackL_mod]

/-- The first cells of a slice, or of a string. -/
theorem vfirst_real (hh : HR J ro B st.hp.get w) {es n m : Nat} {x : V} {cs : List V} (hx : x.ok J.nx) (hl : vlen x = some m) (hm : n ≤ m)
    (h : vfirst st es n x = some cs) :
    (Builtin.firstCells es n (x.real J)).run P w = .ok (cs.map (V.real J)).toArray w ∧ cs.length = n * es ∧ (∀ v ∈ cs, v.ok J.nx) ∧ ∀ v ∈ cs, v.atom = true := by
  unfold vfirst at h
  split at h
  · simp only [Option.some.injEq] at h
    subst h
    simp only [vlen, Option.some.injEq] at hl
    subst hl
    have : n = 0 := by omega
    subst this
    simp [V.real, Builtin.firstCells]
  · rename_i s y
    cases hes : Nat.beq es 1 with
    | false => simp [hes] at h
    | true =>
    simp only [hes, cond_true, Option.some.injEq] at h
    subst h
    simp only [vlen, Option.some.injEq] at hl
    subst hl
    simp only [V.ok] at hx
    have he := Nat.eq_of_beq_eq_true hes
    subst he
    rw [cellsOfBytes_eq]
    refine ⟨?_, by simp [length_unpackL], ?_, ?_⟩
    · simp only [V.real, Builtin.firstCells, Sem.run_pure, Result.ok.injEq, and_true]
      apply Array.ext'
      rw [Array.toList_map, bytes_extract s n y hm]
      simp [V.real]
    · intro v hv
      obtain ⟨c, _, rfl⟩ := List.mem_map.1 hv
      simp [V.ok]
    · intro v hv
      obtain ⟨c, _, rfl⟩ := List.mem_map.1 hv
      rfl
  · rename_i g off len cap op
    cases hb : st.hp.get g with
    | none => simp [hb] at h
    | some b =>
      simp only [hb] at h
      obtain ⟨q1, q2, q3, q4⟩ := (hh.blk g b hb).row (P := P) h
      exact ⟨by simp only [V.real, Builtin.firstCells]; exact q1, q2, q3, q4⟩
  · cases hz : Nat.beq n 0 with
    | false => simp [hz] at h
    | true =>
      simp only [hz, cond_true, Option.some.injEq] at h
      subst h
      rw [Nat.beq_eq] at hz
      subst hz
      simp [V.real, Builtin.firstCells, loadCells, loadCellsFrom]
  · cases hz : Nat.beq n 0 with
    | false => simp [hz] at h
    | true =>
      simp only [hz, cond_true, Option.some.injEq] at h
      subst h
      rw [Nat.beq_eq] at hz
      subst hz
      simp [V.real, Builtin.firstCells, loadCells, loadCellsFrom]
  · cases hz : Nat.beq n 0 with
    | false => simp [hz] at h
    | true =>
      simp only [hz, cond_true, Option.some.injEq] at h
      subst h
      rw [Nat.beq_eq] at hz
      subst hz
      simp [V.real, Builtin.firstCells, loadCells, loadCellsFrom]
  · simp at h

/-! ### append -/

theorem growBy_le (n : Nat) : ∀ (r c : Nat), c ≤ n → Builtin.growBy n r c ≤ n + (n + 768) / 4
  | 0, c, h => by simp only [Builtin.growBy]; omega
  | r + 1, c, h => by
    simp only [Builtin.growBy]
    split
    · omega
    · by_cases e : c + (c + 768) / 4 ≤ n
      · exact growBy_le n r _ e
      · cases r with
        | zero => simp only [Builtin.growBy]; omega
        | succ r => simp only [Builtin.growBy]; rw [if_pos (by omega)]; omega
theorem nextslicecap_le (need old : Nat) (h : old < need) : Builtin.nextslicecap need old ≤ 2 * need + 192 := by
  unfold Builtin.nextslicecap
  split
  · omega
  · split
    · omega
    · have := growBy_le need 4 old (by omega)
      omega

/-- Cells are written into a block of the model. -/
theorem store_raw {P : Program} : ∀ (vs : List Value) (w : World) (r s i : Nat) (c : Array Value) (e : TypeId) (fz : Nat × Nat), w.heap[r]? = some (.cells c e fz) → s + i + vs.length ≤ c.size →
    (∀ o, o < c.size → (decide (fz.1 ≤ o) && decide (o < fz.2)) = false) → (∀ v ∈ vs, v.oneCell' = true) →
    ∃ w' c', (storeCells ⟨r, s, none⟩ vs i).run P w = .ok () w' ∧ w'.heap[r]? = some (.cells c' e fz) ∧ c'.size = c.size ∧ (∀ o, c'[o]? = if s + i ≤ o ∧ o < s + i + vs.length then vs[o - (s + i)]? else c[o]?) ∧
      (∀ k, k ≠ r → w'.heap[k]? = w.heap[k]?) ∧ w'.heap.size = w.heap.size ∧ w'.os = w.os ∧ w'.tape = w.tape ∧ w'.output = w.output
  | [], w, r, s, i, c, e, fz, hc, _, _, _ => ⟨w, c, rfl, hc, rfl, fun o => by rw [if_neg (by simp)], fun _ _ => rfl, rfl, rfl, rfl, rfl⟩
  | v :: vs, w, r, s, i, c, e, fz, hc, hl, hf, h1 => by
    simp only [List.length_cons] at hl
    have hsome : w.cell? ⟨r, s + i, none⟩ = some c[s + i] := by simp [World.cell?, hc, Array.getElem?_eq_getElem (show s + i < c.size by omega)]
    have hfr : w.frozen? ⟨r, s + i, none⟩ = false := by
      have := hf (s + i) (by omega)
      simp only [World.frozen?, hc]; exact this
    have hself : (w.setCell ⟨r, s + i, none⟩ v).heap[r]? = some (.cells (c.setIfInBounds (s + i) v) e fz) := by
      simp only [World.setCell, Array.getElem?_modify, hc, if_true, Option.map_some]
      rfl
    obtain ⟨w', c', q1, q2, q3, q4, q5, q6, q7, q8, q9⟩ := store_raw (P := P) vs (w.setCell ⟨r, s + i, none⟩ v) r s (i + 1) _ e fz hself (by rw [Array.size_setIfInBounds]; omega) (by rw [Array.size_setIfInBounds]; exact hf) (fun x hx => h1 x (List.mem_cons_of_mem _ hx))
    refine ⟨w', c', ?_, q2, by rw [q3, Array.size_setIfInBounds], fun o => ?_, fun k hk => by rw [q5 k hk]; exact Below.heap_setCell _ _ _ _ hk, by rw [q6]; simp [World.setCell], q7, q8, q9⟩
    · unfold storeCells
      rw [Sem.run_bind, Addr.add_lit, run_store P w _ _ .plain (h1 v (List.mem_cons_self ..)), hsome]
      simp only [hfr, Bool.false_eq_true, if_false, Result.andThen_ok]
      exact q1
    · rw [q4 o]
      by_cases e1 : o = s + i
      · subst e1
        rw [if_neg (by omega), if_pos (by simp), Array.getElem?_setIfInBounds_self_of_lt (by omega)]
        simp
      · by_cases e2 : s + (i + 1) ≤ o ∧ o < s + (i + 1) + vs.length
        · rw [if_pos e2, if_pos (by simp; omega), show o - (s + i) = (o - (s + (i + 1))) + 1 from by omega]
          simp
        · rw [if_neg e2, if_neg (by simp; omega), Array.getElem?_setIfInBounds_ne (by omega)]

/-- What the new block of an append holds: the old elements and the new ones. -/
def GrownTo (b b1 : Blk) (off k es : Nat) (new : List V) : Prop :=
  b1.sz = k + new.length ∧ b1.es = es ∧ b1.op = true ∧ b1.zero = [] ∧ (k = 0 ∨ off + k ≤ b.sz) ∧ ∀ o v, b1.get o = some v → (o < k ∧ b.get (off + o) = some v) ∨ (k ≤ o ∧ new[o - k]? = some v)

theorem vgrown_mp {b b1 : Blk} {off len es : Nat} {new : List V} (h : vgrown b off len es new = some b1) : b.mp = none ∧ b1.mp = none := by
  unfold vgrown at h
  cases hm : b.mp with
  | some _ => rw [hm] at h; cases h
  | none =>
    rw [hm] at h
    refine ⟨rfl, ?_⟩
    dsimp only at h
    generalize (b.op && Nat.beq off 0 && Nat.beq (len * es) b.sz && Nat.beq b.es es) = c at h
    cases c with
    | true => simp only [cond_true, Blk.grow] at h; exact (Blk.put_mp _ _ _ _ h).trans hm
    | false =>
      simp only [cond_false] at h
      cases hr : b.row (len * es) off with
      | none => simp [hr] at h
      | some old => simp only [hr] at h; exact blkOf_mp h
theorem vgrown_spec {b b1 : Blk} {off len es : Nat} {new : List V} (hz : b.op = true → b.zero = []) (h : vgrown b off len es new = some b1) : GrownTo b b1 off (len * es) es new := by
  have h0 := h
  unfold vgrown at h
  rw [(vgrown_mp h0).1] at h
  dsimp only at h
  generalize hc : (b.op && Nat.beq off 0 && Nat.beq (len * es) b.sz && Nat.beq b.es es) = c at h
  cases c with
  | true =>
    simp only [cond_true, Blk.grow] at h
    simp only [Bool.and_eq_true, Nat.beq_eq] at hc
    obtain ⟨⟨⟨c1, rfl⟩, c3⟩, c4⟩ := hc
    obtain ⟨p1, p2, p3, p4, p5, p6, p7⟩ := Blk.put_spec _ _ _ _ h
    refine ⟨by rw [p1, c3], by rw [p2]; exact c4, by rw [p3], by rw [p4]; exact hz c1, .inr (by omega), fun o v hv => ?_⟩
    rw [p5 o] at hv
    rw [c3]
    by_cases e : b.sz ≤ o ∧ o < b.sz + new.length
    · rw [if_pos e] at hv
      exact .inr ⟨e.1, hv⟩
    · rw [if_neg e] at hv
      have ho := Blk.get_lt hv
      dsimp only at ho
      have ho' : o < b.sz := by omega
      refine .inl ⟨ho', ?_⟩
      simp only [Blk.get, Nat.zero_add] at hv ⊢
      rw [show Nat.blt o (b.sz + new.length) = true from by rw [Nat.blt_eq]; exact ho, cond_true] at hv
      rw [show Nat.blt o b.sz = true from by rw [Nat.blt_eq]; exact ho', cond_true]
      exact hv
  | false =>
    simp only [cond_false] at h
    cases hr : b.row (len * es) off with
    | none => simp [hr] at h
    | some old =>
      simp only [hr] at h
      obtain ⟨b1', b2, b3, b4, b5, b6⟩ := blkOf_spec h
      obtain ⟨r1, r2⟩ := Blk.row_spec _ _ _ hr
      refine ⟨by rw [b1']; simp [r1], b2, b3, b4, ?_, fun o v hv => ?_⟩
      · rcases Nat.eq_zero_or_pos (len * es) with h0 | h0
        · exact .inl h0
        · have hx : len * es - 1 < old.length := by omega
          have := Blk.get_lt (r2 (len * es - 1) _ (List.getElem?_eq_getElem hx))
          exact .inr (by omega)
      rw [b5 o] at hv
      by_cases e : o < len * es
      · rw [List.getElem?_append_left (by omega)] at hv
        exact .inl ⟨e, r2 o v hv⟩
      · rw [List.getElem?_append_right (by omega), r1] at hv
        exact .inr ⟨by omega, hv⟩

theorem zeroFits_real {e : TypeId} {n : Nat} (h : zeroFits P e n = true) : ∃ z : V, zeroOf P e = some z ∧ z.cells.length = n := by
  unfold zeroFits at h
  cases hz : zeroOf P e with
  | none => simp [hz] at h
  | some z => simp only [hz, Nat.beq_eq] at h; exact ⟨z, rfl, h⟩

theorem len_cells_at {c : Array Value} {a : Addr} {n k : Nat} {w : World} (hc : ∀ j, j < n → w.cell? (a.add j) = c[k + j]?) (hk : k + n ≤ c.size) :
    (loadCells a n).run P w = .ok (c.extract k (k + n)) w := by
  have := run_loadCells (P := P) (w := w) a n (fun j => c[k + j]?.getD undef) (fun j hj => by rw [hc j hj, Array.getElem?_eq_getElem (by omega)]; rfl)
  rw [this]
  congr 1
  apply Array.ext
  · simp; omega
  · intro i h1 h2
    simp at h1 h2
    simp
    rw [Array.getElem?_eq_getElem (by omega)]; rfl

/-- The growth of an append, wherever its new row lies: a new block. -/
theorem grow_post (hn : J.nx = st.nx) (hh : HR J ro B st.hp.get w) (hro : ro ≤ J.nx) {h0 : Nat → Option Blk} (hless : ∀ g b, h0 g = some b → st.hp.get g = some b) {b1 : Blk} {k es x : Nat} {old new : Array Value} {newV : List V} {rest : Array Value} {e : TypeId} {hp : T Blk} {ver : Nat}
    (hhp : ∀ g, hp.get g = h0 g) (hver : ver ≤ st.ver) (hext : ∀ g b, st.hp.get g = some b → g < ver → h0 g = some b)
    (hk : old.size = k) (hnew : new = (newV.map (V.real J)).toArray) (hrest : rest.size = x * es) (hes : b1.es = es) (hsz : b1.sz = k + newV.length) (hz : b1.zero = []) (hmp : b1.mp = none)
    (hold : ∀ o v, b1.get o = some v → (o < k ∧ v.ok J.nx ∧ v.atom = true ∧ old[o]? = some (v.real J)) ∨ (k ≤ o ∧ newV[o - k]? = some v)) (hnv : ∀ v ∈ newV, v.ok J.nx) (hna : ∀ v ∈ newV, v.atom = true) :
    Post J ro B st w (J.push (w.heap.size, 0, x)) (St.alloc ⟨st.nx, hp, ver⟩ b1) (w.drew.alloc (.cells (old ++ new ++ rest) e)) := by
  subst hnew
  have hh0 : HR J ro B h0 w.drew := (hh.less hless).congr rfl
  have hal := hh0.alloc (b := b1) (x := x) (c := old ++ (newV.map (V.real J)).toArray ++ rest) (e := e) (fz := (0, 0)) hmp (by simp; omega) (fun _ => ⟨by simp [hes]; omega, hz⟩) (fun o _ => by simp) (fun o v hv => ?_)
  · refine ⟨J.le_push _, by show J.nx + 1 = st.nx + 1; omega, ?_, (Below.drew (Below.refl B.heap.size w)).alloc hh.base.size _, ⟨Nat.le_succ _, hver, fun g bk hg he => ?_⟩, Nat.le_succ_of_le hro, ?_⟩
    · show HR _ ro B (hp.upd st.nx (some b1)).get _
      rw [get_upd_fun, show hp.get = h0 from funext hhp]
      rw [hn] at hal
      exact hal
    · have hlt := (hh.blk g bk hg).1
      show (hp.upd st.nx (some b1)).get g = some bk
      rw [T.get_upd, if_neg (by omega), hhp]
      exact hext g bk hg he
    · refine Fr.push (h0 := h0) hless (fun g b hg => (hh.blk g b hg).1) (.inl (Nat.le_refl _)) (fun g bk hg => ?_) (fun i hi _ => ?_)
      · have hg : (hp.upd st.nx (some b1)).get g = some bk := hg
        rw [T.get_upd] at hg
        by_cases e1 : g = st.nx
        · exact .inl (e1.trans hn.symm)
        · rw [if_neg e1, hhp] at hg; exact .inr hg
      · exact Below.heap_alloc w.drew _ _ hi
  · rcases hold o v hv with ⟨h1, h2, h3, h4⟩ | ⟨h1, h2⟩
    · refine ⟨h2, h3, ?_⟩
      rw [Array.getElem?_append_left (by simp; omega), Array.getElem?_append_left (by omega)]
      exact h4
    · have hm := List.mem_of_getElem? h2
      refine ⟨hnv v hm, hna v hm, ?_⟩
      have : o - k < newV.length := by
        rcases Nat.lt_or_ge (o - k) newV.length with h | h
        · exact h
        · rw [List.getElem?_eq_none h] at h2; cases h2
      rw [Array.getElem?_append_left (by simp; omega), Array.getElem?_append_right (by omega), hk]
      simp [h2]
end
end Go.Vm
namespace Go.Vm
open Go.RowKit

section
variable {P : Program} {J : Inj} {ro : Nat} {B : World} {st : St} {w : World}

theorem append_room {t u ty e : TypeId} {ti : TypeInfo} {d : TypeDesc} (hd : P.underlying t = some (.slice e)) (hi : P.info? e = some ti) (hu : P.underlying u = some d) (hni : ∀ k, d ≠ .int k)
    {base : Option Addr} {sLen sCap n : Nat} {X : Value} {new : Array Value} (hl : (Builtin.lenOf X).run P w = .ok n w) (hf : (Builtin.firstCells ti.size n X).run P w = .ok new w) (hroom : sLen + n ≤ sCap) :
    (Builtin.append_ #[t, u] ty #[.slice base sLen sCap, X]).run P w =
      ((match base with | some a => storeCells (a.add (sLen * ti.size)) new.toList | none => pure () : Sem Unit).run P w).andThen fun _ w' => .ok (.slice base (sLen + n) sCap) w' := by
  have hz : (match d with | .int _ => true | _ => false) = false := by cases d <;> first | rfl | exact absurd rfl (hni _)
  simp only [Builtin.append_, List.getElem?_toArray, List.getElem?_cons_zero, List.getElem?_cons_succ, Sem.run_bind, run_underlying hd, run_underlying hu, Result.andThen_ok, sizeOf, typeInfo, run_program, hi, Sem.run_pure]
  cases d <;> first
    | exact absurd rfl (hni _)
    | (simp [hl, hf, hroom]; cases base <;> simp)

theorem append_grow {t u ty e : TypeId} {ti : TypeInfo} {d : TypeDesc} (hd : P.underlying t = some (.slice e)) (hi : P.info? e = some ti) (hu : P.underlying u = some d) (hni : ∀ k, d ≠ .int k)
    {base : Option Addr} {sLen sCap n : Nat} {X : Value} {old new : Array Value} {z : Value} (hz : ti.zero = some z) (hb : 0 < ti.bytes) (hl : (Builtin.lenOf X).run P w = .ok n w)
    (hf : (Builtin.firstCells ti.size n X).run P w.drew = .ok new w.drew) (ho : (Builtin.firstCells ti.size sLen (.slice base sLen sCap)).run P w.drew = .ok old w.drew)
    (hroom : ¬ sLen + n ≤ sCap) (hbound : (sLen + n) * ti.bytes ≤ 1099511627776) :
    ∃ c, sLen + n ≤ c ∧ (Builtin.append_ #[t, u] ty #[.slice base sLen sCap, X]).run P w =
      .ok (.slice (some ⟨w.heap.size, 0, none⟩) (sLen + n) c) (w.drew.alloc (.cells (old ++ new ++ Builtin.zeroCells z.cells (c - (sLen + n))) e)) := by
  have hneed : sLen + n ≤ 1099511627776 := Nat.le_trans (Nat.le_mul_of_pos_right _ hb) hbound
  have hbytes : ti.bytes ≤ 1099511627776 := Nat.le_trans (Nat.le_mul_of_pos_left _ (by omega)) hbound
  have hcap : ¬ (Builtin.nextslicecap (sLen + n) sCap * ti.bytes > 2 ^ 48) := by
    have h1 := nextslicecap_le (sLen + n) sCap (by omega)
    have h2 := Nat.mul_le_mul_right ti.bytes h1
    have h3 : (2 * (sLen + n) + 192) * ti.bytes = 2 * ((sLen + n) * ti.bytes) + 192 * ti.bytes := by rw [Nat.add_mul, Nat.mul_assoc]
    omega
  have hne : ¬ ti.bytes = 0 := by omega
  refine ⟨Question.cut (.appendCap (sLen + n) sCap e) (w.tape w.drawn (.appendCap (sLen + n) sCap e)), ?_, ?_⟩
  · simp only [Question.cut]; omega
  · simp only [Builtin.append_, List.getElem?_toArray, List.getElem?_cons_zero, List.getElem?_cons_succ, Sem.run_bind, run_underlying hd, run_underlying hu, Result.andThen_ok, sizeOf, typeInfo, run_program, hi, Sem.run_pure]
    cases d <;> first
      | exact absurd rfl (hni _)
      | simp only [Bool.false_eq_true, if_false, Sem.run_bind, hl, Result.andThen_ok, Sem.run_ite, if_neg hroom, typeInfo, run_program, hi, Sem.run_pure, if_neg hcap, run_choose, Question.forced, World.drew_eq, run_askRoom, ho, Bool.not_false, if_true, hf, zeroValue, hz, newRow, run_newObj, World.alloc_eq, World.size_drew, false_or, and_false, hne]
theorem V.real_sn (J : Inj) : V.sn.real J = .slice none 0 0 := by simp only [V.real]

/-- The elements of a slice, as they lie there. -/
theorem old_cells {J : Inj} {g off len : Nat} {w : World} {es k : Nat} {op : Bool} {cap : Nat} {c : Array Value} {e : TypeId} {fz : Nat × Nat}
    (hc : w.heap[(J.m g).1]? = some (.cells c e fz)) (hk : len * es = k) (hsz : k = 0 ∨ (J.m g).2.1 + off + k ≤ c.size) :
    (Builtin.firstCells es len ((V.sl g off len cap op).real J)).run P w = .ok (c.extract ((J.m g).2.1 + off) ((J.m g).2.1 + off + k)) w := by
  subst hk
  simp only [V.real, Builtin.firstCells]
  rcases hsz with h0 | hsz
  · rw [h0]; simp [loadCells, loadCellsFrom]; exact Nat.min_le_left _ _
  refine len_cells_at (fun j hj => ?_) hsz
  rw [Addr.add_lit]
  simp [World.cell?, hc]

/-- What is appended may be any value that has these elements. -/
theorem vappend_postX (hn : J.nx = st.nx) (hh : HR J ro B st.hp.get w) (hro : ro ≤ J.nx) {t u ty : TypeId} {d : TypeDesc} {s x v : V} {X : Value} {st' : St} (hu : P.underlying u = some d) (hni : ∀ k, d ≠ .int k)
    (hs : s.ok J.nx) (hx : x.ok J.nx) (h : vappend P ro st t s x = some (v, st'))
    (hX : ∀ (n es : Nat) (new : List V), vlen x = some n → vfirst st es n x = some new → ∀ w1 : World, w1.heap = w.heap → (Builtin.lenOf X).run P w1 = .ok n w1 ∧ (Builtin.firstCells es n X).run P w1 = .ok (new.map (V.real J)).toArray w1) :
    ∃ J' w', (Builtin.append_ #[t, u] ty #[s.real J, X]).run P w = .ok (v.real J') w' ∧ v.ok J'.nx ∧ Post J ro B st w J' st' w' := by
  unfold vappend at h
  cases hd : P.underlying t with
  | none => simp [hd] at h
  | some dt =>
  cases dt <;> simp only [hd, reduceCtorEq] at h
  rename_i e
  cases hi : P.info? e with
  | none => simp [hi] at h
  | some ti =>
  cases hl : vlen x with
  | none => simp [hi, hl] at h
  | some n =>
  simp only [hi, hl] at h
  cases hf : vfirst st ti.size n x with
  | none => simp [hf] at h
  | some new =>
  simp only [hf] at h
  generalize hc0 : (Nat.blt 0 ti.size && Nat.blt 0 ti.bytes && zeroFits P e ti.size) = c0 at h
  cases c0 with
  | false => simp at h
  | true =>
  simp only [cond_true, Bool.and_eq_true, Nat.blt_eq] at h hc0
  obtain ⟨⟨hsz, hby⟩, hzf⟩ := hc0
  obtain ⟨z, hz, hzl⟩ := zeroFits_real hzf
  obtain ⟨ti', z1, z2, _⟩ := zeroOf_real J J.nx hz
  rw [hi, Option.some.injEq] at z1
  subst z1
  obtain ⟨_, f2, f3, f4⟩ := vfirst_real (P := P) hh hx hl (Nat.le_refl _) hf
  have hlen := (hX n ti.size new hl hf w rfl).1
  have f1 := (hX n ti.size new hl hf w rfl).2
  have g1 := (hX n ti.size new hl hf w.drew rfl).2
  have hzc : ∀ k, (Builtin.zeroCells (z.real J).cells k).size = k * ti.size := fun k => by rw [size_zeroCells, V.cells_real]; simp [hzl]
  cases s with
  | sn =>
    simp only at h
    cases hb : Nat.ble (n * ti.bytes) 1099511627776 with
    | false => simp [hb] at h
    | true =>
    simp only [hb, cond_true] at h
    rw [Nat.ble_eq] at hb
    cases hn0 : Nat.beq n 0 with
    | true =>
      simp only [hn0, cond_true, Option.some.injEq, Prod.mk.injEq] at h
      obtain ⟨rfl, rfl⟩ := h
      have := Nat.eq_of_beq_eq_true hn0
      subst this
      refine ⟨J, w, ?_, by simp [V.ok], Post.refl hn hh hro⟩
      rw [V.real_sn, append_room hd hi hu hni hlen f1 (by omega)]
      simp
    | false =>
      simp only [hn0, cond_false] at h
      have hn0' : n ≠ 0 := Nat.ne_of_beq_eq_false hn0
      cases hbk : blkOf new ti.size true with
      | none => simp [hbk] at h
      | some b1 =>
        simp only [hbk, natF_eq, Option.some.injEq, Prod.mk.injEq] at h
        obtain ⟨rfl, rfl⟩ := h
        obtain ⟨b2, b3, b4, b5, b6, b7⟩ := blkOf_spec hbk
        obtain ⟨c, k1, k2⟩ := append_grow (P := P) (w := w) (ty := ty) hd hi hu hni (base := none) (sLen := 0) (sCap := 0) (old := #[]) z2 hby hlen g1 (by simp [Builtin.firstCells]) (by omega) (by simpa using hb)
        simp only [Nat.zero_add] at k1 k2
        refine ⟨J.push (w.heap.size, 0, c - n), _, ?_, ?_, grow_post (h0 := st.hp.get) (k := 0) (old := #[]) (newV := new) (e := e) hn hh hro (fun _ _ q => q) (fun _ => rfl) (Nat.le_refl _) (fun _ _ q _ => q) rfl rfl (hzc (c - n)) b3 (by rw [b2]; omega) b5 (blkOf_mp hbk) (fun o u hu => ?_) f3 f4⟩
        · rw [V.real_sn, k2, ← hn]
          simp only [V.real, Inj.push_self, Nat.zero_add, cond_true]
          rw [show n + (c - n) = c from by omega]
        · simp only [V.ok, Inj.push]; omega
        · rw [b6] at hu
          exact .inr ⟨Nat.zero_le _, by simpa using hu⟩
  | sl g off len cap op =>
    simp only at h
    cases hg : st.hp.get g with
    | none => simp [hg] at h
    | some b =>
    simp only [hg] at h
    cases hb : Nat.ble ((len + n) * ti.bytes) 1099511627776 with
    | false => simp [hb] at h
    | true =>
    simp only [hb, cond_true] at h
    rw [Nat.ble_eq] at hb
    simp only [V.ok] at hs
    have br := hh.blk g b hg
    cases hroom : Nat.ble (len + n) cap with
    | true =>
      simp only [hroom, cond_true] at h
      rw [Nat.ble_eq] at hroom
      cases hrog : Nat.ble ro g with
      | false => simp [hrog] at h
      | true =>
      simp only [hrog, cond_true] at h
      rw [Nat.ble_eq] at hrog
      cases hp : b.put new (off + len * ti.size) with
      | none => simp [hp] at h
      | some b' =>
        simp only [hp, natF_eq, Option.some.injEq, Prod.mk.injEq] at h
        obtain ⟨rfl, rfl⟩ := h
        obtain ⟨w', r1, r2, r3, r4⟩ := HR.put (P := P) new hh (g := g) (o := off + len * ti.size) (i := 0) hg hrog (by simpa using hp) f3
        refine ⟨J, w', ?_, by simp only [V.ok]; omega, Inj.le.refl J, by rw [St.write_eq]; exact hn, ?_, r3, Ext.write _ _ _, hro, Fr.write hg r4⟩
        · rw [V.real, append_room hd hi hu hni hlen f1 (by omega)]
          simp only [Addr.add_lit]
          rw [Nat.add_assoc, r1]
          simp [V.real]
        · rw [St.write_eq]
          show HR J ro B (st.hp.upd g (some b')).get w'
          rw [get_upd_fun]; exact r2
    | false =>
      simp only [hroom, cond_false] at h
      have hroom' : ¬ len + n ≤ cap := by intro q; rw [← Nat.ble_eq] at q; rw [q] at hroom; cases hroom
      cases hgr : vgrown b off len ti.size new with
      | none => simp [hgr] at h
      | some b1 =>
      simp only [hgr] at h
      have hmp := vgrown_mp hgr
      obtain ⟨k0, c0, e0, fz0, k1, k2, k3, k4, k5⟩ := br.cells hmp.1
      obtain ⟨w1, w2, w3, w4, wk, w5⟩ := vgrown_spec (fun q => (k3 q).2) hgr
      generalize hr : (J.m g).1 = r at *
      generalize hdd : (J.m g).2.1 = d0 at *
      generalize hxx : (J.m g).2.2 = x0 at *
      have hin : len * ti.size = 0 ∨ d0 + off + len * ti.size ≤ c0.size := wk.imp id (fun q => by omega)
      have hoc := old_cells (P := P) (J := J) (g := g) (off := off) (len := len) (w := w.drew) (op := op) (cap := cap) (es := ti.size) (c := c0) (e := e0) (fz := fz0) (by rw [hr]; exact k1) rfl (by rw [hdd]; exact hin)
      rw [hdd] at hoc
      have hold : ∀ o v, b1.get o = some v → (o < len * ti.size ∧ v.ok J.nx ∧ v.atom = true ∧ (c0.extract (d0 + off) (d0 + off + len * ti.size))[o]? = some (v.real J)) ∨ (len * ti.size ≤ o ∧ new[o - len * ti.size]? = some v) := by
        intro o v hv
        rcases w5 o v hv with ⟨q1, q2⟩ | q
        · obtain ⟨p1, p2, p3⟩ := k5 _ _ q2
          refine .inl ⟨q1, p1, p2, ?_⟩
          rw [Array.getElem?_extract, if_pos (by omega), Nat.add_assoc]
          exact p3
        · exact .inr q
      have hosz : (c0.extract (d0 + off) (d0 + off + len * ti.size)).size = len * ti.size := by
        rw [Array.size_extract]
        rcases hin with q | q <;> omega
      cases op with
      | false =>
        simp only [cond_false, natF_eq, Option.some.injEq, Prod.mk.injEq] at h
        obtain ⟨rfl, rfl⟩ := h
        simp only [V.real, cond_false, Nat.add_zero, hr, hdd] at hoc ⊢
        obtain ⟨c, m1, m2⟩ := append_grow (P := P) (w := w) (ty := ty) hd hi hu hni z2 hby hlen g1 hoc hroom' hb
        refine ⟨J.push (w.heap.size, 0, c - (len + n)), _, ?_, ?_, grow_post (h0 := st.hp.get) (k := len * ti.size) (newV := new) (e := e) hn hh hro (fun _ _ q => q) (fun _ => rfl) (Nat.le_refl _) (fun _ _ q _ => q) hosz rfl (hzc (c - (len + n))) w2 w1 w4 hmp.2 hold f3 f4⟩
        · rw [m2, ← hn]
          simp only [Inj.push_self, cond_true]
          rw [show len + n + (c - (len + n)) = c from by omega]
        · simp only [V.ok, Inj.push]; omega
      | true =>
        simp only [cond_true] at h
        generalize hc1 : (Nat.ble ro g && b.op && Nat.beq b.es ti.size && Nat.beq (off + cap * ti.size) b.sz) = c1 at h
        cases c1 with
        | false => simp at h
        | true =>
        simp only [cond_true, natF_eq, Option.some.injEq, Prod.mk.injEq] at h
        simp only [Bool.and_eq_true, Nat.ble_eq, Nat.beq_eq] at hc1
        obtain ⟨⟨⟨hrog, hbop⟩, hbes⟩, hend⟩ := hc1
        obtain ⟨rfl, rfl⟩ := h
        simp only [V.real, cond_true, hr, hdd, hxx] at hoc ⊢
        have hkill : ∀ k, (st.kill g).hp.get k = if k = g then none else st.hp.get k := fun k => by
          rw [St.kill_eq]
          show (st.hp.upd g none).get k = _
          rw [T.get_upd]
        have hkver : (st.kill g).ver = low st.ver g := by rw [St.kill_eq]
        have hkv := low_left st.ver g
        have hkr := low_right st.ver g
        have hkless : ∀ k bk, (if k = g then none else st.hp.get k) = some bk → st.hp.get k = some bk := by
          intro k bk hk
          by_cases e1 : k = g
          · simp [e1] at hk
          · simpa [e1] using hk
        by_cases hrm : len + n ≤ cap + x0
        · have hcs := (k3 hbop).1
          rw [hbes] at hcs
          have hmul : (len + n) * ti.size ≤ (cap + x0) * ti.size := Nat.mul_le_mul_right _ hrm
          have hsplit : (cap + x0) * ti.size = cap * ti.size + x0 * ti.size := Nat.add_mul ..
          have hsplit2 : (len + n) * ti.size = len * ti.size + n * ti.size := Nat.add_mul ..
          have hB := (k4 hrog).1
          have hfz := (k4 hrog).2
          obtain ⟨w', c', s1, s2, s3, s4, s5, s6, s7, s8, s9⟩ := store_raw (P := P) (new.map (V.real J)) w r (d0 + off + len * ti.size) 0 c0 e0 fz0 k1 (by rw [List.length_map]; omega) (fun o ho => (hfz o (by omega)).1) (fun v hv => by
            obtain ⟨u, hu, rfl⟩ := List.mem_map.1 hv
            exact V.oneCell_real J u (f4 u hu))
          have hbel : Below B.heap.size w w' := ⟨s7, s8, s9, by omega, fun k hk => s5 k (by omega)⟩
          have hpush := (hh.less hkless).push (w' := w') (b := b1) (r := r) (d := d0 + off) (x := cap + x0 - (len + n)) (c := c') (e := e0) (hm0 := hmp.2) (fz := fz0) (fun k bk hk => ?_) (hh.base.below hbel) s2 hB ?_ (by omega) (fun _ => ⟨?_, w4⟩) (by rw [s3, show b1.full = b.full from by unfold Blk.full; rw [w3, hbop]; rfl]; exact hfz) (fun o v hv => ?_)
          · refine ⟨J.push (r, d0 + off, cap + x0 - (len + n)), w', ?_, ?_, J.le_push _, by show J.nx + 1 = st.nx + 1; omega, ?_, hbel, ⟨Nat.le_succ _, by show (st.kill g).ver ≤ st.ver; omega, fun k x hx hk => ?_⟩, Nat.le_succ_of_le hro, ?_⟩
            · rw [append_room hd hi hu hni hlen f1 hrm]
              simp only [Addr.add_lit, s1, Result.andThen_ok]
              rw [← hn]
              simp only [Inj.push_self, Nat.add_zero]
              rw [show len + n + (cap + x0 - (len + n)) = cap + x0 from by omega]
            · simp only [V.ok, Inj.push]; omega
            · show HR _ ro B ((st.kill g).hp.upd st.nx (some b1)).get w'
              rw [get_upd_fun, show (st.kill g).hp.get = _ from funext hkill, ← hn]
              exact hpush
            · have hkk : k < (st.kill g).ver := hk
              have hlt := (hh.blk k x hx).1
              show ((st.kill g).hp.upd st.nx (some b1)).get k = some x
              rw [T.get_upd, if_neg (by omega), hkill, if_neg (by omega)]
              exact hx
            · refine Fr.push (h0 := fun k => if k = g then none else st.hp.get k) hkless (fun k bk hk => (hh.blk k bk hk).1) (.inr ⟨g, b, hg, hr⟩) (fun k bk hk => ?_) (fun i hi hf => s5 i (fun q => hf g b hg (hr.trans q.symm)))
              have hk : ((st.kill g).hp.upd st.nx (some b1)).get k = some bk := hk
              rw [T.get_upd] at hk
              by_cases e1 : k = st.nx
              · exact .inl (e1.trans hn.symm)
              · rw [if_neg e1, hkill] at hk; exact .inr hk
          · refine s5 _ (fun e1 => ?_)
            by_cases e2 : k = g
            · simp [e2] at hk
            · exact e2 (hh.inj k g bk b (hkless k bk hk) hg (e1.trans hr.symm))
          · intro k bk hk e1
            by_cases e2 : k = g
            · simp [e2] at hk
            · exact e2 (hh.inj k g bk b (hkless k bk hk) hg (e1.trans hr.symm))
          · rw [s3, w2, w1, f2, Nat.sub_mul]; omega
          · rcases w5 o v hv with ⟨q1, q2⟩ | ⟨q1, q2⟩
            · obtain ⟨p1, p2, p3⟩ := k5 _ _ q2
              refine ⟨p1, p2, ?_⟩
              rw [s4, if_neg (by omega), Nat.add_assoc]
              exact p3
            · have hm := List.mem_of_getElem? q2
              have hlt : o - len * ti.size < new.length := by
                rcases Nat.lt_or_ge (o - len * ti.size) new.length with q | q
                · exact q
                · rw [List.getElem?_eq_none q] at q2; cases q2
              refine ⟨f3 v hm, f4 v hm, ?_⟩
              rw [s4, if_pos (by rw [List.length_map]; omega), List.getElem?_map, show d0 + off + o - (d0 + off + len * ti.size + 0) = o - len * ti.size from by omega, q2]
              rfl
        · obtain ⟨c, m1, m2⟩ := append_grow (P := P) (w := w) (ty := ty) hd hi hu hni z2 hby hlen g1 hoc hrm hb
          refine ⟨J.push (w.heap.size, 0, c - (len + n)), _, ?_, ?_, grow_post (h0 := fun k => if k = g then none else st.hp.get k) (k := len * ti.size) (newV := new) (e := e) hn hh hro hkless hkill (by omega) (fun k x hx hk => by rw [if_neg (by omega)]; exact hx) hosz rfl (hzc (c - (len + n))) w2 w1 w4 hmp.2 hold f3 f4⟩
          · rw [m2, ← hn]
            simp only [Inj.push_self, Nat.zero_add]
            rw [show len + n + (c - (len + n)) = c from by omega]
          · simp only [V.ok, Inj.push]; omega
  | sy g0 o0 q0 =>
    simp only at h
    cases hb : Nat.ble (n * ti.bytes) 1099511627776 with
    | false => simp [hb] at h
    | true =>
    simp only [hb, cond_true] at h
    rw [Nat.ble_eq] at hb
    have hreal : (V.sy g0 o0 q0).real J = .slice (some ⟨(J.m g0).1, (J.m g0).2.1 + cond (Nat.beq (J.m g0).2.2 0) o0 q0, none⟩) 0 0 := rfl
    cases hn0 : Nat.beq n 0 with
    | true =>
      simp only [hn0, cond_true, Option.some.injEq, Prod.mk.injEq] at h
      obtain ⟨rfl, rfl⟩ := h
      have := Nat.eq_of_beq_eq_true hn0
      subst this
      refine ⟨J, w, ?_, by simpa [V.ok] using hs, Post.refl hn hh hro⟩
      have hnew : new = [] := List.length_eq_zero_iff.1 (by simpa using f2)
      subst hnew
      rw [hreal, append_room hd hi hu hni hlen f1 (by omega)]
      simp [storeCells]
    | false =>
      simp only [hn0, cond_false] at h
      have hn0' : n ≠ 0 := Nat.ne_of_beq_eq_false hn0
      cases hbk : blkOf new ti.size true with
      | none => simp [hbk] at h
      | some b1 =>
        simp only [hbk, natF_eq, Option.some.injEq, Prod.mk.injEq] at h
        obtain ⟨rfl, rfl⟩ := h
        obtain ⟨b2, b3, b4, b5, b6, b7⟩ := blkOf_spec hbk
        obtain ⟨c, k1, k2⟩ := append_grow (P := P) (w := w) (ty := ty) hd hi hu hni (base := some ⟨(J.m g0).1, (J.m g0).2.1 + cond (Nat.beq (J.m g0).2.2 0) o0 q0, none⟩) (sLen := 0) (sCap := 0) (old := #[]) z2 hby hlen g1 (by simp [Builtin.firstCells, loadCells, loadCellsFrom]) (by omega) (by simpa using hb)
        simp only [Nat.zero_add] at k1 k2
        refine ⟨J.push (w.heap.size, 0, c - n), _, ?_, ?_, grow_post (h0 := st.hp.get) (k := 0) (old := #[]) (newV := new) (e := e) hn hh hro (fun _ _ q => q) (fun _ => rfl) (Nat.le_refl _) (fun _ _ q _ => q) rfl rfl (hzc (c - n)) b3 (by rw [b2]; omega) b5 (blkOf_mp hbk) (fun o u hu => ?_) f3 f4⟩
        · rw [hreal, k2, ← hn]
          simp only [V.real, Inj.push_self, Nat.zero_add, cond_true]
          rw [show n + (c - n) = c from by omega]
        · simp only [V.ok, Inj.push]; omega
        · rw [b6] at hu
          exact .inr ⟨Nat.zero_le _, by simpa using hu⟩
  | ze a0 =>
    simp only at h
    cases hb : Nat.ble (n * ti.bytes) 1099511627776 with
    | false => simp [hb] at h
    | true =>
    simp only [hb, cond_true] at h
    rw [Nat.ble_eq] at hb
    have hreal : (V.ze a0).real J = .slice (some a0) 0 0 := rfl
    cases hn0 : Nat.beq n 0 with
    | true =>
      simp only [hn0, cond_true, Option.some.injEq, Prod.mk.injEq] at h
      obtain ⟨rfl, rfl⟩ := h
      have := Nat.eq_of_beq_eq_true hn0
      subst this
      refine ⟨J, w, ?_, by simp [V.ok], Post.refl hn hh hro⟩
      have hnew : new = [] := List.length_eq_zero_iff.1 (by simpa using f2)
      subst hnew
      rw [hreal, append_room hd hi hu hni hlen f1 (by omega)]
      simp [storeCells]
    | false =>
      simp only [hn0, cond_false] at h
      have hn0' : n ≠ 0 := Nat.ne_of_beq_eq_false hn0
      cases hbk : blkOf new ti.size true with
      | none => simp [hbk] at h
      | some b1 =>
        simp only [hbk, natF_eq, Option.some.injEq, Prod.mk.injEq] at h
        obtain ⟨rfl, rfl⟩ := h
        obtain ⟨b2, b3, b4, b5, b6, b7⟩ := blkOf_spec hbk
        obtain ⟨c, k1, k2⟩ := append_grow (P := P) (w := w) (ty := ty) hd hi hu hni (base := some a0) (sLen := 0) (sCap := 0) (old := #[]) z2 hby hlen g1 (by simp [Builtin.firstCells, loadCells, loadCellsFrom]) (by omega) (by simpa using hb)
        simp only [Nat.zero_add] at k1 k2
        refine ⟨J.push (w.heap.size, 0, c - n), _, ?_, ?_, grow_post (h0 := st.hp.get) (k := 0) (old := #[]) (newV := new) (e := e) hn hh hro (fun _ _ q => q) (fun _ => rfl) (Nat.le_refl _) (fun _ _ q _ => q) rfl rfl (hzc (c - n)) b3 (by rw [b2]; omega) b5 (blkOf_mp hbk) (fun o u hu => ?_) f3 f4⟩
        · rw [hreal, k2, ← hn]
          simp only [V.real, Inj.push_self, Nat.zero_add, cond_true]
          rw [show n + (c - n) = c from by omega]
        · simp only [V.ok, Inj.push]; omega
        · rw [b6] at hu
          exact .inr ⟨Nat.zero_le _, by simpa using hu⟩
  | _ => simp at h
theorem vappend_post (hn : J.nx = st.nx) (hh : HR J ro B st.hp.get w) (hro : ro ≤ J.nx) {t u ty : TypeId} {d : TypeDesc} {s x v : V} {st' : St} (hu : P.underlying u = some d) (hni : ∀ k, d ≠ .int k)
    (hs : s.ok J.nx) (hx : x.ok J.nx) (h : vappend P ro st t s x = some (v, st')) :
    ∃ J' w', (Builtin.append_ #[t, u] ty #[s.real J, x.real J]).run P w = .ok (v.real J') w' ∧ v.ok J'.nx ∧ Post J ro B st w J' st' w' :=
  vappend_postX hn hh hro hu hni hs hx h fun _ _ _ hl hf w1 hw => ⟨vlen_real (P := P) (J := J) (w := w1) hl, (vfirst_real (P := P) (hh.congr hw) hx hl (Nat.le_refl _) hf).1⟩

end
end Go.Vm
