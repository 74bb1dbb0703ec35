/-
  An evaluator of the model's code over a small memory of its own: definitions. Nothing is claimed here.
-/
import Derived.Deep.Quiet
import Derived.StillTail
namespace Go.Vm

/-- A map of numbers, as a binary tree. -/
inductive T (α : Type) where
  | e : T α
  | n (l : T α) (v : Option α) (r : T α) : T α

def T.get {α : Type} : T α → Nat → Option α
  | .e, _ => none
  | .n l v r, i => match i with
    | 0 => v
    | k + 1 => cond (Nat.beq (k % 2) 0) (l.get (k / 2)) (r.get (k / 2))

/-- The tree with left part l, forced. -/
def T.mkL {α : Type} (v : Option α) (r : T α) : T α → T α
  | .e => .n .e v r
  | .n a b c => .n (.n a b c) v r
def T.mkR {α : Type} (l : T α) (v : Option α) : T α → T α
  | .e => .n l v .e
  | .n a b c => .n l v (.n a b c)

def T.go {α : Type} (x : Option α) : Nat → T α → Nat → T α
  | 0, t, _ => t
  | f + 1, t, i => match i with
    | 0 => match t with
      | .e => .n .e x .e
      | .n l _ r => .n l x r
    | k + 1 => match t with
      | .e => cond (Nat.beq (k % 2) 0) (T.mkL none .e (T.go x f .e (k / 2))) (T.mkR .e none (T.go x f .e (k / 2)))
      | .n l v r => cond (Nat.beq (k % 2) 0) (T.mkL v r (T.go x f l (k / 2))) (T.mkR l v (T.go x f r (k / 2)))

def T.upd {α : Type} (t : T α) (i : Nat) (x : Option α) : T α := T.go x (i + 1) t i

/-- Values. -/
inductive V where
  | b (x : Bool)
  | i (k : IntKind) (n : Int)
  | s (len bits : Nat)
  | p (id off : Nat)
  | pn
  | sl (id off len cap : Nat) (opn : Bool)
  | sn
  | f (fn : Fn) (first caps : List V)
  | fz
  | nz
  | a (cs : List V)
  | t (vs : List V)
  /-- An empty slice at the end of a row of open room: off if there is no room behind it, else off2. -/
  | se (id off off2 : Nat)
  /-- An empty slice without room, wherever it points. -/
  | ze (a : Addr)
  /-- A map. -/
  | m (id : Nat)
  /-- No map. -/
  | mz
  /-- An empty slice without room: where .se would be. -/
  | sy (id off off2 : Nat)

/-- A block of memory: cells that were written, and what stands in all others (zero, again and again). -/
structure Blk where
  cs : T V
  zero : List V
  sz : Nat
  es : Nat
  op : Bool
  /-- The entries of a map (none: no map). -/
  mp : Option (List (V × V))

structure St where
  nx : Nat
  hp : T Blk
  ver : Nat

def natF {R : Type} (n : Nat) (k : Nat → R) : R := Nat.rec (motive := fun _ => R) (k 0) (fun m _ => k (Nat.succ m)) n
def intF {R : Type} (n : Int) (k : Int → R) : R := match n with
  | .ofNat m => natF m fun m => k (.ofNat m)
  | .negSucc m => natF m fun m => k (.negSucc m)
def boolF {R : Type} (x : Bool) (k : Bool → R) : R := match x with
  | true => k true
  | false => k false
def kindF {R : Type} (x : IntKind) (k : IntKind → R) : R := match x with
  | .i8 => k .i8 | .i16 => k .i16 | .i32 => k .i32 | .i64 => k .i64 | .u8 => k .u8 | .u16 => k .u16 | .u32 => k .u32 | .u64 => k .u64

/-- A value is forced, so that what is kept is no thunk. -/
def V.force {R : Type} (v : V) (k : V → R) : R := match v with
  | .b x => boolF x fun x => k (.b x)
  | .i kd n => kindF kd fun kd => intF n fun n => k (.i kd n)
  | .s l x => natF l fun l => natF x fun x => k (.s l x)
  | .p g o => natF g fun g => natF o fun o => k (.p g o)
  | .sl g o l c op => natF g fun g => natF o fun o => natF l fun l => natF c fun c => boolF op fun op => k (.sl g o l c op)
  | .pn => k .pn
  | .sn => k .sn
  | .se g o q => natF g fun g => natF o fun o => natF q fun q => k (.se g o q)
  | .ze x => k (.ze x)
  | .m g => natF g fun g => k (.m g)
  | .mz => k .mz
  | .sy g o q => natF g fun g => natF o fun o => natF q fun q => k (.sy g o q)
  | .f fn xs ys => k (.f fn xs ys)
  | .fz => k .fz
  | .nz => k .nz
  | .a cs => k (.a cs)
  | .t vs => k (.t vs)

/-! ### Strings: the bytes as the digits of one number -/

def packL : List UInt8 → Nat
  | [] => 0
  | c :: r => c.toNat + 256 * packL r
def V.str (l : List UInt8) : V := .s l.length (packL l)
/-- The bytes of a number. -/
def unpackL : Nat → Nat → List UInt8
  | 0, _ => []
  | n + 1, x => UInt8.ofNat (x % 256) :: unpackL n (x / 256)

def byteAt (x i : Nat) : Nat := x / 256 ^ i % 256
def sApp (l x m y : Nat) : V := .s (l + m) (x + 256 ^ l * y)
def sCut (x lo hi : Nat) : V := .s (hi - lo) (x / 256 ^ lo % 256 ^ (hi - lo))

/-! ### Values of the model -/

def mapO {α β : Type} (f : α → Option β) : List α → Option (List β)
  | [] => some []
  | x :: r => match f x with
    | some y => match mapO f r with
      | some ys => some (y :: ys)
      | none => none
    | none => none

def ofV : Nat → Value → Option V
  | 0, _ => none
  | _ + 1, .bool x => some (.b x)
  | _ + 1, .int k n => some (.i k n)
  | _ + 1, .string x => some (.str x.data.toList)
  | _ + 1, .pointer none => some .pn
  | _ + 1, .slice none 0 0 => some .sn
  | _ + 1, .nilFunc => some .fz
  | _ + 1, .map none => some .mz
  | _ + 1, .nilIface => some .nz
  | d + 1, .agg cs => (mapO (ofV d) cs.toList).map .a
  | d + 1, .tuple cs => (mapO (ofV d) cs.toList).map .t
  | d + 1, .func fn xs ys => match mapO (ofV d) xs.toList, mapO (ofV d) ys.toList with
    | some xs, some ys => some (.f fn xs ys)
    | _, _ => none
  | _ + 1, _ => none

/-- How many places are kept for package-level variables. -/
def GL : Nat := 64

def opnd (fr : T V) : Operand → Option V
  | .tmp t => fr.get t
  | .const v => ofV 4 v
  | .global g => cond (Nat.blt g GL) (some (.p g 0)) none
  | .func f => some (.f (.func f) [] [])

def opnds (fr : T V) : List Operand → Option (List V)
  | [] => some []
  | o :: r => match opnd fr o with
    | some v => match opnds fr r with
      | some vs => some (v :: vs)
      | none => none
    | none => none

def V.atom : V → Bool
  | .a _ | .t _ => false
  | _ => true
/-- Values that are the same in every memory. -/
def V.plain : V → Bool
  | .b _ | .i _ _ | .s _ _ | .pn | .sn | .fz | .nz | .mz => true
  | _ => false
def V.plainT : V → Bool
  | .a vs | .t vs => vs.all V.plain
  | v => v.plain
def plainO : Option V → Bool
  | some v => v.plainT
  | none => false
def V.cells : V → List V
  | .a cs => cs
  | v => [v]

section
variable (P : Program)

def isAggB (t : TypeId) : Bool := match P.underlying t with
  | some (.struct _) | some (.array _ _) => true
  | _ => false

def vpart (t : TypeId) (cs : List V) (off : Nat) : Option V :=
  match P.info? t, P.underlying t with
  | some ti, some _ => cond (isAggB P t) (some (.a ((cs.drop off).take ti.size))) (cs[off]?)
  | _, _ => none

/-! ### Operations on values -/

def ilt (a b : Int) : Bool := decide (a < b)
def ile (a b : Int) : Bool := decide (a ≤ b)

def vbits (op : BinOp) (k : IntKind) (a b : Int) : Option V :=
  match op with
  | .and => some (.i k (k.wrap (BitVec.ofInt k.bits a &&& BitVec.ofInt k.bits b).toNat))
  | .or => some (.i k (k.wrap (BitVec.ofInt k.bits a ||| BitVec.ofInt k.bits b).toNat))
  | .xor => some (.i k (k.wrap (BitVec.ofInt k.bits a ^^^ BitVec.ofInt k.bits b).toNat))
  | .andNot => some (.i k (k.wrap (BitVec.ofInt k.bits a &&& ~~~(BitVec.ofInt k.bits b)).toNat))
  | _ => none

def vint (op : BinOp) (k : IntKind) (a b : Int) : Option V :=
  match op with
  | .add => some (.i k (k.wrap (a + b)))
  | .sub => some (.i k (k.wrap (a - b)))
  | .mul => some (.i k (k.wrap (a * b)))
  | .quo => cond (decide (b = 0)) none (some (.i k (k.wrap (a.tdiv b))))
  | .rem => cond (decide (b = 0)) none (some (.i k (a.tmod b)))
  | .eql => some (.b (a == b))
  | .neq => some (.b (a != b))
  | .lss => some (.b (ilt a b))
  | .leq => some (.b (ile a b))
  | .gtr => some (.b (ilt b a))
  | .geq => some (.b (ile b a))
  | op => vbits op k a b

def vshift (op : BinOp) (k : IntKind) (x y : Int) : Option V :=
  match op with
  | .shl => cond (ilt y 0) none (some (.i k (k.wrap (x * 2 ^ (min y.toNat k.bits)))))
  | .shr => cond (ilt y 0) none (some (.i k (x.fdiv (2 ^ (min y.toNat k.bits)))))
  | _ => none

def vstr (op : BinOp) (l x m y : Nat) : Option V :=
  match op with
  | .add => cond (Nat.ble (l + m) 1099511627776) (some (sApp l x m y)) none
  | .eql => some (.b (Nat.beq l m && Nat.beq x y))
  | .neq => some (.b (!(Nat.beq l m && Nat.beq x y)))
  | .lss => some (.b (Op.bytesLess (unpackL l x) (unpackL m y)))
  | .leq => some (.b (Op.bytesLess (unpackL l x) (unpackL m y) || (Nat.beq l m && Nat.beq x y)))
  | .gtr => some (.b (!(Op.bytesLess (unpackL l x) (unpackL m y) || (Nat.beq l m && Nat.beq x y))))
  | .geq => some (.b (!(Op.bytesLess (unpackL l x) (unpackL m y))))
  | _ => none

/-- '==' at a type. -/
def veqFields (eq : TypeId → V → V → Option Bool) (xs ys : List V) : List Field → Option Bool
  | [] => some true
  | f :: r => cond (f.name == "_") (veqFields eq xs ys r)
    (match vpart P f.type xs f.offset, vpart P f.type ys f.offset with
    | some x, some y => match eq f.type x y with
      | some true => veqFields eq xs ys r
      | some false => some false
      | none => none
    | _, _ => none)
def veqElems (eq : TypeId → V → V → Option Bool) (t : TypeId) (sz : Nat) (xs ys : List V) (i : Nat) : Nat → Option Bool
  | 0 => some true
  | n + 1 => match vpart P t xs (i * sz), vpart P t ys (i * sz) with
    | some x, some y => match eq t x y with
      | some true => veqElems eq t sz xs ys (i + 1) n
      | some false => some false
      | none => none
    | _, _ => none
def veq : Nat → TypeId → V → V → Option Bool
  | 0, _, _, _ => none
  | d + 1, t, x, y => match P.underlying t, x, y with
    | some .bool, .b a, .b b => some (a == b)
    | some (.int _), .i k a, .i k' b => cond (decide (k = k')) (some (a == b)) none
    | some .string, .s l x, .s m y => some (Nat.beq l m && Nat.beq x y)
    | some (.pointer _), .pn, .pn => some true
    | some (.pointer _), .pn, .p _ _ => some false
    | some (.pointer _), .p _ _, .pn => some false
    | some (.slice _), .sn, .sn => some true
    | some (.slice _), .sn, .sl .. => some false
    | some (.slice _), .sl .., .sn => some false
    | some (.slice _), .sn, .se .. => some false
    | some (.slice _), .se .., .sn => some false
    | some (.slice _), .sn, .ze _ => some false
    | some (.slice _), .ze _, .sn => some false
    | some (.slice _), .sn, .sy .. => some false
    | some (.slice _), .sy .., .sn => some false
    | some (.func ..), .fz, .fz => some true
    | some (.func ..), .fz, .f .. => some false
    | some (.func ..), .f .., .fz => some false
    | some (.struct fs), .a xs, .a ys => cond (P.stoodInHeld t) none (veqFields P (veq d) xs ys fs.toList)
    | some (.array n e), .a xs, .a ys => match P.info? e with
      | some ti => veqElems P (veq d) e ti.size xs ys 0 n
      | none => none
    | _, _, _ => none

def vequal (t : TypeId) (x y : V) : Option Bool :=
  match x, y with
  | .a _, .a _ => cond (P.eqGuardType P.depth t) none (veq P 60 t x y)
  | .nz, .nz => none
  | _, _ => veq P 60 t x y

def vbin (op : BinOp) (xt : TypeId) (x y : V) : Option V :=
  match x, y with
  | .i k a, .i k' b => match op with
    | .shl | .shr => vshift op k a b
    | _ => cond (decide (k = k')) (vint op k a b) none
  | .s l x, .s m y => vstr op l x m y
  | x, y => match op with
    | .eql => match vequal P xt x y with | some r => some (.b r) | none => none
    | .neq => match vequal P xt x y with | some r => some (.b (!r)) | none => none
    | _ => none

def vun (op : UnOp) (x : V) : Option V :=
  match op, x with
  | .neg, .i k n => some (.i k (k.wrap (0 - n)))
  | .xor, .i k n => vbits .xor k (if k.signed then -1 else k.max) n
  | .not, .b x => some (.b (!x))
  | _, _ => none

/-! ### Memory -/

def Blk.get (b : Blk) (o : Nat) : Option V :=
  cond (Nat.blt o b.sz) (match b.cs.get o with | some v => some v | none => b.zero[o % b.es]?) none
/-- No byte of it may be marked at its end. -/
def Blk.full (b : Blk) : Bool := b.op || !(Nat.beq b.es 1)
def Blk.set (b : Blk) (o : Nat) (v : V) : Blk := { b with cs := b.cs.upd o (some v) }
/-- n cells from o on. -/
def Blk.row (b : Blk) : Nat → Nat → Option (List V)
  | 0, _ => some []
  | n + 1, o => match b.get o with
    | some v => match b.row n (o + 1) with
      | some r => some (v :: r)
      | none => none
    | none => none
/-- Cells are written, one behind the other. -/
def Blk.put (b : Blk) : List V → Nat → Option Blk
  | [], _ => some b
  | v :: r, o => cond (Nat.blt o b.sz && v.atom) (v.force fun v => Blk.put (b.set o v) r (o + 1)) none

def St.alloc (st : St) (b : Blk) : St := ⟨st.nx + 1, st.hp.upd st.nx (some b), st.ver⟩
/-- 'ver': no block below was written. -/
def low (a b : Nat) : Nat := cond (Nat.ble a b) a b
def St.write (st : St) (id : Nat) (b : Blk) : St := natF (low st.ver id) fun v => ⟨st.nx, st.hp.upd id (some b), v⟩

/-- A block of some cells. -/
def blkOf (cs : List V) (es : Nat) (op : Bool) : Option Blk := (Blk.mk .e [] cs.length es op none).put cs 0

def vload (st : St) (t : TypeId) (id off : Nat) : Option V :=
  match st.hp.get id, P.info? t, P.underlying t with
  | some b, some ti, some _ => cond (isAggB P t) (match b.row ti.size off with | some cs => some (.a cs) | none => none) (b.get off)
  | _, _, _ => none

/-- ro: the blocks below are not written. -/
def vstore (ro : Nat) (st : St) (t : TypeId) (id off : Nat) (v : V) : Option St :=
  match st.hp.get id, P.info? t with
  | some b, some ti => cond (Nat.ble ro id && Nat.beq v.cells.length ti.size) (match b.put v.cells off with
    | some b => some (st.write id b)
    | none => none) none
  | _, _ => none

def zeroOf (t : TypeId) : Option V := match P.info? t with
  | some ti => match ti.zero with | some z => ofV 4 z | none => none
  | none => none

def valloc (st : St) (v : V) (es : Nat) : Option (V × St) := match blkOf v.cells es false with
  | some b => natF st.nx fun nx => some (.p nx 0, St.alloc ⟨nx, st.hp, st.ver⟩ b)
  | none => none

/-- Parts are laid into cells. -/
def setAt (cells : List V) (off : Nat) : List V → List V
  | [] => cells
  | v :: r => setAt (cells.set off v) (off + 1) r
def vfill (place : Nat → Option (Nat × Nat)) (cells : List V) : List (Nat × V) → Option (List V)
  | [] => some cells
  | (i, v) :: rest => match place i with
    | none => none
    | some (off, size) => cond (Nat.beq v.cells.length size && Nat.ble (off + v.cells.length) cells.length) (vfill place (setAt cells off v.cells) rest) none

def partsOf (fr : T V) : List (Nat × Operand) → Option (List (Nat × V))
  | [] => some []
  | (i, o) :: r => match opnd fr o with
    | some v => match partsOf fr r with
      | some vs => some ((i, v) :: vs)
      | none => none
    | none => none

def sizeB (t : TypeId) : Option Nat := match P.info? t with | some ti => some ti.size | none => none

def placeOf (f : Field) : Option (Nat × Nat) := match sizeB P f.type with | some n => some (f.offset, n) | none => none

def vbuild (t : TypeId) (parts : List (Nat × V)) : Option V :=
  match zeroOf P t, P.underlying t with
  | some z, some (.struct fs) => match mapO (placeOf P) fs.toList with
    | some places => match vfill (fun i => places[i]?) z.cells parts with | some cs => some (.a cs) | none => none
    | none => none
  | some z, some (.array _ e) => match sizeB P e with
    | some n => match vfill (fun i => some (i * n, n)) z.cells parts with | some cs => some (.a cs) | none => none
    | none => none
  | _, _ => none

def repeatL (z : List V) : Nat → List V
  | 0 => []
  | n + 1 => z ++ repeatL z n

def vbuildSlice (st : St) (t : TypeId) (len : Nat) (parts : List (Nat × V)) : Option (V × St) :=
  match P.underlying t with
  | some (.slice e) => match sizeB P e, zeroOf P e with
    | some n, some z => cond (Nat.ble (len * n) 16777216 && Nat.blt 0 n && Nat.beq z.cells.length n) (match vfill (fun i => some (i * n, n)) (repeatL z.cells len) parts with
      | some cs => match blkOf cs n false with
        | some b => natF st.nx fun nx => some (.sl nx 0 len len false, St.alloc ⟨nx, st.hp, st.ver⟩ b)
        | none => none
      | none => none) none
    | _, _ => none
  | _ => none

def vmakeSlice (st : St) (t : TypeId) (len cap : Int) : Option (V × St) :=
  match P.underlying t with
  | some (.slice e) => match P.info? e, zeroOf P e with
    | some ti, some z => cond (ile 0 len && ile len cap && ile (ti.bytes * cap) 1099511627776 && ile cap 1099511627776 && Nat.blt 0 ti.size && Nat.beq z.cells.length ti.size && z.cells.all V.atom)
      (natF len.toNat fun l => natF cap.toNat fun c => natF st.nx fun nx => some (.sl nx 0 l c false, St.alloc ⟨nx, st.hp, st.ver⟩ ⟨.e, z.cells, c * ti.size, ti.size, false, none⟩)) none
    | _, _ => none
  | _ => none

def vbound (x : V) (y : Nat) : Option Nat := match x with
  | .i _ n => cond (ile 0 n && ile n y) (natF n.toNat some) none
  | _ => none
def vboundO (x : Option V) (y d : Nat) : Option Nat := match x with
  | some x => vbound x y
  | none => some d
/-- low, high, max -/
def vbounds (len cap : Nat) (lo hi mx : Option V) : Option (Nat × Nat × Nat) :=
  match vboundO mx cap cap with
  | some m => match vboundO hi m len with
    | some h => match vboundO lo h 0 with
      | some l => some (l, h, m)
      | none => none
    | none => none
  | none => none

def vslice (t : TypeId) (x : V) (lo hi mx : Option V) : Option V :=
  match P.underlying t, x with
  | some .string, .s len bits => match mx with
    | some _ => none
    | none => match vbounds len len lo hi none with
      | some (l, h, _) => some (sCut bits l h)
      | none => none
  | some (.slice e), .sl id off len cap op => match sizeB P e with
    | some n => match hi, mx with
      | none, some _ => none
      | _, _ => match vbounds len cap lo hi mx with
        | some (l, h, m) => cond (op && mx.isNone)
          (cond (Nat.blt l cap || Nat.beq l 0) (some (.sl id (off + l * n) (h - l) (cap - l) true)) (some (.se id off (off + l * n))))
          (cond (!mx.isNone && Nat.beq m l) (some (.sy id off off)) (some (.sl id (cond (Nat.beq m l) off (off + l * n)) (h - l) (m - l) false)))
        | none => none
    | none => none
  | some (.slice e), .sn => match sizeB P e with
    | some _ => match hi, mx with
      | none, some _ => none
      | _, _ => match vbounds 0 0 lo hi mx with
        | some _ => some .sn
        | none => none
    | none => none
  | some (.slice e), .se id off off2 => match sizeB P e, mx with
    | some _, none => match vbounds 0 0 lo hi none with
      | some _ => some (.se id off off2)
      | none => none
    | some _, some m => match hi with
      | some hv => match vbounds 0 0 lo (some hv) (some m) with
        | some _ => some (.sy id off off2)
        | none => none
      | none => none
    | _, _ => none
  | some (.slice e), .sy id off off2 => match sizeB P e with
    | some _ => match hi, mx with
      | none, some _ => none
      | _, _ => match vbounds 0 0 lo hi mx with
        | some _ => some (.sy id off off2)
        | none => none
    | none => none
  | some (.slice e), .ze a => match sizeB P e with
    | some _ => match hi, mx with
      | none, some _ => none
      | _, _ => match vbounds 0 0 lo hi mx with
        | some _ => some (.ze a)
        | none => none
    | none => none
  | some (.array n e), .p id off => match sizeB P e with
    | some k => match hi, mx with
      | none, some _ => none
      | _, _ => match vbounds n n lo hi mx with
        | some (l, h, m) => some (.sl id (cond (Nat.beq m l) off (off + l * k)) (h - l) (m - l) false)
        | none => none
    | none => none
  | _, _ => none

def vfieldAddr (t : TypeId) (id off f : Nat) : Option V :=
  match P.underlying t with
  | some (.struct fs) => match fs[f]? with
    | some fd => match sizeB P fd.type with
      | some n => cond (Nat.blt 0 n) (some (.p id (off + fd.offset))) none
      | none => none
    | none => none
  | _ => none

def vindexAddr (t : TypeId) (x : V) (i : Int) : Option V :=
  match P.underlying t, x with
  | some (.slice e), .sl id off len _ _ => match sizeB P e with
    | some n => cond (ile 0 i && ilt i len) (some (.p id (off + i.toNat * n))) none
    | none => none
  | some (.array len e), .p id off => match sizeB P e with
    | some n => cond (ile 0 i && ilt i len) (some (.p id (off + i.toNat * n))) none
    | none => none
  | _, _ => none

def vindex (t : TypeId) (x : V) (i : Int) : Option V :=
  match P.underlying t, x with
  | some .string, .s len bits => cond (ile 0 i && ilt i len) (some (.i .u8 (.ofNat (byteAt bits i.toNat)))) none
  | some (.array len e), .a cs => match sizeB P e with
    | some n => cond (ile 0 i && ilt i len) (vpart P e cs (i.toNat * n)) none
    | none => none
  | _, _ => none

def vfield (t : TypeId) (x : V) (f : Nat) : Option V :=
  match P.underlying t, x with
  | some (.struct fs), .a cs => match fs[f]? with
    | some fd => vpart P fd.type cs fd.offset
    | none => none
  | _, _ => none

def bytesOfCells : List V → Option (List UInt8)
  | [] => some []
  | .i .u8 n :: r => match bytesOfCells r with | some l => some (UInt8.ofNat n.toNat :: l) | none => none
  | _ :: _ => none
def cellsOfBytes : Nat → Nat → List V
  | 0, _ => []
  | n + 1, x => .i .u8 (.ofNat (x % 256)) :: cellsOfBytes n (x / 256)

/-- A block that was never written, of zero bytes. -/
def Blk.zeros (b : Blk) (len off : Nat) : Bool := match b.cs, b.zero with
  | .e, [.i .u8 (.ofNat 0)] => Nat.beq b.es 1 && Nat.ble (off + len) b.sz
  | _, _ => false
def vtext (b : Blk) (len off : Nat) : Option V := match b.zeros len off with
  | true => some (.s len 0)
  | false => match b.row len off with
    | some cs => match bytesOfCells cs with
      | some l => some (.str l)
      | none => none
    | none => none

def vconvert (st : St) (src dst : TypeId) (x : V) : Option (V × St) :=
  match P.underlying src, P.underlying dst, x with
  | some _, some (.int k), .i _ n => some (.i k (k.wrap n), st)
  | some _, some .string, .s l x => some (.s l x, st)
  | some _, some (.slice e), .s l x => match P.underlying e with
    | some (.int .u8) => cond (Nat.ble l 1099511627776) (match blkOf (cellsOfBytes l x) 1 false with
      | some b => natF st.nx fun nx => some (.sl nx 0 l l true, St.alloc ⟨nx, st.hp, st.ver⟩ b)
      | none => none) none
    | _ => none
  | some (.slice e), some .string, .sn => match P.underlying e with
    | some (.int .u8) => some (.s 0 0, st)
    | _ => none
  | some (.slice e), some .string, .sl id off len _ _ => match P.underlying e, st.hp.get id with
    | some (.int .u8), some b => match vtext b len off with
      | some v => some (v, st)
      | none => none
    | _, _ => none
  | some (.slice e), some .string, .se _ _ _ => match P.underlying e with
    | some (.int .u8) => some (.s 0 0, st)
    | _ => none
  | some (.slice e), some .string, .ze _ => match P.underlying e with
    | some (.int .u8) => some (.s 0 0, st)
    | _ => none
  | some (.slice e), some .string, .sy .. => match P.underlying e with
    | some (.int .u8) => some (.s 0 0, st)
    | _ => none
  | _, _, _ => none

/-- The bytes of a text that the program gives are marked as such: what is there stays as it is. -/
def vconv2 (ro : Nat) (st : St) (src dst : TypeId) (x : V) : Option (V × St) :=
  match P.underlying src, P.underlying dst, x with
  | some (.slice e), some (.slice _), .sl g o l c op => match P.underlying e, st.hp.get g with
    | some (.int .u8), some b => cond (decide (src = dst) && !b.full && Nat.ble ro g && b.mp.isNone) (some (.sl g o l c op, st)) none
    | _, _ => none
  | _, _, _ => vconvert P st src dst x

/-- The cells of the first n elements of a slice, or a string. -/
def vfirst (st : St) (es n : Nat) : V → Option (List V)
  | .sn => some []
  | .s _ x => cond (Nat.beq es 1) (some (cellsOfBytes n x)) none
  | .sl id off _ _ _ => match st.hp.get id with
    | some b => b.row (n * es) off
    | none => none
  | .se _ _ _ => cond (Nat.beq n 0) (some []) none
  | .ze _ => cond (Nat.beq n 0) (some []) none
  | .sy _ _ _ => cond (Nat.beq n 0) (some []) none
  | _ => none

def vlen : V → Option Nat
  | .sn => some 0
  | .s l _ => some l
  | .sl _ _ l _ _ => some l
  | .se _ _ _ => some 0
  | .ze _ => some 0
  | .sy _ _ _ => some 0
  | _ => none

def St.kill (st : St) (id : Nat) : St := natF (low st.ver id) fun v => ⟨st.nx, st.hp.upd id none, v⟩

def zeroFits (e : TypeId) (n : Nat) : Bool := match zeroOf P e with
  | some z => Nat.beq z.cells.length n
  | none => false

/-- A block of some old cells and some new ones behind them; where the old ones are a whole block, this is taken over. -/
def Blk.grow (b : Blk) (cs : List V) : Option Blk := Blk.put { b with sz := b.sz + cs.length, op := true } cs b.sz

def vgrown (b : Blk) (off len es : Nat) (new : List V) : Option Blk :=
  match b.mp with
  | none => cond (b.op && Nat.beq off 0 && Nat.beq (len * es) b.sz && Nat.beq b.es es) (b.grow new) (match b.row (len * es) off with
    | some old => blkOf (old ++ new) es true
    | none => none)
  | some _ => none

def vappend (ro : Nat) (st : St) (t : TypeId) (s x : V) : Option (V × St) :=
  match P.underlying t with
  | some (.slice e) => match P.info? e, vlen x with
    | some ti, some n => match vfirst st ti.size n x with
      | some new => cond (Nat.blt 0 ti.size && Nat.blt 0 ti.bytes && zeroFits P e ti.size) (match s with
        | .sn => cond (Nat.ble (n * ti.bytes) 1099511627776)
          (cond (Nat.beq n 0) (some (.sn, st)) (match blkOf new ti.size true with
            | some b => natF st.nx fun nx => natF n fun n => some (.sl nx 0 n n true, St.alloc ⟨nx, st.hp, st.ver⟩ b)
            | none => none)) none
        | .sl id off len cap op => match st.hp.get id with
          | some b => cond (Nat.ble ((len + n) * ti.bytes) 1099511627776)
            (cond (Nat.ble (len + n) cap)
              (cond (Nat.ble ro id) (match b.put new (off + len * ti.size) with
                | some b => natF (len + n) fun m => some (.sl id off m cap op, st.write id b)
                | none => none) none)
              (match vgrown b off len ti.size new with
              | some b' => cond op
                (cond (Nat.ble ro id && b.op && Nat.beq b.es ti.size && Nat.beq (off + cap * ti.size) b.sz)
                  (natF st.nx fun nx => natF (len + n) fun m => some (.sl nx 0 m m true, St.alloc ⟨nx, (st.kill id).hp, (st.kill id).ver⟩ b')) none)
                (natF st.nx fun nx => natF (len + n) fun m => some (.sl nx 0 m m true, St.alloc ⟨nx, st.hp, st.ver⟩ b'))
              | none => none)) none
          | none => none
        | .sy g o q => cond (Nat.ble (n * ti.bytes) 1099511627776)
          (cond (Nat.beq n 0) (some (.sy g o q, st)) (match blkOf new ti.size true with
            | some b => natF st.nx fun nx => natF n fun n => some (.sl nx 0 n n true, St.alloc ⟨nx, st.hp, st.ver⟩ b)
            | none => none)) none
        | .ze a => cond (Nat.ble (n * ti.bytes) 1099511627776)
          (cond (Nat.beq n 0) (some (.ze a, st)) (match blkOf new ti.size true with
            | some b => natF st.nx fun nx => natF n fun n => some (.sl nx 0 n n true, St.alloc ⟨nx, st.hp, st.ver⟩ b)
            | none => none)) none
        | _ => none) none
      | none => none
    | _, _ => none
  | _ => none

def vcopy (ro : Nat) (st : St) (t : TypeId) (d x : V) : Option (V × St) :=
  match P.underlying t with
  | some (.slice e) => match P.info? e, vlen x with
    | some ti, some n => match d with
      | .sn => match vfirst st ti.size 0 x with
        | some _ => some (.i .i64 0, st)
        | none => none
      | .sl id off len _ _ => match vfirst st ti.size (Nat.min n len) x, st.hp.get id with
        | some new, some b => cond (Nat.ble ro id) (match b.put new off with
          | some b => some (.i .i64 (.ofNat (Nat.min n len)), st.write id b)
          | none => none) none
        | _, _ => none
      | _ => none
    | _, _ => none
  | _ => none

def vlenOp (t : TypeId) (x : V) : Option V :=
  match P.underlying t, x with
  | some .string, .s l _ => some (.i .i64 (.ofNat l))
  | some (.slice _), .sl _ _ l _ _ => some (.i .i64 (.ofNat l))
  | some (.slice _), .sn => some (.i .i64 0)
  | some (.slice _), .se .. => some (.i .i64 0)
  | some (.slice _), .ze _ => some (.i .i64 0)
  | some (.slice _), .sy .. => some (.i .i64 0)
  | some (.array n _), _ => some (.i .i64 (.ofNat n))
  | _, _ => none

def vmin2 (mn : Bool) : V → V → Option V
  | .i k x, .i _ y => some (.i k (cond mn (cond (ilt y x) y x) (cond (ilt x y) y x)))
  | _, _ => none
def vminL (mn : Bool) (x : V) : List V → Option V
  | [] => some x
  | y :: r => match vmin2 mn x y with
    | some z => vminL mn z r
    | none => none

def vbuiltin (ro : Nat) (b : Builtin) (ts : List TypeId) (args : List V) (st : St) : Option (V × St) :=
  match b, ts, args with
  | .len, [t], [x] => match vlenOp P t x with | some v => some (v, st) | none => none
  | .append, [t, u], [s, x] => match P.underlying u with
    | some (.int _) => none
    | some _ => vappend P ro st t s x
    | none => none
  | .copy, [t, _], [d, x] => vcopy P ro st t d x
  | .min, _, x :: r => match vminL true x r with | some v => some (v, st) | none => none
  | .max, _, x :: r => match vminL false x r with | some v => some (v, st) | none => none
  | _, _, _ => none

/-! ### An operation -/

abbrev CallF := FuncId → List V → St → Option (V × St)
/-- Answers of calls that are known beforehand, and the memory behind them. -/
abbrev Ov := FuncId → List V → St → Option (V × St)
/-- Answers that leave the memory as it is. -/
abbrev Ov0 := FuncId → List V → Option V
def ofOv0 (o : Ov0) : Ov := fun f args st => match o f args with
  | some v => some (v, st)
  | none => none

/-! ### Maps -/

/-- Are two keys that are no structs the same? -/
def keq1 (ro : Nat) (st : St) (t : TypeId) (x y : V) : Option Bool := match P.underlying t, x, y with
  | some .bool, .b a, .b b => some (a == b)
  | some (.int _), .i k a, .i k' b => cond (decide (k = k')) (some (a == b)) none
  | some .string, .s l x, .s m y => some (Nat.beq l m && Nat.beq x y)
  | some (.pointer _), .pn, .pn => some true
  | some (.pointer _), .pn, .p _ _ => some false
  | some (.pointer _), .p _ _, .pn => some false
  | some (.pointer e), .p g o, .p g' o' => match sizeB P e with
    | some (_ + 1) => cond (Nat.beq g g') (some (Nat.beq o o')) (match st.hp.get g, st.hp.get g' with
      | some b, some b' => cond (b.mp.isNone && b'.mp.isNone && Nat.ble ro g && Nat.ble ro g' && Nat.blt o b.sz && Nat.blt o' b'.sz && (b.full || b'.full)) (some false) none
      | _, _ => none)
    | _ => none
  | _, _, _ => none
def keqS (ro : Nat) (st : St) (eq : TypeId → V → V → Option Bool) (t : TypeId) (x y : V) : Option Bool := match P.underlying t, x, y with
  | some (.struct fs), .a xs, .a ys => cond (P.stoodInHeld t) none (veqFields P eq xs ys fs.toList)
  | _, x, y => keq1 P ro st t x y
def keq (ro : Nat) (st : St) (t : TypeId) (x y : V) : Option Bool := keqS P ro st (keqS P ro st (keq1 P ro st)) t x y
def ck1 (t : TypeId) (x : V) : Bool := match P.underlying t, x with
  | some .bool, .b _ => true
  | some (.int _), .i _ _ => true
  | some .string, .s _ _ => true
  | some (.pointer _), .pn => true
  | some (.pointer _), .p _ _ => true
  | _, _ => false
def ckFields (ck : TypeId → V → Bool) (xs : List V) : List Field → Bool
  | [] => true
  | f :: r => cond (f.name == "_") (ckFields ck xs r) (match vpart P f.type xs f.offset with
    | some x => ck f.type x && ckFields ck xs r
    | none => false)
def ckS (ck : TypeId → V → Bool) (t : TypeId) (x : V) : Bool := match P.underlying t, x with
  | some (.struct fs), .a xs => ckFields P ck xs fs.toList
  | _, x => ck1 P t x
/-- A value that may be a key. -/
def ckV (t : TypeId) (x : V) : Bool := ckS P (ckS P (ck1 P)) t x
/-- Where a key stands, and what is there. -/
def findV (ro : Nat) (st : St) (t : TypeId) (k : V) : List (V × V) → Nat → Option (Option (Nat × V))
  | [], _ => some none
  | e :: r, i => match keq P ro st t k e.1 with
    | some true => some (some (i, e.2))
    | some false => findV ro st t k r (i + 1)
    | none => none
def sameA : V → V → Bool
  | .b a, .b b => a == b
  | .i k a, .i k' b => decide (k = k') && a == b
  | .s l x, .s m y => Nat.beq l m && Nat.beq x y
  | .pn, .pn => true
  | .p g o, .p g' o' => Nat.beq g g' && Nat.beq o o'
  | _, _ => false
def sameAs : List V → List V → Bool
  | [], [] => true
  | x :: r, y :: s => sameA x y && sameAs r s
  | _, _ => false
def sameKey : V → V → Bool
  | .a xs, .a ys => sameAs xs ys
  | x, y => sameA x y
def vmakeMap (st : St) : V × St := natF st.nx fun nx => (.m nx, St.alloc ⟨nx, st.hp, st.ver⟩ ⟨.e, [], 0, 0, false, some []⟩)
def vlookup (ro : Nat) (st : St) (t : TypeId) (x k : V) (ok : Bool) : Option V := match P.underlying t, x with
  | some (.map kt et), .m g => match st.hp.get g, zeroOf P et with
    | some b, some z => match b.mp with
      | some es => cond (ckV P kt k) (match findV P ro st kt k es 0 with
        | some (some (_, v)) => some (cond ok (.t [v, .b true]) v)
        | some none => some (cond ok (.t [z, .b false]) z)
        | none => none) none
      | none => none
    | _, _ => none
  | _, _ => none
def vmapUpdate (ro : Nat) (st : St) (t : TypeId) (x k v : V) : Option St := match P.underlying t, x with
  | some (.map kt _), .m g => match st.hp.get g with
    | some b => match b.mp with
      | some es => cond (ckV P kt k) (match findV P ro st kt k es 0 with
        | some (some (i, _)) => match es[i]? with
          | some e => cond (sameKey e.1 k) (some (st.write g { b with mp := some (es.set i (k, v)) })) none
          | none => none
        | some none => some (st.write g { b with mp := some (es ++ [(k, v)]) })
        | none => none) none
      | none => none
    | none => none
  | _, _ => none

/-- What it hands back (none: nothing), and the memory behind it. -/
def vop (ro : Nat) (call : CallF) (fr : T V) (st : St) : Op → Option (Option V × St)
  | .move x | .assign x => match opnd fr x with | some v => some (some v, st) | none => none
  | .pick c a b => match opnd fr c with
    | some (.b x) => match opnd fr (cond x a b) with | some v => some (some v, st) | none => none
    | _ => none
  | .binOp op t x y _ => match opnd fr x, opnd fr y with
    | some x, some y => match vbin P op t x y with | some v => some (some v, st) | none => none
    | _, _ => none
  | .unOp op _ x => match opnd fr x with
    | some x => match vun op x with | some v => some (some v, st) | none => none
    | none => none
  | .convert s d x => match opnd fr x with
    | some x => match vconv2 P ro st s d x with | some (v, st) => some (some v, st) | none => none
    | none => none
  | .field t x f => match opnd fr x with
    | some x => match vfield P t x f with | some v => some (some v, st) | none => none
    | none => none
  | .index t x i => match opnd fr x, opnd fr i with
    | some x, some (.i _ i) => match vindex P t x i with | some v => some (some v, st) | none => none
    | _, _ => none
  | .indexAddr t x i => match opnd fr x, opnd fr i with
    | some x, some (.i _ i) => match vindexAddr P t x i with | some v => some (some v, st) | none => none
    | _, _ => none
  | .fieldAddr t x f => match opnd fr x with
    | some (.p id off) => match vfieldAddr P t id off f with | some v => some (some v, st) | none => none
    | _ => none
  | .load t x => match opnd fr x with
    | some (.p id off) => match vload P st t id off with | some v => some (some v, st) | none => none
    | _ => none
  | .store t x v => match opnd fr x, opnd fr v with
    | some (.p id off), some v => match vstore P ro st t id off v with | some st => some (none, st) | none => none
    | _, _ => none
  | .alloc t => match zeroOf P t, sizeB P t with
    | some z, some n => match valloc st z n with | some (v, st) => some (some v, st) | none => none
    | _, _ => none
  | .box t x => match opnd fr x, sizeB P t with
    | some z, some n => match valloc st z n with | some (v, st) => some (some v, st) | none => none
    | _, _ => none
  | .build t ps => match partsOf fr ps.toList with
    | some ps => match vbuild P t ps with | some v => some (some v, st) | none => none
    | none => none
  | .buildSlice t len ps => match partsOf fr ps.toList with
    | some ps => match vbuildSlice P st t len ps with | some (v, st) => some (some v, st) | none => none
    | none => none
  | .makeSlice t l c => match opnd fr l, opnd fr c with
    | some (.i _ l), some (.i _ c) => match vmakeSlice P st t l c with | some (v, st) => some (some v, st) | none => none
    | _, _ => none
  | .slice t x lo hi mx => match opnd fr x with
    | some x => match (match lo with | none => some none | some o => (opnd fr o).map some), (match hi with | none => some none | some o => (opnd fr o).map some), (match mx with | none => some none | some o => (opnd fr o).map some) with
      | some lo, some hi, some mx => match vslice P t x lo hi mx with | some v => some (some v, st) | none => none
      | _, _, _ => none
    | none => none
  | .nilCheck x => match opnd fr x with
    | some (.p id off) => some (some (.p id off), st)
    | _ => none
  | .makeFunc fn first caps => match opnds fr first.toList, opnds fr caps.toList with
    | some xs, some ys => some (some (.f fn xs ys), st)
    | _, _ => none
  | .extract x i => match opnd fr x with
    | some (.t vs) => match vs[i]? with | some v => some (some v, st) | none => none
    | _ => none
  | .call c => match opnds fr c.args.toList with
    | some args => match c.callee with
      | .builtin b => match vbuiltin P ro b c.argTypes.toList args st with | some (v, st) => some (some v, st) | none => none
      | .value f => match opnd fr f with
        | some (.f (.func f) first caps) => match call f (first ++ args ++ caps) st with | some (v, st) => some (some v, st) | none => none
        | _ => none
      | .invoke _ _ => none
    | none => none
  | .makeMap _ none => some (some (vmakeMap st).1, (vmakeMap st).2)
  | .lookup t x k ok => match opnd fr x, opnd fr k with
    | some x, some k => match vlookup P ro st t x k ok with | some v => some (some v, st) | none => none
    | _, _ => none
  | .mapUpdate t m k x => match opnd fr m, opnd fr k, opnd fr x with
    | some m, some k, some x => match vmapUpdate P ro st t m k x with | some st => some (none, st) | none => none
    | _, _, _ => none
  | _ => none

/-- Operations that leave the memory as it is (calls are looked at by what they do). -/
def quietOp : Op → Bool
  | .move _ | .assign _ | .pick .. | .binOp .. | .unOp .. | .field .. | .index .. | .indexAddr .. | .fieldAddr .. | .load .. | .build .. | .slice .. | .nilCheck _ | .makeFunc .. | .extract .. => true
  | .call c => match c.callee with
    | .builtin .len | .builtin .min | .builtin .max | .value _ => true
    | _ => false
  | _ => false

def vput (nt : Nat) (fr : T V) (dst : Option Nat) (v : Option V) : Option (T V) :=
  match dst with
  | none => some fr
  | some d => cond (Nat.blt d nt) (match v with
    | some v => v.force fun v => some (fr.upd d (some v))
    | none => some (fr.upd d (some (.t [])))) none

/-- Is the operation carried out? -/
def vwanted (ops : Array Oper) (fr : T V) (o : Oper) : Option Bool :=
  match o.guard with
  | none => some true
  | some (j, want) => match (ops[j]?).bind (·.dst) with
    | none => some false
    | some d => match fr.get d with
      | some (.b x) => some (x == want)
      | some _ => some false
      | none => none

def vops (ro nt : Nat) (call : CallF) (ops : Array Oper) : List Oper → T V → St → Option (T V × St)
  | [], fr, st => some (fr, st)
  | o :: r, fr, st => match vwanted ops fr o with
    | some true => match vop P ro call fr st o.op with
      | some (v, st) => match vput nt fr o.dst v with
        | some fr => vops ro nt call ops r fr st
        | none => none
      | none => none
    | some false => match vput nt fr o.dst none with
      | some fr => vops ro nt call ops r fr st
      | none => none
    | none => none

/-- The same where the order is open: each one leaves the memory as it is; what calls make is thrown away. -/
def vopsQ (ro nt : Nat) (call : CallF) (ops : Array Oper) : List Oper → T V → St → Option (T V)
  | [], fr, _ => some fr
  | o :: r, fr, st => match vwanted ops fr o with
    | some true => match quietOp o.op with
      | true => match vop P ro call fr ⟨st.nx, st.hp, st.nx⟩ o.op with
        | some (v, st') => cond (Nat.ble st.nx st'.ver && (Nat.beq st'.nx st.nx || plainO v))
          (match vput nt fr o.dst v with
          | some fr => vopsQ ro nt call ops r fr st
          | none => none) none
        | none => none
      | false => none
    | some false => match vput nt fr o.dst none with
      | some fr => vopsQ ro nt call ops r fr st
      | none => none
    | none => none

inductive Ex where
  | nrm
  | exit (id : Nat)
  | goto (l : Nat)
  | ret

abbrev RunF := Code → T V → St → Option (Ex × T V × St)

def loopGo (run : T V → St → Option (Ex × T V × St)) : Nat → T V → St → Option (Ex × T V × St)
  | 0, _, _ => none
  | n + 1, fr, st => match run fr st with
    | some (.nrm, fr, st) => loopGo run n fr st
    | r => r

def scopeGo (run : RunF) (body : Code) : Nat → Code → T V → St → Option (Ex × T V × St)
  | 0, _, _, _ => none
  | n + 1, c, fr, st => match run c fr st with
    | some (.goto l, fr, st) => match findLabel body l with
      | some rest => scopeGo run body n rest fr st
      | none => some (.goto l, fr, st)
    | r => r

def frameOf : List V → Nat → T V → T V
  | [], _, fr => fr
  | v :: r, i, fr => v.force fun v => frameOf r (i + 1) (fr.upd i (some v))

def resultOf (fr : T V) (st : St) : ResultVar → Option V
  | .tmp t => fr.get t
  | .cell a t => match fr.get a with
    | some (.p id off) => vload P st t id off
    | _ => none
def resultsOf (fr : T V) (st : St) : List ResultVar → Option (List V)
  | [] => some []
  | r :: rs => match resultOf P fr st r with
    | some v => match resultsOf fr st rs with
      | some vs => some (v :: vs)
      | none => none
    | none => none
def oneOf : List V → V
  | [v] => v
  | vs => .t vs

def callGo (ov : Ov) (run : Nat → RunF) (f : FuncId) (args : List V) (st : St) : Option (V × St) :=
  match ov f args st with
  | some (v, st) => some (v, st)
  | none => match P.funcs[f]? with
  | some fn => match fn.body with
    | some c => cond (Nat.ble args.length fn.ntmps) (match run fn.ntmps c (frameOf args 0 .e) st with
      | some (.nrm, fr, st) | some (.ret, fr, st) => match resultsOf P fr st fn.results.toList with
        | some vs => some (oneOf vs, st)
        | none => none
      | _ => none) none
    | none => none
  | none => none

def notCall : Op → Bool
  | .call c => match c.callee with
    | .builtin _ => true
    | _ => false
  | _ => true

/-- A region whose order is open, of quiet operations alone. -/
def lexQ (ops : Array Oper) : Bool := Region.lexB .any ops && ops.toList.all fun o => quietOp o.op
/-- A region whose order is open, but whose last operation waits for all others. -/
def tailB (ops : Array Oper) : Bool := Region.lexTailB .any ops (ops.size - 1) && ((ops.toList.take (ops.size - 1)).all (fun o => notCall o.op) && (ops.toList.take (ops.size - 1)).all fun o => quietOp o.op)

/-! ### A region whose order is open: loads and what looks at no memory come first -/

/-- 0: memory is not looked at; 1: a load; 2: all others. -/
def opCls : Op → Nat
  | .load _ _ => 1
  | .call c => match c.callee with
    | .builtin .len | .builtin .min | .builtin .max => 0
    | _ => 2
  | op => cond (quietOp op) 0 2
def clsAt (ops : Array Oper) (i : Nat) : Bool := match ops[i]? with
  | some o => Nat.ble (opCls o.op) 1
  | none => false
/-- The order in which a region is carried out here: what may come first first, then the only one that may come. -/
def planGo (ops : Array Oper) : Nat → Array Bool → Option (List (Nat × Oper))
  | 0, listed => match Region.ready .any ops listed with
    | [] => some []
    | _ :: _ => none
  | f + 1, listed => match (Region.ready .any ops listed).find? (clsAt ops) with
    | some i => match Region.free .any ops listed i, ops[i]? with
      | true, some o => match planGo ops f (listed.setIfInBounds i true) with
        | some l => some ((i, o) :: l)
        | none => none
      | _, _ => none
    | none => match Region.ready .any ops listed with
      | [i] => match ops[i]? with
        | some o => match planGo ops f (listed.setIfInBounds i true) with
          | some l => some ((i, o) :: l)
          | none => none
        | none => none
      | _ => none
/-- A call that is handed more than numbers, strings and truth values: it may write. -/
def mayWrite : Op → Bool
  | .call c => match c.callee with
    | .builtin _ => false
    | _ => c.argTypes.toList.any fun t => match P.underlying t with
      | some (.int _) | some .string | some .bool => false
      | _ => true
  | _ => false
def lexQ1 (ops : Array Oper) : Bool := lexQ ops && !(ops.toList.any fun o => mayWrite P o.op)
/-- A row of constants that is laid anew, or a variable that is made: it may be laid before its turn comes. -/
def allocB (o : Oper) : Bool := match o.guard, o.dst, o.op with
  | none, some _, .buildSlice t n ps => match partsOf .e ps.toList with
    | some pv => (vbuildSlice P ⟨0, .e, 0⟩ t n pv).isSome
    | none => false
  | none, some _, .alloc t => match zeroOf P t, sizeB P t with
    | some z, some n => (valloc ⟨0, .e, 0⟩ z n).isSome
    | _, _ => false
  | _, _, _ => false
def allocAt (ops : Array Oper) (i : Nat) : Bool := match ops[i]? with
  | some o => allocB P o
  | none => false
/-- What may have come up: all that is listed, and every such row but i. -/
def mayL (ops : Array Oper) (listed : Array Bool) (i : Nat) : Array Bool := ((List.range ops.size).map fun j => listed.getD j true || (allocAt P ops j && !(Nat.beq j i))).toArray
def pickP (ops : Array Oper) (l : List Nat) : Option Nat := match l.find? (fun i => !allocAt P ops i) with
  | some i => some i
  | none => l.head?
def planP (ops : Array Oper) : Nat → Array Bool → Option (List (Nat × Oper))
  | 0, listed => match (List.range ops.size).all fun j => listed.getD j false with
    | true => some []
    | false => none
  | f + 1, listed => match (Region.ready .any ops listed).find? (clsAt ops) with
    | some i => match Region.free .any ops listed i, ops[i]? with
      | true, some o => match planP ops f (listed.setIfInBounds i true) with
        | some l => some ((i, o) :: l)
        | none => none
      | _, _ => none
    | none => match pickP P ops (Region.ready .any ops listed) with
      | some i => match (Region.ready .any ops listed).contains i && (Region.ready .any ops (mayL P ops listed i)).all (fun j => Nat.beq j i || allocAt P ops j), ops[i]? with
        | true, some o => match planP ops f (listed.setIfInBounds i true) with
          | some l => some ((i, o) :: l)
          | none => none
        | _, _ => none
      | none => none
def penOK (ops : Array Oper) : Bool := (List.range ops.size).all fun p => !allocAt P ops p || (List.range ops.size).all fun j => Nat.beq j p || match ops[p]?, ops[j]? with
  | some x, some y => (Region.waitsFor .any ops j p || x.apart ops y) && (!allocAt P ops j || decide (x.dst ≠ y.dst))
  | _, _ => false
def planOf (ops : Array Oper) : Option (List (Nat × Oper)) := match Region.noSelect ops with
  | true => match planGo ops ops.size (Array.replicate ops.size false) with
    | some l => some l
    | none => cond (penOK P ops) (planP P ops ops.size (Array.replicate ops.size false)) none
  | false => none

def same1 : V → V → Bool
  | .b x, .b y => cond x y (!y)
  | .i k n, .i k' m => decide (k = k') && decide (n = m)
  | .s l x, .s m y => Nat.beq l m && Nat.beq x y
  | .p g o, .p g' o' => Nat.beq g g' && Nat.beq o o'
  | .pn, .pn | .sn, .sn | .fz, .fz | .nz, .nz => true
  | .sl g o l c op, .sl g' o' l' c' op' => Nat.beq g g' && Nat.beq o o' && Nat.beq l l' && Nat.beq c c' && cond op op' (!op')
  | .se g o q, .se g' o' q' => Nat.beq g g' && Nat.beq o o' && Nat.beq q q'
  | .sy g o q, .sy g' o' q' => Nat.beq g g' && Nat.beq o o' && Nat.beq q q'
  | .ze a, .ze b => decide (a = b)
  | _, _ => false
def sameL : List V → List V → Bool
  | [], [] => true
  | x :: xs, y :: ys => same1 x y && sameL xs ys
  | _, _ => false
def sameV : V → V → Bool
  | .a xs, .a ys => sameL xs ys
  | x, y => same1 x y

/-- A load that was carried out: where, and what it read. -/
structure Ent where
  x : Nat
  t : TypeId
  id : Nat
  off : Nat
  v : V
/-- An operation waits for another, or for one that waits for it. -/
def _root_.Go.Region.waitsT (md : Region.Mode) (ops : Array Oper) (i x : Nat) : Bool := match Region.waitsFor md ops i x with
  | true => true
  | false => match ops[i]? with
    | some o => o.after.any fun d => Region.binds md d && Region.waitsFor md ops d.on x
    | none => false
/-- Loads that need not have come before this operation. -/
def aliveE (ops : Array Oper) (i : Nat) : List Ent → List Ent
  | [] => []
  | e :: r => match Region.waitsT .any ops i e.x with
    | true => aliveE ops i r
    | false => e :: aliveE ops i r
def keepB (st : St) : List Ent → Bool
  | [] => true
  | e :: r => match vload P st e.t e.id e.off with
    | some v => cond (sameV v e.v) (keepB st r) false
    | none => false

def runO (ro nt : Nat) (call : CallF) (ops : Array Oper) : List (Nat × Oper) → List Ent → T V → St → Option (T V × St)
  | [], _, fr, st => some (fr, st)
  | (i, o) :: r, es, fr, st => match vwanted ops fr o with
    | some true => match opCls o.op with
      | 0 => match vop P ro call fr ⟨st.nx, .e, 0⟩ o.op with
        | some (v, _) => match vput nt fr o.dst v with
          | some fr => runO ro nt call ops r es fr st
          | none => none
        | none => none
      | 1 => match o.op with
        | .load t x => match opnd fr x with
          | some (.p id off) => match vload P st t id off with
            | some v => match vput nt fr o.dst (some v) with
              | some fr => runO ro nt call ops r (⟨i, t, id, off, v⟩ :: es) fr st
              | none => none
            | none => none
          | _ => none
        | _ => none
      | _ => match vop P ro call fr ⟨st.nx, st.hp, st.nx⟩ o.op with
        | some (v, st') => match Nat.ble st.nx st'.ver || keepB P st' (aliveE ops i es) with
          | true => match vput nt fr o.dst v with
            | some fr => natF (low st.ver st'.ver) fun ver => runO ro nt call ops r (aliveE ops i es) fr ⟨st'.nx, st'.hp, ver⟩
            | none => none
          | false => none
        | none => none
    | some false => match vput nt fr o.dst none with
      | some fr => runO ro nt call ops r es fr st
      | none => none
    | none => none

/-! ### Two stores at the end of a region, in either order -/

def isStoreB (o : Oper) : Bool := match o.guard, o.dst, o.op with
  | none, none, .store _ _ _ => true
  | _, _, _ => false
def nilB {α : Type} : List α → Bool
  | [] => true
  | _ :: _ => false
def sameN : List Nat → List Nat → Bool
  | [], [] => true
  | x :: r, y :: s => Nat.beq x y && sameN r s
  | _, _ => false
/-- All loads come before this operation. -/
def waitsAll (ops : Array Oper) (i : Nat) : Bool := (List.range ops.size).all fun j => match ops[j]? with
  | some o => !(Nat.beq (opCls o.op) 1) || Region.waitsT .any ops i j
  | none => true
def endB (ops : Array Oper) (listed : Array Bool) (i j : Nat) : Bool :=
  sameN (Region.ready .any ops (listed.setIfInBounds i true)) [j] && sameN (Region.ready .any ops (listed.setIfInBounds j true)) [i] &&
  nilB (Region.ready .any ops ((listed.setIfInBounds i true).setIfInBounds j true)) && nilB (Region.ready .any ops ((listed.setIfInBounds j true).setIfInBounds i true)) &&
  waitsAll ops i && waitsAll ops j
/-- The plan up to where more than one may come; how much is left, and what has come. -/
def planStop (ops : Array Oper) : Nat → Array Bool → Option (List (Nat × Oper) × Nat × Array Bool)
  | 0, listed => some ([], 0, listed)
  | f + 1, listed => match (Region.ready .any ops listed).find? (clsAt ops) with
    | some i => match Region.free .any ops listed i, ops[i]? with
      | true, some o => match planStop ops f (listed.setIfInBounds i true) with
        | some (l, r) => some ((i, o) :: l, r)
        | none => none
      | _, _ => none
    | none => match Region.ready .any ops listed with
      | [i] => match ops[i]? with
        | some o => match planStop ops f (listed.setIfInBounds i true) with
          | some (l, r) => some ((i, o) :: l, r)
          | none => none
        | none => none
      | _ => some ([], f + 1, listed)
/-- A region that ends in two stores of open order. -/
def planPair (ops : Array Oper) : Option (List (Nat × Oper) × Oper × Oper) := match Region.noSelect ops with
  | true => match planStop ops ops.size (Array.replicate ops.size false) with
    | some (l, _ + 2, listed) => match Region.ready .any ops listed with
      | [i, j] => match ops[i]?, ops[j]? with
        | some o, some q => cond (isStoreB o && isStoreB q && endB ops listed i j) (some (l, o, q)) none
        | _, _ => none
      | _ => none
    | _ => none
  | false => none
/-- Two stores, at different blocks. -/
def runPair (ro : Nat) (o q : Oper) (fr : T V) (st : St) : Option St := match o.op, q.op with
  | .store t x v, .store t' y u => match opnd fr x, opnd fr v, opnd fr y, opnd fr u with
    | some (.p g a), some v, some (.p g' a'), some u => cond (Nat.beq g g') none (match vstore P ro st t g a v with
      | some st => vstore P ro st t' g' a' u
      | none => none)
    | _, _, _, _ => none
  | _, _ => none

/-! ### x.F = append(x.F, v), in either of two ways -/

/-- A truth value. -/
def boolTy (t : TypeId) : Bool := match P.underlying t, zeroOf P t, P.info? t with
  | some .bool, some (.b false), some ti => Nat.beq ti.size 1
  | _, _, _ => false
/-- The first comes first, the fourth last. -/
def orders4 (ops : Array Oper) : Bool :=
  sameN (Region.ready .any ops (Array.replicate ops.size false)) [0] && sameN (Region.ready .any ops ((Array.replicate ops.size false).setIfInBounds 0 true)) [1, 2] &&
  sameN (Region.ready .any ops (((Array.replicate ops.size false).setIfInBounds 0 true).setIfInBounds 1 true)) [2] && sameN (Region.ready .any ops (((Array.replicate ops.size false).setIfInBounds 0 true).setIfInBounds 2 true)) [1] &&
  sameN (Region.ready .any ops ((((Array.replicate ops.size false).setIfInBounds 0 true).setIfInBounds 1 true).setIfInBounds 2 true)) [3] && sameN (Region.ready .any ops ((((Array.replicate ops.size false).setIfInBounds 0 true).setIfInBounds 2 true).setIfInBounds 1 true)) [3] &&
  sameN (Region.ready .any ops (((((Array.replicate ops.size false).setIfInBounds 0 true).setIfInBounds 1 true).setIfInBounds 2 true).setIfInBounds 3 true)) [] && sameN (Region.ready .any ops (((((Array.replicate ops.size false).setIfInBounds 0 true).setIfInBounds 2 true).setIfInBounds 1 true).setIfInBounds 3 true)) []
/-- A choice in memory: a variable, two stores, a load. -/
def flagR (nt : Nat) (ops : Array Oper) : Option (Nat × Nat) := match ops.toList with
  | [o1, o2, o3, o4] => match o1.guard, o1.dst, o1.op, o2.guard, o2.dst, o2.op, o3.guard, o3.dst, o3.op, o4.guard, o4.dst, o4.op with
    | none, some p, .alloc t1, none, none, .store t2 (.tmp p2) (.const (.bool true)), none, none, .store t3 (.tmp p3) (.const (.bool false)), none, some f, .load t4 (.tmp p4) =>
      cond ((decide (t2 = t1) && decide (t3 = t1) && decide (t4 = t1)) && (Nat.beq p2 p && Nat.beq p3 p && Nat.beq p4 p && !(Nat.beq p f)) && boolTy P t1 && orders4 ops && Nat.blt p nt && Nat.blt f nt) (some (p, f)) none
    | _, _, _, _, _, _, _, _, _, _, _, _ => none
  | _ => none

structure TailI where
  pre : List (Nat × Oper)
  i1 : Nat
  o1 : Oper
  i2 : Nat
  o2 : Oper
  ad : List (Nat × Oper)
  i3 : Nat
  o3 : Oper
  z : Nat
  r : Nat
  tl : TypeId
  ps : Array (Nat × Operand)
  cur : Operand
  t : TypeId
  x : Operand
def clsL (x : Nat × Oper) : Bool := Nat.ble (opCls x.2.op) 1
def cls0 (r : Nat) (x : Nat × Oper) : Bool := Nat.beq (opCls x.2.op) 0 && !(match x.2.dst with | some d => Nat.beq d r | none => false)
/-- Loads, a row of one, append, addresses, a store. -/
def tailOf (l : List (Nat × Oper)) : Option TailI := match l.dropWhile clsL with
  | (i1, o1) :: (i2, o2) :: rest => match rest.getLast? with
    | some (i3, o3) => match o1.guard, o1.dst, o1.op, o2.guard, o2.dst, o2.op, o3.guard, o3.dst, o3.op with
      | none, some z, .buildSlice tl 1 ps, none, some r, .call ⟨.builtin .append, args, tys⟩, none, none, .store t x (.tmp r') => match args.toList, tys.toList with
        | [cur, .tmp z'], [u1, u2] => cond (Nat.beq z z' && Nat.beq r r' && decide (u1 = tl) && decide (u2 = tl) && rest.dropLast.all (cls0 r)) (some ⟨l.takeWhile clsL, i1, o1, i2, o2, rest.dropLast, i3, o3, z, r, tl, ps, cur, t, x⟩) none
        | _, _ => none
      | _, _, _, _, _, _, _, _, _ => none
    | none => none
  | _ => none
/-- The element is laid: where, and what. -/
structure ElemI where
  e : Nat
  tl : TypeId
  r : Nat
  ix : Operand
  te : TypeId
  v : Operand
def notTmp (e : Nat) : Operand → Bool
  | .tmp q => !(Nat.beq q e)
  | _ => true
def elemOf (ops : Array Oper) : Option ElemI := match ops.toList with
  | [o1, o2] => match o1.guard, o1.dst, o1.op, o2.guard, o2.dst, o2.op with
    | none, some e, .indexAddr tl (.tmp r) ix, none, none, .store te (.tmp e') v => cond (Nat.beq e e' && notTmp e v) (some ⟨e, tl, r, ix, te, v⟩) none
    | _, _, _, _, _, _ => none
  | _ => none
structure FlagI where
  p : Nat
  f : Nat
  opsA : Array Oper
  opsE : Array Oper
  opsB : Array Oper
  lA : List (Nat × Oper)
  lB : List (Nat × Oper)
  tA : TailI
  tB : TailI
  eI : ElemI
  dead : List Nat
def dstsOf (ops : Array Oper) : List Nat := ops.toList.filterMap fun o => o.dst
def flagOf (nt : Nat) (a b : Code) : Option FlagI := match a, b with
  | .region _ ops1 true, .cond (.tmp f) (.seq (.region _ opsA true) (.region _ opsE false)) (.region _ opsB true) => match flagR P nt ops1, planOf P opsA, planOf P opsB, elemOf opsE with
    | some (p, f'), some lA, some lB, some eI => match tailOf lA, tailOf lB with
      | some tA, some tB => cond (Nat.beq f f' && decide (tA.tl = tB.tl) && decide (tA.t = tB.t) && decide (eI.tl = tA.tl) && Nat.beq eI.r tA.r)
        (some ⟨p, f, opsA, opsE, opsB, lA, lB, tA, tB, eI, p :: f :: ((lA.filterMap fun x => x.2.dst) ++ dstsOf opsE ++ lB.filterMap fun x => x.2.dst)⟩) none
      | _, _ => none
    | _, _, _, _ => none
  | _, _ => none
def eraseL : List Nat → T V → T V
  | [], fr => fr
  | t :: r, fr => eraseL r (fr.upd t none)
def elemSz (tl : TypeId) : Nat := match P.underlying tl with
  | some (.slice e) => match sizeB P e with | some n => n | none => 0
  | _ => 0
def sameO : Option V → Option V → Bool
  | some x, some y => same1 x y
  | _, _ => false
/-- The values at which both ways agree. -/
def flagChk (ro nt : Nat) (call : CallF) (F : FlagI) (fr : T V) (st : St) (frA frB : T V) : Bool :=
  match runO P ro nt call F.opsA (F.tA.pre ++ [(F.tA.i1, F.tA.o1)]) [] fr st, runO P ro nt call F.opsB (F.tB.pre ++ [(F.tB.i1, F.tB.o1)]) [] fr st with
  | some (fA, _), some (fB, sB) => sameO (opnd fA F.tA.cur) (opnd fB F.tB.cur) && sameO (opnd frA F.tA.x) (opnd frB F.tB.x) &&
    (match opnd fB F.tB.cur, opnd frA F.eI.ix, opnd frA F.eI.v, opnd frB F.tB.x, opnd frB (.tmp F.tB.r) with
    | some c, some (.i _ n), some v, some (.p g _), some (.sl gr _ _ _ _) => (match vlen c, sB.hp.get st.nx with
      | some len, some b => decide (n = .ofNat len) && (match b.row (elemSz P F.tB.tl) 0 with | some cs => sameL cs v.cells | none => false)
      | _, _ => false) && (match c with | .sl id _ _ _ _ => Nat.blt id st.nx | _ => true) && !(Nat.beq g gr) && !(Nat.beq g st.nx) && !(Nat.beq gr st.nx)
    | _, _, _, _, _ => false)
  | _, _ => false
def flagSt (ro nt : Nat) (call : CallF) (F : FlagI) (fr : T V) (st : St) : Option St :=
  match runO P ro nt call F.opsA F.lA [] fr st, runO P ro nt call F.opsB F.lB [] fr st with
  | some (frA, stA), some (frB, stB) => match vops P ro nt call F.opsE F.opsE.toList frA stA with
    | some (_, stE) => cond (flagChk P ro nt call F fr st frA frB && Nat.beq stE.nx stB.nx) (some ⟨stB.nx, stB.hp.upd st.nx none, low (low stB.ver stE.ver) st.nx⟩) none
    | none => none
  | _, _ => none

def evC (ov : Ov) (ro : Nat) : Nat → Nat → RunF
  | 0, _, _, _, _ => none
  | n + 1, nt, c, fr, st => match c with
    | .skip | .label _ => some (.nrm, fr, st)
    | .region _ ops draw => match draw with
      | false => match vops P ro nt (callGo P ov (evC ov ro n)) ops ops.toList fr st with
        | some (fr, st) => some (.nrm, fr, st)
        | none => none
      | true => match lexQ1 P ops with
        | true => match vopsQ P ro nt (callGo P ov (evC ov ro n)) ops ops.toList fr st with
          | some fr => some (.nrm, fr, st)
          | none => none
        | false => match tailB ops with
          | true => match vopsQ P ro nt (callGo P ov (evC ov ro n)) ops (ops.toList.take (ops.size - 1)) fr st with
            | some fr => match vops P ro nt (callGo P ov (evC ov ro n)) ops (ops.toList.drop (ops.size - 1)) fr st with
              | some (fr, st) => some (.nrm, fr, st)
              | none => none
            | none => none
          | false => match planOf P ops with
            | some pl => match runO P ro nt (callGo P ov (evC ov ro n)) ops pl [] fr st with
              | some (fr, st) => some (.nrm, fr, st)
              | none => none
            | none => match lexQ ops with
              | true => match vopsQ P ro nt (callGo P ov (evC ov ro n)) ops ops.toList fr st with
                | some fr => some (.nrm, fr, st)
                | none => none
              | false => match planPair ops with
                | some (l, o, q) => match runO P ro nt (callGo P ov (evC ov ro n)) ops l [] fr st with
                  | some (fr, st) => match runPair P ro o q fr st with
                    | some st => some (.nrm, fr, st)
                    | none => none
                  | none => none
                | none => none
    | .seq a b => match flagOf P nt a b with
      | some F => match flagSt P ro nt (callGo P ov (evC ov ro n)) F (eraseL [F.p, F.f] fr) ⟨st.nx + 1, st.hp, st.ver⟩ with
        | some st => some (.nrm, eraseL F.dead fr, st)
        | none => none
      | none => match evC ov ro n nt a fr st with
        | some (.nrm, fr, st) => evC ov ro n nt b fr st
        | r => r
    | .cond c a b => match opnd fr c with
      | some (.b true) => evC ov ro n nt a fr st
      | some (.b false) => evC ov ro n nt b fr st
      | _ => none
    | .block id b => match evC ov ro n nt b fr st with
      | some (.exit id', fr, st) => cond (Nat.beq id' id) (some (.nrm, fr, st)) (some (.exit id', fr, st))
      | r => r
    | .loop b => loopGo (evC ov ro n nt b) n fr st
    | .exit id => some (.exit id, fr, st)
    | .goto l => some (.goto l, fr, st)
    | .scope b => scopeGo (evC ov ro n nt) b n b fr st
    | .ret => some (.ret, fr, st)
    | _ => none

def evF (ov : Ov) (ro n : Nat) (f : FuncId) (args : List V) (st : St) : Option (V × St) := callGo P ov (evC P ov ro n) f args st
def noOv : Ov := fun _ _ _ => none

end

/-- Package-level variables and what they hold. -/
def globs : List (Nat × List V) → T Blk
  | [] => .e
  | (g, cs) :: r => match blkOf cs 1 false with
    | some b => (globs r).upd g (some b)
    | none => globs r
def st0 (gs : List (Nat × List V)) : St := ⟨GL, globs gs, GL⟩
/-- A function answers true, from the memory that holds the package-level variables alone. -/
def answersTrue (P : Program) (ov : Ov) (gs : List (Nat × List V)) (n : Nat) (f : FuncId) (args : List V) : Bool :=
  match evF P ov GL n f args (st0 gs) with
  | some (.b x, _) => x
  | _ => false
end Go.Vm
