/-
 An evaluator of the model's code over a small memory of its own: definitions. Nothing is claimed here.
-/
import Derived.Deep.Quiet
import Derived.StillTail
import Derived.Below
import Derived.Laws.Strings
import Derived.Laws.Cells
import Derived.Lib.Strings
import Derived.Laws.StructEq
import Derived.Laws.BytesString
import Derived.Laws.AppendOwn
import Derived.Laws.MakeOwn
import Derived.Laws.Strings2
import Derived.ChangeKeysEq
import Derived.LaidEql
namespace Go.Vm
inductive T (α : Type) where
 | e : T α
 | n (l : T α) (v : Option α) (r : T α) : T α
def T.get {α : Type} : T α → Nat → Option α
 | .e, _ => none
 | .n l v r, i => match i with
  | 0 => v
  | k + 1 => cond (Nat.beq (k % 2) 0) (l.get (k / 2)) (r.get (k / 2))
def T.mkL {α : Type} (v : Option α) (r : T α) : T α → T α
 | .e => .n .e v r
 | .n a b c => .n (.n a b c) v r
def T.mkR {α : Type} (l : T α) (v : Option α) : T α → T α
 | .e => .n l v .e
 | .n a b c => .n l v (.n a b c)
def T.go {α : Type} (x : Option α) : Nat → T α → Nat → T α
 | 0, t, _ => t
 | f + 1, t, i => match i with
  | 0 => match t with
   | .e => .n .e x .e
   | .n l _ r => .n l x r
  | k + 1 => match t with
   | .e => cond (Nat.beq (k % 2) 0) (T.mkL none .e (T.go x f .e (k / 2))) (T.mkR .e none (T.go x f .e (k / 2)))
   | .n l v r => cond (Nat.beq (k % 2) 0) (T.mkL v r (T.go x f l (k / 2))) (T.mkR l v (T.go x f r (k / 2)))
def T.upd {α : Type} (t : T α) (i : Nat) (x : Option α) : T α := T.go x (i + 1) t i
inductive V where
 | b (x : Bool)
 | i (k : IntKind) (n : Int)
 | s (len bits : Nat)
 | p (id off : Nat)
 | pn
 | sl (id off len cap : Nat) (opn : Bool)
 | sn
 | f (fn : Fn) (first caps : List V)
 | fz
 | nz
 | a (cs : List V)
 | t (vs : List V)
 | se (id off off2 : Nat)
 | ze (a : Addr)
structure Blk where
 cs : T V
 zero : List V
 sz : Nat
 es : Nat
 op : Bool
structure St where
 nx : Nat
 hp : T Blk
 ver : Nat
def jaz {R : Type} (n : Nat) (k : Nat → R) : R := Nat.rec (motive := fun _ => R) (k 0) (fun m _ => k (Nat.succ m)) n
def Jho {R : Type} (n : Int) (k : Int → R) : R := match n with
 | .ofNat m => jaz m fun m => k (.ofNat m)
 | .negSucc m => jaz m fun m => k (.negSucc m)
def jbA {R : Type} (x : Bool) (k : Bool → R) : R := match x with
 | true => k true
 | false => k false
def zfe {R : Type} (x : IntKind) (k : IntKind → R) : R := match x with
 | .i8 => k .i8 | .i16 => k .i16 | .i32 => k .i32 | .i64 => k .i64 | .u8 => k .u8 | .u16 => k .u16 | .u32 => k .u32 | .u64 => k .u64
def V.force {R : Type} (v : V) (k : V → R) : R := match v with
 | .b x => jbA x fun x => k (.b x)
 | .i kd n => zfe kd fun kd => Jho n fun n => k (.i kd n)
 | .s l x => jaz l fun l => jaz x fun x => k (.s l x)
 | .p g o => jaz g fun g => jaz o fun o => k (.p g o)
 | .sl g o l c op => jaz g fun g => jaz o fun o => jaz l fun l => jaz c fun c => jbA op fun op => k (.sl g o l c op)
 | .pn => k .pn
 | .sn => k .sn
 | .se g o q => jaz g fun g => jaz o fun o => jaz q fun q => k (.se g o q)
 | .ze x => k (.ze x)
 | .f fn xs ys => k (.f fn xs ys)
 | .fz => k .fz
 | .nz => k .nz
 | .a cs => k (.a cs)
 | .t vs => k (.t vs)
def ZG : List UInt8 → Nat
 | [] => 0
 | c :: r => c.toNat + 256 * ZG r
def V.str (l : List UInt8) : V := .s l.length (ZG l)
def Zc : Nat → Nat → List UInt8
 | 0, _ => []
 | n + 1, x => UInt8.ofNat (x % 256) :: Zc n (x / 256)
def Zby (x i : Nat) : Nat := x / 256 ^ i % 256
def JgV (l x m y : Nat) : V := .s (l + m) (x + 256 ^ l * y)
def jg0 (x lo hi : Nat) : V := .s (hi - lo) (x / 256 ^ lo % 256 ^ (hi - lo))
def JaV {α β : Type} (f : α → Option β) : List α → Option (List β)
 | [] => some []
 | x :: r => match f x with
  | some y => match JaV f r with
   | some ys => some (y :: ys)
   | none => none
  | none => none
def ofV : Nat → Value → Option V
 | 0, _ => none
 | _ + 1, .bool x => some (.b x)
 | _ + 1, .int k n => some (.i k n)
 | _ + 1, .string x => some (.str x.data.toList)
 | _ + 1, .pointer none => some .pn
 | _ + 1, .slice none 0 0 => some .sn
 | _ + 1, .nilFunc => some .fz
 | _ + 1, .nilIface => some .nz
 | d + 1, .agg cs => (JaV (ofV d) cs.toList).map .a
 | d + 1, .tuple cs => (JaV (ofV d) cs.toList).map .t
 | d + 1, .func fn xs ys => match JaV (ofV d) xs.toList, JaV (ofV d) ys.toList with
  | some xs, some ys => some (.f fn xs ys)
  | _, _ => none
 | _ + 1, _ => none
def GL : Nat := 64
def Zx (fr : T V) : Operand → Option V
 | .tmp t => fr.get t
 | .const v => ofV 4 v
 | .global g => cond (Nat.blt g GL) (some (.p g 0)) none
 | .func f => some (.f (.func f) [] [])
def jaq (fr : T V) : List Operand → Option (List V)
 | [] => some []
 | o :: r => match Zx fr o with
  | some v => match jaq fr r with
   | some vs => some (v :: vs)
   | none => none
  | none => none
def V.atom : V → Bool
 | .a _ | .t _ => false
 | _ => true
def V.plain : V → Bool
 | .b _ | .i _ _ | .s _ _ | .pn | .sn | .fz | .nz => true
 | _ => false
def V.plainT : V → Bool
 | .a vs | .t vs => vs.all V.plain
 | v => v.plain
def zbN : Option V → Bool
 | some v => v.plainT
 | none => false
def V.cells : V → List V
 | .a cs => cs
 | v => [v]
section
variable (P : Program)
def JaE (t : TypeId) : Bool := match P.underlying t with
 | some (.struct _) | some (.array _ _) => true
 | _ => false
def zbw (t : TypeId) (cs : List V) (off : Nat) : Option V :=
 match P.info? t, P.underlying t with
 | some ti, some _ => cond (JaE P t) (some (.a ((cs.drop off).take ti.size))) (cs[off]?)
 | _, _ => none
def ilt (a b : Int) : Bool := decide (a < b)
def ile (a b : Int) : Bool := decide (a ≤ b)
def zfW (op : BinOp) (k : IntKind) (a b : Int) : Option V :=
 match op with
 | .and => some (.i k (k.wrap (BitVec.ofInt k.bits a &&& BitVec.ofInt k.bits b).toNat))
 | .or => some (.i k (k.wrap (BitVec.ofInt k.bits a ||| BitVec.ofInt k.bits b).toNat))
 | .xor => some (.i k (k.wrap (BitVec.ofInt k.bits a ^^^ BitVec.ofInt k.bits b).toNat))
 | .andNot => some (.i k (k.wrap (BitVec.ofInt k.bits a &&& ~~~(BitVec.ofInt k.bits b)).toNat))
 | _ => none
def Jfc (op : BinOp) (k : IntKind) (a b : Int) : Option V :=
 match op with
 | .add => some (.i k (k.wrap (a + b)))
 | .sub => some (.i k (k.wrap (a - b)))
 | .mul => some (.i k (k.wrap (a * b)))
 | .quo => cond (decide (b = 0)) none (some (.i k (k.wrap (a.tdiv b))))
 | .rem => cond (decide (b = 0)) none (some (.i k (a.tmod b)))
 | .eql => some (.b (a == b))
 | .neq => some (.b (a != b))
 | .lss => some (.b (ilt a b))
 | .leq => some (.b (ile a b))
 | .gtr => some (.b (ilt b a))
 | .geq => some (.b (ile b a))
 | op => zfW op k a b
def JdN (op : BinOp) (k : IntKind) (x y : Int) : Option V :=
 match op with
 | .shl => cond (ilt y 0) none (some (.i k (k.wrap (x * 2 ^ (min y.toNat k.bits)))))
 | .shr => cond (ilt y 0) none (some (.i k (x.fdiv (2 ^ (min y.toNat k.bits)))))
 | _ => none
def Zg0 (op : BinOp) (l x m y : Nat) : Option V :=
 match op with
 | .add => cond (Nat.ble (l + m) 1099511627776) (some (JgV l x m y)) none
 | .eql => some (.b (Nat.beq l m && Nat.beq x y))
 | .neq => some (.b (!(Nat.beq l m && Nat.beq x y)))
 | .lss => some (.b (Op.bytesLess (Zc l x) (Zc m y)))
 | .leq => some (.b (Op.bytesLess (Zc l x) (Zc m y) || (Nat.beq l m && Nat.beq x y)))
 | .gtr => some (.b (!(Op.bytesLess (Zc l x) (Zc m y) || (Nat.beq l m && Nat.beq x y))))
 | .geq => some (.b (!(Op.bytesLess (Zc l x) (Zc m y))))
 | _ => none
def Zaq (eq : TypeId → V → V → Option Bool) (xs ys : List V) : List Field → Option Bool
 | [] => some true
 | f :: r => cond (f.name == "_") (Zaq eq xs ys r)
  (match zbw P f.type xs f.offset, zbw P f.type ys f.offset with
  | some x, some y => match eq f.type x y with
   | some true => Zaq eq xs ys r
   | some false => some false
   | none => none
  | _, _ => none)
def zaW (eq : TypeId → V → V → Option Bool) (t : TypeId) (sz : Nat) (xs ys : List V) (i : Nat) : Nat → Option Bool
 | 0 => some true
 | n + 1 => match zbw P t xs (i * sz), zbw P t ys (i * sz) with
  | some x, some y => match eq t x y with
   | some true => zaW eq t sz xs ys (i + 1) n
   | some false => some false
   | none => none
  | _, _ => none
def veq : Nat → TypeId → V → V → Option Bool
 | 0, _, _, _ => none
 | d + 1, t, x, y => match P.underlying t, x, y with
  | some .bool, .b a, .b b => some (a == b)
  | some (.int _), .i k a, .i k' b => cond (decide (k = k')) (some (a == b)) none
  | some .string, .s l x, .s m y => some (Nat.beq l m && Nat.beq x y)
  | some (.pointer _), .pn, .pn => some true
  | some (.pointer _), .pn, .p _ _ => some false
  | some (.pointer _), .p _ _, .pn => some false
  | some (.slice _), .sn, .sn => some true
  | some (.slice _), .sn, .sl .. => some false
  | some (.slice _), .sl .., .sn => some false
  | some (.slice _), .sn, .se .. => some false
  | some (.slice _), .se .., .sn => some false
  | some (.slice _), .sn, .ze _ => some false
  | some (.slice _), .ze _, .sn => some false
  | some (.func ..), .fz, .fz => some true
  | some (.func ..), .fz, .f .. => some false
  | some (.func ..), .f .., .fz => some false
  | some (.struct fs), .a xs, .a ys => cond (P.stoodInHeld t) none (Zaq P (veq d) xs ys fs.toList)
  | some (.array n e), .a xs, .a ys => match P.info? e with
   | some ti => zaW P (veq d) e ti.size xs ys 0 n
   | none => none
  | _, _, _ => none
def zba (t : TypeId) (x y : V) : Option Bool :=
 match x, y with
 | .a _, .a _ => cond (P.eqGuardType P.depth t) none (veq P 60 t x y)
 | .nz, .nz => none
 | _, _ => veq P 60 t x y
def jb3 (op : BinOp) (xt : TypeId) (x y : V) : Option V :=
 match x, y with
 | .i k a, .i k' b => match op with
  | .shl | .shr => JdN op k a b
  | _ => cond (decide (k = k')) (Jfc op k a b) none
 | .s l x, .s m y => Zg0 op l x m y
 | x, y => match op with
  | .eql => match zba P xt x y with | some r => some (.b r) | none => none
  | .neq => match zba P xt x y with | some r => some (.b (!r)) | none => none
  | _ => none
def vun (op : UnOp) (x : V) : Option V :=
 match op, x with
 | .neg, .i k n => some (.i k (k.wrap (0 - n)))
 | .xor, .i k n => zfW .xor k (if k.signed then -1 else k.max) n
 | .not, .b x => some (.b (!x))
 | _, _ => none
def Blk.get (b : Blk) (o : Nat) : Option V :=
 cond (Nat.blt o b.sz) (match b.cs.get o with | some v => some v | none => b.zero[o % b.es]?) none
def Blk.set (b : Blk) (o : Nat) (v : V) : Blk := { b with cs := b.cs.upd o (some v) }
def Blk.row (b : Blk) : Nat → Nat → Option (List V)
 | 0, _ => some []
 | n + 1, o => match b.get o with
  | some v => match b.row n (o + 1) with
   | some r => some (v :: r)
   | none => none
  | none => none
def Blk.put (b : Blk) : List V → Nat → Option Blk
 | [], _ => some b
 | v :: r, o => cond (Nat.blt o b.sz && v.atom) (v.force fun v => Blk.put (b.set o v) r (o + 1)) none
def St.alloc (st : St) (b : Blk) : St := ⟨st.nx + 1, st.hp.upd st.nx (some b), st.ver⟩
def low (a b : Nat) : Nat := cond (Nat.ble a b) a b
def St.write (st : St) (id : Nat) (b : Blk) : St := jaz (low st.ver id) fun v => ⟨st.nx, st.hp.upd id (some b), v⟩
def jaO (cs : List V) (es : Nat) (op : Bool) : Option Blk := (Blk.mk .e [] cs.length es op).put cs 0
def J3 (st : St) (t : TypeId) (id off : Nat) : Option V :=
 match st.hp.get id, P.info? t, P.underlying t with
 | some b, some ti, some _ => cond (JaE P t) (match b.row ti.size off with | some cs => some (.a cs) | none => none) (b.get off)
 | _, _, _ => none
def jbN (ro : Nat) (st : St) (t : TypeId) (id off : Nat) (v : V) : Option St :=
 match st.hp.get id, P.info? t with
 | some b, some ti => cond (Nat.ble ro id && Nat.beq v.cells.length ti.size) (match b.put v.cells off with
  | some b => some (st.write id b)
  | none => none) none
 | _, _ => none
def jal (t : TypeId) : Option V := match P.info? t with
 | some ti => match ti.zero with | some z => ofV 4 z | none => none
 | none => none
def Jby (st : St) (v : V) (es : Nat) : Option (V × St) := match jaO v.cells es false with
 | some b => jaz st.nx fun nx => some (.p nx 0, St.alloc ⟨nx, st.hp, st.ver⟩ b)
 | none => none
def setAt (cells : List V) (off : Nat) : List V → List V
 | [] => cells
 | v :: r => setAt (cells.set off v) (off + 1) r
def ZbN (place : Nat → Option (Nat × Nat)) (cells : List V) : List (Nat × V) → Option (List V)
 | [] => some cells
 | (i, v) :: rest => match place i with
  | none => none
  | some (off, size) => cond (Nat.beq v.cells.length size && Nat.ble (off + v.cells.length) cells.length) (ZbN place (setAt cells off v.cells) rest) none
def ZQ (fr : T V) : List (Nat × Operand) → Option (List (Nat × V))
 | [] => some []
 | (i, o) :: r => match Zx fr o with
  | some v => match ZQ fr r with
   | some vs => some ((i, v) :: vs)
   | none => none
  | none => none
def jH (t : TypeId) : Option Nat := match P.info? t with | some ti => some ti.size | none => none
def ZbA (f : Field) : Option (Nat × Nat) := match jH P f.type with | some n => some (f.offset, n) | none => none
def Jci (t : TypeId) (parts : List (Nat × V)) : Option V :=
 match jal P t, P.underlying t with
 | some z, some (.struct fs) => match JaV (ZbA P) fs.toList with
  | some places => match ZbN (fun i => places[i]?) z.cells parts with | some cs => some (.a cs) | none => none
  | none => none
 | some z, some (.array _ e) => match jH P e with
  | some n => match ZbN (fun i => some (i * n, n)) z.cells parts with | some cs => some (.a cs) | none => none
  | none => none
 | _, _ => none
def JN (z : List V) : Nat → List V
 | 0 => []
 | n + 1 => z ++ JN z n
def Jv (st : St) (t : TypeId) (len : Nat) (parts : List (Nat × V)) : Option (V × St) :=
 match P.underlying t with
 | some (.slice e) => match jH P e, jal P e with
  | some n, some z => cond (Nat.ble (len * n) 16777216 && Nat.blt 0 n && Nat.beq z.cells.length n) (match ZbN (fun i => some (i * n, n)) (JN z.cells len) parts with
   | some cs => match jaO cs n false with
    | some b => jaz st.nx fun nx => some (.sl nx 0 len len false, St.alloc ⟨nx, st.hp, st.ver⟩ b)
    | none => none
   | none => none) none
  | _, _ => none
 | _ => none
def Zaf (st : St) (t : TypeId) (len cap : Int) : Option (V × St) :=
 match P.underlying t with
 | some (.slice e) => match P.info? e, jal P e with
  | some ti, some z => cond (ile 0 len && ile len cap && ile (ti.bytes * cap) 1099511627776 && ile cap 1099511627776 && Nat.blt 0 ti.size && Nat.beq z.cells.length ti.size && z.cells.all V.atom)
   (jaz len.toNat fun l => jaz cap.toNat fun c => jaz st.nx fun nx => some (.sl nx 0 l c false, St.alloc ⟨nx, st.hp, st.ver⟩ ⟨.e, z.cells, c * ti.size, ti.size, false⟩)) none
  | _, _ => none
 | _ => none
def zaF (x : V) (y : Nat) : Option Nat := match x with
 | .i _ n => cond (ile 0 n && ile n y) (jaz n.toNat some) none
 | _ => none
def JQ (x : Option V) (y d : Nat) : Option Nat := match x with
 | some x => zaF x y
 | none => some d
def Zr (len cap : Nat) (lo hi mx : Option V) : Option (Nat × Nat × Nat) :=
 match JQ mx cap cap with
 | some m => match JQ hi m len with
  | some h => match JQ lo h 0 with
   | some l => some (l, h, m)
   | none => none
  | none => none
 | none => none
def Z0 (t : TypeId) (x : V) (lo hi mx : Option V) : Option V :=
 match P.underlying t, x with
 | some .string, .s len bits => match mx with
  | some _ => none
  | none => match Zr len len lo hi none with
   | some (l, h, _) => some (jg0 bits l h)
   | none => none
 | some (.slice e), .sl id off len cap op => match jH P e with
  | some n => match hi, mx with
   | none, some _ => none
   | _, _ => match Zr len cap lo hi mx with
    | some (l, h, m) => cond (op && mx.isNone)
     (cond (Nat.blt l cap || Nat.beq l 0) (some (.sl id (off + l * n) (h - l) (cap - l) true)) (some (.se id off (off + l * n))))
     (some (.sl id (cond (Nat.beq m l) off (off + l * n)) (h - l) (m - l) false))
    | none => none
  | none => none
 | some (.slice e), .sn => match jH P e with
  | some _ => match hi, mx with
   | none, some _ => none
   | _, _ => match Zr 0 0 lo hi mx with
    | some _ => some .sn
    | none => none
  | none => none
 | some (.slice e), .se id off off2 => match jH P e, mx with
  | some _, none => match Zr 0 0 lo hi none with
   | some _ => some (.se id off off2)
   | none => none
  | _, _ => none
 | some (.slice e), .ze a => match jH P e, mx with
  | some _, none => match Zr 0 0 lo hi none with
   | some _ => some (.ze a)
   | none => none
  | _, _ => none
 | some (.array n e), .p id off => match jH P e with
  | some k => match hi, mx with
   | none, some _ => none
   | _, _ => match Zr n n lo hi mx with
    | some (l, h, m) => some (.sl id (cond (Nat.beq m l) off (off + l * k)) (h - l) (m - l) false)
    | none => none
  | none => none
 | _, _ => none
def Z8 (t : TypeId) (id off f : Nat) : Option V :=
 match P.underlying t with
 | some (.struct fs) => match fs[f]? with
  | some fd => match jH P fd.type with
   | some n => cond (Nat.blt 0 n) (some (.p id (off + fd.offset))) none
   | none => none
  | none => none
 | _ => none
def JG (t : TypeId) (x : V) (i : Int) : Option V :=
 match P.underlying t, x with
 | some (.slice e), .sl id off len _ _ => match jH P e with
  | some n => cond (ile 0 i && ilt i len) (some (.p id (off + i.toNat * n))) none
  | none => none
 | some (.array len e), .p id off => match jH P e with
  | some n => cond (ile 0 i && ilt i len) (some (.p id (off + i.toNat * n))) none
  | none => none
 | _, _ => none
def za7 (t : TypeId) (x : V) (i : Int) : Option V :=
 match P.underlying t, x with
 | some .string, .s len bits => cond (ile 0 i && ilt i len) (some (.i .u8 (.ofNat (Zby bits i.toNat)))) none
 | some (.array len e), .a cs => match jH P e with
  | some n => cond (ile 0 i && ilt i len) (zbw P e cs (i.toNat * n)) none
  | none => none
 | _, _ => none
def zcj (t : TypeId) (x : V) (f : Nat) : Option V :=
 match P.underlying t, x with
 | some (.struct fs), .a cs => match fs[f]? with
  | some fd => zbw P fd.type cs fd.offset
  | none => none
 | _, _ => none
def jj : List V → Option (List UInt8)
 | [] => some []
 | .i .u8 n :: r => match jj r with | some l => some (UInt8.ofNat n.toNat :: l) | none => none
 | _ :: _ => none
def ZT : Nat → Nat → List V
 | 0, _ => []
 | n + 1, x => .i .u8 (.ofNat (x % 256)) :: ZT n (x / 256)
def Blk.zeros (b : Blk) (len off : Nat) : Bool := match b.cs, b.zero with
 | .e, [.i .u8 (.ofNat 0)] => Nat.beq b.es 1 && Nat.ble (off + len) b.sz
 | _, _ => false
def Jeg (b : Blk) (len off : Nat) : Option V := match b.zeros len off with
 | true => some (.s len 0)
 | false => match b.row len off with
  | some cs => match jj cs with
   | some l => some (.str l)
   | none => none
  | none => none
def zu (st : St) (src dst : TypeId) (x : V) : Option (V × St) :=
 match P.underlying src, P.underlying dst, x with
 | some _, some (.int k), .i _ n => some (.i k (k.wrap n), st)
 | some _, some .string, .s l x => some (.s l x, st)
 | some _, some (.slice e), .s l x => match P.underlying e with
  | some (.int .u8) => cond (Nat.ble l 1099511627776) (match jaO (ZT l x) 1 false with
   | some b => jaz st.nx fun nx => some (.sl nx 0 l l true, St.alloc ⟨nx, st.hp, st.ver⟩ b)
   | none => none) none
  | _ => none
 | some (.slice e), some .string, .sn => match P.underlying e with
  | some (.int .u8) => some (.s 0 0, st)
  | _ => none
 | some (.slice e), some .string, .sl id off len _ _ => match P.underlying e, st.hp.get id with
  | some (.int .u8), some b => match Jeg b len off with
   | some v => some (v, st)
   | none => none
  | _, _ => none
 | some (.slice e), some .string, .se _ _ _ => match P.underlying e with
  | some (.int .u8) => some (.s 0 0, st)
  | _ => none
 | some (.slice e), some .string, .ze _ => match P.underlying e with
  | some (.int .u8) => some (.s 0 0, st)
  | _ => none
 | _, _, _ => none
def zbz (ro : Nat) (st : St) (src dst : TypeId) (x : V) : Option (V × St) :=
 match P.underlying src, P.underlying dst, x with
 | some (.slice e), some (.slice _), .sl g o l c op => match P.underlying e, st.hp.get g with
  | some (.int .u8), some b => cond (decide (src = dst) && !b.op && Nat.ble ro g) (some (.sl g o l c op, st)) none
  | _, _ => none
 | _, _, _ => zu P st src dst x
def jai (st : St) (es n : Nat) : V → Option (List V)
 | .sn => some []
 | .s _ x => cond (Nat.beq es 1) (some (ZT n x)) none
 | .sl id off _ _ _ => match st.hp.get id with
  | some b => b.row (n * es) off
  | none => none
 | .se _ _ _ => cond (Nat.beq n 0) (some []) none
 | .ze _ => cond (Nat.beq n 0) (some []) none
 | _ => none
def zeh : V → Option Nat
 | .sn => some 0
 | .s l _ => some l
 | .sl _ _ l _ _ => some l
 | .se _ _ _ => some 0
 | .ze _ => some 0
 | _ => none
def St.kill (st : St) (id : Nat) : St := jaz (low st.ver id) fun v => ⟨st.nx, st.hp.upd id none, v⟩
def Zai (e : TypeId) (n : Nat) : Bool := match jal P e with
 | some z => Nat.beq z.cells.length n
 | none => false
def Blk.grow (b : Blk) (cs : List V) : Option Blk := Blk.put { b with sz := b.sz + cs.length, op := true } cs b.sz
def ja7 (b : Blk) (off len es : Nat) (new : List V) : Option Blk :=
 cond (b.op && Nat.beq off 0 && Nat.beq (len * es) b.sz && Nat.beq b.es es) (b.grow new) (match b.row (len * es) off with
  | some old => jaO (old ++ new) es true
  | none => none)
def zR (ro : Nat) (st : St) (t : TypeId) (s x : V) : Option (V × St) :=
 match P.underlying t with
 | some (.slice e) => match P.info? e, zeh x with
  | some ti, some n => match jai st ti.size n x with
   | some new => cond (Nat.blt 0 ti.size && Nat.blt 0 ti.bytes && Zai P e ti.size) (match s with
    | .sn => cond (Nat.ble (n * ti.bytes) 1099511627776)
     (cond (Nat.beq n 0) (some (.sn, st)) (match jaO new ti.size true with
      | some b => jaz st.nx fun nx => jaz n fun n => some (.sl nx 0 n n true, St.alloc ⟨nx, st.hp, st.ver⟩ b)
      | none => none)) none
    | .sl id off len cap op => match st.hp.get id with
     | some b => cond (Nat.ble ((len + n) * ti.bytes) 1099511627776)
      (cond (Nat.ble (len + n) cap)
       (cond (Nat.ble ro id) (match b.put new (off + len * ti.size) with
        | some b => jaz (len + n) fun m => some (.sl id off m cap op, st.write id b)
        | none => none) none)
       (match ja7 b off len ti.size new with
       | some b' => cond op
        (cond (Nat.ble ro id && b.op && Nat.beq b.es ti.size && Nat.beq (off + cap * ti.size) b.sz)
         (jaz st.nx fun nx => jaz (len + n) fun m => some (.sl nx 0 m m true, St.alloc ⟨nx, (st.kill id).hp, (st.kill id).ver⟩ b')) none)
        (jaz st.nx fun nx => jaz (len + n) fun m => some (.sl nx 0 m m true, St.alloc ⟨nx, st.hp, st.ver⟩ b'))
       | none => none)) none
     | none => none
    | _ => none) none
   | none => none
  | _, _ => none
 | _ => none
def Jgx (ro : Nat) (st : St) (t : TypeId) (d x : V) : Option (V × St) :=
 match P.underlying t with
 | some (.slice e) => match P.info? e, zeh x with
  | some ti, some n => match d with
   | .sn => match jai st ti.size 0 x with
    | some _ => some (.i .i64 0, st)
    | none => none
   | .sl id off len _ _ => match jai st ti.size (Nat.min n len) x, st.hp.get id with
    | some new, some b => cond (Nat.ble ro id) (match b.put new off with
     | some b => some (.i .i64 (.ofNat (Nat.min n len)), st.write id b)
     | none => none) none
    | _, _ => none
   | _ => none
  | _, _ => none
 | _ => none
def Zal (t : TypeId) (x : V) : Option V :=
 match P.underlying t, x with
 | some .string, .s l _ => some (.i .i64 (.ofNat l))
 | some (.slice _), .sl _ _ l _ _ => some (.i .i64 (.ofNat l))
 | some (.slice _), .sn => some (.i .i64 0)
 | some (.slice _), .se .. => some (.i .i64 0)
 | some (.slice _), .ze _ => some (.i .i64 0)
 | some (.array n _), _ => some (.i .i64 (.ofNat n))
 | _, _ => none
def jfe (mn : Bool) : V → V → Option V
 | .i k x, .i _ y => some (.i k (cond mn (cond (ilt y x) y x) (cond (ilt x y) y x)))
 | _, _ => none
def JbN (mn : Bool) (x : V) : List V → Option V
 | [] => some x
 | y :: r => match jfe mn x y with
  | some z => JbN mn z r
  | none => none
def ju (ro : Nat) (b : Builtin) (ts : List TypeId) (args : List V) (st : St) : Option (V × St) :=
 match b, ts, args with
 | .len, [t], [x] => match Zal P t x with | some v => some (v, st) | none => none
 | .append, [t, u], [s, x] => match P.underlying u with
  | some (.int _) => none
  | some _ => zR P ro st t s x
  | none => none
 | .copy, [t, _], [d, x] => Jgx P ro st t d x
 | .min, _, x :: r => match JbN true x r with | some v => some (v, st) | none => none
 | .max, _, x :: r => match JbN false x r with | some v => some (v, st) | none => none
 | _, _, _ => none
abbrev ZaO := FuncId → List V → St → Option (V × St)
abbrev Ov := FuncId → List V → St → Option (V × St)
abbrev Ov0 := FuncId → List V → Option V
def zc3 (o : Ov0) : Ov := fun f args st => match o f args with
 | some v => some (v, st)
 | none => none
def vop (ro : Nat) (call : ZaO) (fr : T V) (st : St) : Op → Option (Option V × St)
 | .move x | .assign x => match Zx fr x with | some v => some (some v, st) | none => none
 | .pick c a b => match Zx fr c with
  | some (.b x) => match Zx fr (cond x a b) with | some v => some (some v, st) | none => none
  | _ => none
 | .binOp op t x y _ => match Zx fr x, Zx fr y with
  | some x, some y => match jb3 P op t x y with | some v => some (some v, st) | none => none
  | _, _ => none
 | .unOp op _ x => match Zx fr x with
  | some x => match vun op x with | some v => some (some v, st) | none => none
  | none => none
 | .convert s d x => match Zx fr x with
  | some x => match zbz P ro st s d x with | some (v, st) => some (some v, st) | none => none
  | none => none
 | .field t x f => match Zx fr x with
  | some x => match zcj P t x f with | some v => some (some v, st) | none => none
  | none => none
 | .index t x i => match Zx fr x, Zx fr i with
  | some x, some (.i _ i) => match za7 P t x i with | some v => some (some v, st) | none => none
  | _, _ => none
 | .indexAddr t x i => match Zx fr x, Zx fr i with
  | some x, some (.i _ i) => match JG P t x i with | some v => some (some v, st) | none => none
  | _, _ => none
 | .fieldAddr t x f => match Zx fr x with
  | some (.p id off) => match Z8 P t id off f with | some v => some (some v, st) | none => none
  | _ => none
 | .load t x => match Zx fr x with
  | some (.p id off) => match J3 P st t id off with | some v => some (some v, st) | none => none
  | _ => none
 | .store t x v => match Zx fr x, Zx fr v with
  | some (.p id off), some v => match jbN P ro st t id off v with | some st => some (none, st) | none => none
  | _, _ => none
 | .alloc t => match jal P t, jH P t with
  | some z, some n => match Jby st z n with | some (v, st) => some (some v, st) | none => none
  | _, _ => none
 | .box t x => match Zx fr x, jH P t with
  | some z, some n => match Jby st z n with | some (v, st) => some (some v, st) | none => none
  | _, _ => none
 | .build t ps => match ZQ fr ps.toList with
  | some ps => match Jci P t ps with | some v => some (some v, st) | none => none
  | none => none
 | .buildSlice t len ps => match ZQ fr ps.toList with
  | some ps => match Jv P st t len ps with | some (v, st) => some (some v, st) | none => none
  | none => none
 | .makeSlice t l c => match Zx fr l, Zx fr c with
  | some (.i _ l), some (.i _ c) => match Zaf P st t l c with | some (v, st) => some (some v, st) | none => none
  | _, _ => none
 | .slice t x lo hi mx => match Zx fr x with
  | some x => match (match lo with | none => some none | some o => (Zx fr o).map some), (match hi with | none => some none | some o => (Zx fr o).map some), (match mx with | none => some none | some o => (Zx fr o).map some) with
   | some lo, some hi, some mx => match Z0 P t x lo hi mx with | some v => some (some v, st) | none => none
   | _, _, _ => none
  | none => none
 | .nilCheck x => match Zx fr x with
  | some (.p id off) => some (some (.p id off), st)
  | _ => none
 | .makeFunc fn first caps => match jaq fr first.toList, jaq fr caps.toList with
  | some xs, some ys => some (some (.f fn xs ys), st)
  | _, _ => none
 | .extract x i => match Zx fr x with
  | some (.t vs) => match vs[i]? with | some v => some (some v, st) | none => none
  | _ => none
 | .call c => match jaq fr c.args.toList with
  | some args => match c.callee with
   | .builtin b => match ju P ro b c.argTypes.toList args st with | some (v, st) => some (some v, st) | none => none
   | .value f => match Zx fr f with
    | some (.f (.func f) first caps) => match call f (first ++ args ++ caps) st with | some (v, st) => some (some v, st) | none => none
    | _ => none
   | .invoke _ _ => none
  | none => none
 | _ => none
def jJ : Op → Bool
 | .move _ | .assign _ | .pick .. | .binOp .. | .unOp .. | .field .. | .index .. | .indexAddr .. | .fieldAddr .. | .load .. | .build .. | .slice .. | .nilCheck _ | .makeFunc .. | .extract .. => true
 | .call c => match c.callee with
  | .builtin .len | .builtin .min | .builtin .max | .value _ => true
  | _ => false
 | _ => false
def zax (nt : Nat) (fr : T V) (dst : Option Nat) (v : Option V) : Option (T V) :=
 match dst with
 | none => some fr
 | some d => cond (Nat.blt d nt) (match v with
  | some v => v.force fun v => some (fr.upd d (some v))
  | none => some (fr.upd d (some (.t [])))) none
def zm (ops : Array Oper) (fr : T V) (o : Oper) : Option Bool :=
 match o.guard with
 | none => some true
 | some (j, want) => match (ops[j]?).bind (·.dst) with
  | none => some false
  | some d => match fr.get d with
   | some (.b x) => some (x == want)
   | some _ => some false
   | none => none
def JbA (ro nt : Nat) (call : ZaO) (ops : Array Oper) : List Oper → T V → St → Option (T V × St)
 | [], fr, st => some (fr, st)
 | o :: r, fr, st => match zm ops fr o with
  | some true => match vop P ro call fr st o.op with
   | some (v, st) => match zax nt fr o.dst v with
    | some fr => JbA ro nt call ops r fr st
    | none => none
   | none => none
  | some false => match zax nt fr o.dst none with
   | some fr => JbA ro nt call ops r fr st
   | none => none
  | none => none
def JZ (ro nt : Nat) (call : ZaO) (ops : Array Oper) : List Oper → T V → St → Option (T V)
 | [], fr, _ => some fr
 | o :: r, fr, st => match zm ops fr o with
  | some true => match jJ o.op with
   | true => match vop P ro call fr ⟨st.nx, st.hp, st.nx⟩ o.op with
    | some (v, st') => cond (Nat.ble st.nx st'.ver && (Nat.beq st'.nx st.nx || zbN v))
     (match zax nt fr o.dst v with
     | some fr => JZ ro nt call ops r fr st
     | none => none) none
    | none => none
   | false => none
  | some false => match zax nt fr o.dst none with
   | some fr => JZ ro nt call ops r fr st
   | none => none
  | none => none
inductive Ex where
 | nrm
 | exit (id : Nat)
 | goto (l : Nat)
 | ret
abbrev zgW := Code → T V → St → Option (Ex × T V × St)
def Zav (run : T V → St → Option (Ex × T V × St)) : Nat → T V → St → Option (Ex × T V × St)
 | 0, _, _ => none
 | n + 1, fr, st => match run fr st with
  | some (.nrm, fr, st) => Zav run n fr st
  | r => r
def jae (run : zgW) (body : Code) : Nat → Code → T V → St → Option (Ex × T V × St)
 | 0, _, _, _ => none
 | n + 1, c, fr, st => match run c fr st with
  | some (.goto l, fr, st) => match findLabel body l with
   | some rest => jae run body n rest fr st
   | none => some (.goto l, fr, st)
  | r => r
def jV : List V → Nat → T V → T V
 | [], _, fr => fr
 | v :: r, i, fr => v.force fun v => jV r (i + 1) (fr.upd i (some v))
def Jai (fr : T V) (st : St) : ResultVar → Option V
 | .tmp t => fr.get t
 | .cell a t => match fr.get a with
  | some (.p id off) => J3 P st t id off
  | _ => none
def jr (fr : T V) (st : St) : List ResultVar → Option (List V)
 | [] => some []
 | r :: rs => match Jai P fr st r with
  | some v => match jr fr st rs with
   | some vs => some (v :: vs)
   | none => none
  | none => none
def JaO : List V → V
 | [v] => v
 | vs => .t vs
def ZH (ov : Ov) (run : Nat → zgW) (f : FuncId) (args : List V) (st : St) : Option (V × St) :=
 match ov f args st with
 | some (v, st) => some (v, st)
 | none => match P.funcs[f]? with
 | some fn => match fn.body with
  | some c => cond (Nat.ble args.length fn.ntmps) (match run fn.ntmps c (jV args 0 .e) st with
   | some (.nrm, fr, st) | some (.ret, fr, st) => match jr P fr st fn.results.toList with
    | some vs => some (JaO vs, st)
    | none => none
   | _ => none) none
  | none => none
 | none => none
def jaJ : Op → Bool
 | .call c => match c.callee with
  | .builtin _ => true
  | _ => false
 | _ => true
def jfW (ops : Array Oper) : Bool := Region.lexB .any ops && ops.toList.all fun o => jJ o.op
def jeh (ops : Array Oper) : Bool := Region.lexTailB .any ops (ops.size - 1) && ((ops.toList.take (ops.size - 1)).all (fun o => jaJ o.op) && (ops.toList.take (ops.size - 1)).all fun o => jJ o.op)
def jaW : Op → Nat
 | .load _ _ => 1
 | .call c => match c.callee with
  | .builtin .len | .builtin .min | .builtin .max => 0
  | _ => 2
 | op => cond (jJ op) 0 2
def zeV (ops : Array Oper) (i : Nat) : Bool := match ops[i]? with
 | some o => Nat.ble (jaW o.op) 1
 | none => false
def zdf (ops : Array Oper) : Nat → Array Bool → Option (List (Nat × Oper))
 | 0, listed => match Region.ready .any ops listed with
  | [] => some []
  | _ :: _ => none
 | f + 1, listed => match (Region.ready .any ops listed).find? (zeV ops) with
  | some i => match Region.free .any ops listed i, ops[i]? with
   | true, some o => match zdf ops f (listed.setIfInBounds i true) with
    | some l => some ((i, o) :: l)
    | none => none
   | _, _ => none
  | none => match Region.ready .any ops listed with
   | [i] => match ops[i]? with
    | some o => match zdf ops f (listed.setIfInBounds i true) with
     | some l => some ((i, o) :: l)
     | none => none
    | none => none
   | _ => none
def ZfW : Op → Bool
 | .call c => match c.callee with
  | .builtin _ => false
  | _ => c.argTypes.toList.any fun t => match P.underlying t with
   | some (.int _) | some .string | some .bool => false
   | _ => true
 | _ => false
def Zeh (ops : Array Oper) : Bool := jfW ops && !(ops.toList.any fun o => ZfW P o.op)
def jeG (o : Oper) : Bool := match o.guard, o.dst, o.op with
 | none, some _, .buildSlice t n ps => match ZQ .e ps.toList with
  | some pv => (Jv P ⟨0, .e, 0⟩ t n pv).isSome
  | none => false
 | _, _, _ => false
def Zae (ops : Array Oper) (i : Nat) : Bool := match ops[i]? with
 | some o => jeG P o
 | none => false
def Jg0 (ops : Array Oper) (listed : Array Bool) (i : Nat) : Array Bool := ((List.range ops.size).map fun j => listed.getD j true || (Zae P ops j && !(Nat.beq j i))).toArray
def zhp (ops : Array Oper) (l : List Nat) : Option Nat := match l.find? (fun i => !Zae P ops i) with
 | some i => some i
 | none => l.head?
def jeV (ops : Array Oper) : Nat → Array Bool → Option (List (Nat × Oper))
 | 0, listed => match (List.range ops.size).all fun j => listed.getD j false with
  | true => some []
  | false => none
 | f + 1, listed => match (Region.ready .any ops listed).find? (zeV ops) with
  | some i => match Region.free .any ops listed i, ops[i]? with
   | true, some o => match jeV ops f (listed.setIfInBounds i true) with
    | some l => some ((i, o) :: l)
    | none => none
   | _, _ => none
  | none => match zhp P ops (Region.ready .any ops listed) with
   | some i => match (Region.ready .any ops listed).contains i && (Region.ready .any ops (Jg0 P ops listed i)).all (fun j => Nat.beq j i || Zae P ops j), ops[i]? with
    | true, some o => match jeV ops f (listed.setIfInBounds i true) with
     | some l => some ((i, o) :: l)
     | none => none
    | _, _ => none
   | none => none
def Zfe (ops : Array Oper) : Bool := (List.range ops.size).all fun p => !Zae P ops p || (List.range ops.size).all fun j => Nat.beq j p || match ops[p]?, ops[j]? with
 | some x, some y => (Region.waitsFor .any ops j p || x.apart ops y) && (!Zae P ops j || decide (x.dst ≠ y.dst))
 | _, _ => false
def jcj (ops : Array Oper) : Option (List (Nat × Oper)) := match Region.noSelect ops with
 | true => match zdf ops ops.size (Array.replicate ops.size false) with
  | some l => some l
  | none => cond (Zfe P ops) (jeV P ops ops.size (Array.replicate ops.size false)) none
 | false => none
def Zcn : V → V → Bool
 | .b x, .b y => cond x y (!y)
 | .i k n, .i k' m => decide (k = k') && decide (n = m)
 | .s l x, .s m y => Nat.beq l m && Nat.beq x y
 | .p g o, .p g' o' => Nat.beq g g' && Nat.beq o o'
 | .pn, .pn | .sn, .sn | .fz, .fz | .nz, .nz => true
 | .sl g o l c op, .sl g' o' l' c' op' => Nat.beq g g' && Nat.beq o o' && Nat.beq l l' && Nat.beq c c' && cond op op' (!op')
 | .se g o q, .se g' o' q' => Nat.beq g g' && Nat.beq o o' && Nat.beq q q'
 | _, _ => false
def jc3 : List V → List V → Bool
 | [], [] => true
 | x :: xs, y :: ys => Zcn x y && jc3 xs ys
 | _, _ => false
def zdn : V → V → Bool
 | .a xs, .a ys => jc3 xs ys
 | x, y => Zcn x y
structure Ent where
 x : Nat
 t : TypeId
 id : Nat
 off : Nat
 v : V
def _root_.Go.Region.waitsT (md : Region.Mode) (ops : Array Oper) (i x : Nat) : Bool := match Region.waitsFor md ops i x with
 | true => true
 | false => match ops[i]? with
  | some o => o.after.any fun d => Region.binds md d && Region.waitsFor md ops d.on x
  | none => false
def zab (ops : Array Oper) (i : Nat) : List Ent → List Ent
 | [] => []
 | e :: r => match Region.waitsT .any ops i e.x with
  | true => zab ops i r
  | false => e :: zab ops i r
def jbw (st : St) : List Ent → Bool
 | [] => true
 | e :: r => match J3 P st e.t e.id e.off with
  | some v => cond (zdn v e.v) (jbw st r) false
  | none => false
def zbO (ro nt : Nat) (call : ZaO) (ops : Array Oper) : List (Nat × Oper) → List Ent → T V → St → Option (T V × St)
 | [], _, fr, st => some (fr, st)
 | (i, o) :: r, es, fr, st => match zm ops fr o with
  | some true => match jaW o.op with
   | 0 => match vop P ro call fr ⟨st.nx, .e, 0⟩ o.op with
    | some (v, _) => match zax nt fr o.dst v with
     | some fr => zbO ro nt call ops r es fr st
     | none => none
    | none => none
   | 1 => match o.op with
    | .load t x => match Zx fr x with
     | some (.p id off) => match J3 P st t id off with
      | some v => match zax nt fr o.dst (some v) with
       | some fr => zbO ro nt call ops r (⟨i, t, id, off, v⟩ :: es) fr st
       | none => none
      | none => none
     | _ => none
    | _ => none
   | _ => match vop P ro call fr ⟨st.nx, st.hp, st.nx⟩ o.op with
    | some (v, st') => match Nat.ble st.nx st'.ver || jbw P st' (zab ops i es) with
     | true => match zax nt fr o.dst v with
      | some fr => jaz (low st.ver st'.ver) fun ver => zbO ro nt call ops r (zab ops i es) fr ⟨st'.nx, st'.hp, ver⟩
      | none => none
     | false => none
    | none => none
  | some false => match zax nt fr o.dst none with
   | some fr => zbO ro nt call ops r es fr st
   | none => none
  | none => none
def evC (ov : Ov) (ro : Nat) : Nat → Nat → zgW
 | 0, _, _, _, _ => none
 | n + 1, nt, c, fr, st => match c with
  | .skip | .label _ => some (.nrm, fr, st)
  | .region _ ops draw => match draw with
   | false => match JbA P ro nt (ZH P ov (evC ov ro n)) ops ops.toList fr st with
    | some (fr, st) => some (.nrm, fr, st)
    | none => none
   | true => match Zeh P ops with
    | true => match JZ P ro nt (ZH P ov (evC ov ro n)) ops ops.toList fr st with
     | some fr => some (.nrm, fr, st)
     | none => none
    | false => match jeh ops with
     | true => match JZ P ro nt (ZH P ov (evC ov ro n)) ops (ops.toList.take (ops.size - 1)) fr st with
      | some fr => match JbA P ro nt (ZH P ov (evC ov ro n)) ops (ops.toList.drop (ops.size - 1)) fr st with
       | some (fr, st) => some (.nrm, fr, st)
       | none => none
      | none => none
     | false => match jcj P ops with
      | some pl => match zbO P ro nt (ZH P ov (evC ov ro n)) ops pl [] fr st with
       | some (fr, st) => some (.nrm, fr, st)
       | none => none
      | none => match jfW ops with
       | true => match JZ P ro nt (ZH P ov (evC ov ro n)) ops ops.toList fr st with
        | some fr => some (.nrm, fr, st)
        | none => none
       | false => none
  | .seq a b => match evC ov ro n nt a fr st with
   | some (.nrm, fr, st) => evC ov ro n nt b fr st
   | r => r
  | .cond c a b => match Zx fr c with
   | some (.b true) => evC ov ro n nt a fr st
   | some (.b false) => evC ov ro n nt b fr st
   | _ => none
  | .block id b => match evC ov ro n nt b fr st with
   | some (.exit id', fr, st) => cond (Nat.beq id' id) (some (.nrm, fr, st)) (some (.exit id', fr, st))
   | r => r
  | .loop b => Zav (evC ov ro n nt b) n fr st
  | .exit id => some (.exit id, fr, st)
  | .goto l => some (.goto l, fr, st)
  | .scope b => jae (evC ov ro n nt) b n b fr st
  | .ret => some (.ret, fr, st)
  | _ => none
def evF (ov : Ov) (ro n : Nat) (f : FuncId) (args : List V) (st : St) : Option (V × St) := ZH P ov (evC P ov ro n) f args st
end
def Jeh : List (Nat × List V) → T Blk
 | [] => .e
 | (g, cs) :: r => match jaO cs 1 false with
  | some b => (Jeh r).upd g (some b)
  | none => Jeh r
def st0 (gs : List (Nat × List V)) : St := ⟨GL, Jeh gs, GL⟩
end Go.Vm
namespace Go.Vm
theorem T.get_mkL {α : Type} (v : Option α) (r t : T α) (k : Nat) : (T.mkL v r t).get k = (T.n t v r).get k := by cases t <;> rfl
theorem T.get_mkR {α : Type} (l : T α) (v : Option α) (t : T α) (k : Nat) : (T.mkR l v t).get k = (T.n l v t).get k := by cases t <;> rfl
theorem T.get_e {α : Type} (k : Nat) : (T.e : T α).get k = none := rfl
theorem T.get_n {α : Type} (l r : T α) (v : Option α) (k : Nat) : (T.n l v r).get k = match k with
  | 0 => v
  | m + 1 => cond (Nat.beq (m % 2) 0) (l.get (m / 2)) (r.get (m / 2)) := rfl
theorem T.get_go {α : Type} (x : Option α) : ∀ (f : Nat) (t : T α) (i k : Nat), i < f → (T.go x f t i).get k = if k = i then x else t.get k := by
 intro f
 induction f with
 | zero => intro t i k h; omega
 | succ f ih =>
  intro t i k h
  cases i with
  | zero =>
   cases t <;> cases k <;> simp [T.go, T.get_n, T.get_e]
  | succ m =>
   have hm : m / 2 < f := by omega
   have key : ∀ (l r : T α) (v : Option α), (cond (Nat.beq (m % 2) 0) (T.mkL v r (T.go x f l (m / 2))) (T.mkR l v (T.go x f r (m / 2)))).get k = if k = m + 1 then x else (T.n l v r).get k := by
    intro l r v
    by_cases hp : m % 2 = 0
    ·have hb : Nat.beq (m % 2) 0 = true := by rw [Nat.beq_eq]; exact hp
     simp only [hb, cond_true, T.get_mkL]
     cases k with
     | zero => simp [T.get_n]
     | succ j =>
      simp only [T.get_n]
      by_cases hj : j % 2 = 0
      ·have hb' : Nat.beq (j % 2) 0 = true := by rw [Nat.beq_eq]; exact hj
       simp only [hb', cond_true, ih l (m / 2) (j / 2) hm]
       by_cases e : j = m
       ·subst e; simp
       ·have : ¬ (j / 2 = m / 2) := by omega
        have : ¬ (j + 1 = m + 1) := by omega
        simp [*]
      ·have hb' : Nat.beq (j % 2) 0 = false := by rw [Bool.eq_false_iff]; intro h; rw [Nat.beq_eq] at h; exact hj h
       have : ¬ j = m := by omega
       simp [hb', this]
    ·have hb : Nat.beq (m % 2) 0 = false := by rw [Bool.eq_false_iff]; intro h; rw [Nat.beq_eq] at h; exact hp h
     simp only [hb, cond_false, T.get_mkR]
     cases k with
     | zero => simp [T.get_n]
     | succ j =>
      simp only [T.get_n]
      by_cases hj : j % 2 = 0
      ·have hb' : Nat.beq (j % 2) 0 = true := by rw [Nat.beq_eq]; exact hj
       have : ¬ j = m := by omega
       simp [hb', this]
      ·have hb' : Nat.beq (j % 2) 0 = false := by rw [Bool.eq_false_iff]; intro h; rw [Nat.beq_eq] at h; exact hj h
       simp only [hb', cond_false, ih r (m / 2) (j / 2) hm]
       by_cases e : j = m
       ·subst e; simp
       ·have : ¬ (j / 2 = m / 2) := by omega
        have : ¬ (j + 1 = m + 1) := by omega
        simp [*]
   cases t with
   | e =>
    simp only [T.go]
    rw [key]
    cases k <;> simp [T.get_n, T.get_e]
   | n l v r =>
    simp only [T.go]
    rw [key]
theorem T.get_upd {α : Type} (t : T α) (i k : Nat) (x : Option α) : (t.upd i x).get k = if k = i then x else t.get k := T.get_go x (i + 1) t i k (Nat.lt_succ_self i)
theorem jh {R : Type} (n : Nat) (k : Nat → R) : jaz n k = k n := by cases n <;> rfl
theorem zgy {R : Type} (n : Int) (k : Int → R) : Jho n k = k n := by cases n <;> simp [Jho, jh]
theorem J8 {R : Type} (n : Bool) (k : Bool → R) : jbA n k = k n := by cases n <;> rfl
theorem jdn {R : Type} (n : IntKind) (k : IntKind → R) : zfe n k = k n := by cases n <;> rfl
theorem V.force_eq {R : Type} (v : V) (k : V → R) : v.force k = k v := by cases v <;> simp [V.force, jh, zgy, J8, jdn]
theorem Zdn (l : List UInt8) : ZG l < 256 ^ l.length := by
 induction l with
 | nil => simp [ZG]
 | cons c r ih =>
  have hc := c.toNat_lt
  simp only [ZG, List.length_cons, Nat.pow_succ]
  have : 256 * ZG r + 256 ≤ 256 * 256 ^ r.length := by
   have := Nat.mul_le_mul_left 256 (Nat.succ_le_of_lt ih)
   simpa [Nat.mul_add] using this
  omega
theorem Ji (n x : Nat) : (Zc n x).length = n := by
 induction n generalizing x with
 | zero => rfl
 | succ n ih => simp [Zc, ih]
theorem zF (l : List UInt8) : Zc l.length (ZG l) = l := by
 induction l with
 | nil => rfl
 | cons c r ih =>
  have hc := c.toNat_lt
  have h1 : (c.toNat + 256 * ZG r) % 256 = c.toNat := by omega
  have h2 : (c.toNat + 256 * ZG r) / 256 = ZG r := by omega
  simp only [ZG, List.length_cons, Zc, h1, h2, ih]
  simp
theorem ZaW (n x : Nat) (h : x < 256 ^ n) : ZG (Zc n x) = x := by
 induction n generalizing x with
 | zero => simp at h; simp [Zc, ZG, h]
 | succ n ih =>
  have : x / 256 < 256 ^ n := by rw [Nat.pow_succ] at h; omega
  simp only [Zc, ZG, ih _ this]
  have : (UInt8.ofNat (x % 256)).toNat = x % 256 := by simp
  rw [this]; omega
theorem zei (l m x y : Nat) (h : x < 256 ^ l) : Zc (l + m) (x + 256 ^ l * y) = Zc l x ++ Zc m y := by
 induction l generalizing x with
 | zero => simp at h; subst h; simp [Zc]
 | succ l ih =>
  have e : 256 ^ (l + 1) * y = 256 * (256 ^ l * y) := by rw [Nat.pow_succ, Nat.mul_comm (256 ^ l) 256, Nat.mul_assoc]
  have h1 : (x + 256 ^ (l + 1) * y) % 256 = x % 256 := by rw [e]; omega
  have h2 : (x + 256 ^ (l + 1) * y) / 256 = x / 256 + 256 ^ l * y := by rw [e]; omega
  have h3 : x / 256 < 256 ^ l := by rw [Nat.pow_succ] at h; omega
  rw [show l + 1 + m = (l + m) + 1 from by omega]
  simp only [Zc, h1, h2, ih _ h3, List.cons_append]
theorem zg1 (l m x y : Nat) (h : x < 256 ^ l) (h' : y < 256 ^ m) : x + 256 ^ l * y < 256 ^ (l + m) := by
 rw [Nat.pow_add]
 calc x + 256 ^ l * y < 256 ^ l + 256 ^ l * y := by omega
  _ = 256 ^ l * (y + 1) := by rw [Nat.mul_add]; omega
  _ ≤ 256 ^ l * 256 ^ m := Nat.mul_le_mul_left _ h'
theorem zdO (n k x : Nat) : (Zc (k + n) x).drop k = Zc n (x / 256 ^ k) := by
 induction k generalizing x with
 | zero => simp
 | succ k ih =>
  rw [show k + 1 + n = (k + n) + 1 from by omega]
  simp only [Zc, List.drop_succ_cons, ih]
  rw [Nat.div_div_eq_div_mul, Nat.pow_succ, Nat.mul_comm 256]
theorem jdO (n k x : Nat) : (Zc (n + k) x).take n = Zc n x := by
 induction n generalizing x with
 | zero => simp [Zc]
 | succ n ih =>
  rw [show n + 1 + k = (n + k) + 1 from by omega]
  simp only [Zc, List.take_succ_cons, ih]
theorem zcB (n x : Nat) : Zc n (x % 256 ^ n) = Zc n x := by
 induction n generalizing x with
 | zero => rfl
 | succ n ih =>
  have h1 : x % 256 ^ (n + 1) % 256 = x % 256 := by
   rw [Nat.pow_succ, Nat.mul_comm]; exact Nat.mod_mul_right_mod x 256 (256 ^ n)
  have h2 : x % 256 ^ (n + 1) / 256 = x / 256 % 256 ^ n := by
   rw [Nat.pow_succ, Nat.mul_comm]; exact Nat.mod_mul_right_div_self x 256 (256 ^ n)
  simp only [Zc, h1, h2, ih]
theorem zbB (n x lo hi : Nat) (h1 : lo ≤ hi) (h2 : hi ≤ n) : Zc (hi - lo) (x / 256 ^ lo % 256 ^ (hi - lo)) = ((Zc n x).drop lo).take (hi - lo) := by
 rw [zcB]
 have e : n = lo + ((hi - lo) + (n - hi)) := by omega
 rw [e, zdO, jdO]
theorem jcB (n x i : Nat) (h : i < n) : (Zc n x)[i]? = some (UInt8.ofNat (Zby x i)) := by
 induction n generalizing x i with
 | zero => omega
 | succ n ih =>
  cases i with
  | zero => simp [Zc, Zby]
  | succ i =>
   simp only [Zc, List.getElem?_cons_succ, ih (x / 256) i (by omega), Zby]
   rw [Nat.div_div_eq_div_mul, Nat.pow_succ, Nat.mul_comm 256]
theorem ZdO (x i : Nat) : Zby x i < 256 := Nat.mod_lt _ (by decide)
theorem jei (l m x y : Nat) (hx : x < 256 ^ l) (hy : y < 256 ^ m) : (Zc l x = Zc m y) = (l = m ∧ x = y) := by
 apply propext
 constructor
 ·intro h
  have h1 := congrArg List.length h
  rw [Ji, Ji] at h1
  have h2 := congrArg ZG h
  rw [ZaW _ _ hx, ZaW _ _ hy] at h2
  exact ⟨h1, h2⟩
 ·rintro ⟨rfl, rfl⟩; rfl
theorem jbB (l m x y : Nat) (hx : x < 256 ^ l) (hy : y < 256 ^ m) : (Zc l x == Zc m y) = (Nat.beq l m && Nat.beq x y) := by
 rw [Bool.eq_iff_iff]
 simp only [beq_iff_eq, Bool.and_eq_true, Nat.beq_eq]
 exact iff_of_eq (jei l m x y hx hy)
structure Inj where
 nx : Nat
 m : Nat → Nat × Nat × Nat
 fix : ∀ g, g < GL → g < nx ∧ m g = (g, 0, 0)
mutual
def V.real (J : Inj) : V → Value
 | .b x => .bool x
 | .i k n => .int k n
 | .s l x => .string ⟨(Zc l x).toArray⟩
 | .p g o => .pointer (some ⟨(J.m g).1, (J.m g).2.1 + o, none⟩)
 | .pn => .pointer none
 | .sl g o l c op => .slice (some ⟨(J.m g).1, (J.m g).2.1 + o, none⟩) l (c + cond op (J.m g).2.2 0)
 | .sn => .slice none 0 0
 | .se g o q => .slice (some ⟨(J.m g).1, (J.m g).2.1 + cond (Nat.beq (J.m g).2.2 0) o q, none⟩) 0 (J.m g).2.2
 | .ze x => .slice (some x) 0 0
 | .f fn xs ys => .func fn (V.reals J xs).toArray (V.reals J ys).toArray
 | .fz => .nilFunc
 | .nz => .nilIface
 | .a cs => .agg (V.reals J cs).toArray
 | .t vs => .tuple (V.reals J vs).toArray
def V.reals (J : Inj) : List V → List Value
 | [] => []
 | v :: r => V.real J v :: V.reals J r
end
mutual
def V.ok (n : Nat) : V → Prop
 | .s l x => x < 256 ^ l
 | .p g _ => g < n
 | .sl g _ l c _ => g < n ∧ l ≤ c
 | .se g _ _ => g < n
 | .f _ xs ys => V.oks n xs ∧ V.oks n ys
 | .a cs => V.oks n cs
 | .t vs => V.oks n vs
 | _ => True
def V.oks (n : Nat) : List V → Prop
 | [] => True
 | v :: r => V.ok n v ∧ V.oks n r
end
theorem V.reals_eq (J : Inj) (l : List V) : V.reals J l = l.map (V.real J) := by
 induction l with
 | nil => simp [V.reals]
 | cons v r ih => simp [V.reals, ih]
theorem V.oks_iff (n : Nat) (l : List V) : V.oks n l ↔ ∀ v ∈ l, V.ok n v := by
 induction l with
 | nil => simp [V.oks]
 | cons v r ih => simp [V.oks, ih]
structure Inj.le (J J' : Inj) : Prop where
 nx : J.nx ≤ J'.nx
 m : ∀ g, g < J.nx → J'.m g = J.m g
theorem Inj.le.refl (J : Inj) : J.le J := ⟨Nat.le_refl _, fun _ _ => rfl⟩
theorem Inj.le.trans {a b c : Inj} (h : a.le b) (k : b.le c) : a.le c := ⟨Nat.le_trans h.nx k.nx, fun g hg => (k.m g (Nat.lt_of_lt_of_le hg h.nx)).trans (h.m g hg)⟩
mutual
theorem V.real_le {J J' : Inj} (h : J.le J') : (v : V) → v.ok J.nx → v.real J' = v.real J
 | .b _, _ => rfl
 | .i _ _, _ => rfl
 | .s _ _, _ => rfl
 | .p g _, k => by simp only [V.ok] at k; simp only [V.real, h.m g k]
 | .pn, _ => rfl
 | .sl g _ _ _ _, k => by simp only [V.ok] at k; simp only [V.real, h.m g k.1]
 | .sn, _ => rfl
 | .se g _ _, k => by simp only [V.ok] at k; simp only [V.real, h.m g k]
 | .ze _, _ => rfl
 | .f _ xs ys, k => by simp only [V.ok] at k; simp only [V.real, V.reals_le h xs k.1, V.reals_le h ys k.2]
 | .fz, _ => rfl
 | .nz, _ => rfl
 | .a cs, k => by simp only [V.ok] at k; simp only [V.real, V.reals_le h cs k]
 | .t vs, k => by simp only [V.ok] at k; simp only [V.real, V.reals_le h vs k]
theorem V.reals_le {J J' : Inj} (h : J.le J') : (l : List V) → V.oks J.nx l → V.reals J' l = V.reals J l
 | [], _ => rfl
 | v :: r, k => by simp only [V.oks] at k; simp only [V.reals, V.real_le h v k.1, V.reals_le h r k.2]
end
mutual
theorem V.ok_le {n m : Nat} (h : n ≤ m) : (v : V) → v.ok n → v.ok m
 | .b _, _ => by simp [V.ok]
 | .i _ _, _ => by simp [V.ok]
 | .s _ _, k => by simpa [V.ok] using k
 | .p g _, k => by simp only [V.ok] at k ⊢; omega
 | .pn, _ => by simp [V.ok]
 | .sl g _ _ _ _, k => by simp only [V.ok] at k ⊢; omega
 | .sn, _ => by simp [V.ok]
 | .se g _ _, k => by simp only [V.ok] at k ⊢; omega
 | .ze _, _ => by simp [V.ok]
 | .f _ xs ys, k => by simp only [V.ok] at k ⊢; exact ⟨V.oks_le h xs k.1, V.oks_le h ys k.2⟩
 | .fz, _ => by simp [V.ok]
 | .nz, _ => by simp [V.ok]
 | .a cs, k => by simp only [V.ok] at k ⊢; exact V.oks_le h cs k
 | .t vs, k => by simp only [V.ok] at k ⊢; exact V.oks_le h vs k
theorem V.oks_le {n m : Nat} (h : n ≤ m) : (l : List V) → V.oks n l → V.oks m l
 | [], _ => by simp [V.oks]
 | v :: r, k => by simp only [V.oks] at k ⊢; exact ⟨V.ok_le h v k.1, V.oks_le h r k.2⟩
end
theorem V.real_plain (J J' : Inj) (v : V) (h : v.plain = true) : v.real J' = v.real J := by cases v <;> simp_all [V.plain, V.real]
theorem V.reals_plain (J J' : Inj) (l : List V) (h : l.all V.plain = true) : V.reals J' l = V.reals J l := by
 induction l with
 | nil => rfl
 | cons v r ih => simp only [List.all_cons, Bool.and_eq_true] at h; simp only [V.reals, V.real_plain J J' v h.1, ih h.2]
theorem V.real_plainT (J J' : Inj) (v : V) (h : v.plainT = true) : v.real J' = v.real J := by
 cases v with
 | a cs => simp only [V.real, V.reals_plain J J' cs (show cs.all V.plain = true from h)]
 | t cs => simp only [V.real, V.reals_plain J J' cs (show cs.all V.plain = true from h)]
 | _ => exact V.real_plain J J' _ h
theorem V.ok_plain (n m : Nat) (v : V) (h : v.plain = true) (k : v.ok n) : v.ok m := by cases v <;> simp_all [V.plain, V.ok]
theorem V.ok_plainT (n m : Nat) (v : V) (h : v.plainT = true) (k : v.ok n) : v.ok m := by
 have all : ∀ l : List V, l.all V.plain = true → V.oks n l → V.oks m l := by
  intro l h k
  rw [V.oks_iff] at k ⊢
  intro v hv
  rw [List.all_eq_true] at h
  exact V.ok_plain n m v (h v hv) (k v hv)
 cases v with
 | a cs => simp only [V.ok] at k ⊢; exact all cs (show cs.all V.plain = true from h) k
 | t cs => simp only [V.ok] at k ⊢; exact all cs (show cs.all V.plain = true from h) k
 | _ => exact V.ok_plain n m _ h k
theorem V.cells_real (J : Inj) (v : V) : (v.real J).cells = (v.cells.map (V.real J)).toArray := by
 cases v <;> simp [V.real, V.cells, Value.cells, V.reals_eq]
theorem V.oneCell_real (J : Inj) (v : V) (h : v.atom = true) : (v.real J).oneCell' = true := by
 cases v <;> simp_all [V.atom, V.real, Value.oneCell']
theorem V.ok_cells {n : Nat} {v : V} (h : v.ok n) : ∀ c ∈ v.cells, c.ok n := by
 cases v <;> simp_all [V.cells, V.ok, V.oks_iff]
end Go.Vm
namespace Go.Vm
open Go.RowKit
structure Old (B w : World) : Prop where
 size : B.heap.size ≤ w.heap.size
 block : ∀ i, i < B.heap.size → w.heap[i]? = B.heap[i]?
theorem Old.refl (B : World) : Old B B := ⟨Nat.le_refl _, fun _ _ => rfl⟩
theorem Old.below {B w w' : World} (h : Old B w) (k : Below B.heap.size w w') : Old B w' := ⟨Nat.le_trans h.size k.size, fun i hi => (k.block i hi).trans (h.block i hi)⟩
def BR (J : Inj) (ro : Nat) (B : World) (g : Nat) (b : Blk) (w : World) : Prop :=
 g < J.nx ∧ ∃ c e fz, w.heap[(J.m g).1]? = some (.cells c e fz) ∧ (J.m g).2.1 + b.sz ≤ c.size ∧
  (b.op = true → (J.m g).2.1 + b.sz + (J.m g).2.2 * b.es = c.size ∧ b.zero = []) ∧
  (ro ≤ g → B.heap.size ≤ (J.m g).1 ∧ ∀ o, o < c.size + b.op.toNat → (decide (fz.1 ≤ o) && decide (o < fz.2)) = false ∧ fz.1 ≤ fz.2) ∧
  (∀ o v, b.get o = some v → v.ok J.nx ∧ v.atom = true ∧ c[(J.m g).2.1 + o]? = some (v.real J))
structure HR (J : Inj) (ro : Nat) (B : World) (h : Nat → Option Blk) (w : World) : Prop where
 base : Old B w
 blk : ∀ g b, h g = some b → BR J ro B g b w
 inj : ∀ g g' b b', h g = some b → h g' = some b' → (J.m g).1 = (J.m g').1 → g = g'
theorem HR.congr {J : Inj} {ro : Nat} {B : World} {h : Nat → Option Blk} {w w' : World} (hh : HR J ro B h w) (e : w'.heap = w.heap) : HR J ro B h w' :=
 ⟨⟨by rw [e]; exact hh.base.size, by rw [e]; exact hh.base.block⟩, fun g b hg => by have := hh.blk g b hg; unfold BR at *; rw [e]; exact this, hh.inj⟩
theorem BR.lt {J : Inj} {ro g : Nat} {B : World} {b : Blk} {w : World} (h : BR J ro B g b w) : (J.m g).1 < w.heap.size := by
 obtain ⟨_, c, e, fz, hc, _⟩ := h
 rcases Nat.lt_or_ge (J.m g).1 w.heap.size with h | h
 ·exact h
 ·rw [Array.getElem?_eq_none h] at hc; cases hc
theorem BR.cell {J : Inj} {ro g : Nat} {B : World} {b : Blk} {w : World} (h : BR J ro B g b w) {o : Nat} {v : V} (hv : b.get o = some v) :
  w.cell? ⟨(J.m g).1, (J.m g).2.1 + o, none⟩ = some (v.real J) ∧ v.ok J.nx ∧ v.atom = true := by
 obtain ⟨_, c, e, fz, hc, _, _, _, h4⟩ := h
 obtain ⟨h1, h2, h3⟩ := h4 o v hv
 exact ⟨by simp [World.cell?, hc, h3], h1, h2⟩
theorem Blk.get_lt {b : Blk} {o : Nat} {v : V} (h : b.get o = some v) : o < b.sz := by
 unfold Blk.get at h
 cases e : Nat.blt o b.sz
 ·rw [e] at h; simp at h
 ·rw [Nat.blt_eq] at e; exact e
theorem Blk.row_spec {b : Blk} : ∀ (n o : Nat) (cs : List V), b.row n o = some cs → cs.length = n ∧ ∀ j v, cs[j]? = some v → b.get (o + j) = some v
 | 0, o, cs, h => by simp only [Blk.row, Option.some.injEq] at h; subst h; simp
 | n + 1, o, cs, h => by
  simp only [Blk.row] at h
  cases hv : b.get o with
  | none => simp [hv] at h
  | some v =>
   cases hr : b.row n (o + 1) with
   | none => simp [hv, hr] at h
   | some r =>
    simp only [hv, hr, Option.some.injEq] at h
    subst h
    obtain ⟨h1, h2⟩ := Blk.row_spec n (o + 1) r hr
    refine ⟨by simp [h1], fun j x hj => ?_⟩
    cases j with
    | zero => simp only [List.getElem?_cons_zero, Option.some.injEq] at hj; subst hj; simpa using hv
    | succ j => simp only [List.getElem?_cons_succ] at hj; have := h2 j x hj; rw [show o + (j + 1) = o + 1 + j from by omega]; exact this
theorem BR.row {P : Program} {J : Inj} {ro g : Nat} {B : World} {b : Blk} {w : World} (h : BR J ro B g b w) {n o : Nat} {cs : List V} (hr : b.row n o = some cs) :
  (loadCells ⟨(J.m g).1, (J.m g).2.1 + o, none⟩ n).run P w = .ok (cs.map (V.real J)).toArray w ∧ cs.length = n ∧ (∀ v ∈ cs, v.ok J.nx) ∧ ∀ v ∈ cs, v.atom = true := by
 obtain ⟨h1, h2⟩ := Blk.row_spec n o cs hr
 have hc : ∀ j v, (cs.map (V.real J))[j]? = some v → w.cell? ((⟨(J.m g).1, (J.m g).2.1 + o, none⟩ : Addr).add j) = some v := by
  intro j v hj
  rw [List.getElem?_map] at hj
  cases hx : cs[j]? with
  | none => simp [hx] at hj
  | some x =>
   simp only [hx, Option.map_some, Option.some.injEq] at hj
   subst hj
   rw [Addr.add_lit, Nat.add_assoc]
   exact (h.cell (h2 j x hx)).1
 have := run_loadCells_list (P := P) (w := w) ⟨(J.m g).1, (J.m g).2.1 + o, none⟩ (cs.map (V.real J)) hc
 rw [List.length_map, h1] at this
 refine ⟨this, h1, fun v hv => ?_, fun v hv => ?_⟩
 ·obtain ⟨j, hj⟩ := List.getElem?_of_mem hv
  exact (h.cell (h2 j v hj)).2.1
 ·obtain ⟨j, hj⟩ := List.getElem?_of_mem hv
  exact (h.cell (h2 j v hj)).2.2
theorem Blk.get_set (b : Blk) (o k : Nat) (v : V) (ho : o < b.sz) : (b.set o v).get k = if k = o then some v else b.get k := by
 unfold Blk.get Blk.set
 dsimp only
 rw [T.get_upd]
 by_cases e : k = o
 ·subst e; simp [show Nat.blt k b.sz = true from by rw [Nat.blt_eq]; exact ho]
 ·simp [e]
theorem Blk.put_spec : ∀ (vs : List V) (b b' : Blk) (o : Nat), b.put vs o = some b' →
  b'.sz = b.sz ∧ b'.es = b.es ∧ b'.op = b.op ∧ b'.zero = b.zero ∧ (∀ k, b'.get k = if o ≤ k ∧ k < o + vs.length then vs[k - o]? else b.get k) ∧ (∀ v ∈ vs, v.atom = true) ∧ (vs = [] ∨ o + vs.length ≤ b.sz)
 | [], b, b', o, h => by
  simp only [Blk.put, Option.some.injEq] at h
  subst h
  exact ⟨rfl, rfl, rfl, rfl, fun k => by rw [if_neg (by simp)], by simp, .inl rfl⟩
 | v :: r, b, b', o, h => by
  simp only [Blk.put, V.force_eq] at h
  cases hc : (Nat.blt o b.sz && v.atom) with
  | false => simp [hc] at h
  | true =>
   simp only [hc, cond_true] at h
   simp only [Bool.and_eq_true, Nat.blt_eq] at hc
   obtain ⟨h1, h2, h3, h4, h5, h6, h7⟩ := Blk.put_spec r (b.set o v) b' (o + 1) h
   refine ⟨h1, h2, h3, h4, fun k => ?_, fun x hx => ?_, .inr ?_⟩
   ·rw [h5 k, Blk.get_set b o k v hc.1]
    by_cases e : k = o
    ·subst e
     rw [if_neg (by omega), if_pos rfl, if_pos (by simp)]
     simp
    ·by_cases e2 : o + 1 ≤ k ∧ k < o + 1 + r.length
     ·rw [if_pos e2, if_pos (by simp; omega), show k - o = (k - (o + 1)) + 1 from by omega]
      simp
     ·rw [if_neg e2, if_neg e, if_neg (by simp; omega)]
   ·rcases List.mem_cons.1 hx with rfl | hx
    ·exact hc.2
    ·exact h6 x hx
   ·rcases h7 with rfl | h7
    ·simp; omega
    ·have : (b.set o v).sz = b.sz := rfl
     rw [this] at h7; simp; omega
theorem ZB {cs : List V} {es : Nat} {op : Bool} {b : Blk} (h : jaO cs es op = some b) :
  b.sz = cs.length ∧ b.es = es ∧ b.op = op ∧ b.zero = [] ∧ (∀ k : Nat, b.get k = cs[k]?) ∧ ∀ v ∈ cs, v.atom = true := by
 obtain ⟨h1, h2, h3, h4, h5, h6, _⟩ := Blk.put_spec _ _ _ _ h
 refine ⟨h1, h2, h3, h4, fun k => ?_, h6⟩
 rw [h5 k]
 by_cases e : k < cs.length
 ·rw [if_pos (by omega)]; simp
 ·rw [if_neg (by omega)]
  rw [List.getElem?_eq_none (by omega)]
  cases hg : (Blk.mk T.e [] cs.length es op).get k with
  | none => rfl
  | some v => have := Blk.get_lt hg; dsimp only at this; omega
theorem HR.set {J : Inj} {ro : Nat} {B : World} {h : Nat → Option Blk} {w : World} (hh : HR J ro B h w) {g o : Nat} {b : Blk} {v : V} (hg : h g = some b) (hro : ro ≤ g) (ho : o < b.sz)
  (hv : v.ok J.nx) (ha : v.atom = true) :
  HR J ro B (fun k => if k = g then some (b.set o v) else h k) (w.setCell ⟨(J.m g).1, (J.m g).2.1 + o, none⟩ (v.real J)) := by
 obtain ⟨hlt, c, e, fz, hc, h1, h2, h3, h4⟩ := hh.blk g b hg
 have hheap : ∀ k, k ≠ (J.m g).1 → (w.setCell ⟨(J.m g).1, (J.m g).2.1 + o, none⟩ (v.real J)).heap[k]? = w.heap[k]? := fun k hk => Below.heap_setCell _ _ _ _ hk
 have hself : (w.setCell ⟨(J.m g).1, (J.m g).2.1 + o, none⟩ (v.real J)).heap[(J.m g).1]? = some (.cells (c.setIfInBounds ((J.m g).2.1 + o) (v.real J)) e fz) := by
  simp only [World.setCell, Array.getElem?_modify, hc, if_true, Option.map_some]
  rfl
 refine ⟨hh.base.below ((Below.refl _ w).setCell (h3 hro).1 _), fun k bk hk => ?_, fun k k' bk bk' hk hk' heq => ?_⟩
 ·by_cases hkg : k = g
  ·subst hkg
   simp only [if_true, Option.some.injEq] at hk
   subst hk
   refine ⟨hlt, c.setIfInBounds ((J.m k).2.1 + o) (v.real J), e, fz, hself, by rw [Array.size_setIfInBounds]; exact h1, by rw [Array.size_setIfInBounds]; exact h2, by rw [Array.size_setIfInBounds]; exact h3, fun j x hx => ?_⟩
   rw [Blk.get_set b o j v ho] at hx
   by_cases hjo : j = o
   ·subst hjo
    simp only [if_true, Option.some.injEq] at hx
    subst hx
    refine ⟨hv, ha, ?_⟩
    rw [Array.getElem?_setIfInBounds_self_of_lt (by omega)]
   ·rw [if_neg hjo] at hx
    obtain ⟨q1, q2, q3⟩ := h4 j x hx
    exact ⟨q1, q2, by rw [Array.getElem?_setIfInBounds_ne (by omega)]; exact q3⟩
  ·rw [if_neg hkg] at hk
   have hne : (J.m k).1 ≠ (J.m g).1 := fun e => hkg (hh.inj k g bk b hk hg e)
   have := hh.blk k bk hk
   unfold BR at *
   rw [hheap _ hne]
   exact this
 ·have hex : ∀ q bq, (if q = g then some (b.set o v) else h q) = some bq → ∃ b', h q = some b' := by
   intro q bq hq
   by_cases e : q = g
   ·subst e; exact ⟨b, hg⟩
   ·rw [if_neg e] at hq; exact ⟨bq, hq⟩
  obtain ⟨b1, hb1⟩ := hex k bk hk
  obtain ⟨b2, hb2⟩ := hex k' bk' hk'
  exact hh.inj k k' b1 b2 hb1 hb2 heq
theorem jgy {h : Nat → Option Blk} {g : Nat} (x y : Option Blk) : (fun k => if k = g then x else (fun k => if k = g then y else h k) k) = fun k => if k = g then x else h k := by
 funext k; by_cases e : k = g <;> simp [e]
theorem JfW {h : Nat → Option Blk} {g : Nat} {b : Blk} (hg : h g = some b) : (fun k => if k = g then some b else h k) = h := by
 funext k; by_cases e : k = g <;> simp [e, hg]
theorem HR.put {P : Program} {J : Inj} {ro : Nat} {B : World} : ∀ (vs : List V) {h : Nat → Option Blk} {w : World} (_ : HR J ro B h w) {g o i : Nat} {b b' : Blk} (_ : h g = some b) (_ : ro ≤ g) (_ : b.put vs (o + i) = some b')
  (_ : ∀ v ∈ vs, v.ok J.nx), ∃ w', (storeCells ⟨(J.m g).1, (J.m g).2.1 + o, none⟩ (vs.map (V.real J)) i).run P w = .ok () w' ∧
   HR J ro B (fun k => if k = g then some b' else h k) w' ∧ Below B.heap.size w w' ∧ ∀ k, k ≠ (J.m g).1 → w'.heap[k]? = w.heap[k]?
 | [], h, w, hh, g, o, i, b, b', hg, hro, hp, hv => by
  simp only [Blk.put, Option.some.injEq] at hp
  subst hp
  exact ⟨w, rfl, by rw [JfW hg]; exact hh, Below.refl _ _, fun _ _ => rfl⟩
 | v :: r, h, w, hh, g, o, i, b, b', hg, hro, hp, hv => by
  simp only [Blk.put, V.force_eq] at hp
  cases hc : (Nat.blt (o + i) b.sz && v.atom) with
  | false => simp [hc] at hp
  | true =>
   simp only [hc, cond_true] at hp
   simp only [Bool.and_eq_true, Nat.blt_eq] at hc
   obtain ⟨hlt, c, e, fz, hcell, h1, h2, h3, h4⟩ := hh.blk g b hg
   obtain ⟨hB, hfz⟩ := h3 hro
   have hsome : ∃ u, w.cell? ⟨(J.m g).1, (J.m g).2.1 + o + i, none⟩ = some u := by
    have : (J.m g).2.1 + o + i < c.size := by omega
    exact ⟨c[(J.m g).2.1 + o + i], by simp [World.cell?, hcell, Array.getElem?_eq_getElem this]⟩
   obtain ⟨u, hu⟩ := hsome
   have hfr : w.frozen? ⟨(J.m g).1, (J.m g).2.1 + o + i, none⟩ = false := by
    have := hfz ((J.m g).2.1 + o + i) (by omega)
    simp only [World.frozen?, hcell]
    exact this.1
   have hs := hh.set hg hro hc.1 (hv v (List.mem_cons_self ..)) hc.2
   rw [← Nat.add_assoc] at hs
   have hb1 : (fun k => if k = g then some (b.set (o + i) v) else h k) g = some (b.set (o + i) v) := by simp
   obtain ⟨w', hr, hh', hbel, hko⟩ := HR.put (P := P) r hs (g := g) (o := o) (i := i + 1) (b := b.set (o + i) v) (b' := b') hb1 hro (by rw [← Nat.add_assoc]; exact hp) (fun x hx => hv x (List.mem_cons_of_mem _ hx))
   refine ⟨w', ?_, by rw [jgy] at hh'; exact hh', (Below.setCell (Below.refl B.heap.size w) (p := ⟨(J.m g).1, (J.m g).2.1 + o + i, none⟩) hB (v.real J)).trans hbel, fun k hk => (hko k hk).trans (Below.heap_setCell _ _ _ _ hk)⟩
   rw [List.map_cons]
   unfold storeCells
   rw [Sem.run_bind, Addr.add_lit, run_store P w _ _ .plain (V.oneCell_real J v hc.2), hu]
   simp only [hfr, Bool.false_eq_true, if_false, Result.andThen_ok]
   exact hr
def Inj.push (J : Inj) (x : Nat × Nat × Nat) : Inj := ⟨J.nx + 1, fun g => if g = J.nx then x else J.m g, fun g hg => ⟨Nat.lt_succ_of_lt (J.fix g hg).1, by rw [if_neg (Nat.ne_of_lt (J.fix g hg).1)]; exact (J.fix g hg).2⟩⟩
theorem Inj.le_push (J : Inj) (x : Nat × Nat × Nat) : J.le (J.push x) := ⟨Nat.le_succ _, fun g hg => by simp [Inj.push]; intro h; omega⟩
theorem Inj.push_self (J : Inj) (x : Nat × Nat × Nat) : (J.push x).m J.nx = x := by simp [Inj.push]
theorem HR.push {J : Inj} {ro : Nat} {B : World} {h : Nat → Option Blk} {w w' : World} (hh : HR J ro B h w) {b : Blk} {r d x : Nat} {c : Array Value} {e : TypeId} {fz : Nat × Nat}
  (hold : ∀ g b, h g = some b → w'.heap[(J.m g).1]? = w.heap[(J.m g).1]?) (hsz : Old B w')
  (hnew : w'.heap[r]? = some (.cells c e fz)) (hB : B.heap.size ≤ r) (hfree : ∀ g b, h g = some b → (J.m g).1 ≠ r)
  (h1 : d + b.sz ≤ c.size) (h2 : b.op = true → d + b.sz + x * b.es = c.size ∧ b.zero = []) (h3 : ∀ o, o < c.size + b.op.toNat → (decide (fz.1 ≤ o) && decide (o < fz.2)) = false ∧ fz.1 ≤ fz.2)
  (h4 : ∀ o v, b.get o = some v → v.ok J.nx ∧ v.atom = true ∧ c[d + o]? = some (v.real J)) :
  HR (J.push (r, d, x)) ro B (fun k => if k = J.nx then some b else h k) w' := by
 have hle := J.le_push (r, d, x)
 refine ⟨hsz, fun g bg hg => ?_, fun g g' bg bg' hg hg' heq => ?_⟩
 ·by_cases e1 : g = J.nx
  ·subst e1
   simp only [if_true, Option.some.injEq] at hg
   subst hg
   refine ⟨Nat.lt_succ_self _, c, e, fz, ?_, ?_, ?_, ?_, ?_⟩
   ·rw [Inj.push_self]; exact hnew
   ·rw [Inj.push_self]; exact h1
   ·rw [Inj.push_self]; exact h2
   ·rw [Inj.push_self]; exact fun _ => ⟨hB, h3⟩
   ·rw [Inj.push_self]
    intro o v hv
    obtain ⟨q1, q2, q3⟩ := h4 o v hv
    exact ⟨V.ok_le (Nat.le_succ _) v q1, q2, by rw [V.real_le hle v q1]; exact q3⟩
  ·rw [if_neg e1] at hg
   obtain ⟨k0, c0, e0, f0, k1, k2, k3, k4, k5⟩ := hh.blk g bg hg
   have hm := hle.m g k0
   refine ⟨Nat.lt_succ_of_lt k0, c0, e0, f0, ?_, ?_, ?_, ?_, ?_⟩
   ·rw [hm, hold g bg hg]; exact k1
   ·rw [hm]; exact k2
   ·rw [hm]; exact k3
   ·rw [hm]; exact k4
   ·rw [hm]
    intro o v hv
    obtain ⟨q1, q2, q3⟩ := k5 o v hv
    exact ⟨V.ok_le (Nat.le_succ _) v q1, q2, by rw [V.real_le hle v q1]; exact q3⟩
 ·by_cases e1 : g = J.nx <;> by_cases e2 : g' = J.nx
  ·rw [e1, e2]
  ·exfalso
   rw [if_neg e2] at hg'
   have hm := hle.m g' (hh.blk g' bg' hg').1
   rw [e1, Inj.push_self, hm] at heq
   exact hfree g' bg' hg' heq.symm
  ·exfalso
   rw [if_neg e1] at hg
   have hm := hle.m g (hh.blk g bg hg).1
   rw [e2, Inj.push_self, hm] at heq
   exact hfree g bg hg heq
  ·rw [if_neg e1] at hg
   rw [if_neg e2] at hg'
   rw [hle.m g (hh.blk g bg hg).1, hle.m g' (hh.blk g' bg' hg').1] at heq
   exact hh.inj g g' bg bg' hg hg' heq
theorem HR.alloc {J : Inj} {ro : Nat} {B : World} {h : Nat → Option Blk} {w : World} (hh : HR J ro B h w) {b : Blk} {x : Nat} {c : Array Value} {e : TypeId} {fz : Nat × Nat}
  (h1 : b.sz ≤ c.size) (h2 : b.op = true → b.sz + x * b.es = c.size ∧ b.zero = []) (h3 : ∀ o, o < c.size + b.op.toNat → (decide (fz.1 ≤ o) && decide (o < fz.2)) = false ∧ fz.1 ≤ fz.2)
  (h4 : ∀ o v, b.get o = some v → v.ok J.nx ∧ v.atom = true ∧ c[o]? = some (v.real J)) :
  HR (J.push (w.heap.size, 0, x)) ro B (fun k => if k = J.nx then some b else h k) (w.alloc (.cells c e fz)) := by
 refine hh.push (c := c) (e := e) (fz := fz) (fun g b hg => Below.heap_alloc _ _ _ (hh.blk g b hg).lt) (hh.base.below ((Below.refl _ w).alloc hh.base.size _)) ?_ hh.base.size (fun g b hg => Nat.ne_of_lt (hh.blk g b hg).lt) (by omega) (fun k => ⟨by have := (h2 k).1; omega, (h2 k).2⟩) h3 (fun o v hv => by simpa using h4 o v hv)
 show (w.heap.push _)[w.heap.size]? = _
 simp
theorem HR.less {J : Inj} {ro : Nat} {B : World} {h h' : Nat → Option Blk} {w : World} (hh : HR J ro B h w) (hs : ∀ g b, h' g = some b → h g = some b) : HR J ro B h' w :=
 ⟨hh.base, fun g b hg => hh.blk g b (hs g b hg), fun g g' b b' hg hg' => hh.inj g g' b b' (hs g b hg) (hs g' b' hg')⟩
theorem HR.back {J J' : Inj} {ro : Nat} {B : World} {h h' : Nat → Option Blk} {w w' : World} (hh : HR J ro B h w) (hh' : HR J' ro B h' w') (hle : J.le J') (hs : ∀ g b, h g = some b → h' g = some b) : HR J ro B h w' := by
 refine ⟨hh'.base, fun g b hg => ?_, hh.inj⟩
 obtain ⟨k0, c0, e0, f0, k1, k2, k3, k4, k5⟩ := hh'.blk g b (hs g b hg)
 obtain ⟨l0, _, _, _, _, _, _, _, l5⟩ := hh.blk g b hg
 have hm := hle.m g l0
 rw [hm] at k1 k2 k3 k4 k5
 refine ⟨l0, c0, e0, f0, k1, k2, k3, k4, fun o v hv => ?_⟩
 obtain ⟨q1, q2, _⟩ := l5 o v hv
 obtain ⟨_, _, q3⟩ := k5 o v hv
 exact ⟨q1, q2, by rw [V.real_le hle v q1] at q3; exact q3⟩
end Go.Vm
namespace Go.Vm
open Go.RowKit
theorem JdO {α β : Type} {f : α → Option β} : ∀ (l : List α) (r : List β), JaV f l = some r → r.length = l.length ∧ ∀ (i : Nat) (x : α), l[i]? = some x → ∃ y, r[i]? = some y ∧ f x = some y
 | [], r, h => by simp only [JaV, Option.some.injEq] at h; subst h; simp
 | x :: l, r, h => by
  simp only [JaV] at h
  cases h1 : f x with
  | none => simp [h1] at h
  | some y =>
   cases h2 : JaV f l with
   | none => simp [h1, h2] at h
   | some ys =>
    simp only [h1, h2, Option.some.injEq] at h
    subst h
    obtain ⟨q1, q2⟩ := JdO l ys h2
    refine ⟨by simp [q1], fun i z hz => ?_⟩
    cases i with
    | zero => simp only [List.getElem?_cons_zero, Option.some.injEq] at hz; subst hz; exact ⟨y, by simp, h1⟩
    | succ i => simp only [List.getElem?_cons_succ] at hz; obtain ⟨y', a1, a2⟩ := q2 i z hz; exact ⟨y', by simpa using a1, a2⟩
theorem ZeG {α β γ : Type} {f : α → Option β} {g : β → γ} {k : α → γ} (hk : ∀ x y, f x = some y → g y = k x) : ∀ (l : List α) (r : List β), JaV f l = some r → r.map g = l.map k
 | [], r, h => by simp only [JaV, Option.some.injEq] at h; subst h; simp
 | x :: l, r, h => by
  simp only [JaV] at h
  cases h1 : f x with
  | none => simp [h1] at h
  | some y =>
   cases h2 : JaV f l with
   | none => simp [h1, h2] at h
   | some ys =>
    simp only [h1, h2, Option.some.injEq] at h
    subst h
    simp [hk x y h1, ZeG hk l ys h2]
theorem JeG {α β : Type} {f : α → Option β} {p : β → Prop} (hk : ∀ x y, f x = some y → p y) : ∀ (l : List α) (r : List β), JaV f l = some r → ∀ y ∈ r, p y
 | [], r, h => by simp only [JaV, Option.some.injEq] at h; subst h; simp
 | x :: l, r, h => by
  simp only [JaV] at h
  cases h1 : f x with
  | none => simp [h1] at h
  | some y =>
   cases h2 : JaV f l with
   | none => simp [h1, h2] at h
   | some ys =>
    simp only [h1, h2, Option.some.injEq] at h
    subst h
    intro z hz
    rcases List.mem_cons.1 hz with rfl | hz
    ·exact hk x _ h1
    ·exact JeG hk l ys h2 z hz
theorem V.str_real (J : Inj) (l : List UInt8) : (V.str l).real J = .string ⟨l.toArray⟩ := by simp [V.str, V.real, zF]
theorem V.str_ok (n : Nat) (l : List UInt8) : (V.str l).ok n := by simp only [V.str, V.ok]; exact Zdn l
theorem zeH (J : Inj) (n : Nat) : ∀ (d : Nat) (x : Value) (v : V), ofV d x = some v → v.real J = x ∧ v.ok n := by
 intro d
 induction d with
 | zero => intro x v h; simp [ofV] at h
 | succ d ih =>
  have lst : ∀ (cs : Array Value) (r : List V), JaV (ofV d) cs.toList = some r → (V.reals J r).toArray = cs ∧ V.oks n r := by
   intro cs r h
   refine ⟨?_, ?_⟩
   ·rw [V.reals_eq, ZeG (g := V.real J) (k := id) (fun x y hxy => (ih x y hxy).1) _ _ h]; simp
   ·rw [V.oks_iff]; exact JeG (fun x y hxy => (ih x y hxy).2) _ _ h
  intro x v h
  unfold ofV at h
  split at h
  ·simp at *
  ·simp only [Option.some.injEq] at h; subst h; simp [V.real, V.ok]
  ·simp only [Option.some.injEq] at h; subst h; simp [V.real, V.ok]
  ·rename_i s _
   simp only [Option.some.injEq] at h; subst h; exact ⟨by rw [V.str_real], V.str_ok _ _⟩
  ·simp only [Option.some.injEq] at h; subst h; simp [V.real, V.ok]
  ·simp only [Option.some.injEq] at h; subst h; simp [V.real, V.ok]
  ·simp only [Option.some.injEq] at h; subst h; simp [V.real, V.ok]
  ·simp only [Option.some.injEq] at h; subst h; simp [V.real, V.ok]
  ·rename_i d' cs e
   simp only [Nat.succ_eq_add_one, Nat.add_right_cancel_iff] at e
   subst e
   rw [Option.map_eq_some_iff] at h
   obtain ⟨r, hr, rfl⟩ := h
   obtain ⟨q1, q2⟩ := lst cs r hr
   simp only [V.real, V.ok, q1]; exact ⟨trivial, q2⟩
  ·rename_i d' cs e
   simp only [Nat.succ_eq_add_one, Nat.add_right_cancel_iff] at e
   subst e
   rw [Option.map_eq_some_iff] at h
   obtain ⟨r, hr, rfl⟩ := h
   obtain ⟨q1, q2⟩ := lst cs r hr
   simp only [V.real, V.ok, q1]; exact ⟨trivial, q2⟩
  ·rename_i d' fn xs ys e
   simp only [Nat.succ_eq_add_one, Nat.add_right_cancel_iff] at e
   subst e
   cases h1 : JaV (ofV d) xs.toList with
   | none => simp [h1] at h
   | some r1 =>
    cases h2 : JaV (ofV d) ys.toList with
    | none => simp [h1, h2] at h
    | some r2 =>
     simp only [h1, h2, Option.some.injEq] at h
     subst h
     obtain ⟨q1, q2⟩ := lst xs r1 h1
     obtain ⟨q3, q4⟩ := lst ys r2 h2
     simp only [V.real, V.ok, q1, q3]; exact ⟨trivial, q2, q4⟩
  ·simp at h
section
variable {P : Program} {J : Inj} (w : World)
theorem jdf {t : TypeId} {d : TypeDesc} (h : P.underlying t = some d) : (isAgg t).run P w = .ok (JaE P t) w := by
 unfold isAgg JaE
 simp only [Sem.run_bind, run_underlying h, Result.andThen_ok, h]
 cases d <;> rfl
theorem Zaz {t : TypeId} {cs : List V} {off : Nat} {v : V} (h : zbw P t cs off = some v) :
  (part t (cs.map (V.real J)).toArray off).run P w = .ok (v.real J) w := by
 unfold zbw at h
 split at h
 ·rename_i ti d hi hd
  unfold part
  simp only [Sem.run_bind, jdf w hd, Result.andThen_ok, Sem.run_ite]
  cases hb : JaE P t with
  | true =>
   simp only [hb, cond_true, Option.some.injEq] at h
   subst h
   simp [sizeOf, typeInfo, hi, V.real, V.reals_eq, List.map_take, List.map_drop]
  | false =>
   simp only [hb, cond_false] at h
   simp [h]
 ·simp at h
theorem Jbo {n : Nat} {t : TypeId} {cs : List V} {off : Nat} {v : V} (h : zbw P t cs off = some v) (hc : ∀ c ∈ cs, c.ok n) : v.ok n := by
 unfold zbw at h
 split at h
 ·cases hb : JaE P t with
  | true =>
   simp only [hb, cond_true, Option.some.injEq] at h
   subst h
   simp only [V.ok, V.oks_iff]
   exact fun c hx => hc c (List.mem_of_mem_drop (List.mem_of_mem_take hx))
  | false =>
   simp only [hb, cond_false] at h
   exact hc v (List.mem_of_getElem? h)
 ·simp at h
theorem Jfe (l m x y : Nat) (hx : x < 256 ^ l) (hy : y < 256 ^ m) : ((⟨(Zc l x).toArray⟩ : ByteArray).toList == (⟨(Zc m y).toArray⟩ : ByteArray).toList) = (Nat.beq l m && Nat.beq x y) := by
 rw [ByteArray.toList_mk, ByteArray.toList_mk, jbB _ _ _ _ hx hy]
theorem ZaJ {D : Nat} {eq : TypeId → V → V → Option Bool} {n : Nat} {xs ys : List V} (hxs : ∀ c ∈ xs, c.ok n) (hys : ∀ c ∈ ys, c.ok n)
  (he : ∀ t x y r, x.ok n → y.ok n → eq t x y = some r → (Op.equalIn D t (x.real J) (y.real J)).run P w = .ok r w) :
  ∀ (fs : List Field) (r : Bool), Zaq P eq xs ys fs = some r → (Op.eqFields D (xs.map (V.real J)).toArray (ys.map (V.real J)).toArray fs).run P w = .ok r w
 | [], r, h => by simp only [Zaq, Option.some.injEq] at h; subst h; simp [Op.eqFields]
 | f :: fs, r, h => by
  simp only [Zaq] at h
  unfold Op.eqFields
  cases hn : f.name == "_" with
  | true =>
   simp only [hn, cond_true] at h
   have : f.name = "_" := by simpa using hn
   simp only [this, ne_eq, not_true, if_false]
   exact ZaJ hxs hys he fs r h
  | false =>
   simp only [hn, cond_false] at h
   have : ¬ f.name = "_" := by simpa using hn
   simp only [ne_eq, this, not_false_eq_true, if_true]
   cases h1 : zbw P f.type xs f.offset with
   | none => simp [h1] at h
   | some x =>
    cases h2 : zbw P f.type ys f.offset with
    | none => simp [h1, h2] at h
    | some y =>
     simp only [h1, h2] at h
     cases h3 : eq f.type x y with
     | none => simp [h3] at h
     | some q =>
      have := he f.type x y q (Jbo h1 hxs) (Jbo h2 hys) h3
      simp only [Sem.run_bind, Zaz w h1, Zaz w h2, Result.andThen_ok, this, Sem.run_ite]
      cases q with
      | true => simp only [h3] at h; simpa using ZaJ hxs hys he fs r h
      | false => simp only [h3, Option.some.injEq] at h; subst h; simp
theorem ZcB {D : Nat} {eq : TypeId → V → V → Option Bool} {n : Nat} {t : TypeId} {sz : Nat} {xs ys : List V} (hxs : ∀ c ∈ xs, c.ok n) (hys : ∀ c ∈ ys, c.ok n)
  (he : ∀ t x y r, x.ok n → y.ok n → eq t x y = some r → (Op.equalIn D t (x.real J) (y.real J)).run P w = .ok r w) :
  ∀ (m i : Nat) (r : Bool), zaW P eq t sz xs ys i m = some r →
   (forIn (List.range' i m 1) ((none, PUnit.unit) : Option Bool × PUnit) fun i (_ : Option Bool × PUnit) => do
     if (!(← Op.equalIn D t (← part t (xs.map (V.real J)).toArray (i * sz)) (← part t (ys.map (V.real J)).toArray (i * sz)))) = true then pure (ForInStep.done ((some false, PUnit.unit) : Option Bool × PUnit))
     else pure (ForInStep.yield ((none, PUnit.unit) : Option Bool × PUnit)) : Sem (Option Bool × PUnit)).run P w = .ok (cond r none (some false), PUnit.unit) w
 | 0, i, r, h => by simp only [zaW, Option.some.injEq] at h; subst h; simp
 | m + 1, i, r, h => by
  simp only [zaW] at h
  cases h1 : zbw P t xs (i * sz) with
  | none => simp [h1] at h
  | some x =>
   cases h2 : zbw P t ys (i * sz) with
   | none => simp [h1, h2] at h
   | some y =>
    simp only [h1, h2] at h
    cases h3 : eq t x y with
    | none => simp [h3] at h
    | some q =>
     have := he t x y q (Jbo h1 hxs) (Jbo h2 hys) h3
     rw [List.range'_succ, List.forIn_cons]
     simp only [Sem.run_bind, Zaz w h1, Zaz w h2, Result.andThen_ok, this, Sem.run_ite]
     cases q with
     | true =>
      simp only [h3] at h
      have := ZcB hxs hys he m (i + 1) r h
      simpa using this
     | false => simp only [h3, Option.some.injEq] at h; subst h; simp
theorem jeH {n : Nat} : ∀ (d D : Nat) (t : TypeId) (x y : V) (r : Bool), d ≤ D → x.ok n → y.ok n → veq P d t x y = some r →
  (Op.equalIn D t (x.real J) (y.real J)).run P w = .ok r w := by
 intro d
 induction d with
 | zero => intro D t x y r _ _ _ h; simp [veq] at h
 | succ d ih =>
  intro D t x y r hD hx hy h
  obtain ⟨D, rfl⟩ : ∃ k, D = k + 1 := ⟨D - 1, by omega⟩
  unfold veq at h
  split at h
  ·rename_i a b e; simp only [Option.some.injEq] at h; subst h; simp only [V.real]; exact run_equalIn_bool w D t a b e
  ·rename_i k a k' b e
   cases hk : decide (k = k') with
   | false => simp [hk] at h
   | true =>
    simp only [hk, cond_true, Option.some.injEq] at h
    subst h
    have := of_decide_eq_true hk
    subst this
    simp only [V.real]; exact run_equalIn_int w D t k _ a b e
  ·rename_i e
   simp only [Option.some.injEq] at h; subst h
   simp only [V.ok] at hx hy
   simp only [V.real]; rw [run_equalIn_string w D t _ _ e, Jfe _ _ _ _ hx hy]
  ·rename_i e; simp only [Option.some.injEq] at h; subst h; simp [V.real, Op.equalIn, run_underlying e]
  ·rename_i e; simp only [Option.some.injEq] at h; subst h; simp [V.real, Op.equalIn, run_underlying e]
  ·rename_i e; simp only [Option.some.injEq] at h; subst h; simp [V.real, Op.equalIn, run_underlying e]
  ·rename_i e; simp only [Option.some.injEq] at h; subst h; simp [V.real, Op.equalIn, run_underlying e]
  ·rename_i e; simp only [Option.some.injEq] at h; subst h; simp [V.real, Op.equalIn, run_underlying e]
  ·rename_i e; simp only [Option.some.injEq] at h; subst h; simp [V.real, Op.equalIn, run_underlying e]
  ·rename_i e; simp only [Option.some.injEq] at h; subst h; simp [V.real, Op.equalIn, run_underlying e]
  ·rename_i e; simp only [Option.some.injEq] at h; subst h; simp [V.real, Op.equalIn, run_underlying e]
  ·rename_i e; simp only [Option.some.injEq] at h; subst h; simp [V.real, Op.equalIn, run_underlying e]
  ·rename_i e; simp only [Option.some.injEq] at h; subst h; simp [V.real, Op.equalIn, run_underlying e]
  ·rename_i e; simp only [Option.some.injEq] at h; subst h; simp [V.real, Op.equalIn, run_underlying e]
  ·rename_i e; simp only [Option.some.injEq] at h; subst h; simp [V.real, Op.equalIn, run_underlying e]
  ·rename_i e; simp only [Option.some.injEq] at h; subst h; simp [V.real, Op.equalIn, run_underlying e]
  ·rename_i fs xs ys e
   cases hs : P.stoodInHeld t with
   | true => simp [hs] at h
   | false =>
    simp only [hs, cond_false] at h
    have hf : P.fieldsOf t = fs := by simp [Program.fieldsOf, e]
    simp only [V.real, V.reals_eq]
    rw [run_equalIn_struct w D t _ _ (by rw [hf]; exact e) hs, hf]
    simp only [V.ok, V.oks_iff] at hx hy
    exact ZaJ w hx hy (fun t x y r h1 h2 h3 => ih D t x y r (by omega) h1 h2 h3) _ _ h
  ·rename_i len el xs ys e
   cases hi : P.info? el with
   | none => simp [hi] at h
   | some ti =>
    simp only [hi] at h
    simp only [V.ok, V.oks_iff] at hx hy
    have := ZcB w hx hy (fun t x y r h1 h2 h3 => ih D t x y r (by omega) h1 h2 h3) len 0 r h
    simp only [V.real, V.reals_eq, Op.equalIn, Sem.run_bind, run_underlying e, Result.andThen_ok, sizeOf, typeInfo, run_program, hi, Sem.run_pure, Std.Legacy.Range.forIn_eq_forIn_range', Std.Legacy.Range.size]
    simp only [Nat.sub_zero, Nat.add_sub_cancel, Nat.div_one] at this ⊢
    rw [this]
    cases r <;> rfl
  ·simp at h
end
end Go.Vm
namespace Go.Vm
open Go.RowKit
section
variable {P : Program} {J : Inj} (w : World)
theorem zff {op : BinOp} {k : IntKind} {a b : Int} {v : V} {t : TypeId} (h1 : op ≠ .shl) (h2 : op ≠ .shr) (h : Jfc op k a b = some v) :
  (binOp op t (.int k a) (.int k b)).run P w = .ok (v.real J) w ∧ ∀ n, v.ok n := by
 cases op <;> simp only [Jfc, zfW] at h
 case quo =>
  by_cases hb : b = 0
  ·simp [hb] at h
  ·simp only [hb, decide_false, cond_false, Option.some.injEq] at h
   subst h
   simp [binOp, Op.intDiv, hb, V.real, V.ok]
 case rem =>
  by_cases hb : b = 0
  ·simp [hb] at h
  ·simp only [hb, decide_false, cond_false, Option.some.injEq] at h
   subst h
   simp [binOp, Op.intDiv, hb, V.real, V.ok]
 all_goals first
  | (simp only [Option.some.injEq] at h; subst h; simp [binOp, Op.intArith, Op.intBits, Op.intCmp, V.real, V.ok, ilt, ile]; done)
  | (simp only [Option.some.injEq] at h; subst h; constructor <;> simp [binOp, Op.intArith, Op.intBits, Op.intCmp, V.real, V.ok, ilt, ile] <;> rfl)
  | simp_all
theorem JcB {op : BinOp} {k yk : IntKind} {a b : Int} {v : V} {t : TypeId} (h : JdN op k a b = some v) :
  (binOp op t (.int k a) (.int yk b)).run P w = .ok (v.real J) w ∧ ∀ n, v.ok n := by
 cases op <;> simp only [JdN] at h
 case shl =>
  by_cases hb : b < 0
  ·simp [ilt, hb] at h
  ·simp only [ilt, hb, decide_false, cond_false, Option.some.injEq] at h
   subst h
   simp [binOp, Op.shift, hb, V.real, V.ok]
 case shr =>
  by_cases hb : b < 0
  ·simp [ilt, hb] at h
  ·simp only [ilt, hb, decide_false, cond_false, Option.some.injEq] at h
   subst h
   simp [binOp, Op.shift, hb, V.real, V.ok]
 all_goals simp at h
theorem Jdn (a b : List UInt8) : (⟨a.toArray⟩ : ByteArray) ++ ⟨b.toArray⟩ = ⟨(a ++ b).toArray⟩ := by
 apply ByteArray.ext
 simp
theorem jff {op : BinOp} {l x m y : Nat} {v : V} {t : TypeId} (hx : x < 256 ^ l) (hy : y < 256 ^ m) (h : Zg0 op l x m y = some v) :
  (binOp op t ((V.s l x).real J) ((V.s m y).real J)).run P w = .ok (v.real J) w ∧ ∀ n, v.ok n := by
 have hs : ∀ n x, (⟨(Zc n x).toArray⟩ : ByteArray).size = n := fun n x => by simp [ByteArray.size, Ji]
 cases op <;> simp only [Zg0] at h
 case add =>
  cases hb : Nat.ble (l + m) 1099511627776 with
  | false => simp [hb] at h
  | true =>
   simp only [hb, cond_true, Option.some.injEq] at h
   rw [Nat.ble_eq] at hb
   subst h
   refine ⟨?_, fun n => by simp only [JgV, V.ok]; exact zg1 l m x y hx hy⟩
   have : ¬ (((l + m : Nat) : Int) > IntKind.i64.max) := by simp; omega
   simp only [V.real, binOp, Op.stringOp, hs, this, if_false, Sem.run_pure, JgV, zei l m x y hx, Jdn]
 all_goals first
  | (simp only [Option.some.injEq] at h; subst h; constructor <;> simp [V.real, binOp, Op.stringOp, V.ok, ByteArray.toList_mk, jbB _ _ _ _ hx hy]; done)
  | simp at h
theorem zcC {n : Nat} {t : TypeId} {x y : V} {r : Bool} (hx : x.ok n) (hy : y.ok n) (h : zba P t x y = some r) :
  (Op.equal t (x.real J) (y.real J)).run P w = .ok r w ∧ ∀ (op : BinOp) (a b : Operand), (eqGuard op t a b (x.real J) (y.real J)).run P w = .ok () w := by
 unfold zba at h
 split at h
 ·rename_i xs ys
  cases hg : P.eqGuardType P.depth t with
  | true => simp [hg] at h
  | false =>
   simp only [hg, cond_false] at h
   exact ⟨jeH w 60 Op.maxDepth t _ _ r (by decide) hx hy h, fun op a b => by simp only [V.real]; exact run_eqGuard_agg w op t a b _ _ hg⟩
 ·simp at h
 ·rename_i h1 h2
  refine ⟨jeH w 60 Op.maxDepth t _ _ r (by decide) hx hy h, fun op a b => ?_⟩
  have : eqGuard op t a b (x.real J) (y.real J) = pure () := by
   unfold eqGuard
   cases x <;> cases y <;> simp only [V.real] <;> first
    | rfl
    | (cases op <;> rfl)
    | (exact absurd rfl (h1 _ _ rfl))
    | (exact absurd rfl (h2 rfl))
    | (exact (h1 _ _ rfl rfl).elim)
    | (exact (h2 rfl rfl).elim)
  rw [this]; rfl
theorem Zff {t : TypeId} {x y : V} (h1 : ∀ k a k' b, x = .i k a → y = .i k' b → False) (h2 : ∀ l a m b, x = .s l a → y = .s m b → False) :
  binOp .eql t (x.real J) (y.real J) = (do pure (.bool (← Op.equal t (x.real J) (y.real J)))) := by
 cases x <;> cases y <;> first
  | (exact (h1 _ _ _ _ rfl rfl).elim)
  | (exact (h2 _ _ _ _ rfl rfl).elim)
  | (simp only [V.real, binOp]; done)
  | (simp only [V.real]; unfold binOp; rfl)
theorem Jff {t : TypeId} {x y : V} (h1 : ∀ k a k' b, x = .i k a → y = .i k' b → False) (h2 : ∀ l a m b, x = .s l a → y = .s m b → False) :
  binOp .neq t (x.real J) (y.real J) = (do pure (.bool (!(← Op.equal t (x.real J) (y.real J))))) := by
 cases x <;> cases y <;> first
  | (exact (h1 _ _ _ _ rfl rfl).elim)
  | (exact (h2 _ _ _ _ rfl rfl).elim)
  | (simp only [V.real, binOp]; done)
  | (simp only [V.real]; unfold binOp; rfl)
theorem zdP {n : Nat} {op : BinOp} {t : TypeId} {x y : V} {v : V} (a b : Operand) (hx : x.ok n) (hy : y.ok n) (h : jb3 P op t x y = some v) :
  (do eqGuard op t a b (x.real J) (y.real J); binOp op t (x.real J) (y.real J) : Sem Value).run P w = .ok (v.real J) w ∧ v.ok n := by
 unfold jb3 at h
 split at h
 ·rename_i k p k' q
  simp only [V.real, eqGuard_at_int]
  split at h
  ·obtain ⟨q1, q2⟩ := JcB (P := P) (J := J) w (t := t) (yk := k') h
   exact ⟨by simpa using q1, q2 n⟩
  ·obtain ⟨q1, q2⟩ := JcB (P := P) (J := J) w (t := t) (yk := k') h
   exact ⟨by simpa using q1, q2 n⟩
  ·rename_i h1 h2
   by_cases hk : k = k'
   ·subst hk
    simp only [decide_true, cond_true] at h
    obtain ⟨q1, q2⟩ := zff (P := P) (J := J) w (t := t) (fun e => h1 e) (fun e => h2 e) h
    exact ⟨by simpa using q1, q2 n⟩
   ·simp [hk] at h
 ·rename_i l p m q
  simp only [V.ok] at hx hy
  obtain ⟨q1, q2⟩ := jff (P := P) (J := J) w (t := t) hx hy h
  have : eqGuard op t a b ((V.s l p).real J) ((V.s m q).real J) = pure () := by simp only [V.real, eqGuard_at_string]
  rw [this]
  exact ⟨by simpa using q1, q2 n⟩
 ·rename_i h1 h2
  split at h
  ·cases he : zba P t x y with
   | none => simp [he] at h
   | some r =>
    simp only [he, Option.some.injEq] at h
    subst h
    obtain ⟨q1, q2⟩ := zcC (J := J) w hx hy he
    rw [Zff (fun k a k' b e1 e2 => h1 k a k' b e1 e2) (fun k a k' b e1 e2 => h2 k a k' b e1 e2)]
    simp [q1, q2, V.real, V.ok]
  ·cases he : zba P t x y with
   | none => simp [he] at h
   | some r =>
    simp only [he, Option.some.injEq] at h
    subst h
    obtain ⟨q1, q2⟩ := zcC (J := J) w hx hy he
    rw [Jff (fun k a k' b e1 e2 => h1 k a k' b e1 e2) (fun k a k' b e1 e2 => h2 k a k' b e1 e2)]
    simp [q1, q2, V.real, V.ok]
  ·simp at h
theorem ZeH {op : UnOp} {x v : V} (h : vun op x = some v) : (Op.unary op (x.real J)).run P w = .ok (v.real J) w ∧ ∀ n, v.ok n := by
 unfold vun at h
 split at h
 ·simp only [Option.some.injEq] at h; subst h; simp [Op.unary, Op.intArith, V.real, V.ok]
 ·simp only [zfW, Option.some.injEq] at h; subst h; simp [Op.unary, Op.intBits, V.real, V.ok]
 ·simp only [Option.some.injEq] at h; subst h; simp [Op.unary, V.real, V.ok]
 ·simp at h
theorem JH {t : TypeId} {n : Nat} (h : jH P t = some n) : (sizeOf t).run P w = .ok n w := by
 unfold jH at h
 cases hi : P.info? t with
 | none => simp [hi] at h
 | some ti => simp only [hi, Option.some.injEq] at h; subst h; simp [sizeOf, typeInfo, hi]
theorem jcC {n : Nat} {t : TypeId} {x v : V} {k : IntKind} {i : Int} (hx : x.ok n) (h : za7 P t x i = some v) :
  (Instr.index t (x.real J) (.int k i)).run P w = .ok (v.real J) w ∧ v.ok n := by
 unfold za7 at h
 split at h
 ·rename_i len bits e
  simp only [V.ok] at hx
  cases hb : (ile 0 i && ilt i len) with
  | false => simp [hb] at h
  | true =>
   simp only [hb, cond_true, Option.some.injEq] at h
   simp only [ile, ilt, Bool.and_eq_true, decide_eq_true_eq] at hb
   subst h
   have hs : (⟨(Zc len bits).toArray⟩ : ByteArray).size = len := by simp [ByteArray.size, Ji]
   simp only [V.real]
   rw [run_index_string w t _ k i e, dif_pos (by rw [hs]; exact hb)]
   refine ⟨?_, by simp [V.ok]⟩
   have hg := jcB len bits i.toNat (by omega)
   have : ((⟨(Zc len bits).toArray⟩ : ByteArray)[i.toNat]'(by rw [hs]; omega)) = UInt8.ofNat (Zby bits i.toNat) := by
    have h2 : i.toNat < (Zc len bits).length := by rw [Ji]; omega
    rw [List.getElem?_eq_getElem h2, Option.some.injEq] at hg
    rw [← hg]; rfl
   rw [this]
   have := ZdO bits i.toNat
   simp; omega
 ·rename_i len el cs e
  cases hn : jH P el with
  | none => simp [hn] at h
  | some sz =>
   simp only [hn] at h
   cases hb : (ile 0 i && ilt i len) with
   | false => simp [hb] at h
   | true =>
    simp only [hb, cond_true] at h
    simp only [ile, ilt, Bool.and_eq_true, decide_eq_true_eq] at hb
    simp only [V.ok, V.oks_iff] at hx
    refine ⟨?_, Jbo h hx⟩
    simp only [V.real, V.reals_eq, Instr.index, Sem.run_bind, asIntOf, Sem.run_pure, Result.andThen_ok, run_underlying e, Sem.run_ite, hb, and_self, if_true, JH w hn, Zaz w h]
 ·simp at h
theorem ZcC {n : Nat} {t : TypeId} {x v : V} {f : Nat} (hx : x.ok n) (h : zcj P t x f = some v) :
  (Instr.field t (x.real J) f).run P w = .ok (v.real J) w ∧ v.ok n := by
 unfold zcj at h
 split at h
 ·rename_i fs cs e
  cases hf : fs[f]? with
  | none => simp [hf] at h
  | some fd =>
   simp only [hf] at h
   simp only [V.ok, V.oks_iff] at hx
   refine ⟨?_, Jbo h hx⟩
   simp only [V.real, V.reals_eq, Instr.field, Sem.run_bind, run_underlying e, Result.andThen_ok, hf, asAgg, Sem.run_pure, Zaz w h]
 ·simp at h
theorem jba {n : Nat} {t : TypeId} {g off f : Nat} {v : V} (hx : g < n) (h : Z8 P t g off f = some v) :
  (Instr.fieldAt t ((V.p g off).real J) f).run P w = .ok (v.real J) w ∧ v.ok n := by
 unfold Z8 at h
 split at h
 ·rename_i fs e
  cases hf : fs[f]? with
  | none => simp [hf] at h
  | some fd =>
   simp only [hf] at h
   cases hn : jH P fd.type with
   | none => simp [hn] at h
   | some sz =>
    simp only [hn] at h
    cases hb : Nat.blt 0 sz with
    | false => simp [hb] at h
    | true =>
     simp only [hb, cond_true, Option.some.injEq] at h
     rw [Nat.blt_eq] at hb
     subst h
     refine ⟨?_, by simp only [V.ok]; exact hx⟩
     simp only [V.real, Instr.fieldAt, Sem.run_bind, run_underlying e, Result.andThen_ok, hf, Instr.sureAddr, Sem.run_pure, fieldPlace, JH w hn, Sem.run_ite, if_neg (show ¬ sz = 0 by omega), Addr.add_lit, Nat.add_assoc]
 ·simp at h
theorem Zba {n : Nat} {t : TypeId} {x v : V} {k : IntKind} {i : Int} (hx : x.ok n) (h : JG P t x i = some v) :
  (Instr.indexAt t (x.real J) (.int k i)).run P w = .ok (v.real J) w ∧ v.ok n := by
 unfold JG at h
 split at h
 ·rename_i el g off len cap op e
  cases hn : jH P el with
  | none => simp [hn] at h
  | some sz =>
   simp only [hn] at h
   cases hb : (ile 0 i && ilt i len) with
   | false => simp [hb] at h
   | true =>
    simp only [hb, cond_true, Option.some.injEq] at h
    simp only [ile, ilt, Bool.and_eq_true, decide_eq_true_eq] at hb
    subst h
    simp only [V.ok] at hx
    refine ⟨?_, by simp only [V.ok]; exact hx.1⟩
    simp only [V.real, Instr.indexAt, Sem.run_bind, asIntOf, Sem.run_pure, Result.andThen_ok, run_underlying e, Sem.run_ite, hb, and_self, if_true, JH w hn, Addr.add_lit, Nat.add_assoc]
 ·rename_i len el g off e
  cases hn : jH P el with
  | none => simp [hn] at h
  | some sz =>
   simp only [hn] at h
   cases hb : (ile 0 i && ilt i len) with
   | false => simp [hb] at h
   | true =>
    simp only [hb, cond_true, Option.some.injEq] at h
    simp only [ile, ilt, Bool.and_eq_true, decide_eq_true_eq] at hb
    subst h
    simp only [V.ok] at hx
    refine ⟨?_, by simp only [V.ok]; exact hx⟩
    simp only [V.real, Instr.indexAt, Sem.run_bind, asIntOf, Sem.run_pure, Result.andThen_ok, run_underlying e, Sem.run_ite, hb, and_self, if_true, JH w hn, Addr.add_lit, Nat.add_assoc, Instr.sureAddr]
 ·simp at h
end
end Go.Vm
namespace Go.Vm
open Go.RowKit
structure Ext (a b : St) : Prop where
 nx : a.nx ≤ b.nx
 ver : b.ver ≤ a.ver
 hp : ∀ g x, a.hp.get g = some x → g < b.ver → b.hp.get g = some x
theorem Ext.refl (a : St) : Ext a a := ⟨Nat.le_refl _, Nat.le_refl _, fun _ _ h _ => h⟩
theorem Ext.trans {a b c : St} (h : Ext a b) (k : Ext b c) : Ext a c :=
 ⟨Nat.le_trans h.nx k.nx, Nat.le_trans k.ver h.ver, fun g x hx hg => k.hp g x (h.hp g x hx (Nat.lt_of_lt_of_le hg k.ver)) hg⟩
theorem jbO (a b : Nat) : low a b ≤ a := by
 unfold low
 cases e : Nat.ble a b with
 | true => simp
 | false =>
  have : ¬ a ≤ b := by intro q; rw [← Nat.ble_eq] at q; rw [q] at e; cases e
  simp; omega
theorem ZbO (a b : Nat) : low a b ≤ b := by
 unfold low
 cases e : Nat.ble a b with
 | true => rw [Nat.ble_eq] at e; simp [e]
 | false => simp
theorem St.write_eq (st : St) (id : Nat) (b : Blk) : st.write id b = ⟨st.nx, st.hp.upd id (some b), low st.ver id⟩ := by unfold St.write; rw [jh]
theorem St.kill_eq (st : St) (id : Nat) : st.kill id = ⟨st.nx, st.hp.upd id none, low st.ver id⟩ := by unfold St.kill; rw [jh]
theorem Ext.write (st : St) (g : Nat) (b : Blk) : Ext st (st.write g b) := by
 rw [St.write_eq]
 refine ⟨Nat.le_refl _, jbO _ _, fun k x hx hk => ?_⟩
 dsimp only at hk ⊢
 have := ZbO st.ver g
 rw [T.get_upd, if_neg (by omega)]; exact hx
def Jgm (J : Inj) (h : Nat → Option Blk) (i : Nat) : Prop := ∀ g b, h g = some b → (J.m g).1 ≠ i
def Fr (J : Inj) (h : Nat → Option Blk) (w : World) (J' : Inj) (h' : Nat → Option Blk) (w' : World) : Prop := ∀ i, i < w.heap.size → Jgm J h i → w'.heap[i]? = w.heap[i]? ∧ Jgm J' h' i
theorem Fr.trans {J J1 J2 : Inj} {a b c : Nat → Option Blk} {w w1 w2 : World} (h : Fr J a w J1 b w1) (k : Fr J1 b w1 J2 c w2) (hs : w.heap.size ≤ w1.heap.size) : Fr J a w J2 c w2 := fun i hi hf => by
 obtain ⟨p1, p2⟩ := h i hi hf
 obtain ⟨q1, q2⟩ := k i (Nat.lt_of_lt_of_le hi hs) p2
 exact ⟨q1.trans p1, q2⟩
theorem Fr.same {J : Inj} {h : Nat → Option Blk} {w w' : World} (e : ∀ i, i < w.heap.size → w'.heap[i]? = w.heap[i]?) : Fr J h w J h w' := fun i hi hf => ⟨e i hi, hf⟩
theorem Fr.write {J : Inj} {st : St} {w w' : World} {g : Nat} {b b' : Blk} (hg : st.hp.get g = some b) (e : ∀ k, k ≠ (J.m g).1 → w'.heap[k]? = w.heap[k]?) : Fr J st.hp.get w J (st.write g b').hp.get w' := fun i hi hf => ⟨e i (fun q => hf g b hg q.symm), fun k bk hk => by
 rw [St.write_eq] at hk
 dsimp only at hk
 rw [T.get_upd] at hk
 by_cases e1 : k = g
 ·subst e1; exact hf k b hg
 ·rw [if_neg e1] at hk; exact hf k bk hk⟩
theorem Fr.push {J : Inj} {h h0 h' : Nat → Option Blk} {w w' : World} (hless : ∀ g b, h0 g = some b → h g = some b) (hlt : ∀ g b, h g = some b → g < J.nx) {r d x : Nat} (hr : w.heap.size ≤ r ∨ ∃ g b, h g = some b ∧ (J.m g).1 = r)
  (hh' : ∀ k b, h' k = some b → k = J.nx ∨ h0 k = some b) (e : ∀ i, i < w.heap.size → Jgm J h i → w'.heap[i]? = w.heap[i]?) : Fr J h w (J.push (r, d, x)) h' w' := fun i hi hf => ⟨e i hi hf, fun k b hk => by
 rcases hh' k b hk with rfl | q
 ·rw [Inj.push_self]
  rcases hr with z | ⟨g, bg, z1, z2⟩
  ·show r ≠ i; omega
  ·intro z3; exact hf g bg z1 (z2.trans z3)
 ·have q1 := hless k b q
  rw [(J.le_push (r, d, x)).m k (hlt k b q1)]
  exact hf k b q1⟩
structure Post (J : Inj) (ro : Nat) (B : World) (st : St) (w : World) (J' : Inj) (st' : St) (w' : World) : Prop where
 le : J.le J'
 nx : J'.nx = st'.nx
 hr : HR J' ro B st'.hp.get w'
 below : Below B.heap.size w w'
 ext : Ext st st'
 ro : ro ≤ J'.nx
 fr : Fr J st.hp.get w J' st'.hp.get w'
theorem Post.refl {J : Inj} {ro : Nat} {B : World} {st : St} {w : World} (hn : J.nx = st.nx) (hh : HR J ro B st.hp.get w) (hro : ro ≤ J.nx) : Post J ro B st w J st w :=
 ⟨Inj.le.refl J, hn, hh, Below.refl _ _, Ext.refl _, hro, Fr.same fun _ _ => rfl⟩
theorem Post.trans {J J1 J2 : Inj} {ro : Nat} {B : World} {st st1 st2 : St} {w w1 w2 : World} (h : Post J ro B st w J1 st1 w1) (k : Post J1 ro B st1 w1 J2 st2 w2) : Post J ro B st w J2 st2 w2 :=
 ⟨h.le.trans k.le, k.nx, k.hr, h.below.trans k.below, h.ext.trans k.ext, k.ro, h.fr.trans k.fr h.below.size⟩
theorem Jae (t : T Blk) (i : Nat) (x : Option Blk) : (t.upd i x).get = fun k => if k = i then x else t.get k := by funext k; rw [T.get_upd]
theorem Ext.alloc {st : St} {J : Inj} {ro : Nat} {B : World} {w : World} (hn : J.nx = st.nx) (hh : HR J ro B st.hp.get w) (b : Blk) : Ext st (st.alloc b) := by
 refine ⟨Nat.le_succ _, Nat.le_refl _, fun g x hx _ => ?_⟩
 have := (hh.blk g x hx).1
 show (st.hp.upd st.nx (some b)).get g = some x
 rw [T.get_upd, if_neg (by omega)]; exact hx
theorem Fr.alloc {J : Inj} {ro : Nat} {B : World} {st : St} {w : World} {x : Nat} {c : Array Value} {e : TypeId} {fz : Nat × Nat} (hn : J.nx = st.nx) (hh : HR J ro B st.hp.get w) (b : Blk) : Fr J st.hp.get w (J.push (w.heap.size, 0, x)) (st.alloc b).hp.get (w.alloc (.cells c e fz)) := by
 refine Fr.push (h0 := st.hp.get) (fun _ _ q => q) (fun g b hg => (hh.blk g b hg).1) (.inl (Nat.le_refl _)) (fun k bk hk => ?_) (fun i hi _ => Below.heap_alloc _ _ _ hi)
 have hk : (st.hp.upd st.nx (some b)).get k = some bk := hk
 rw [T.get_upd] at hk
 by_cases e1 : k = st.nx
 ·exact .inl (e1.trans hn.symm)
 ·rw [if_neg e1] at hk; exact .inr hk
section
variable {P : Program} {J : Inj} {ro : Nat} {B : World} {st : St} {w : World}
theorem Zb3 (hn : J.nx = st.nx) (hh : HR J ro B st.hp.get w) (hro : ro ≤ J.nx) {b : Blk} {x : Nat} {c : Array Value} {e : TypeId} {fz : Nat × Nat}
  (h1 : b.sz ≤ c.size) (h2 : b.op = true → b.sz + x * b.es = c.size ∧ b.zero = []) (h3 : ∀ o, o < c.size + b.op.toNat → (decide (fz.1 ≤ o) && decide (o < fz.2)) = false ∧ fz.1 ≤ fz.2)
  (h4 : ∀ o v, b.get o = some v → v.ok J.nx ∧ v.atom = true ∧ c[o]? = some (v.real J)) :
  Post J ro B st w (J.push (w.heap.size, 0, x)) (st.alloc b) (w.alloc (.cells c e fz)) := by
 refine ⟨J.le_push _, by show J.nx + 1 = st.nx + 1; omega, ?_, (Below.refl B.heap.size w).alloc hh.base.size _, Ext.alloc hn hh b, Nat.le_succ_of_le hro, Fr.alloc hn hh (c := c) (e := e) (fz := fz) b⟩
 have := hh.alloc (b := b) (x := x) (c := c) (e := e) (fz := fz) h1 h2 h3 h4
 rw [hn] at this
 show HR _ ro B (st.hp.upd st.nx (some b)).get _
 rw [Jae]
 exact this
theorem JcC (hn : J.nx = st.nx) (hh : HR J ro B st.hp.get w) (hro : ro ≤ J.nx) {v x : V} {es : Nat} {st' : St} (t : TypeId) (hv : v.ok J.nx) (h : Jby st v es = some (x, st')) :
  ∃ J' w', (newVar t (v.real J)).run P w = .ok ⟨w.heap.size, 0, none⟩ w' ∧ x.real J' = .pointer (some ⟨w.heap.size, 0, none⟩) ∧ x.ok J'.nx ∧ Post J ro B st w J' st' w' := by
 unfold Jby at h
 cases hb : jaO v.cells es false with
 | none => simp [hb] at h
 | some b =>
  simp only [hb, jh, Option.some.injEq, Prod.mk.injEq] at h
  obtain ⟨rfl, rfl⟩ := h
  obtain ⟨q1, q2, q3, q4, q5, q6⟩ := ZB hb
  refine ⟨J.push (w.heap.size, 0, 0), w.alloc (.cells (v.cells.map (V.real J)).toArray t), ?_, ?_, ?_, ?_⟩
  ·simp [newVar, newRow, V.cells_real]
  ·rw [← hn]; simp [V.real, Inj.push_self]
  ·simp only [V.ok, Inj.push]; omega
  ·refine Zb3 hn hh hro (by simp [q1]) (by simp [q3]) (fun o _ => by simp) (fun o u hu => ?_)
   rw [q5] at hu
   have hm := List.mem_of_getElem? hu
   exact ⟨V.ok_cells hv u hm, q6 u hm, by simp [hu]⟩
theorem Jb3 (hn : J.nx = st.nx) (hh : HR J ro B st.hp.get w) {t : TypeId} {g off : Nat} {v : V} (h : J3 P st t g off = some v) :
  (Instr.loadAt t ((V.p g off).real J)).run P w = .ok (v.real J) w ∧ v.ok st.nx := by
 unfold J3 at h
 split at h
 ·rename_i b ti d hb hi hd
  have br := hh.blk g b hb
  simp only [V.real, Instr.loadAt, Instr.sureAddr, Sem.run_bind, Sem.run_pure, Result.andThen_ok, loadVar, jdf w hd, Sem.run_ite]
  cases ha : JaE P t with
  | true =>
   simp only [ha, cond_true] at h
   cases hr : b.row ti.size off with
   | none => simp [hr] at h
   | some cs =>
    simp only [hr, Option.some.injEq] at h
    subst h
    obtain ⟨q1, _, q3, _⟩ := br.row (P := P) hr
    refine ⟨?_, ?_⟩
    ·simp [sizeOf, typeInfo, hi, q1, V.real, V.reals_eq]
    ·simp only [V.ok, V.oks_iff]; rw [← hn]; exact q3
  | false =>
   simp only [ha, cond_false] at h
   obtain ⟨q1, q2, _⟩ := br.cell h
   exact ⟨by simp [q1], by rw [← hn]; exact q2⟩
 ·simp at h
theorem Zei (hn : J.nx = st.nx) (hh : HR J ro B st.hp.get w) (hro : ro ≤ J.nx) {t : TypeId} {g off : Nat} {v : V} {st' : St} (hv : v.ok J.nx) (h : jbN P ro st t g off v = some st') :
  ∃ w', (Instr.storeAt t ((V.p g off).real J) (v.real J)).run P w = .ok () w' ∧ Post J ro B st w J st' w' := by
 unfold jbN at h
 split at h
 ·rename_i b ti hb hi
  cases hc : (Nat.ble ro g && Nat.beq v.cells.length ti.size) with
  | false => simp [hc] at h
  | true =>
   simp only [hc, cond_true] at h
   simp only [Bool.and_eq_true, Nat.ble_eq, Nat.beq_eq] at hc
   cases hp : b.put v.cells off with
   | none => simp [hp] at h
   | some b' =>
    simp only [hp, Option.some.injEq] at h
    subst h
    obtain ⟨w', r1, r2, r3, r4⟩ := HR.put (P := P) v.cells hh (g := g) (o := off) (i := 0) hb hc.1 (by simpa using hp) (V.ok_cells hv)
    refine ⟨w', ?_, Inj.le.refl J, by rw [St.write_eq]; exact hn, ?_, r3, Ext.write _ _ _, hro, Fr.write hb r4⟩
    ·have hs : ¬ (v.real J).cells.size ≠ ti.size := by rw [V.cells_real]; simp [hc.2]
     simp only [V.real, Instr.storeAt, Instr.sureAddr, Sem.run_bind, Sem.run_pure, Result.andThen_ok, storeVar, sizeOf, typeInfo, run_program, hi, Sem.run_ite, if_neg hs]
     rw [V.cells_real]
     exact r1
    ·rw [St.write_eq]
     show HR J ro B (st.hp.upd g (some b')).get w'
     rw [Jae]; exact r2
 ·simp at h
theorem zcD (J : Inj) (off : Nat) : ∀ (vs : List V) (k : Nat) (cs : List V),
  ((vs.map (V.real J)).zipIdx k).foldl (fun (a : Array Value) (x : Value × Nat) => a.setIfInBounds (off + x.2) x.1) (cs.map (V.real J)).toArray = ((setAt cs (off + k) vs).map (V.real J)).toArray
 | [], k, cs => rfl
 | v :: r, k, cs => by
  simp only [List.map_cons, List.zipIdx_cons, List.foldl_cons, setAt]
  have : (cs.map (V.real J)).toArray.setIfInBounds (off + k) (v.real J) = ((cs.set (off + k) v).map (V.real J)).toArray := by
   apply Array.ext'
   simp [List.map_set]
  rw [this, zcD J off r (k + 1) _]
  rfl
theorem Zcj : ∀ (vs : List V) (cs : List V) (off : Nat), (setAt cs off vs).length = cs.length
 | [], _, _ => rfl
 | v :: r, cs, off => by simp [setAt, Zcj r]
theorem jdP {p : V → Prop} : ∀ (vs : List V) (cs : List V) (off : Nat), (∀ v ∈ vs, p v) → (∀ v ∈ cs, p v) → ∀ v ∈ setAt cs off vs, p v
 | [], _, _, _, h2 => h2
 | v :: r, cs, off, h1, h2 => by
  refine jdP r _ _ (fun x hx => h1 x (List.mem_cons_of_mem _ hx)) (fun x hx => ?_)
  rcases List.mem_or_eq_of_mem_set hx with h | rfl
  ·exact h2 x h
  ·exact h1 _ (List.mem_cons_self ..)
theorem zaP (J : Inj) (place : Nat → Option (Nat × Nat)) : ∀ (ps : List (Nat × V)) (cs r : List V), ZbN place cs ps = some r →
  Instr.fill place (cs.map (V.real J)).toArray (ps.map fun x => (x.1, x.2.real J)) = some (r.map (V.real J)).toArray ∧ r.length = cs.length ∧
  ∀ n, (∀ x ∈ ps, x.2.ok n) → (∀ v ∈ cs, v.ok n) → ∀ v ∈ r, v.ok n
 | [], cs, r, h => by simp only [ZbN, Option.some.injEq] at h; subst h; exact ⟨rfl, rfl, fun n _ h2 => h2⟩
 | (i, v) :: ps, cs, r, h => by
  simp only [ZbN] at h
  cases hp : place i with
  | none => simp [hp] at h
  | some q =>
   obtain ⟨off, size⟩ := q
   simp only [hp] at h
   cases hc : (Nat.beq v.cells.length size && Nat.ble (off + v.cells.length) cs.length) with
   | false => simp [hc] at h
   | true =>
    simp only [hc, cond_true] at h
    simp only [Bool.and_eq_true, Nat.beq_eq, Nat.ble_eq] at hc
    obtain ⟨q1, q2, q3⟩ := zaP J place ps _ r h
    have hz : (v.real J).cells.size = v.cells.length := by rw [V.cells_real]; simp
    refine ⟨?_, by rw [q2, Zcj], fun n h1 h2 => q3 n (fun x hx => h1 x (List.mem_cons_of_mem _ hx)) (jdP _ _ _ (V.ok_cells (h1 (i, v) (List.mem_cons_self ..))) h2)⟩
    simp only [List.map_cons, Instr.fill, hp]
    have hcond : ¬ ((decide ((v.real J).cells.size ≠ size) || decide (off + (v.real J).cells.size > (cs.map (V.real J)).toArray.size)) = true) := by
     rw [hz]
     simp only [Bool.or_eq_true, decide_eq_true_eq, List.size_toArray, List.length_map]
     omega
    rw [if_neg hcond]
    have := zcD J off v.cells 0 cs
    rw [V.cells_real]
    simp only [Array.zipIdx_toArray, List.foldl_toArray]
    simp only [Nat.add_zero] at this
    rw [this]
    exact q1
theorem Z4 {t : TypeId} {z : V} (J : Inj) (n : Nat) (h : jal P t = some z) : ∃ ti, P.info? t = some ti ∧ ti.zero = some (z.real J) ∧ z.ok n := by
 unfold jal at h
 cases hi : P.info? t with
 | none => simp [hi] at h
 | some ti =>
  cases hz : ti.zero with
  | none => simp [hi, hz] at h
  | some x =>
   simp only [hi, hz] at h
   obtain ⟨q1, q2⟩ := zeH J n 4 x z h
   exact ⟨ti, rfl, by rw [q1]; exact hz, q2⟩
theorem jaP {t : TypeId} {z : V} (J : Inj) (h : jal P t = some z) : (zeroValue t).run P w = .ok (z.real J) w := by
 obtain ⟨ti, h1, h2, _⟩ := Z4 J 0 h
 simp [zeroValue, typeInfo, h1, h2]
theorem Jba (w : World) : ∀ (fs : List Field) (r : List (Nat × Nat)), JaV (ZbA P) fs = some r →
  (fs.mapM fun f => (do pure (f.offset, ← sizeOf f.type) : Sem (Nat × Nat))).run P w = .ok r w
 | [], r, h => by simp only [JaV, Option.some.injEq] at h; subst h; simp
 | f :: fs, r, h => by
  simp only [JaV] at h
  cases h1 : jH P f.type with
  | none => simp [ZbA, h1] at h
  | some n =>
   simp only [ZbA, h1] at h
   cases h2 : JaV (ZbA P) fs with
   | none => simp [h2] at h
   | some ys =>
    simp only [h2, Option.some.injEq] at h
    subst h
    simp only [List.mapM_cons, Sem.run_bind, JH w h1, Result.andThen_ok, Sem.run_pure, Jba w fs ys h2]
theorem jcD {t : TypeId} {ps : List (Nat × V)} {v : V} {n : Nat} (hps : ∀ x ∈ ps, x.2.ok n) (h : Jci P t ps = some v) :
  (Instr.build t (ps.map fun x => (x.1, x.2.real J)).toArray).run P w = .ok (v.real J) w ∧ v.ok n := by
 unfold Jci at h
 split at h
 ·rename_i z fs hz e
  cases hp : JaV (ZbA P) fs.toList with
  | none => simp [hp] at h
  | some places =>
   simp only [hp] at h
   cases hf : ZbN (fun i => places[i]?) z.cells ps with
   | none => simp [hf] at h
   | some cs =>
    simp only [hf, Option.some.injEq] at h
    subst h
    obtain ⟨q1, q2, q3⟩ := zaP J _ ps _ cs hf
    obtain ⟨_, _, _, hzok⟩ := Z4 J n hz
    refine ⟨?_, by simp only [V.ok, V.oks_iff]; exact q3 n hps (V.ok_cells hzok)⟩
    simp only [Instr.build, Sem.run_bind, jaP J hz, Result.andThen_ok, run_underlying e, Array.mapM_eq_mapM_toList, Sem.run_map, Jba w _ _ hp]
    rw [V.cells_real]
    simp only [List.getElem?_toArray]
    rw [q1]
    simp [V.real, V.reals_eq]
 ·rename_i z len el hz e
  cases hs : jH P el with
  | none => simp [hs] at h
  | some k =>
   simp only [hs] at h
   cases hf : ZbN (fun i => some (i * k, k)) z.cells ps with
   | none => simp [hf] at h
   | some cs =>
    simp only [hf, Option.some.injEq] at h
    subst h
    obtain ⟨q1, q2, q3⟩ := zaP J _ ps _ cs hf
    obtain ⟨_, _, _, hzok⟩ := Z4 J n hz
    refine ⟨?_, by simp only [V.ok, V.oks_iff]; exact q3 n hps (V.ok_cells hzok)⟩
    simp only [Instr.build, Sem.run_bind, jaP J hz, Result.andThen_ok, run_underlying e, JH w hs]
    rw [V.cells_real]
    simp [q1, V.real, V.reals_eq]
 ·simp at h
end
end Go.Vm
