/- Lemmas. -/
import Derived.Test.YtplpmeednhcjkaaGreatDoorA0
import Derived.Below
import Derived.Laws.Strings
import Derived.Laws.Cells
import Derived.Lib.Strings
import Derived.Laws.StructEq
import Derived.Laws.BytesString
import Derived.Laws.AppendOwn
import Derived.Laws.MakeOwn
import Derived.Laws.Strings2
import Derived.ChangeKeysEq
import Derived.LaidEql
namespace Go.Vm
inductive T (α:Type) where
 | e:T α
 | n (l:T α) (v:Option α) (r:T α):T α
def T.get {α:Type}:T α->Nat->Option α
 | .e,_=>none
 | .n l v r,i=>match i with
  | 0=>v
  | k+1=>cond (Nat.beq (k%2) 0) (l.get (k / 2)) (r.get (k / 2))
def T.mkL {α:Type} (v:Option α) (r:T α):T α->T α
 | .e=>.n .e v r
 | .n a b c=>.n (.n a b c) v r
def T.mkR {α:Type} (l:T α) (v:Option α):T α->T α
 | .e=>.n l v .e
 | .n a b c=>.n l v (.n a b c)
def T.go {α:Type} (x:Option α):Nat->T α->Nat->T α
 | 0,t,_=>t
 | f+1,t,i=>match i with
  | 0=>match t with
   | .e=>.n .e x .e
   | .n l _ r=>.n l x r
  | k+1=>match t with
   | .e=>cond (Nat.beq (k%2) 0) (T.mkL none .e (T.go x f .e (k / 2))) (T.mkR .e none (T.go x f .e (k / 2)))
   | .n l v r=>cond (Nat.beq (k%2) 0) (T.mkL v r (T.go x f l (k / 2))) (T.mkR l v (T.go x f r (k / 2)))
def T.upd {α:Type} (t:T α) (i:Nat) (x:Option α):T α:=T.go x (i+1) t i
inductive V where
 | b (x:Bool)
 | i (k:IntKind) (n:Int)
 | s (len bits:Nat)
 | p (id off:Nat)
 | pn
 | sl (id off len cap:Nat) (opn:Bool)
 | sn
 | f (fn:Fn) (first caps:List V)
 | fz
 | nz
 | a (cs:List V)
 | t (vs:List V)
 | se (id off off2:Nat)
 | ze (a:Addr)
structure Blk where
 cs:T V
 zero:List V
 sz:Nat
 es:Nat
 op:Bool
structure St where
 nx:Nat
 hp:T Blk
 ver:Nat
def Zbu {R:Type} (n:Nat) (k:Nat->R):R:=Nat.rec (motive:=λ_=>R) (k 0) (λm _=>k (Nat.succ m)) n
def Jjc {R:Type} (n:Int) (k:Int->R):R:=match n with
 | .ofNat m=>Zbu m λm=>k (.ofNat m)
 | .negSucc m=>Zbu m λm=>k (.negSucc m)
def jia {R:Type} (x:Bool) (k:Bool->R):R:=match x with
 | true=>k true
 | false=>k false
def jiK {R:Type} (x:IntKind) (k:IntKind->R):R:=match x with
 | .i8=>k .i8|.i16=>k .i16|.i32=>k .i32|.i64=>k .i64|.u8=>k .u8|.u16=>k .u16|.u32=>k .u32|.u64=>k .u64
def V.force {R:Type} (v:V) (k:V->R):R:=match v with
 | .b x=>jia x λx=>k (.b x)
 | .i kd n=>jiK kd λkd=>Jjc n λn=>k (.i kd n)
 | .s l x=>Zbu l λl=>Zbu x λx=>k (.s l x)
 | .p g o=>Zbu g λg=>Zbu o λo=>k (.p g o)
 | .sl g o l c op=>Zbu g λg=>Zbu o λo=>Zbu l λl=>Zbu c λc=>jia op λop=>k (.sl g o l c op)
 | .pn=>k .pn
 | .sn=>k .sn
 | .se g o q=>Zbu g λg=>Zbu o λo=>Zbu q λq=>k (.se g o q)
 | .ze x=>k (.ze x)
 | .f fn xs ys=>k (.f fn xs ys)
 | .fz=>k .fz
 | .nz=>k .nz
 | .a cs=>k (.a cs)
 | .t vs=>k (.t vs)
def jY:List UInt8->Nat
 | []=>0
 | c::r=>c.toNat+256*jY r
def V.str (l:List UInt8):V:=.s l.length (jY l)
def Jf:Nat->Nat->List UInt8
 | 0,_=>[]
 | n+1,x=>UInt8.ofNat (x%256)::Jf n (x / 256)
def ZcH (x i:Nat):Nat:=x / 256^i%256
def ziI (l x m y:Nat):V:=.s (l+m) (x+256^l*y)
def ZiK (x lo hi:Nat):V:=.s (hi-lo) (x / 256^lo%256^(hi-lo))
def jbE {α β:Type} (f:α->Option β):List α->Option (List β)
 | []=>some []
 | x::r=>match f x with
  | some y=>match jbE f r with
   | some ys=>some (y::ys)
   | none=>none
  | none=>none
def ofV:Nat->Value->Option V
 | 0,_=>none
 | _+1,.bool x=>some (.b x)
 | _+1,.int k n=>some (.i k n)
 | _+1,.string x=>some (.str x.data.toList)
 | _+1,.pointer none=>some .pn
 | _+1,.slice none 0 0=>some .sn
 | _+1,.nilFunc=>some .fz
 | _+1,.nilIface=>some .nz
 | d+1,.agg cs=>(jbE (ofV d) cs.toList).map .a
 | d+1,.tuple cs=>(jbE (ofV d) cs.toList).map .t
 | d+1,.func fn xs ys=>match jbE (ofV d) xs.toList,jbE (ofV d) ys.toList with
  | some xs,some ys=>some (.f fn xs ys)
  | _,_=>none
 | _+1,_=>none
def GL:Nat:=64
def zL (fr:T V):Operand->Option V
 | .tmp t=>fr.get t
 | .const v=>ofV 4 v
 | .global g=>cond (Nat.blt g GL) (some (.p g 0)) none
 | .func f=>some (.f (.func f) [] [])
def ja4 (fr:T V):List Operand->Option (List V)
 | []=>some []
 | o::r=>match zL fr o with
  | some v=>match ja4 fr r with
   | some vs=>some (v::vs)
   | none=>none
  | none=>none
def V.atom:V->Bool
 | .a _|.t _=>false
 | _=>true
def V.plain:V->Bool
 | .b _|.i _ _|.s _ _|.pn|.sn|.fz|.nz=>true
 | _=>false
def V.plainT:V->Bool
 | .a vs|.t vs=>vs.all V.plain
 | v=>v.plain
def jdB:Option V->Bool
 | some v=>v.plainT
 | none=>false
def V.cells:V->List V
 | .a cs=>cs
 | v=>[v]
section
variable (P:Program)
def jbT (t:TypeId):Bool:=match P.underlying t with
 | some (.struct _)|some (.array _ _)=>true
 | _=>false
def Jcm (t:TypeId) (cs:List V) (off:Nat):Option V:=
 match P.info? t,P.underlying t with
 | some ti,some _=>cond (jbT P t) (some (.a ((cs.drop off).take ti.size))) (cs[off]?)
 | _,_=>none
def ilt (a b:Int):Bool:=decide (a<b)
def ile (a b:Int):Bool:=decide (a<=b)
def Zhr (op:BinOp) (k:IntKind) (a b:Int):Option V:=
 match op with
 | .and=>some (.i k (k.wrap (BitVec.ofInt k.bits a &&&BitVec.ofInt k.bits b).toNat))
 | .or=>some (.i k (k.wrap (BitVec.ofInt k.bits a |||BitVec.ofInt k.bits b).toNat))
 | .xor=>some (.i k (k.wrap (BitVec.ofInt k.bits a ^^^ BitVec.ofInt k.bits b).toNat))
 | .andNot=>some (.i k (k.wrap (BitVec.ofInt k.bits a &&&~~~(BitVec.ofInt k.bits b)).toNat))
 | _=>none
def zgF (op:BinOp) (k:IntKind) (a b:Int):Option V:=
 match op with
 | .add=>some (.i k (k.wrap (a+b)))
 | .sub=>some (.i k (k.wrap (a-b)))
 | .mul=>some (.i k (k.wrap (a*b)))
 | .quo=>cond (decide (b=0)) none (some (.i k (k.wrap (a.tdiv b))))
 | .rem=>cond (decide (b=0)) none (some (.i k (a.tmod b)))
 | .eql=>some (.b (a==b))
 | .neq=>some (.b (a != b))
 | .lss=>some (.b (ilt a b))
 | .leq=>some (.b (ile a b))
 | .gtr=>some (.b (ilt b a))
 | .geq=>some (.b (ile b a))
 | op=>Zhr op k a b
def ZeY (op:BinOp) (k:IntKind) (x y:Int):Option V:=
 match op with
 | .shl=>cond (ilt y 0) none (some (.i k (k.wrap (x*2^(min y.toNat k.bits)))))
 | .shr=>cond (ilt y 0) none (some (.i k (x.fdiv (2^(min y.toNat k.bits)))))
 | _=>none
def JiK (op:BinOp) (l x m y:Nat):Option V:=
 match op with
 | .add=>cond (Nat.ble (l+m) 1099511627776) (some (ziI l x m y)) none
 | .eql=>some (.b (Nat.beq l m&&Nat.beq x y))
 | .neq=>some (.b (!(Nat.beq l m&&Nat.beq x y)))
 | .lss=>some (.b (Op.bytesLess (Jf l x) (Jf m y)))
 | .leq=>some (.b (Op.bytesLess (Jf l x) (Jf m y)||(Nat.beq l m&&Nat.beq x y)))
 | .gtr=>some (.b (!(Op.bytesLess (Jf l x) (Jf m y)||(Nat.beq l m&&Nat.beq x y))))
 | .geq=>some (.b (!(Op.bytesLess (Jf l x) (Jf m y))))
 | _=>none
def jaZ (eq:TypeId->V->V->Option Bool) (xs ys:List V):List Field->Option Bool
 | []=>some true
 | f :: r => cond (f.name == "_") (jaZ eq xs ys r)
  (match Jcm P f.type xs f.offset,Jcm P f.type ys f.offset with
  | some x,some y=>match eq f.type x y with
   | some true=>jaZ eq xs ys r
   | some false=>some false
   | none=>none
  | _,_=>none)
def ZbE (eq:TypeId->V->V->Option Bool) (t:TypeId) (sz:Nat) (xs ys:List V) (i:Nat):Nat->Option Bool
 | 0=>some true
 | n+1=>match Jcm P t xs (i*sz),Jcm P t ys (i*sz) with
  | some x,some y=>match eq t x y with
   | some true=>ZbE eq t sz xs ys (i+1) n
   | some false=>some false
   | none=>none
  | _,_=>none
def veq:Nat->TypeId->V->V->Option Bool
 | 0,_,_,_=>none
 | d+1,t,x,y=>match P.underlying t,x,y with
  | some .bool,.b a,.b b=>some (a==b)
  | some (.int _),.i k a,.i k' b=>cond (decide (k=k')) (some (a==b)) none
  | some .string,.s l x,.s m y=>some (Nat.beq l m&&Nat.beq x y)
  | some (.pointer _),.pn,.pn=>some true
  | some (.pointer _),.pn,.p _ _=>some false
  | some (.pointer _),.p _ _,.pn=>some false
  | some (.slice _),.sn,.sn=>some true
  | some (.slice _),.sn,.sl ..=>some false
  | some (.slice _),.sl ..,.sn=>some false
  | some (.slice _),.sn,.se ..=>some false
  | some (.slice _),.se ..,.sn=>some false
  | some (.slice _),.sn,.ze _=>some false
  | some (.slice _),.ze _,.sn=>some false
  | some (.func ..),.fz,.fz=>some true
  | some (.func ..),.fz,.f ..=>some false
  | some (.func ..),.f ..,.fz=>some false
  | some (.struct fs),.a xs,.a ys=>cond (P.stoodInHeld t) none (jaZ P (veq d) xs ys fs.toList)
  | some (.array n e),.a xs,.a ys=>match P.info? e with
   | some ti=>ZbE P (veq d) e ti.size xs ys 0 n
   | none=>none
  | _,_,_=>none
def jbZ (t:TypeId) (x y:V):Option Bool:=
 match x,y with
 | .a _,.a _=>cond (P.eqGuardType P.depth t) none (veq P 60 t x y)
 | .nz,.nz=>none
 | _,_=>veq P 60 t x y
def JeY (op:BinOp) (xt:TypeId) (x y:V):Option V:=
 match x,y with
 | .i k a,.i k' b=>match op with
  | .shl|.shr=>ZeY op k a b
  | _=>cond (decide (k=k')) (zgF op k a b) none
 | .s l x,.s m y=>JiK op l x m y
 | x,y=>match op with
  | .eql=>match jbZ P xt x y with|some r=>some (.b r)|none=>none
  | .neq=>match jbZ P xt x y with|some r=>some (.b (!r))|none=>none
  | _=>none
def vun (op:UnOp) (x:V):Option V:=
 match op,x with
 | .neg,.i k n=>some (.i k (k.wrap (0-n)))
 | .xor,.i k n=>Zhr .xor k (if k.signed then -1 else k.max) n
 | .not,.b x=>some (.b (!x))
 | _,_=>none
def Blk.get (b:Blk) (o:Nat):Option V:=
 cond (Nat.blt o b.sz) (match b.cs.get o with|some v=>some v|none=>b.zero[o%b.es]?) none
def Blk.set (b:Blk) (o:Nat) (v:V):Blk:={ b with cs:=b.cs.upd o (some v) }
def Blk.row (b:Blk):Nat->Nat->Option (List V)
 | 0,_=>some []
 | n+1,o=>match b.get o with
  | some v=>match b.row n (o+1) with
   | some r=>some (v::r)
   | none=>none
  | none=>none
def Blk.put (b:Blk):List V->Nat->Option Blk
 | [],_=>some b
 | v::r,o=>cond (Nat.blt o b.sz&&v.atom) (v.force λv=>Blk.put (b.set o v) r (o+1)) none
def St.alloc (st:St) (b:Blk):St:=⟨st.nx+1,st.hp.upd st.nx (some b),st.ver⟩
def low (a b:Nat):Nat:=cond (Nat.ble a b) a b
def St.write (st:St) (id:Nat) (b:Blk):St:=Zbu (low st.ver id) λv=>⟨st.nx,st.hp.upd id (some b),v⟩
def JbE (cs:List V) (es:Nat) (op:Bool):Option Blk:=(Blk.mk .e [] cs.length es op).put cs 0
def Zau (st:St) (t:TypeId) (id off:Nat):Option V:=
 match st.hp.get id,P.info? t,P.underlying t with
 | some b,some ti,some _=>cond (jbT P t) (match b.row ti.size off with|some cs=>some (.a cs)|none=>none) (b.get off)
 | _,_,_=>none
def ZdB (ro:Nat) (st:St) (t:TypeId) (id off:Nat) (v:V):Option St:=
 match st.hp.get id,P.info? t with
 | some b,some ti=>cond (Nat.ble ro id&&Nat.beq v.cells.length ti.size) (match b.put v.cells off with
  | some b=>some (st.write id b)
  | none=>none) none
 | _,_=>none
def Zba (t:TypeId):Option V:=match P.info? t with
 | some ti=>match ti.zero with|some z=>ofV 4 z|none=>none
 | none=>none
def jdf (st:St) (v:V) (es:Nat):Option (V×St):=match JbE v.cells es false with
 | some b=>Zbu st.nx λnx=>some (.p nx 0,St.alloc ⟨nx,st.hp,st.ver⟩ b)
 | none=>none
def setAt (cells:List V) (off:Nat):List V->List V
 | []=>cells
 | v::r=>setAt (cells.set off v) (off+1) r
def ZcW (place:Nat->Option (Nat×Nat)) (cells:List V):List (Nat×V)->Option (List V)
 | []=>some cells
 | (i,v)::rest=>match place i with
  | none=>none
  | some (off,size)=>cond (Nat.beq v.cells.length size&&Nat.ble (off+v.cells.length) cells.length) (ZcW place (setAt cells off v.cells) rest) none
def Jan (fr:T V):List (Nat×Operand)->Option (List (Nat×V))
 | []=>some []
 | (i,o)::r=>match zL fr o with
  | some v=>match Jan fr r with
   | some vs=>some ((i,v)::vs)
   | none=>none
  | none=>none
def zaa (t:TypeId):Option Nat:=match P.info? t with|some ti=>some ti.size|none=>none
def zcv (f:Field):Option (Nat×Nat):=match zaa P f.type with|some n=>some (f.offset,n)|none=>none
def JdB (t:TypeId) (parts:List (Nat×V)):Option V:=
 match Zba P t,P.underlying t with
 | some z,some (.struct fs)=>match jbE (zcv P) fs.toList with
  | some places=>match ZcW (λi=>places[i]?) z.cells parts with|some cs=>some (.a cs)|none=>none
  | none=>none
 | some z,some (.array _ e)=>match zaa P e with
  | some n=>match ZcW (λi=>some (i*n,n)) z.cells parts with|some cs=>some (.a cs)|none=>none
  | none=>none
 | _,_=>none
def zao (z:List V):Nat->List V
 | 0=>[]
 | n+1=>z++zao z n
def zS (st:St) (t:TypeId) (len:Nat) (parts:List (Nat×V)):Option (V×St):=
 match P.underlying t with
 | some (.slice e)=>match zaa P e,Zba P e with
  | some n,some z=>cond (Nat.ble (len*n) 16777216&&Nat.blt 0 n&&Nat.beq z.cells.length n) (match ZcW (λi=>some (i*n,n)) (zao z.cells len) parts with
   | some cs=>match JbE cs n false with
    | some b=>Zbu st.nx λnx=>some (.sl nx 0 len len false,St.alloc ⟨nx,st.hp,st.ver⟩ b)
    | none=>none
   | none=>none) none
  | _,_=>none
 | _=>none
def JaS (st:St) (t:TypeId) (len cap:Int):Option (V×St):=
 match P.underlying t with
 | some (.slice e)=>match P.info? e,Zba P e with
  | some ti,some z=>cond (ile 0 len&&ile len cap&&ile (ti.bytes*cap) 1099511627776&&ile cap 1099511627776&&Nat.blt 0 ti.size&&Nat.beq z.cells.length ti.size&&z.cells.all V.atom)
   (Zbu len.toNat λl=>Zbu cap.toNat λc=>Zbu st.nx λnx=>some (.sl nx 0 l c false,St.alloc ⟨nx,st.hp,st.ver⟩ ⟨.e,z.cells,c*ti.size,ti.size,false⟩)) none
  | _,_=>none
 | _=>none
def zbj (x:V) (y:Nat):Option Nat:=match x with
 | .i _ n=>cond (ile 0 n&&ile n y) (Zbu n.toNat some) none
 | _=>none
def jaa (x:Option V) (y d:Nat):Option Nat:=match x with
 | some x=>zbj x y
 | none=>some d
def zB (len cap:Nat) (lo hi mx:Option V):Option (Nat×Nat×Nat):=
 match jaa mx cap cap with
 | some m=>match jaa hi m len with
  | some h=>match jaa lo h 0 with
   | some l=>some (l,h,m)
   | none=>none
  | none=>none
 | none=>none
def jao (t:TypeId) (x:V) (lo hi mx:Option V):Option V:=
 match P.underlying t,x with
 | some .string,.s len bits=>match mx with
  | some _=>none
  | none=>match zB len len lo hi none with
   | some (l,h,_)=>some (ZiK bits l h)
   | none=>none
 | some (.slice e),.sl id off len cap op=>match zaa P e with
  | some n=>match hi,mx with
   | none,some _=>none
   | _,_=>match zB len cap lo hi mx with
    | some (l,h,m)=>cond (op&&mx.isNone)
     (cond (Nat.blt l cap||Nat.beq l 0) (some (.sl id (off+l*n) (h-l) (cap-l) true)) (some (.se id off (off+l*n))))
     (some (.sl id (cond (Nat.beq m l) off (off+l*n)) (h-l) (m-l) false))
    | none=>none
  | none=>none
 | some (.slice e),.sn=>match zaa P e with
  | some _=>match hi,mx with
   | none,some _=>none
   | _,_=>match zB 0 0 lo hi mx with
    | some _=>some .sn
    | none=>none
  | none=>none
 | some (.slice e),.se id off off2=>match zaa P e,mx with
  | some _,none=>match zB 0 0 lo hi none with
   | some _=>some (.se id off off2)
   | none=>none
  | _,_=>none
 | some (.slice e),.ze a=>match zaa P e,mx with
  | some _,none=>match zB 0 0 lo hi none with
   | some _=>some (.ze a)
   | none=>none
  | _,_=>none
 | some (.array n e),.p id off=>match zaa P e with
  | some k=>match hi,mx with
   | none,some _=>none
   | _,_=>match zB n n lo hi mx with
    | some (l,h,m)=>some (.sl id (cond (Nat.beq m l) off (off+l*k)) (h-l) (m-l) false)
    | none=>none
  | none=>none
 | _,_=>none
def jaF (t:TypeId) (id off f:Nat):Option V:=
 match P.underlying t with
 | some (.struct fs)=>match fs[f]? with
  | some fd=>match zaa P fd.type with
   | some n=>cond (Nat.blt 0 n) (some (.p id (off+fd.offset))) none
   | none=>none
  | none=>none
 | _=>none
def zZ (t:TypeId) (x:V) (i:Int):Option V:=
 match P.underlying t,x with
 | some (.slice e),.sl id off len _ _=>match zaa P e with
  | some n=>cond (ile 0 i&&ilt i len) (some (.p id (off+i.toNat*n))) none
  | none=>none
 | some (.array len e),.p id off=>match zaa P e with
  | some n=>cond (ile 0 i&&ilt i len) (some (.p id (off+i.toNat*n))) none
  | none=>none
 | _,_=>none
def Zdf (t:TypeId) (x:V) (i:Int):Option V:=
 match P.underlying t,x with
 | some .string,.s len bits=>cond (ile 0 i&&ilt i len) (some (.i .u8 (.ofNat (ZcH bits i.toNat)))) none
 | some (.array len e),.a cs=>match zaa P e with
  | some n=>cond (ile 0 i&&ilt i len) (Jcm P e cs (i.toNat*n)) none
  | none=>none
 | _,_=>none
def zdC (t:TypeId) (x:V) (f:Nat):Option V:=
 match P.underlying t,x with
 | some (.struct fs),.a cs=>match fs[f]? with
  | some fd=>Jcm P fd.type cs fd.offset
  | none=>none
 | _,_=>none
def zv:List V->Option (List UInt8)
 | []=>some []
 | .i .u8 n::r=>match zv r with|some l=>some (UInt8.ofNat n.toNat::l)|none=>none
 | _::_=>none
def Zao:Nat->Nat->List V
 | 0,_=>[]
 | n+1,x=>.i .u8 (.ofNat (x%256))::Zao n (x / 256)
def Blk.zeros (b:Blk) (len off:Nat):Bool:=match b.cs,b.zero with
 | .e,[.i .u8 (.ofNat 0)]=>Nat.beq b.es 1&&Nat.ble (off+len) b.sz
 | _,_=>false
def Jfu (b:Blk) (len off:Nat):Option V:=match b.zeros len off with
 | true=>some (.s len 0)
 | false=>match b.row len off with
  | some cs=>match zv cs with
   | some l=>some (.str l)
   | none=>none
  | none=>none
def JT (st:St) (src dst:TypeId) (x:V):Option (V×St):=
 match P.underlying src,P.underlying dst,x with
 | some _,some (.int k),.i _ n=>some (.i k (k.wrap n),st)
 | some _,some .string,.s l x=>some (.s l x,st)
 | some _,some (.slice e),.s l x=>match P.underlying e with
  | some (.int .u8)=>cond (Nat.ble l 1099511627776) (match JbE (Zao l x) 1 false with
   | some b=>Zbu st.nx λnx=>some (.sl nx 0 l l true,St.alloc ⟨nx,st.hp,st.ver⟩ b)
   | none=>none) none
  | _=>none
 | some (.slice e),some .string,.sn=>match P.underlying e with
  | some (.int .u8)=>some (.s 0 0,st)
  | _=>none
 | some (.slice e),some .string,.sl id off len _ _=>match P.underlying e,st.hp.get id with
  | some (.int .u8),some b=>match Jfu b len off with
   | some v=>some (v,st)
   | none=>none
  | _,_=>none
 | some (.slice e),some .string,.se _ _ _=>match P.underlying e with
  | some (.int .u8)=>some (.s 0 0,st)
  | _=>none
 | some (.slice e),some .string,.ze _=>match P.underlying e with
  | some (.int .u8)=>some (.s 0 0,st)
  | _=>none
 | _,_,_=>none
def Jdf (ro:Nat) (st:St) (src dst:TypeId) (x:V):Option (V×St):=
 match P.underlying src,P.underlying dst,x with
 | some (.slice e),some (.slice _),.sl g o l c op=>match P.underlying e,st.hp.get g with
  | some (.int .u8),some b=>cond (decide (src=dst)&&!b.op&&Nat.ble ro g) (some (.sl g o l c op,st)) none
  | _,_=>none
 | _,_,_=>JT P st src dst x
def zaS (st:St) (es n:Nat):V->Option (List V)
 | .sn=>some []
 | .s _ x=>cond (Nat.beq es 1) (some (Zao n x)) none
 | .sl id off _ _ _=>match st.hp.get id with
  | some b=>b.row (n*es) off
  | none=>none
 | .se _ _ _=>cond (Nat.beq n 0) (some []) none
 | .ze _=>cond (Nat.beq n 0) (some []) none
 | _=>none
def Zfu:V->Option Nat
 | .sn=>some 0
 | .s l _=>some l
 | .sl _ _ l _ _=>some l
 | .se _ _ _=>some 0
 | .ze _=>some 0
 | _=>none
def St.kill (st:St) (id:Nat):St:=Zbu (low st.ver id) λv=>⟨st.nx,st.hp.upd id none,v⟩
def Za4 (e:TypeId) (n:Nat):Bool:=match Zba P e with
 | some z=>Nat.beq z.cells.length n
 | none=>false
def Blk.grow (b:Blk) (cs:List V):Option Blk:=Blk.put { b with sz:=b.sz+cs.length,op:=true } cs b.sz
def JcH (b:Blk) (off len es:Nat) (new:List V):Option Blk:=
 cond (b.op&&Nat.beq off 0&&Nat.beq (len*es) b.sz&&Nat.beq b.es es) (b.grow new) (match b.row (len*es) off with
  | some old=>JbE (old++new) es true
  | none=>none)
def zaT (ro:Nat) (st:St) (t:TypeId) (s x:V):Option (V×St):=
 match P.underlying t with
 | some (.slice e)=>match P.info? e,Zfu x with
  | some ti,some n=>match zaS st ti.size n x with
   | some new=>cond (Nat.blt 0 ti.size&&Nat.blt 0 ti.bytes&&Za4 P e ti.size) (match s with
    | .sn=>cond (Nat.ble (n*ti.bytes) 1099511627776)
     (cond (Nat.beq n 0) (some (.sn,st)) (match JbE new ti.size true with
      | some b=>Zbu st.nx λnx=>Zbu n λn=>some (.sl nx 0 n n true,St.alloc ⟨nx,st.hp,st.ver⟩ b)
      | none=>none)) none
    | .sl id off len cap op=>match st.hp.get id with
     | some b=>cond (Nat.ble ((len+n)*ti.bytes) 1099511627776)
      (cond (Nat.ble (len+n) cap)
       (cond (Nat.ble ro id) (match b.put new (off+len*ti.size) with
        | some b=>Zbu (len+n) λm=>some (.sl id off m cap op,st.write id b)
        | none=>none) none)
       (match JcH b off len ti.size new with
       | some b'=>cond op
        (cond (Nat.ble ro id&&b.op&&Nat.beq b.es ti.size&&Nat.beq (off+cap*ti.size) b.sz)
         (Zbu st.nx λnx=>Zbu (len+n) λm=>some (.sl nx 0 m m true,St.alloc ⟨nx,(st.kill id).hp,(st.kill id).ver⟩ b')) none)
        (Zbu st.nx λnx=>Zbu (len+n) λm=>some (.sl nx 0 m m true,St.alloc ⟨nx,st.hp,st.ver⟩ b'))
       | none=>none)) none
     | none=>none
    | _=>none) none
   | none=>none
  | _,_=>none
 | _=>none
def Zia (ro:Nat) (st:St) (t:TypeId) (d x:V):Option (V×St):=
 match P.underlying t with
 | some (.slice e)=>match P.info? e,Zfu x with
  | some ti,some n=>match d with
   | .sn=>match zaS st ti.size 0 x with
    | some _=>some (.i .i64 0,st)
    | none=>none
   | .sl id off len _ _=>match zaS st ti.size (Nat.min n len) x,st.hp.get id with
    | some new,some b=>cond (Nat.ble ro id) (match b.put new off with
     | some b=>some (.i .i64 (.ofNat (Nat.min n len)),st.write id b)
     | none=>none) none
    | _,_=>none
   | _=>none
  | _,_=>none
 | _=>none
def zbv (t:TypeId) (x:V):Option V:=
 match P.underlying t,x with
 | some .string,.s l _=>some (.i .i64 (.ofNat l))
 | some (.slice _),.sl _ _ l _ _=>some (.i .i64 (.ofNat l))
 | some (.slice _),.sn=>some (.i .i64 0)
 | some (.slice _),.se ..=>some (.i .i64 0)
 | some (.slice _),.ze _=>some (.i .i64 0)
 | some (.array n _),_=>some (.i .i64 (.ofNat n))
 | _,_=>none
def jgF (mn:Bool):V->V->Option V
 | .i k x,.i _ y=>some (.i k (cond mn (cond (ilt y x) y x) (cond (ilt x y) y x)))
 | _,_=>none
def zcI (mn:Bool) (x:V):List V->Option V
 | []=>some x
 | y::r=>match jgF mn x y with
  | some z=>zcI mn z r
  | none=>none
def ZZ (ro:Nat) (b:Builtin) (ts:List TypeId) (args:List V) (st:St):Option (V×St):=
 match b,ts,args with
 | .len,[t],[x]=>match zbv P t x with|some v=>some (v,st)|none=>none
 | .append,[t,u],[s,x]=>match P.underlying u with
  | some (.int _)=>none
  | some _=>zaT P ro st t s x
  | none=>none
 | .copy,[t,_],[d,x]=>Zia P ro st t d x
 | .min,_,x::r=>match zcI true x r with|some v=>some (v,st)|none=>none
 | .max,_,x::r=>match zcI false x r with|some v=>some (v,st)|none=>none
 | _,_,_=>none
abbrev jbv:=FuncId->List V->St->Option (V×St)
abbrev Ov:=FuncId->List V->St->Option (V×St)
abbrev Ov0:=FuncId->List V->Option V
def JcW (o:Ov0):Ov:=λf args st=>match o f args with
 | some v=>some (v,st)
 | none=>none
def vop (ro:Nat) (call:jbv) (fr:T V) (st:St):Op->Option (Option V×St)
 | .move x|.assign x=>match zL fr x with|some v=>some (some v,st)|none=>none
 | .pick c a b=>match zL fr c with
  | some (.b x)=>match zL fr (cond x a b) with|some v=>some (some v,st)|none=>none
  | _=>none
 | .binOp op t x y _=>match zL fr x,zL fr y with
  | some x,some y=>match JeY P op t x y with|some v=>some (some v,st)|none=>none
  | _,_=>none
 | .unOp op _ x=>match zL fr x with
  | some x=>match vun op x with|some v=>some (some v,st)|none=>none
  | none=>none
 | .convert s d x=>match zL fr x with
  | some x=>match Jdf P ro st s d x with|some (v,st)=>some (some v,st)|none=>none
  | none=>none
 | .field t x f=>match zL fr x with
  | some x=>match zdC P t x f with|some v=>some (some v,st)|none=>none
  | none=>none
 | .index t x i=>match zL fr x,zL fr i with
  | some x,some (.i _ i)=>match Zdf P t x i with|some v=>some (some v,st)|none=>none
  | _,_=>none
 | .indexAddr t x i=>match zL fr x,zL fr i with
  | some x,some (.i _ i)=>match zZ P t x i with|some v=>some (some v,st)|none=>none
  | _,_=>none
 | .fieldAddr t x f=>match zL fr x with
  | some (.p id off)=>match jaF P t id off f with|some v=>some (some v,st)|none=>none
  | _=>none
 | .load t x=>match zL fr x with
  | some (.p id off)=>match Zau P st t id off with|some v=>some (some v,st)|none=>none
  | _=>none
 | .store t x v=>match zL fr x,zL fr v with
  | some (.p id off),some v=>match ZdB P ro st t id off v with|some st=>some (none,st)|none=>none
  | _,_=>none
 | .alloc t=>match Zba P t,zaa P t with
  | some z,some n=>match jdf st z n with|some (v,st)=>some (some v,st)|none=>none
  | _,_=>none
 | .box t x=>match zL fr x,zaa P t with
  | some z,some n=>match jdf st z n with|some (v,st)=>some (some v,st)|none=>none
  | _,_=>none
 | .build t ps=>match Jan fr ps.toList with
  | some ps=>match JdB P t ps with|some v=>some (some v,st)|none=>none
  | none=>none
 | .buildSlice t len ps=>match Jan fr ps.toList with
  | some ps=>match zS P st t len ps with|some (v,st)=>some (some v,st)|none=>none
  | none=>none
 | .makeSlice t l c=>match zL fr l,zL fr c with
  | some (.i _ l),some (.i _ c)=>match JaS P st t l c with|some (v,st)=>some (some v,st)|none=>none
  | _,_=>none
 | .slice t x lo hi mx=>match zL fr x with
  | some x=>match (match lo with|none=>some none|some o=>(zL fr o).map some),(match hi with|none=>some none|some o=>(zL fr o).map some),(match mx with|none=>some none|some o=>(zL fr o).map some) with
   | some lo,some hi,some mx=>match jao P t x lo hi mx with|some v=>some (some v,st)|none=>none
   | _,_,_=>none
  | none=>none
 | .nilCheck x=>match zL fr x with
  | some (.p id off)=>some (some (.p id off),st)
  | _=>none
 | .makeFunc fn first caps=>match ja4 fr first.toList,ja4 fr caps.toList with
  | some xs,some ys=>some (some (.f fn xs ys),st)
  | _,_=>none
 | .extract x i=>match zL fr x with
  | some (.t vs)=>match vs[i]? with|some v=>some (some v,st)|none=>none
  | _=>none
 | .call c=>match ja4 fr c.args.toList with
  | some args=>match c.callee with
   | .builtin b=>match ZZ P ro b c.argTypes.toList args st with|some (v,st)=>some (some v,st)|none=>none
   | .value f=>match zL fr f with
    | some (.f (.func f) first caps)=>match call f (first++args++caps) st with|some (v,st)=>some (some v,st)|none=>none
    | _=>none
   | .invoke _ _=>none
  | none=>none
 | _=>none
def Jak:Op->Bool
 | .move _|.assign _|.pick .. | .binOp .. | .unOp .. | .field .. | .index .. | .indexAddr .. | .fieldAddr .. | .load .. | .build .. | .slice .. | .nilCheck _|.makeFunc .. | .extract ..=>true
 | .call c=>match c.callee with
  | .builtin .len|.builtin .min|.builtin .max|.value _=>true
  | _=>false
 | _=>false
def Ja4 (nt:Nat) (fr:T V) (dst:Option Nat) (v:Option V):Option (T V):=
 match dst with
 | none=>some fr
 | some d=>cond (Nat.blt d nt) (match v with
  | some v=>v.force λv=>some (fr.upd d (some v))
  | none=>some (fr.upd d (some (.t [])))) none
def ZG (ops:Array Oper) (fr:T V) (o:Oper):Option Bool:=
 match o.guard with
 | none=>some true
 | some (j,want)=>match (ops[j]?).bind (·.dst) with
  | none=>some false
  | some d=>match fr.get d with
   | some (.b x)=>some (x==want)
   | some _=>some false
   | none=>none
def Jdu (ro nt:Nat) (call:jbv) (ops:Array Oper):List Oper->T V->St->Option (T V×St)
 | [],fr,st=>some (fr,st)
 | o::r,fr,st=>match ZG ops fr o with
  | some true=>match vop P ro call fr st o.op with
   | some (v,st)=>match Ja4 nt fr o.dst v with
    | some fr=>Jdu ro nt call ops r fr st
    | none=>none
   | none=>none
  | some false=>match Ja4 nt fr o.dst none with
   | some fr=>Jdu ro nt call ops r fr st
   | none=>none
  | none=>none
def ZaR (ro nt:Nat) (call:jbv) (ops:Array Oper):List Oper->T V->St->Option (T V)
 | [],fr,_=>some fr
 | o::r,fr,st=>match ZG ops fr o with
  | some true=>match Jak o.op with
   | true=>match vop P ro call fr ⟨st.nx,st.hp,st.nx⟩ o.op with
    | some (v,st')=>cond (Nat.ble st.nx st'.ver&&(Nat.beq st'.nx st.nx||jdB v))
     (match Ja4 nt fr o.dst v with
     | some fr=>ZaR ro nt call ops r fr st
     | none=>none) none
    | none=>none
   | false=>none
  | some false=>match Ja4 nt fr o.dst none with
   | some fr=>ZaR ro nt call ops r fr st
   | none=>none
  | none=>none
inductive Ex where
 | nrm
 | exit (id:Nat)
 | goto (l:Nat)
 | ret
abbrev jiI:=Code->T V->St->Option (Ex×T V×St)
def Zbv (run:T V->St->Option (Ex×T V×St)):Nat->T V->St->Option (Ex×T V×St)
 | 0,_,_=>none
 | n+1,fr,st=>match run fr st with
  | some (.nrm,fr,st)=>Zbv run n fr st
  | r=>r
def jaT (run:jiI) (body:Code):Nat->Code->T V->St->Option (Ex×T V×St)
 | 0,_,_,_=>none
 | n+1,c,fr,st=>match run c fr st with
  | some (.goto l,fr,st)=>match findLabel body l with
   | some rest=>jaT run body n rest fr st
   | none=>some (.goto l,fr,st)
  | r=>r
def jaK:List V->Nat->T V->T V
 | [],_,fr=>fr
 | v::r,i,fr=>v.force λv=>jaK r (i+1) (fr.upd i (some v))
def za5 (fr:T V) (st:St):ResultVar->Option V
 | .tmp t=>fr.get t
 | .cell a t=>match fr.get a with
  | some (.p id off)=>Zau P st t id off
  | _=>none
def JG (fr:T V) (st:St):List ResultVar->Option (List V)
 | []=>some []
 | r::rs=>match za5 P fr st r with
  | some v=>match JG fr st rs with
   | some vs=>some (v::vs)
   | none=>none
  | none=>none
def zcn:List V->V
 | [v]=>v
 | vs=>.t vs
def ZS (ov:Ov) (run:Nat->jiI) (f:FuncId) (args:List V) (st:St):Option (V×St):=
 match ov f args st with
 | some (v,st)=>some (v,st)
 | none=>match P.funcs[f]? with
 | some fn=>match fn.body with
  | some c=>cond (Nat.ble args.length fn.ntmps) (match run fn.ntmps c (jaK args 0 .e) st with
   | some (.nrm,fr,st)|some (.ret,fr,st)=>match JG P fr st fn.results.toList with
    | some vs=>some (zcn vs,st)
    | none=>none
   | _=>none) none
  | none=>none
 | none=>none
def Jbo:Op->Bool
 | .call c=>match c.callee with
  | .builtin _=>true
  | _=>false
 | _=>true
def Jia (ops:Array Oper):Bool:=Region.lexB .any ops&&ops.toList.all λo=>Jak o.op
def ZgF (ops:Array Oper):Bool:=Region.lexTailB .any ops (ops.size-1)&&((ops.toList.take (ops.size-1)).all (λo=>Jbo o.op)&&(ops.toList.take (ops.size-1)).all λo=>Jak o.op)
def jcn:Op->Nat
 | .load _ _=>1
 | .call c=>match c.callee with
  | .builtin .len|.builtin .min|.builtin .max=>0
  | _=>2
 | op=>cond (Jak op) 0 2
def zgm (ops:Array Oper) (i:Nat):Bool:=match ops[i]? with
 | some o=>Nat.ble (jcn o.op) 1
 | none=>false
def jem (ops:Array Oper):Nat->Array Bool->Option (List (Nat×Oper))
 | 0,listed=>match Region.ready .any ops listed with
  | []=>some []
  | _::_=>none
 | f+1,listed=>match (Region.ready .any ops listed).find? (zgm ops) with
  | some i=>match Region.free .any ops listed i,ops[i]? with
   | true,some o=>match jem ops f (listed.setIfInBounds i true) with
    | some l=>some ((i,o)::l)
    | none=>none
   | _,_=>none
  | none=>match Region.ready .any ops listed with
   | [i]=>match ops[i]? with
    | some o=>match jem ops f (listed.setIfInBounds i true) with
     | some l=>some ((i,o)::l)
     | none=>none
    | none=>none
   | _=>none
def Jhr:Op->Bool
 | .call c=>match c.callee with
  | .builtin _=>false
  | _=>c.argTypes.toList.any λt=>match P.underlying t with
   | some (.int _)|some .string|some .bool=>false
   | _=>true
 | _=>false
def JgF (ops:Array Oper):Bool:=Jia ops&&!(ops.toList.any λo=>Jhr P o.op)
def Jf0 (o:Oper):Bool:=match o.guard,o.dst,o.op with
 | none,some _,.buildSlice t n ps=>match Jan .e ps.toList with
  | some pv=>(zS P ⟨0,.e,0⟩ t n pv).isSome
  | none=>false
 | _,_,_=>false
def ZaC (ops:Array Oper) (i:Nat):Bool:=match ops[i]? with
 | some o=>Jf0 P o
 | none=>false
def ziL (ops:Array Oper) (listed:Array Bool) (i:Nat):Array Bool:=((List.range ops.size).map λj=>listed.getD j true||(ZaC P ops j&&!(Nat.beq j i))).toArray
def zjd (ops:Array Oper) (l:List Nat):Option Nat:=match l.find? (λi=>!ZaC P ops i) with
 | some i=>some i
 | none=>l.head?
def jgm (ops:Array Oper):Nat->Array Bool->Option (List (Nat×Oper))
 | 0,listed=>match (List.range ops.size).all λj=>listed.getD j false with
  | true=>some []
  | false=>none
 | f+1,listed=>match (Region.ready .any ops listed).find? (zgm ops) with
  | some i=>match Region.free .any ops listed i,ops[i]? with
   | true,some o=>match jgm ops f (listed.setIfInBounds i true) with
    | some l=>some ((i,o)::l)
    | none=>none
   | _,_=>none
  | none=>match zjd P ops (Region.ready .any ops listed) with
   | some i=>match (Region.ready .any ops listed).contains i&&(Region.ready .any ops (ziL P ops listed i)).all (λj=>Nat.beq j i||ZaC P ops j),ops[i]? with
    | true,some o=>match jgm ops f (listed.setIfInBounds i true) with
     | some l=>some ((i,o)::l)
     | none=>none
    | _,_=>none
   | none=>none
def zgG (ops:Array Oper):Bool:=(List.range ops.size).all λp=>!ZaC P ops p||(List.range ops.size).all λj=>Nat.beq j p||match ops[p]?,ops[j]? with
 | some x,some y=>(Region.waitsFor .any ops j p||x.apart ops y)&&(!ZaC P ops j||decide (x.dst≠y.dst))
 | _,_=>false
def Zem (ops:Array Oper):Option (List (Nat×Oper)):=match Region.noSelect ops with
 | true=>match jem ops ops.size (Array.replicate ops.size false) with
  | some l=>some l
  | none=>cond (zgG P ops) (jgm P ops ops.size (Array.replicate ops.size false)) none
 | false=>none
def Jdm:V->V->Bool
 | .b x,.b y=>cond x y (!y)
 | .i k n,.i k' m=>decide (k=k')&&decide (n=m)
 | .s l x,.s m y=>Nat.beq l m&&Nat.beq x y
 | .p g o,.p g' o'=>Nat.beq g g'&&Nat.beq o o'
 | .pn,.pn|.sn,.sn|.fz,.fz|.nz,.nz=>true
 | .sl g o l c op,.sl g' o' l' c' op'=>Nat.beq g g'&&Nat.beq o o'&&Nat.beq l l'&&Nat.beq c c'&&cond op op' (!op')
 | .se g o q,.se g' o' q'=>Nat.beq g g'&&Nat.beq o o'&&Nat.beq q q'
 | _,_=>false
def Zan:List V->List V->Bool
 | [],[]=>true
 | x::xs,y::ys=>Jdm x y&&Zan xs ys
 | _,_=>false
def zfv:V->V->Bool
 | .a xs,.a ys=>Zan xs ys
 | x,y=>Jdm x y
structure Ent where
 x:Nat
 t:TypeId
 id:Nat
 off:Nat
 v:V
def _root_.Go.Region.waitsT (md:Region.Mode) (ops:Array Oper) (i x:Nat):Bool:=match Region.waitsFor md ops i x with
 | true=>true
 | false=>match ops[i]? with
  | some o=>o.after.any λd=>Region.binds md d&&Region.waitsFor md ops d.on x
  | none=>false
def ZaF (ops:Array Oper) (i:Nat):List Ent->List Ent
 | []=>[]
 | e::r=>match Region.waitsT .any ops i e.x with
  | true=>ZaF ops i r
  | false=>e::ZaF ops i r
def zcX (st:St):List Ent->Bool
 | []=>true
 | e::r=>match Zau P st e.t e.id e.off with
  | some v=>cond (zfv v e.v) (zcX st r) false
  | none=>false
def jdC (ro nt:Nat) (call:jbv) (ops:Array Oper):List (Nat×Oper)->List Ent->T V->St->Option (T V×St)
 | [],_,fr,st=>some (fr,st)
 | (i,o)::r,es,fr,st=>match ZG ops fr o with
  | some true=>match jcn o.op with
   | 0=>match vop P ro call fr ⟨st.nx,.e,0⟩ o.op with
    | some (v,_)=>match Ja4 nt fr o.dst v with
     | some fr=>jdC ro nt call ops r es fr st
     | none=>none
    | none=>none
   | 1=>match o.op with
    | .load t x=>match zL fr x with
     | some (.p id off)=>match Zau P st t id off with
      | some v=>match Ja4 nt fr o.dst (some v) with
       | some fr=>jdC ro nt call ops r (⟨i,t,id,off,v⟩::es) fr st
       | none=>none
      | none=>none
     | _=>none
    | _=>none
   | _=>match vop P ro call fr ⟨st.nx,st.hp,st.nx⟩ o.op with
    | some (v,st')=>match Nat.ble st.nx st'.ver||zcX P st' (ZaF ops i es) with
     | true=>match Ja4 nt fr o.dst v with
      | some fr=>Zbu (low st.ver st'.ver) λver=>jdC ro nt call ops r (ZaF ops i es) fr ⟨st'.nx,st'.hp,ver⟩
      | none=>none
     | false=>none
    | none=>none
  | some false=>match Ja4 nt fr o.dst none with
   | some fr=>jdC ro nt call ops r es fr st
   | none=>none
  | none=>none
def evC (ov:Ov) (ro:Nat):Nat->Nat->jiI
 | 0,_,_,_,_=>none
 | n+1,nt,c,fr,st=>match c with
  | .skip|.label _=>some (.nrm,fr,st)
  | .region _ ops draw=>match draw with
   | false=>match Jdu P ro nt (ZS P ov (evC ov ro n)) ops ops.toList fr st with
    | some (fr,st)=>some (.nrm,fr,st)
    | none=>none
   | true=>match JgF P ops with
    | true=>match ZaR P ro nt (ZS P ov (evC ov ro n)) ops ops.toList fr st with
     | some fr=>some (.nrm,fr,st)
     | none=>none
    | false=>match ZgF ops with
     | true=>match ZaR P ro nt (ZS P ov (evC ov ro n)) ops (ops.toList.take (ops.size-1)) fr st with
      | some fr=>match Jdu P ro nt (ZS P ov (evC ov ro n)) ops (ops.toList.drop (ops.size-1)) fr st with
       | some (fr,st)=>some (.nrm,fr,st)
       | none=>none
      | none=>none
     | false=>match Zem P ops with
      | some pl=>match jdC P ro nt (ZS P ov (evC ov ro n)) ops pl [] fr st with
       | some (fr,st)=>some (.nrm,fr,st)
       | none=>none
      | none=>match Jia ops with
       | true=>match ZaR P ro nt (ZS P ov (evC ov ro n)) ops ops.toList fr st with
        | some fr=>some (.nrm,fr,st)
        | none=>none
       | false=>none
  | .seq a b=>match evC ov ro n nt a fr st with
   | some (.nrm,fr,st)=>evC ov ro n nt b fr st
   | r=>r
  | .cond c a b=>match zL fr c with
   | some (.b true)=>evC ov ro n nt a fr st
   | some (.b false)=>evC ov ro n nt b fr st
   | _=>none
  | .block id b=>match evC ov ro n nt b fr st with
   | some (.exit id',fr,st)=>cond (Nat.beq id' id) (some (.nrm,fr,st)) (some (.exit id',fr,st))
   | r=>r
  | .loop b=>Zbv (evC ov ro n nt b) n fr st
  | .exit id=>some (.exit id,fr,st)
  | .goto l=>some (.goto l,fr,st)
  | .scope b=>jaT (evC ov ro n nt) b n b fr st
  | .ret=>some (.ret,fr,st)
  | _=>none
def evF (ov:Ov) (ro n:Nat) (f:FuncId) (args:List V) (st:St):Option (V×St):=ZS P ov (evC P ov ro n) f args st
end
def jfv:List (Nat×List V)->T Blk
 | []=>.e
 | (g,cs)::r=>match JbE cs 1 false with
  | some b=>(jfv r).upd g (some b)
  | none=>jfv r
def st0 (gs:List (Nat×List V)):St:=⟨GL,jfv gs,GL⟩
end Go.Vm
namespace Go.Vm
theorem T.get_mkL {α:Type} (v:Option α) (r t:T α) (k:Nat):(T.mkL v r t).get k=(T.n t v r).get k:=by cases t <;> rfl
theorem T.get_mkR {α:Type} (l:T α) (v:Option α) (t:T α) (k:Nat):(T.mkR l v t).get k=(T.n l v t).get k:=by cases t <;> rfl
theorem T.get_e {α:Type} (k:Nat):(T.e:T α).get k=none:=rfl
theorem T.get_n {α:Type} (l r:T α) (v:Option α) (k:Nat):(T.n l v r).get k=match k with
  | 0=>v
  | m+1=>cond (Nat.beq (m%2) 0) (l.get (m / 2)) (r.get (m / 2)):=rfl
theorem T.get_go {α:Type} (x:Option α):∀(f:Nat) (t:T α) (i k:Nat),i<f->(T.go x f t i).get k=if k=i then x else t.get k:=by
 intro f
 induction f with
 | zero=>intro t i k h;omega
 | succ f ih=>
  intro t i k h;cases i with
  | zero=>
   cases t <;> cases k <;> simp [T.go,T.get_n,T.get_e]
  | succ m=>
   have hm:m / 2<f:=by omega
   have key:∀(l r:T α) (v:Option α),(cond (Nat.beq (m%2) 0) (T.mkL v r (T.go x f l (m / 2))) (T.mkR l v (T.go x f r (m / 2)))).get k=if k=m+1 then x else (T.n l v r).get k:=by
    intro l r v;by_cases hp:m%2=0
    ·have hb:Nat.beq (m%2) 0=true:=by rw [Rc];exact hp
     simp only [hb,Qa,T.get_mkL];cases k with
     | zero=>simp [T.get_n]
     | succ j=>
      simp only [T.get_n];by_cases hj:j%2=0
      ·have hb':Nat.beq (j%2) 0=true:=by rw [Rc];exact hj
       simp only [hb',Qa,ih l (m / 2) (j / 2) hm];by_cases e:j=m
       ·subst e;simp
       ·have:¬(j / 2=m / 2):=by omega
        have:¬(j+1=m+1):=by omega
        simp [*]
      ·have hb':Nat.beq (j%2) 0=false:=by rw [dl];intro h;rw [Rc] at h;exact hj h
       have:¬j=m:=by omega
       simp [hb',this]
    ·have hb:Nat.beq (m%2) 0=false:=by rw [dl];intro h;rw [Rc] at h;exact hp h
     simp only [hb,Yc,T.get_mkR];cases k with
     | zero=>simp [T.get_n]
     | succ j=>
      simp only [T.get_n];by_cases hj:j%2=0
      ·have hb':Nat.beq (j%2) 0=true:=by rw [Rc];exact hj
       have:¬j=m:=by omega
       simp [hb',this]
      ·have hb':Nat.beq (j%2) 0=false:=by rw [dl];intro h;rw [Rc] at h;exact hj h
       simp only [hb',Yc,ih r (m / 2) (j / 2) hm];by_cases e:j=m
       ·subst e;simp
       ·have:¬(j / 2=m / 2):=by omega
        have:¬(j+1=m+1):=by omega
        simp [*]
   cases t with
   | e=>
    simp only [T.go];rw [key];cases k <;> simp [T.get_n,T.get_e]
   | n l v r=>
    simp only [T.go];rw [key]
theorem Tgu {α:Type} (t:T α) (i k:Nat) (x:Option α):(t.upd i x).get k=if k=i then x else t.get k:=T.get_go x (i+1) t i k (gk i)
theorem jy {R:Type} (n:Nat) (k:Nat->R):Zbu n k=k n:=by cases n <;> rfl
theorem zib {R:Type} (n:Int) (k:Int->R):Jjc n k=k n:=by cases n <;> simp [Jjc,jy]
theorem zhs {R:Type} (n:Bool) (k:Bool->R):jia n k=k n:=by cases n <;> rfl
theorem jhs {R:Type} (n:IntKind) (k:IntKind->R):jiK n k=k n:=by cases n <;> rfl
theorem V.force_eq {R:Type} (v:V) (k:V->R):v.force k=k v:=by cases v <;> simp [V.force,jy,zib,zhs,jhs]
theorem zew (l:List UInt8):jY l<256^l.length:=by
 induction l with
 | nil=>simp [jY]
 | cons c r ih=>
  have hc:=c.toNat_lt;simp only [jY,da,gl];have:256*jY r+256<=256*256^r.length:=by
   have:=Nat.mul_le_mul_left 256 (Nat.succ_le_of_lt ih);simpa [Nat.mul_add] using this
  omega
theorem zp (n x:Nat):(Jf n x).length=n:=by
 induction n generalizing x with
 | zero=>rfl
 | succ n ih=>simp [Jf,ih]
theorem zN (l:List UInt8):Jf l.length (jY l)=l:=by
 induction l with
 | nil=>rfl
 | cons c r ih=>
  have hc:=c.toNat_lt;have h1:(c.toNat+256*jY r)%256=c.toNat:=by omega
  have h2:(c.toNat+256*jY r) / 256=jY r:=by omega
  simp only [jY,da,Jf,h1,h2,ih];simp
theorem zbF (n x:Nat) (h:x<256^n):jY (Jf n x)=x:=by
 induction n generalizing x with
 | zero=>simp at h;simp [Jf,jY,h]
 | succ n ih=>
  have:x / 256<256^n:=by rw [gl] at h;omega
  simp only [Jf,jY,ih _ this];have:(UInt8.ofNat (x%256)).toNat=x%256:=by simp
  rw [this];omega
theorem Zfv (l m x y:Nat) (h:x<256^l):Jf (l+m) (x+256^l*y)=Jf l x++Jf m y:=by
 induction l generalizing x with
 | zero=>simp at h;subst h;simp [Jf]
 | succ l ih=>
  have e:256^(l+1)*y=256*(256^l*y):=by rw [gl,yl (256^l) 256,Nat.mul_assoc]
  have h1:(x+256^(l+1)*y)%256=x%256:=by rw [e];omega
  have h2:(x+256^(l+1)*y) / 256=x / 256+256^l*y:=by rw [e];omega
  have h3:x / 256<256^l:=by rw [gl] at h;omega
  rw [show l+1+m=(l+m)+1 from by omega]
  simp only [Jf,h1,h2,ih _ h3,Qc]
theorem jiL (l m x y:Nat) (h:x<256^l) (h':y<256^m):x+256^l*y<256^(l+m):=by
 rw [Nat.pow_add]
 calc x+256^l*y<256^l+256^l*y:=by omega
  _=256^l*(y+1):=by rw [Nat.mul_add];omega
  _<=256^l*256^m:=Nat.mul_le_mul_left _ h'
theorem zeZ (n k x:Nat):(Jf (k+n) x).drop k=Jf n (x / 256^k):=by
 induction k generalizing x with
 | zero=>simp
 | succ k ih=>
  rw [show k+1+n=(k+n)+1 from by omega]
  simp only [Jf,Hf,ih];rw [Nat.div_div_eq_div_mul,gl,yl 256]
theorem jeZ (n k x:Nat):(Jf (n+k) x).take n=Jf n x:=by
 induction n generalizing x with
 | zero=>simp [Jf]
 | succ n ih=>
  rw [show n+1+k=(n+k)+1 from by omega]
  simp only [Jf,Hn,ih]
theorem ZdC (n x:Nat):Jf n (x%256^n)=Jf n x:=by
 induction n generalizing x with
 | zero=>rfl
 | succ n ih=>
  have h1:x%256^(n+1)%256=x%256:=by
   rw [gl,yl];exact Nat.mod_mul_right_mod x 256 (256^n)
  have h2:x%256^(n+1) / 256=x / 256%256^n:=by
   rw [gl,yl];exact Nat.mod_mul_right_div_self x 256 (256^n)
  simp only [Jf,h1,h2,ih]
theorem jcv (n x lo hi:Nat) (h1:lo<=hi) (h2:hi<=n):Jf (hi-lo) (x / 256^lo%256^(hi-lo))=((Jf n x).drop lo).take (hi-lo):=by
 rw [ZdC];have e:n=lo+((hi-lo)+(n-hi)):=by omega
 rw [e,zeZ,jeZ]
theorem JdC (n x i:Nat) (h:i<n):(Jf n x)[i]?=some (UInt8.ofNat (ZcH x i)):=by
 induction n generalizing x i with
 | zero=>omega
 | succ n ih=>
  cases i with
  | zero=>simp [Jf,ZcH]
  | succ i=>
   simp only [Jf,List.getElem?_cons_succ,ih (x / 256) i (by omega),ZcH]
   rw [Nat.div_div_eq_div_mul,gl,yl 256]
theorem ZeZ (x i:Nat):ZcH x i<256:=gh _ (by decide)
theorem Jfv (l m x y:Nat) (hx:x<256^l) (hy:y<256^m):(Jf l x=Jf m y)=(l=m/\x=y):=by
 apply propext;constructor
 ·intro h;have h1:=Ya List.length h;rw [zp,zp] at h1;have h2:=Ya jY h;rw [zbF _ _ hx,zbF _ _ hy] at h2;exact ⟨h1,h2⟩
 ·rintro ⟨rfl,rfl⟩;rfl
theorem Zcv (l m x y:Nat) (hx:x<256^l) (hy:y<256^m):(Jf l x==Jf m y)=(Nat.beq l m&&Nat.beq x y):=by
 rw [He];simp only [beq_iff_eq,yb,Rc];exact iff_of_eq (Jfv l m x y hx hy)
structure Inj where
 nx:Nat
 m:Nat->Nat×Nat×Nat
 fix:∀g,g<GL->g<nx/\m g=(g,0,0)
mutual
def V.real (J:Inj):V->Value
 | .b x=>.bool x
 | .i k n=>.int k n
 | .s l x=>.string ⟨(Jf l x).toArray⟩
 | .p g o=>.pointer (some ⟨(J.m g).1,(J.m g).2.1+o,none⟩)
 | .pn=>.pointer none
 | .sl g o l c op=>.slice (some ⟨(J.m g).1,(J.m g).2.1+o,none⟩) l (c+cond op (J.m g).2.2 0)
 | .sn=>.slice none 0 0
 | .se g o q=>.slice (some ⟨(J.m g).1,(J.m g).2.1+cond (Nat.beq (J.m g).2.2 0) o q,none⟩) 0 (J.m g).2.2
 | .ze x=>.slice (some x) 0 0
 | .f fn xs ys=>.func fn (V.reals J xs).toArray (V.reals J ys).toArray
 | .fz=>.nilFunc
 | .nz=>.nilIface
 | .a cs=>.agg (V.reals J cs).toArray
 | .t vs=>.tuple (V.reals J vs).toArray
def V.reals (J:Inj):List V->List Value
 | []=>[]
 | v::r=>V.real J v::V.reals J r
end
mutual
def V.ok (n:Nat):V->Prop
 | .s l x=>x<256^l
 | .p g _=>g<n
 | .sl g _ l c _=>g<n/\l<=c
 | .se g _ _=>g<n
 | .f _ xs ys=>V.oks n xs/\V.oks n ys
 | .a cs=>V.oks n cs
 | .t vs=>V.oks n vs
 | _=>True
def V.oks (n:Nat):List V->Prop
 | []=>True
 | v::r=>V.ok n v/\V.oks n r
end
theorem Vre (J:Inj) (l:List V):V.reals J l=l.map (V.real J):=by
 induction l with
 | nil=>simp [V.reals]
 | cons v r ih=>simp [V.reals,ih]
theorem V.oks_iff (n:Nat) (l:List V):V.oks n l↔∀v∈l,V.ok n v:=by
 induction l with
 | nil=>simp [V.oks]
 | cons v r ih=>simp [V.oks,ih]
structure Inj.le (J J':Inj):Prop where
 nx:J.nx<=J'.nx
 m:∀g,g<J.nx->J'.m g=J.m g
theorem Inj.le.refl (J:Inj):J.le J:=⟨Ra _,λ_ _=>rfl⟩
theorem Inj.le.trans {a b c:Inj} (h:a.le b) (k:b.le c):a.le c:=⟨Yb h.nx k.nx,λg hg=>(k.m g (xi hg h.nx)).trans (h.m g hg)⟩
mutual
theorem V.real_le {J J':Inj} (h:J.le J'):(v:V)->v.ok J.nx->v.real J'=v.real J
 | .b _,_=>rfl
 | .i _ _,_=>rfl
 | .s _ _,_=>rfl
 | .p g _,k=>by simp only [V.ok] at k;simp only [V.real,h.m g k]
 | .pn,_=>rfl
 | .sl g _ _ _ _,k=>by simp only [V.ok] at k;simp only [V.real,h.m g k.1]
 | .sn,_=>rfl
 | .se g _ _,k=>by simp only [V.ok] at k;simp only [V.real,h.m g k]
 | .ze _,_=>rfl
 | .f _ xs ys,k=>by simp only [V.ok] at k;simp only [V.real,V.reals_le h xs k.1,V.reals_le h ys k.2]
 | .fz,_=>rfl
 | .nz,_=>rfl
 | .a cs,k=>by simp only [V.ok] at k;simp only [V.real,V.reals_le h cs k]
 | .t vs,k=>by simp only [V.ok] at k;simp only [V.real,V.reals_le h vs k]
theorem V.reals_le {J J':Inj} (h:J.le J'):(l:List V)->V.oks J.nx l->V.reals J' l=V.reals J l
 | [],_=>rfl
 | v::r,k=>by simp only [V.oks] at k;simp only [V.reals,V.real_le h v k.1,V.reals_le h r k.2]
end
mutual
theorem V.ok_le {n m:Nat} (h:n<=m):(v:V)->v.ok n->v.ok m
 | .b _,_=>by simp [V.ok]
 | .i _ _,_=>by simp [V.ok]
 | .s _ _,k=>by simpa [V.ok] using k
 | .p g _,k=>by simp only [V.ok] at k |-;omega
 | .pn,_=>by simp [V.ok]
 | .sl g _ _ _ _,k=>by simp only [V.ok] at k |-;omega
 | .sn,_=>by simp [V.ok]
 | .se g _ _,k=>by simp only [V.ok] at k |-;omega
 | .ze _,_=>by simp [V.ok]
 | .f _ xs ys,k=>by simp only [V.ok] at k |-;exact ⟨V.oks_le h xs k.1,V.oks_le h ys k.2⟩
 | .fz,_=>by simp [V.ok]
 | .nz,_=>by simp [V.ok]
 | .a cs,k=>by simp only [V.ok] at k |-;exact V.oks_le h cs k
 | .t vs,k=>by simp only [V.ok] at k |-;exact V.oks_le h vs k
theorem V.oks_le {n m:Nat} (h:n<=m):(l:List V)->V.oks n l->V.oks m l
 | [],_=>by simp [V.oks]
 | v::r,k=>by simp only [V.oks] at k |-;exact ⟨V.ok_le h v k.1,V.oks_le h r k.2⟩
end
theorem V.real_plain (J J':Inj) (v:V) (h:v.plain=true):v.real J'=v.real J:=by cases v <;> simp_all [V.plain,V.real]
theorem V.reals_plain (J J':Inj) (l:List V) (h:l.all V.plain=true):V.reals J' l=V.reals J l:=by
 induction l with
 | nil=>rfl
 | cons v r ih=>simp only [List.all_cons,yb] at h;simp only [V.reals,V.real_plain J J' v h.1,ih h.2]
theorem V.real_plainT (J J':Inj) (v:V) (h:v.plainT=true):v.real J'=v.real J:=by
 cases v with
 | a cs=>simp only [V.real,V.reals_plain J J' cs (show cs.all V.plain=true from h)]
 | t cs=>simp only [V.real,V.reals_plain J J' cs (show cs.all V.plain=true from h)]
 | _=>exact V.real_plain J J' _ h
theorem V.ok_plain (n m:Nat) (v:V) (h:v.plain=true) (k:v.ok n):v.ok m:=by cases v <;> simp_all [V.plain,V.ok]
theorem V.ok_plainT (n m:Nat) (v:V) (h:v.plainT=true) (k:v.ok n):v.ok m:=by
 have all:∀l:List V,l.all V.plain=true->V.oks n l->V.oks m l:=by
  intro l h k;rw [V.oks_iff] at k |-;intro v hv;rw [Hk] at h;exact V.ok_plain n m v (h v hv) (k v hv)
 cases v with
 | a cs=>simp only [V.ok] at k |-;exact all cs (show cs.all V.plain=true from h) k
 | t cs=>simp only [V.ok] at k |-;exact all cs (show cs.all V.plain=true from h) k
 | _=>exact V.ok_plain n m _ h k
theorem Vcr (J:Inj) (v:V):(v.real J).cells=(v.cells.map (V.real J)).toArray:=by
 cases v <;> simp [V.real,V.cells,Value.cells,Vre]
theorem V.oneCell_real (J:Inj) (v:V) (h:v.atom=true):(v.real J).oneCell'=true:=by
 cases v <;> simp_all [V.atom,V.real,Value.oneCell']
theorem V.ok_cells {n:Nat} {v:V} (h:v.ok n):∀c∈v.cells,c.ok n:=by
 cases v <;> simp_all [V.cells,V.ok,V.oks_iff]
end Go.Vm
namespace Go.Vm
open Go.RowKit
structure Old (B w:World):Prop where
 size:B.heap.size<=w.heap.size
 block:∀i,i<B.heap.size->w.heap[i]?=B.heap[i]?
theorem Old.refl (B:World):Old B B:=⟨Ra _,λ_ _=>rfl⟩
theorem Old.below {B w w':World} (h:Old B w) (k:Below B.heap.size w w'):Old B w':=⟨Yb h.size k.size,λi hi=>(k.block i hi).trans (h.block i hi)⟩
def BR (J:Inj) (ro:Nat) (B:World) (g:Nat) (b:Blk) (w:World):Prop:=
 g<J.nx/\∃c e fz,w.heap[(J.m g).1]?=some (.cells c e fz)/\(J.m g).2.1+b.sz<=c.size/\
  (b.op=true->(J.m g).2.1+b.sz+(J.m g).2.2*b.es=c.size/\b.zero=[])/\
  (ro<=g->B.heap.size<=(J.m g).1/\∀o,o<c.size+b.op.toNat->(decide (fz.1<=o)&&decide (o<fz.2))=false/\fz.1<=fz.2)/\
  (∀o v,b.get o=some v->v.ok J.nx/\v.atom=true/\c[(J.m g).2.1+o]?=some (v.real J))
structure HR (J:Inj) (ro:Nat) (B:World) (h:Nat->Option Blk) (w:World):Prop where
 base:Old B w
 blk:∀g b,h g=some b->BR J ro B g b w
 inj:∀g g' b b',h g=some b->h g'=some b'->(J.m g).1=(J.m g').1->g=g'
theorem HR.congr {J:Inj} {ro:Nat} {B:World} {h:Nat->Option Blk} {w w':World} (hh:HR J ro B h w) (e:w'.heap=w.heap):HR J ro B h w':=
 ⟨⟨by rw [e];exact hh.base.size,by rw [e];exact hh.base.block⟩,λg b hg=>by have:=hh.blk g b hg;unfold BR at *;rw [e];exact this,hh.inj⟩
theorem BR.lt {J:Inj} {ro g:Nat} {B:World} {b:Blk} {w:World} (h:BR J ro B g b w):(J.m g).1<w.heap.size:=by
 obtain ⟨_,c,e,fz,hc,_⟩:=h;rcases Hg (J.m g).1 w.heap.size with h|h
 ·exact h
 ·rw [Array.getElem?_eq_none h] at hc;cases hc
theorem BR.cell {J:Inj} {ro g:Nat} {B:World} {b:Blk} {w:World} (h:BR J ro B g b w) {o:Nat} {v:V} (hv:b.get o=some v) :
  w.cell? ⟨(J.m g).1,(J.m g).2.1+o,none⟩=some (v.real J)/\v.ok J.nx/\v.atom=true:=by
 obtain ⟨_,c,e,fz,hc,_,_,_,h4⟩:=h;obtain ⟨h1,h2,h3⟩:=h4 o v hv;exact ⟨by simp [World.cell?,hc,h3],h1,h2⟩
theorem Blk.get_lt {b:Blk} {o:Nat} {v:V} (h:b.get o=some v):o<b.sz:=by
 unfold Blk.get at h;cases e:Nat.blt o b.sz
 ·rw [e] at h;simp at h
 ·rw [ge] at e;exact e
theorem Blk.row_spec {b:Blk}:∀(n o:Nat) (cs:List V),b.row n o=some cs->cs.length=n/\∀j v,cs[j]?=some v->b.get (o+j)=some v
 | 0,o,cs,h=>by simp only [Blk.row,xa] at h;subst h;simp
 | n+1,o,cs,h=>by
  simp only [Blk.row] at h;cases hv:b.get o with
  | none=>simp [hv] at h
  | some v=>
   cases hr:b.row n (o+1) with
   | none=>simp [hv,hr] at h
   | some r=>
    simp only [hv,hr,xa] at h;subst h;obtain ⟨h1,h2⟩:=Blk.row_spec n (o+1) r hr;refine ⟨by simp [h1],λj x hj=>?_⟩
    cases j with
    | zero=>simp only [List.getElem?_cons_zero,xa] at hj;subst hj;simpa using hv
    | succ j=>simp only [List.getElem?_cons_succ] at hj;have:=h2 j x hj;rw [show o+(j+1)=o+1+j from by omega];exact this
theorem BR.row {P:Program} {J:Inj} {ro g:Nat} {B:World} {b:Blk} {w:World} (h:BR J ro B g b w) {n o:Nat} {cs:List V} (hr:b.row n o=some cs) :
  (loadCells ⟨(J.m g).1,(J.m g).2.1+o,none⟩ n).run P w=.ok (cs.map (V.real J)).toArray w/\cs.length=n/\(∀v∈cs,v.ok J.nx)/\∀v∈cs,v.atom=true:=by
 obtain ⟨h1,h2⟩:=Blk.row_spec n o cs hr;have hc:∀j v,(cs.map (V.real J))[j]?=some v->w.cell? ((⟨(J.m g).1,(J.m g).2.1+o,none⟩:Addr).add j)=some v:=by
  intro j v hj;rw [List.getElem?_map] at hj;cases hx:cs[j]? with
  | none=>simp [hx] at hj
  | some x=>
   simp only [hx,yg,xa] at hj;subst hj;rw [Addr.add_lit,Qf];exact (h.cell (h2 j x hx)).1
 have:=run_loadCells_list (P:=P) (w:=w) ⟨(J.m g).1,(J.m g).2.1+o,none⟩ (cs.map (V.real J)) hc;rw [Qm,h1] at this;refine ⟨this,h1,λv hv=>?_,λv hv=>?_⟩
 ·obtain ⟨j,hj⟩:=List.getElem?_of_mem hv;exact (h.cell (h2 j v hj)).2.1
 ·obtain ⟨j,hj⟩:=List.getElem?_of_mem hv;exact (h.cell (h2 j v hj)).2.2
theorem Blk.get_set (b:Blk) (o k:Nat) (v:V) (ho:o<b.sz):(b.set o v).get k=if k=o then some v else b.get k:=by
 unfold Blk.get Blk.set;dsimp only;rw [Tgu];by_cases e:k=o
 ·subst e;simp [show Nat.blt k b.sz=true from by rw [ge];exact ho]
 ·simp [e]
theorem Blk.put_spec:∀(vs:List V) (b b':Blk) (o:Nat),b.put vs o=some b'->
  b'.sz=b.sz/\b'.es=b.es/\b'.op=b.op/\b'.zero=b.zero/\(∀k,b'.get k=if o<=k/\k<o+vs.length then vs[k-o]? else b.get k)/\(∀v∈vs,v.atom=true)/\(vs=[]\/o+vs.length<=b.sz)
 | [],b,b',o,h=>by
  simp only [Blk.put,xa] at h;subst h;exact ⟨rfl,rfl,rfl,rfl,λk=>by rw [ga (by simp)],by simp,.inl rfl⟩
 | v::r,b,b',o,h=>by
  simp only [Blk.put,V.force_eq] at h;cases hc:(Nat.blt o b.sz&&v.atom) with
  | false=>simp [hc] at h
  | true=>
   simp only [hc,Qa] at h;simp only [yb,ge] at hc;obtain ⟨h1,h2,h3,h4,h5,h6,h7⟩:=Blk.put_spec r (b.set o v) b' (o+1) h;refine ⟨h1,h2,h3,h4,λk=>?_,λx hx=>?_,.inr ?_⟩
   ·rw [h5 k,Blk.get_set b o k v hc.1];by_cases e:k=o
    ·subst e;rw [ga (by omega),ya rfl,ya (by simp)]
     simp
    ·by_cases e2:o+1<=k/\k<o+1+r.length
     ·rw [ya e2,ya (by simp;omega),show k-o=(k-(o+1))+1 from by omega]
      simp
     ·rw [ga e2,ga e,ga (by simp;omega)]
   ·rcases gc.1 hx with rfl|hx
    ·exact hc.2
    ·exact h6 x hx
   ·rcases h7 with rfl|h7
    ·simp;omega
    ·have:(b.set o v).sz=b.sz:=rfl;rw [this] at h7;simp;omega
theorem JL {cs:List V} {es:Nat} {op:Bool} {b:Blk} (h:JbE cs es op=some b) :
  b.sz=cs.length/\b.es=es/\b.op=op/\b.zero=[]/\(∀k:Nat,b.get k=cs[k]?)/\∀v∈cs,v.atom=true:=by
 obtain ⟨h1,h2,h3,h4,h5,h6,_⟩:=Blk.put_spec _ _ _ _ h;refine ⟨h1,h2,h3,h4,λk=>?_,h6⟩
 rw [h5 k];by_cases e:k<cs.length
 ·rw [ya (by omega)];simp
 ·rw [ga (by omega)]
  rw [List.getElem?_eq_none (by omega)]
  cases hg:(Blk.mk T.e [] cs.length es op).get k with
  | none=>rfl
  | some v=>have:=Blk.get_lt hg;dsimp only at this;omega
theorem HR.set {J:Inj} {ro:Nat} {B:World} {h:Nat->Option Blk} {w:World} (hh:HR J ro B h w) {g o:Nat} {b:Blk} {v:V} (hg:h g=some b) (hro:ro<=g) (ho:o<b.sz)
  (hv:v.ok J.nx) (ha:v.atom=true) :
  HR J ro B (λk=>if k=g then some (b.set o v) else h k) (w.setCell ⟨(J.m g).1,(J.m g).2.1+o,none⟩ (v.real J)):=by
 obtain ⟨hlt,c,e,fz,hc,h1,h2,h3,h4⟩:=hh.blk g b hg;have hheap:∀k,k≠(J.m g).1->(w.setCell ⟨(J.m g).1,(J.m g).2.1+o,none⟩ (v.real J)).heap[k]?=w.heap[k]?:=λk hk=>Below.heap_setCell _ _ _ _ hk
 have hself:(w.setCell ⟨(J.m g).1,(J.m g).2.1+o,none⟩ (v.real J)).heap[(J.m g).1]?=some (.cells (c.setIfInBounds ((J.m g).2.1+o) (v.real J)) e fz):=by
  simp only [World.setCell,Array.getElem?_modify,hc,if_true,yg];rfl
 refine ⟨hh.base.below ((Below.refl _ w).setCell (h3 hro).1 _),λk bk hk=>?_,λk k' bk bk' hk hk' heq=>?_⟩
 ·by_cases hkg:k=g
  ·subst hkg;simp only [if_true,xa] at hk;subst hk;refine ⟨hlt,c.setIfInBounds ((J.m k).2.1+o) (v.real J),e,fz,hself,by rw [Qh];exact h1,by rw [Qh];exact h2,by rw [Qh];exact h3,λj x hx=>?_⟩
   rw [Blk.get_set b o j v ho] at hx;by_cases hjo:j=o
   ·subst hjo;simp only [if_true,xa] at hx;subst hx;refine ⟨hv,ha,?_⟩;rw [Array.getElem?_setIfInBounds_self_of_lt (by omega)]
   ·rw [ga hjo] at hx;obtain ⟨q1,q2,q3⟩:=h4 j x hx;exact ⟨q1,q2,by rw [Array.getElem?_setIfInBounds_ne (by omega)];exact q3⟩
  ·rw [ga hkg] at hk;have hne:(J.m k).1≠(J.m g).1:=λe=>hkg (hh.inj k g bk b hk hg e)
   have:=hh.blk k bk hk;unfold BR at *;rw [hheap _ hne];exact this
 ·have hex:∀q bq,(if q=g then some (b.set o v) else h q)=some bq->∃b',h q=some b':=by
   intro q bq hq;by_cases e:q=g
   ·subst e;exact ⟨b,hg⟩
   ·rw [ga e] at hq;exact ⟨bq,hq⟩
  obtain ⟨b1,hb1⟩:=hex k bk hk;obtain ⟨b2,hb2⟩:=hex k' bk' hk';exact hh.inj k k' b1 b2 hb1 hb2 heq
theorem jib {h:Nat->Option Blk} {g:Nat} (x y:Option Blk):(λk=>if k=g then x else (λk=>if k=g then y else h k) k)=λk=>if k=g then x else h k:=by
 funext k;by_cases e:k=g <;> simp [e]
theorem Zhs {h:Nat->Option Blk} {g:Nat} {b:Blk} (hg:h g=some b):(λk=>if k=g then some b else h k)=h:=by
 funext k;by_cases e:k=g <;> simp [e,hg]
theorem HR.put {P:Program} {J:Inj} {ro:Nat} {B:World}:∀(vs:List V) {h:Nat->Option Blk} {w:World} (_:HR J ro B h w) {g o i:Nat} {b b':Blk} (_:h g=some b) (_:ro<=g) (_:b.put vs (o+i)=some b')
  (_:∀v∈vs,v.ok J.nx),∃w',(storeCells ⟨(J.m g).1,(J.m g).2.1+o,none⟩ (vs.map (V.real J)) i).run P w=.ok () w'/\
   HR J ro B (λk=>if k=g then some b' else h k) w'/\Below B.heap.size w w'/\∀k,k≠(J.m g).1->w'.heap[k]?=w.heap[k]?
 | [],h,w,hh,g,o,i,b,b',hg,hro,hp,hv=>by
  simp only [Blk.put,xa] at hp;subst hp;exact ⟨w,rfl,by rw [Zhs hg];exact hh,Below.refl _ _,λ_ _=>rfl⟩
 | v::r,h,w,hh,g,o,i,b,b',hg,hro,hp,hv=>by
  simp only [Blk.put,V.force_eq] at hp;cases hc:(Nat.blt (o+i) b.sz&&v.atom) with
  | false=>simp [hc] at hp
  | true=>
   simp only [hc,Qa] at hp;simp only [yb,ge] at hc;obtain ⟨hlt,c,e,fz,hcell,h1,h2,h3,h4⟩:=hh.blk g b hg;obtain ⟨hB,hfz⟩:=h3 hro;have hsome:∃u,w.cell? ⟨(J.m g).1,(J.m g).2.1+o+i,none⟩=some u:=by
    have:(J.m g).2.1+o+i<c.size:=by omega
    exact ⟨c[(J.m g).2.1+o+i],by simp [World.cell?,hcell,Array.getElem?_eq_getElem this]⟩
   obtain ⟨u,hu⟩:=hsome;have hfr:w.frozen? ⟨(J.m g).1,(J.m g).2.1+o+i,none⟩=false:=by
    have:=hfz ((J.m g).2.1+o+i) (by omega)
    simp only [World.frozen?,hcell];exact this.1
   have hs:=hh.set hg hro hc.1 (hv v (yc ..)) hc.2;rw [<-Qf] at hs;have hb1:(λk=>if k=g then some (b.set (o+i) v) else h k) g=some (b.set (o+i) v):=by simp
   obtain ⟨w',hr,hh',hbel,hko⟩:=HR.put (P:=P) r hs (g:=g) (o:=o) (i:=i+1) (b:=b.set (o+i) v) (b':=b') hb1 hro (by rw [<-Qf];exact hp) (λx hx=>hv x (gd _ hx))
   refine ⟨w',?_,by rw [jib] at hh';exact hh',(Below.setCell (Below.refl B.heap.size w) (p:=⟨(J.m g).1,(J.m g).2.1+o+i,none⟩) hB (v.real J)).trans hbel,λk hk=>(hko k hk).trans (Below.heap_setCell _ _ _ _ hk)⟩
   rw [Rl];unfold storeCells;rw [Qd,Addr.add_lit,run_store P w _ _ .plain (V.oneCell_real J v hc.2),hu];simp only [hfr,yd,if_false,Yd];exact hr
def Inj.push (J:Inj) (x:Nat×Nat×Nat):Inj:=⟨J.nx+1,λg=>if g=J.nx then x else J.m g,λg hg=>⟨Nat.lt_succ_of_lt (J.fix g hg).1,by rw [ga (Nat.ne_of_lt (J.fix g hg).1)];exact (J.fix g hg).2⟩⟩
theorem Inj.le_push (J:Inj) (x:Nat×Nat×Nat):J.le (J.push x):=⟨di _,λg hg=>by simp [Inj.push];intro h;omega⟩
theorem Ips (J:Inj) (x:Nat×Nat×Nat):(J.push x).m J.nx=x:=by simp [Inj.push]
theorem HR.push {J:Inj} {ro:Nat} {B:World} {h:Nat->Option Blk} {w w':World} (hh:HR J ro B h w) {b:Blk} {r d x:Nat} {c:Array Value} {e:TypeId} {fz:Nat×Nat}
  (hold:∀g b,h g=some b->w'.heap[(J.m g).1]?=w.heap[(J.m g).1]?) (hsz:Old B w')
  (hnew:w'.heap[r]?=some (.cells c e fz)) (hB:B.heap.size<=r) (hfree:∀g b,h g=some b->(J.m g).1≠r)
  (h1:d+b.sz<=c.size) (h2:b.op=true->d+b.sz+x*b.es=c.size/\b.zero=[]) (h3:∀o,o<c.size+b.op.toNat->(decide (fz.1<=o)&&decide (o<fz.2))=false/\fz.1<=fz.2)
  (h4:∀o v,b.get o=some v->v.ok J.nx/\v.atom=true/\c[d+o]?=some (v.real J)) :
  HR (J.push (r,d,x)) ro B (λk=>if k=J.nx then some b else h k) w':=by
 have hle:=J.le_push (r,d,x);refine ⟨hsz,λg bg hg=>?_,λg g' bg bg' hg hg' heq=>?_⟩
 ·by_cases e1:g=J.nx
  ·subst e1;simp only [if_true,xa] at hg;subst hg;refine ⟨gk _,c,e,fz,?_,?_,?_,?_,?_⟩
   ·rw [Ips];exact hnew
   ·rw [Ips];exact h1
   ·rw [Ips];exact h2
   ·rw [Ips];exact λ_=>⟨hB,h3⟩
   ·rw [Ips];intro o v hv;obtain ⟨q1,q2,q3⟩:=h4 o v hv;exact ⟨V.ok_le (di _) v q1,q2,by rw [V.real_le hle v q1];exact q3⟩
  ·rw [ga e1] at hg;obtain ⟨k0,c0,e0,f0,k1,k2,k3,k4,k5⟩:=hh.blk g bg hg;have hm:=hle.m g k0;refine ⟨Nat.lt_succ_of_lt k0,c0,e0,f0,?_,?_,?_,?_,?_⟩
   ·rw [hm,hold g bg hg];exact k1
   ·rw [hm];exact k2
   ·rw [hm];exact k3
   ·rw [hm];exact k4
   ·rw [hm];intro o v hv;obtain ⟨q1,q2,q3⟩:=k5 o v hv;exact ⟨V.ok_le (di _) v q1,q2,by rw [V.real_le hle v q1];exact q3⟩
 ·by_cases e1:g=J.nx <;> by_cases e2:g'=J.nx
  ·rw [e1,e2]
  ·exfalso;rw [ga e2] at hg';have hm:=hle.m g' (hh.blk g' bg' hg').1;rw [e1,Ips,hm] at heq;exact hfree g' bg' hg' heq.symm
  ·exfalso;rw [ga e1] at hg;have hm:=hle.m g (hh.blk g bg hg).1;rw [e2,Ips,hm] at heq;exact hfree g bg hg heq
  ·rw [ga e1] at hg;rw [ga e2] at hg';rw [hle.m g (hh.blk g bg hg).1,hle.m g' (hh.blk g' bg' hg').1] at heq;exact hh.inj g g' bg bg' hg hg' heq
theorem HR.alloc {J:Inj} {ro:Nat} {B:World} {h:Nat->Option Blk} {w:World} (hh:HR J ro B h w) {b:Blk} {x:Nat} {c:Array Value} {e:TypeId} {fz:Nat×Nat}
  (h1:b.sz<=c.size) (h2:b.op=true->b.sz+x*b.es=c.size/\b.zero=[]) (h3:∀o,o<c.size+b.op.toNat->(decide (fz.1<=o)&&decide (o<fz.2))=false/\fz.1<=fz.2)
  (h4:∀o v,b.get o=some v->v.ok J.nx/\v.atom=true/\c[o]?=some (v.real J)) :
  HR (J.push (w.heap.size,0,x)) ro B (λk=>if k=J.nx then some b else h k) (w.alloc (.cells c e fz)):=by
 refine hh.push (c:=c) (e:=e) (fz:=fz) (λg b hg=>Below.heap_alloc _ _ _ (hh.blk g b hg).lt) (hh.base.below ((Below.refl _ w).alloc hh.base.size _)) ?_ hh.base.size (λg b hg=>Nat.ne_of_lt (hh.blk g b hg).lt) (by omega) (λk=>⟨by have:=(h2 k).1;omega,(h2 k).2⟩) h3 (λo v hv=>by simpa using h4 o v hv)
 show (w.heap.push _)[w.heap.size]?=_;simp
theorem HR.less {J:Inj} {ro:Nat} {B:World} {h h':Nat->Option Blk} {w:World} (hh:HR J ro B h w) (hs:∀g b,h' g=some b->h g=some b):HR J ro B h' w:=
 ⟨hh.base,λg b hg=>hh.blk g b (hs g b hg),λg g' b b' hg hg'=>hh.inj g g' b b' (hs g b hg) (hs g' b' hg')⟩
theorem HR.back {J J':Inj} {ro:Nat} {B:World} {h h':Nat->Option Blk} {w w':World} (hh:HR J ro B h w) (hh':HR J' ro B h' w') (hle:J.le J') (hs:∀g b,h g=some b->h' g=some b):HR J ro B h w':=by
 refine ⟨hh'.base,λg b hg=>?_,hh.inj⟩
 obtain ⟨k0,c0,e0,f0,k1,k2,k3,k4,k5⟩:=hh'.blk g b (hs g b hg);obtain ⟨l0,_,_,_,_,_,_,_,l5⟩:=hh.blk g b hg;have hm:=hle.m g l0;rw [hm] at k1 k2 k3 k4 k5;refine ⟨l0,c0,e0,f0,k1,k2,k3,k4,λo v hv=>?_⟩
 obtain ⟨q1,q2,_⟩:=l5 o v hv;obtain ⟨_,_,q3⟩:=k5 o v hv;exact ⟨q1,q2,by rw [V.real_le hle v q1] at q3;exact q3⟩
end Go.Vm
namespace Go.Vm
open Go.RowKit
theorem JeZ {α β:Type} {f:α->Option β}:∀(l:List α) (r:List β),jbE f l=some r->r.length=l.length/\∀(i:Nat) (x:α),l[i]?=some x->∃y,r[i]?=some y/\f x=some y
 | [],r,h=>by simp only [jbE,xa] at h;subst h;simp
 | x::l,r,h=>by
  simp only [jbE] at h;cases h1:f x with
  | none=>simp [h1] at h
  | some y=>
   cases h2:jbE f l with
   | none=>simp [h1,h2] at h
   | some ys=>
    simp only [h1,h2,xa] at h;subst h;obtain ⟨q1,q2⟩:=JeZ l ys h2;refine ⟨by simp [q1],λi z hz=>?_⟩
    cases i with
    | zero=>simp only [List.getElem?_cons_zero,xa] at hz;subst hz;exact ⟨y,by simp,h1⟩
    | succ i=>simp only [List.getElem?_cons_succ] at hz;obtain ⟨y',a1,a2⟩:=q2 i z hz;exact ⟨y',by simpa using a1,a2⟩
theorem zf1 {α β γ:Type} {f:α->Option β} {g:β->γ} {k:α->γ} (hk:∀x y,f x=some y->g y=k x):∀(l:List α) (r:List β),jbE f l=some r->r.map g=l.map k
 | [],r,h=>by simp only [jbE,xa] at h;subst h;simp
 | x::l,r,h=>by
  simp only [jbE] at h;cases h1:f x with
  | none=>simp [h1] at h
  | some y=>
   cases h2:jbE f l with
   | none=>simp [h1,h2] at h
   | some ys=>
    simp only [h1,h2,xa] at h;subst h;simp [hk x y h1,zf1 hk l ys h2]
theorem jf1 {α β:Type} {f:α->Option β} {p:β->Prop} (hk:∀x y,f x=some y->p y):∀(l:List α) (r:List β),jbE f l=some r->∀y∈r,p y
 | [],r,h=>by simp only [jbE,xa] at h;subst h;simp
 | x::l,r,h=>by
  simp only [jbE] at h;cases h1:f x with
  | none=>simp [h1] at h
  | some y=>
   cases h2:jbE f l with
   | none=>simp [h1,h2] at h
   | some ys=>
    simp only [h1,h2,xa] at h;subst h;intro z hz;rcases gc.1 hz with rfl|hz
    ·exact hk x _ h1
    ·exact jf1 hk l ys h2 z hz
theorem V.str_real (J:Inj) (l:List UInt8):(V.str l).real J=.string ⟨l.toArray⟩:=by simp [V.str,V.real,zN]
theorem V.str_ok (n:Nat) (l:List UInt8):(V.str l).ok n:=by simp only [V.str,V.ok];exact zew l
theorem Zf1 (J:Inj) (n:Nat):∀(d:Nat) (x:Value) (v:V),ofV d x=some v->v.real J=x/\v.ok n:=by
 intro d
 induction d with
 | zero=>intro x v h;simp [ofV] at h
 | succ d ih=>
  have lst:∀(cs:Array Value) (r:List V),jbE (ofV d) cs.toList=some r->(V.reals J r).toArray=cs/\V.oks n r:=by
   intro cs r h;refine ⟨?_,?_⟩
   ·rw [Vre,zf1 (g:=V.real J) (k:=id) (λx y hxy=>(ih x y hxy).1) _ _ h];simp
   ·rw [V.oks_iff];exact jf1 (λx y hxy=>(ih x y hxy).2) _ _ h
  intro x v h;unfold ofV at h;split at h
  ·simp at *
  ·simp only [xa] at h;subst h;simp [V.real,V.ok]
  ·simp only [xa] at h;subst h;simp [V.real,V.ok]
  ·rename_i s _;simp only [xa] at h;subst h;exact ⟨by rw [V.str_real],V.str_ok _ _⟩
  ·simp only [xa] at h;subst h;simp [V.real,V.ok]
  ·simp only [xa] at h;subst h;simp [V.real,V.ok]
  ·simp only [xa] at h;subst h;simp [V.real,V.ok]
  ·simp only [xa] at h;subst h;simp [V.real,V.ok]
  ·rename_i d' cs e;simp only [Nat.succ_eq_add_one,Nat.add_right_cancel_iff] at e;subst e;rw [Option.map_eq_some_iff] at h;obtain ⟨r,hr,rfl⟩:=h;obtain ⟨q1,q2⟩:=lst cs r hr;simp only [V.real,V.ok,q1];exact ⟨trivial,q2⟩
  ·rename_i d' cs e;simp only [Nat.succ_eq_add_one,Nat.add_right_cancel_iff] at e;subst e;rw [Option.map_eq_some_iff] at h;obtain ⟨r,hr,rfl⟩:=h;obtain ⟨q1,q2⟩:=lst cs r hr;simp only [V.real,V.ok,q1];exact ⟨trivial,q2⟩
  ·rename_i d' fn xs ys e;simp only [Nat.succ_eq_add_one,Nat.add_right_cancel_iff] at e;subst e;cases h1:jbE (ofV d) xs.toList with
   | none=>simp [h1] at h
   | some r1=>
    cases h2:jbE (ofV d) ys.toList with
    | none=>simp [h1,h2] at h
    | some r2=>
     simp only [h1,h2,xa] at h;subst h;obtain ⟨q1,q2⟩:=lst xs r1 h1;obtain ⟨q3,q4⟩:=lst ys r2 h2;simp only [V.real,V.ok,q1,q3];exact ⟨trivial,q2,q4⟩
  ·simp at h
section
variable {P:Program} {J:Inj} (w:World)
theorem Jem {t:TypeId} {d:TypeDesc} (h:P.underlying t=some d):(isAgg t).run P w=.ok (jbT P t) w:=by
 unfold isAgg jbT;simp only [Qd,run_underlying h,Yd,h];cases d <;> rfl
theorem za8 {t:TypeId} {cs:List V} {off:Nat} {v:V} (h:Jcm P t cs off=some v) :
  (part t (cs.map (V.real J)).toArray off).run P w=.ok (v.real J) w:=by
 unfold Jcm at h;split at h
 ·rename_i ti d hi hd;unfold part;simp only [Qd,Jem w hd,Yd,Sem.run_ite];cases hb:jbT P t with
  | true=>
   simp only [hb,Qa,xa] at h;subst h;simp [sizeOf,typeInfo,hi,V.real,Vre,List.map_take,List.map_drop]
  | false=>
   simp only [hb,Yc] at h;simp [h]
 ·simp at h
theorem Zcf {n:Nat} {t:TypeId} {cs:List V} {off:Nat} {v:V} (h:Jcm P t cs off=some v) (hc:∀c∈cs,c.ok n):v.ok n:=by
 unfold Jcm at h;split at h
 ·cases hb:jbT P t with
  | true=>
   simp only [hb,Qa,xa] at h;subst h;simp only [V.ok,V.oks_iff];exact λc hx=>hc c (Rn (xp hx))
  | false=>
   simp only [hb,Yc] at h;exact hc v (List.mem_of_getElem? h)
 ·simp at h
theorem jgG (l m x y:Nat) (hx:x<256^l) (hy:y<256^m):((⟨(Jf l x).toArray⟩:ByteArray).toList==(⟨(Jf m y).toArray⟩:ByteArray).toList)=(Nat.beq l m&&Nat.beq x y):=by
 rw [ByteArray.toList_mk,ByteArray.toList_mk,Zcv _ _ _ _ hx hy]
theorem zbp {D:Nat} {eq:TypeId->V->V->Option Bool} {n:Nat} {xs ys:List V} (hxs:∀c∈xs,c.ok n) (hys:∀c∈ys,c.ok n)
  (he:∀t x y r,x.ok n->y.ok n->eq t x y=some r->(Op.equalIn D t (x.real J) (y.real J)).run P w=.ok r w) :
  ∀(fs:List Field) (r:Bool),jaZ P eq xs ys fs=some r->(Op.eqFields D (xs.map (V.real J)).toArray (ys.map (V.real J)).toArray fs).run P w=.ok r w
 | [],r,h=>by simp only [jaZ,xa] at h;subst h;simp [Op.eqFields]
 | f::fs,r,h=>by
  simp only [jaZ] at h;unfold Op.eqFields
  cases hn : f.name == "_" with
  | true=>
   simp only [hn,Qa] at h
   have : f.name = "_" := by simpa using hn
   simp only [this,ne_eq,not_true,if_false];exact zbp hxs hys he fs r h
  | false=>
   simp only [hn,Yc] at h
   have : ¬ f.name = "_" := by simpa using hn
   simp only [ne_eq,this,not_false_eq_true,if_true];cases h1:Jcm P f.type xs f.offset with
   | none=>simp [h1] at h
   | some x=>
    cases h2:Jcm P f.type ys f.offset with
    | none=>simp [h1,h2] at h
    | some y=>
     simp only [h1,h2] at h;cases h3:eq f.type x y with
     | none=>simp [h3] at h
     | some q=>
      have:=he f.type x y q (Zcf h1 hxs) (Zcf h2 hys) h3;simp only [Qd,za8 w h1,za8 w h2,Yd,this,Sem.run_ite];cases q with
      | true=>simp only [h3] at h;simpa using zbp hxs hys he fs r h
      | false=>simp only [h3,xa] at h;subst h;simp
theorem zdD {D:Nat} {eq:TypeId->V->V->Option Bool} {n:Nat} {t:TypeId} {sz:Nat} {xs ys:List V} (hxs:∀c∈xs,c.ok n) (hys:∀c∈ys,c.ok n)
  (he:∀t x y r,x.ok n->y.ok n->eq t x y=some r->(Op.equalIn D t (x.real J) (y.real J)).run P w=.ok r w) :
  ∀(m i:Nat) (r:Bool),ZbE P eq t sz xs ys i m=some r->
   (forIn (List.range' i m 1) ((none,PUnit.unit):Option Bool×PUnit) λi (_:Option Bool×PUnit)=>do
     if (!(<-Op.equalIn D t (<-part t (xs.map (V.real J)).toArray (i*sz)) (<-part t (ys.map (V.real J)).toArray (i*sz))))=true then pure (ForInStep.done ((some false,PUnit.unit):Option Bool×PUnit))
     else pure (ForInStep.yield ((none,PUnit.unit):Option Bool×PUnit)):Sem (Option Bool×PUnit)).run P w=.ok (cond r none (some false),PUnit.unit) w
 | 0,i,r,h=>by simp only [ZbE,xa] at h;subst h;simp
 | m+1,i,r,h=>by
  simp only [ZbE] at h;cases h1:Jcm P t xs (i*sz) with
  | none=>simp [h1] at h
  | some x=>
   cases h2:Jcm P t ys (i*sz) with
   | none=>simp [h1,h2] at h
   | some y=>
    simp only [h1,h2] at h;cases h3:eq t x y with
    | none=>simp [h3] at h
    | some q=>
     have:=he t x y q (Zcf h1 hxs) (Zcf h2 hys) h3;rw [List.range'_succ,List.forIn_cons];simp only [Qd,za8 w h1,za8 w h2,Yd,this,Sem.run_ite];cases q with
     | true=>
      simp only [h3] at h;have:=zdD hxs hys he m (i+1) r h;simpa using this
     | false=>simp only [h3,xa] at h;subst h;simp
theorem Jf1 {n:Nat}:∀(d D:Nat) (t:TypeId) (x y:V) (r:Bool),d<=D->x.ok n->y.ok n->veq P d t x y=some r->
  (Op.equalIn D t (x.real J) (y.real J)).run P w=.ok r w:=by
 intro d
 induction d with
 | zero=>intro D t x y r _ _ _ h;simp [veq] at h
 | succ d ih=>
  intro D t x y r hD hx hy h;obtain ⟨D,rfl⟩:∃k,D=k+1:=⟨D-1,by omega⟩
  unfold veq at h;split at h
  ·rename_i a b e;simp only [xa] at h;subst h;simp only [V.real];exact run_equalIn_bool w D t a b e
  ·rename_i k a k' b e;cases hk:decide (k=k') with
   | false=>simp [hk] at h
   | true=>
    simp only [hk,Qa,xa] at h;subst h;have:=Ha hk;subst this;simp only [V.real];exact run_equalIn_int w D t k _ a b e
  ·rename_i e;simp only [xa] at h;subst h;simp only [V.ok] at hx hy;simp only [V.real];rw [run_equalIn_string w D t _ _ e,jgG _ _ _ _ hx hy]
  ·rename_i e;simp only [xa] at h;subst h;simp [V.real,Op.equalIn,run_underlying e]
  ·rename_i e;simp only [xa] at h;subst h;simp [V.real,Op.equalIn,run_underlying e]
  ·rename_i e;simp only [xa] at h;subst h;simp [V.real,Op.equalIn,run_underlying e]
  ·rename_i e;simp only [xa] at h;subst h;simp [V.real,Op.equalIn,run_underlying e]
  ·rename_i e;simp only [xa] at h;subst h;simp [V.real,Op.equalIn,run_underlying e]
  ·rename_i e;simp only [xa] at h;subst h;simp [V.real,Op.equalIn,run_underlying e]
  ·rename_i e;simp only [xa] at h;subst h;simp [V.real,Op.equalIn,run_underlying e]
  ·rename_i e;simp only [xa] at h;subst h;simp [V.real,Op.equalIn,run_underlying e]
  ·rename_i e;simp only [xa] at h;subst h;simp [V.real,Op.equalIn,run_underlying e]
  ·rename_i e;simp only [xa] at h;subst h;simp [V.real,Op.equalIn,run_underlying e]
  ·rename_i e;simp only [xa] at h;subst h;simp [V.real,Op.equalIn,run_underlying e]
  ·rename_i e;simp only [xa] at h;subst h;simp [V.real,Op.equalIn,run_underlying e]
  ·rename_i e;simp only [xa] at h;subst h;simp [V.real,Op.equalIn,run_underlying e]
  ·rename_i fs xs ys e;cases hs:P.stoodInHeld t with
   | true=>simp [hs] at h
   | false=>
    simp only [hs,Yc] at h;have hf:P.fieldsOf t=fs:=by simp [Program.fieldsOf,e]
    simp only [V.real,Vre];rw [run_equalIn_struct w D t _ _ (by rw [hf];exact e) hs,hf]
    simp only [V.ok,V.oks_iff] at hx hy;exact zbp w hx hy (λt x y r h1 h2 h3=>ih D t x y r (by omega) h1 h2 h3) _ _ h
  ·rename_i len el xs ys e;cases hi:P.info? el with
   | none=>simp [hi] at h
   | some ti=>
    simp only [hi] at h;simp only [V.ok,V.oks_iff] at hx hy;have:=zdD w hx hy (λt x y r h1 h2 h3=>ih D t x y r (by omega) h1 h2 h3) len 0 r h
    simp only [V.real,Vre,Op.equalIn,Qd,run_underlying e,Yd,sizeOf,typeInfo,run_program,hi,Yf,Std.Legacy.Range.forIn_eq_forIn_range',Std.Legacy.Range.size];simp only [Yn,Nat.add_sub_cancel,Nat.div_one] at this |-;rw [this];cases r <;> rfl
  ·simp at h
end
end Go.Vm
namespace Go.Vm
open Go.RowKit
section
variable {P:Program} {J:Inj} (w:World)
theorem ZgG {op:BinOp} {k:IntKind} {a b:Int} {v:V} {t:TypeId} (h1:op≠.shl) (h2:op≠.shr) (h:zgF op k a b=some v) :
  (binOp op t (.int k a) (.int k b)).run P w=.ok (v.real J) w/\∀n,v.ok n:=by
 cases op <;> simp only [zgF,Zhr] at h
 case quo=>
  by_cases hb:b=0
  ·simp [hb] at h
  ·simp only [hb,decide_false,Yc,xa] at h;subst h;simp [binOp,Op.intDiv,hb,V.real,V.ok]
 case rem=>
  by_cases hb:b=0
  ·simp [hb] at h
  ·simp only [hb,decide_false,Yc,xa] at h;subst h;simp [binOp,Op.intDiv,hb,V.real,V.ok]
 all_goals first
  | (simp only [xa] at h;subst h;simp [binOp,Op.intArith,Op.intBits,Op.intCmp,V.real,V.ok,ilt,ile];done)
  | (simp only [xa] at h;subst h;constructor <;> simp [binOp,Op.intArith,Op.intBits,Op.intCmp,V.real,V.ok,ilt,ile] <;> rfl)
  | simp_all
theorem jdD {op:BinOp} {k yk:IntKind} {a b:Int} {v:V} {t:TypeId} (h:ZeY op k a b=some v) :
  (binOp op t (.int k a) (.int yk b)).run P w=.ok (v.real J) w/\∀n,v.ok n:=by
 cases op <;> simp only [ZeY] at h
 case shl=>
  by_cases hb:b<0
  ·simp [ilt,hb] at h
  ·simp only [ilt,hb,decide_false,Yc,xa] at h;subst h;simp [binOp,Op.shift,hb,V.real,V.ok]
 case shr=>
  by_cases hb:b<0
  ·simp [ilt,hb] at h
  ·simp only [ilt,hb,decide_false,Yc,xa] at h;subst h;simp [binOp,Op.shift,hb,V.real,V.ok]
 all_goals simp at h
theorem jew (a b:List UInt8):(⟨a.toArray⟩:ByteArray)++⟨b.toArray⟩=⟨(a++b).toArray⟩:=by
 apply ByteArray.ext;simp
theorem JgG {op:BinOp} {l x m y:Nat} {v:V} {t:TypeId} (hx:x<256^l) (hy:y<256^m) (h:JiK op l x m y=some v) :
  (binOp op t ((V.s l x).real J) ((V.s m y).real J)).run P w=.ok (v.real J) w/\∀n,v.ok n:=by
 have hs:∀n x,(⟨(Jf n x).toArray⟩:ByteArray).size=n:=λn x=>by simp [ByteArray.size,zp]
 cases op <;> simp only [JiK] at h
 case add=>
  cases hb:Nat.ble (l+m) 1099511627776 with
  | false=>simp [hb] at h
  | true=>
   simp only [hb,Qa,xa] at h;rw [xd] at hb;subst h;refine ⟨?_,λn=>by simp only [ziI,V.ok];exact jiL l m x y hx hy⟩
   have:¬(((l+m:Nat):Int) > IntKind.i64.max):=by simp;omega
   simp only [V.real,binOp,Op.stringOp,hs,this,if_false,Yf,ziI,Zfv l m x y hx,jew]
 all_goals first
  | (simp only [xa] at h;subst h;constructor <;> simp [V.real,binOp,Op.stringOp,V.ok,ByteArray.toList_mk,Zcv _ _ _ _ hx hy];done)
  | simp at h
theorem ZdD {n:Nat} {t:TypeId} {x y:V} {r:Bool} (hx:x.ok n) (hy:y.ok n) (h:jbZ P t x y=some r) :
  (Op.equal t (x.real J) (y.real J)).run P w=.ok r w/\∀(op:BinOp) (a b:Operand),(eqGuard op t a b (x.real J) (y.real J)).run P w=.ok () w:=by
 unfold jbZ at h;split at h
 ·rename_i xs ys;cases hg:P.eqGuardType P.depth t with
  | true=>simp [hg] at h
  | false=>
   simp only [hg,Yc] at h;exact ⟨Jf1 w 60 Op.maxDepth t _ _ r (by decide) hx hy h,λop a b=>by simp only [V.real];exact run_eqGuard_agg w op t a b _ _ hg⟩
 ·simp at h
 ·rename_i h1 h2;refine ⟨Jf1 w 60 Op.maxDepth t _ _ r (by decide) hx hy h,λop a b=>?_⟩
  have:eqGuard op t a b (x.real J) (y.real J)=pure ():=by
   unfold eqGuard;cases x <;> cases y <;> simp only [V.real] <;> first
    | rfl
    | (cases op <;> rfl)
    | (exact absurd rfl (h1 _ _ rfl))
    | (exact absurd rfl (h2 rfl))
    | (exact (h1 _ _ rfl rfl).elim)
    | (exact (h2 rfl rfl).elim)
  rw [this];rfl
theorem zgH {t:TypeId} {x y:V} (h1:∀k a k' b,x=.i k a->y=.i k' b->False) (h2:∀l a m b,x=.s l a->y=.s m b->False) :
  binOp .eql t (x.real J) (y.real J)=(do pure (.bool (<-Op.equal t (x.real J) (y.real J)))):=by
 cases x <;> cases y <;> first
  | (exact (h1 _ _ _ _ rfl rfl).elim)
  | (exact (h2 _ _ _ _ rfl rfl).elim)
  | (simp only [V.real,binOp];done)
  | (simp only [V.real];unfold binOp;rfl)
theorem jgH {t:TypeId} {x y:V} (h1:∀k a k' b,x=.i k a->y=.i k' b->False) (h2:∀l a m b,x=.s l a->y=.s m b->False) :
  binOp .neq t (x.real J) (y.real J)=(do pure (.bool (!(<-Op.equal t (x.real J) (y.real J))))):=by
 cases x <;> cases y <;> first
  | (exact (h1 _ _ _ _ rfl rfl).elim)
  | (exact (h2 _ _ _ _ rfl rfl).elim)
  | (simp only [V.real,binOp];done)
  | (simp only [V.real];unfold binOp;rfl)
theorem ze0 {n:Nat} {op:BinOp} {t:TypeId} {x y:V} {v:V} (a b:Operand) (hx:x.ok n) (hy:y.ok n) (h:JeY P op t x y=some v) :
  (do eqGuard op t a b (x.real J) (y.real J);binOp op t (x.real J) (y.real J):Sem Value).run P w=.ok (v.real J) w/\v.ok n:=by
 unfold JeY at h;split at h
 ·rename_i k p k' q;simp only [V.real,eqGuard_at_int];split at h
  ·obtain ⟨q1,q2⟩:=jdD (P:=P) (J:=J) w (t:=t) (yk:=k') h;exact ⟨by simpa using q1,q2 n⟩
  ·obtain ⟨q1,q2⟩:=jdD (P:=P) (J:=J) w (t:=t) (yk:=k') h;exact ⟨by simpa using q1,q2 n⟩
  ·rename_i h1 h2;by_cases hk:k=k'
   ·subst hk;simp only [decide_true,Qa] at h;obtain ⟨q1,q2⟩:=ZgG (P:=P) (J:=J) w (t:=t) (λe=>h1 e) (λe=>h2 e) h
    exact ⟨by simpa using q1,q2 n⟩
   ·simp [hk] at h
 ·rename_i l p m q;simp only [V.ok] at hx hy;obtain ⟨q1,q2⟩:=JgG (P:=P) (J:=J) w (t:=t) hx hy h;have:eqGuard op t a b ((V.s l p).real J) ((V.s m q).real J)=pure ():=by simp only [V.real,eqGuard_at_string]
  rw [this];exact ⟨by simpa using q1,q2 n⟩
 ·rename_i h1 h2;split at h
  ·cases he:jbZ P t x y with
   | none=>simp [he] at h
   | some r=>
    simp only [he,xa] at h;subst h;obtain ⟨q1,q2⟩:=ZdD (J:=J) w hx hy he;rw [zgH (λk a k' b e1 e2=>h1 k a k' b e1 e2) (λk a k' b e1 e2=>h2 k a k' b e1 e2)]
    simp [q1,q2,V.real,V.ok]
  ·cases he:jbZ P t x y with
   | none=>simp [he] at h
   | some r=>
    simp only [he,xa] at h;subst h;obtain ⟨q1,q2⟩:=ZdD (J:=J) w hx hy he;rw [jgH (λk a k' b e1 e2=>h1 k a k' b e1 e2) (λk a k' b e1 e2=>h2 k a k' b e1 e2)]
    simp [q1,q2,V.real,V.ok]
  ·simp at h
theorem zf2 {op:UnOp} {x v:V} (h:vun op x=some v):(Op.unary op (x.real J)).run P w=.ok (v.real J) w/\∀n,v.ok n:=by
 unfold vun at h;split at h
 ·simp only [xa] at h;subst h;simp [Op.unary,Op.intArith,V.real,V.ok]
 ·simp only [Zhr,xa] at h;subst h;simp [Op.unary,Op.intBits,V.real,V.ok]
 ·simp only [xa] at h;subst h;simp [Op.unary,V.real,V.ok]
 ·simp at h
theorem ZW {t:TypeId} {n:Nat} (h:zaa P t=some n):(sizeOf t).run P w=.ok n w:=by
 unfold zaa at h;cases hi:P.info? t with
 | none=>simp [hi] at h
 | some ti=>simp only [hi,xa] at h;subst h;simp [sizeOf,typeInfo,hi]
theorem JdD {n:Nat} {t:TypeId} {x v:V} {k:IntKind} {i:Int} (hx:x.ok n) (h:Zdf P t x i=some v) :
  (Instr.index t (x.real J) (.int k i)).run P w=.ok (v.real J) w/\v.ok n:=by
 unfold Zdf at h;split at h
 ·rename_i len bits e;simp only [V.ok] at hx;cases hb:(ile 0 i&&ilt i len) with
  | false=>simp [hb] at h
  | true=>
   simp only [hb,Qa,xa] at h;simp only [ile,ilt,yb,xc] at hb;subst h;have hs:(⟨(Jf len bits).toArray⟩:ByteArray).size=len:=by simp [ByteArray.size,zp]
   simp only [V.real];rw [run_index_string w t _ k i e,dif_pos (by rw [hs];exact hb)]
   refine ⟨?_,by simp [V.ok]⟩
   have hg:=JdC len bits i.toNat (by omega)
   have:((⟨(Jf len bits).toArray⟩:ByteArray)[i.toNat]'(by rw [hs];omega))=UInt8.ofNat (ZcH bits i.toNat):=by
    have h2:i.toNat<(Jf len bits).length:=by rw [zp];omega
    rw [List.getElem?_eq_getElem h2,xa] at hg;rw [<-hg];rfl
   rw [this];have:=ZeZ bits i.toNat;simp;omega
 ·rename_i len el cs e;cases hn:zaa P el with
  | none=>simp [hn] at h
  | some sz=>
   simp only [hn] at h;cases hb:(ile 0 i&&ilt i len) with
   | false=>simp [hb] at h
   | true=>
    simp only [hb,Qa] at h;simp only [ile,ilt,yb,xc] at hb;simp only [V.ok,V.oks_iff] at hx;refine ⟨?_,Zcf h hx⟩;simp only [V.real,Vre,Instr.index,Qd,asIntOf,Yf,Yd,run_underlying e,Sem.run_ite,hb,and_self,if_true,ZW w hn,za8 w h]
 ·simp at h
theorem zdE {n:Nat} {t:TypeId} {x v:V} {f:Nat} (hx:x.ok n) (h:zdC P t x f=some v) :
  (Instr.field t (x.real J) f).run P w=.ok (v.real J) w/\v.ok n:=by
 unfold zdC at h;split at h
 ·rename_i fs cs e;cases hf:fs[f]? with
  | none=>simp [hf] at h
  | some fd=>
   simp only [hf] at h;simp only [V.ok,V.oks_iff] at hx;refine ⟨?_,Zcf h hx⟩;simp only [V.real,Vre,Instr.field,Qd,run_underlying e,Yd,hf,asAgg,Yf,za8 w h]
 ·simp at h
theorem ZbZ {n:Nat} {t:TypeId} {g off f:Nat} {v:V} (hx:g<n) (h:jaF P t g off f=some v) :
  (Instr.fieldAt t ((V.p g off).real J) f).run P w=.ok (v.real J) w/\v.ok n:=by
 unfold jaF at h;split at h
 ·rename_i fs e;cases hf:fs[f]? with
  | none=>simp [hf] at h
  | some fd=>
   simp only [hf] at h;cases hn:zaa P fd.type with
   | none=>simp [hn] at h
   | some sz=>
    simp only [hn] at h;cases hb:Nat.blt 0 sz with
    | false=>simp [hb] at h
    | true=>
     simp only [hb,Qa,xa] at h;rw [ge] at hb;subst h;refine ⟨?_,by simp only [V.ok];exact hx⟩
     simp only [V.real,Instr.fieldAt,Qd,run_underlying e,Yd,hf,Instr.sureAddr,Yf,fieldPlace,ZW w hn,Sem.run_ite,ga (show ¬sz=0 by omega),Addr.add_lit,Qf]
 ·simp at h
theorem JbZ {n:Nat} {t:TypeId} {x v:V} {k:IntKind} {i:Int} (hx:x.ok n) (h:zZ P t x i=some v) :
  (Instr.indexAt t (x.real J) (.int k i)).run P w=.ok (v.real J) w/\v.ok n:=by
 unfold zZ at h;split at h
 ·rename_i el g off len cap op e;cases hn:zaa P el with
  | none=>simp [hn] at h
  | some sz=>
   simp only [hn] at h;cases hb:(ile 0 i&&ilt i len) with
   | false=>simp [hb] at h
   | true=>
    simp only [hb,Qa,xa] at h;simp only [ile,ilt,yb,xc] at hb;subst h;simp only [V.ok] at hx;refine ⟨?_,by simp only [V.ok];exact hx.1⟩
    simp only [V.real,Instr.indexAt,Qd,asIntOf,Yf,Yd,run_underlying e,Sem.run_ite,hb,and_self,if_true,ZW w hn,Addr.add_lit,Qf]
 ·rename_i len el g off e;cases hn:zaa P el with
  | none=>simp [hn] at h
  | some sz=>
   simp only [hn] at h;cases hb:(ile 0 i&&ilt i len) with
   | false=>simp [hb] at h
   | true=>
    simp only [hb,Qa,xa] at h;simp only [ile,ilt,yb,xc] at hb;subst h;simp only [V.ok] at hx;refine ⟨?_,by simp only [V.ok];exact hx⟩
    simp only [V.real,Instr.indexAt,Qd,asIntOf,Yf,Yd,run_underlying e,Sem.run_ite,hb,and_self,if_true,ZW w hn,Addr.add_lit,Qf,Instr.sureAddr]
 ·simp at h
end
end Go.Vm
namespace Go.Vm
open Go.RowKit
structure Ext (a b:St):Prop where
 nx:a.nx<=b.nx
 ver:b.ver<=a.ver
 hp:∀g x,a.hp.get g=some x->g<b.ver->b.hp.get g=some x
theorem Ext.refl (a:St):Ext a a:=⟨Ra _,Ra _,λ_ _ h _=>h⟩
theorem Ext.trans {a b c:St} (h:Ext a b) (k:Ext b c):Ext a c:=
 ⟨Yb h.nx k.nx,Yb k.ver h.ver,λg x hx hg=>k.hp g x (h.hp g x hx (xi hg k.ver)) hg⟩
theorem Jcf (a b:Nat):low a b<=a:=by
 unfold low;cases e:Nat.ble a b with
 | true=>simp
 | false=>
  have:¬a<=b:=by intro q;rw [<-xd] at q;rw [q] at e;cases e
  simp;omega
theorem zb0 (a b:Nat):low a b<=b:=by
 unfold low;cases e:Nat.ble a b with
 | true=>rw [xd] at e;simp [e]
 | false=>simp
theorem Swe (st:St) (id:Nat) (b:Blk):st.write id b=⟨st.nx,st.hp.upd id (some b),low st.ver id⟩:=by unfold St.write;rw [jy]
theorem St.kill_eq (st:St) (id:Nat):st.kill id=⟨st.nx,st.hp.upd id none,low st.ver id⟩:=by unfold St.kill;rw [jy]
theorem Ext.write (st:St) (g:Nat) (b:Blk):Ext st (st.write g b):=by
 rw [Swe];refine ⟨Ra _,Jcf _ _,λk x hx hk=>?_⟩
 dsimp only at hk |-;have:=zb0 st.ver g;rw [Tgu,ga (by omega)];exact hx
def zhW (J:Inj) (h:Nat->Option Blk) (i:Nat):Prop:=∀g b,h g=some b->(J.m g).1≠i
def Fr (J:Inj) (h:Nat->Option Blk) (w:World) (J':Inj) (h':Nat->Option Blk) (w':World):Prop:=∀i,i<w.heap.size->zhW J h i->w'.heap[i]?=w.heap[i]?/\zhW J' h' i
theorem Fr.trans {J J1 J2:Inj} {a b c:Nat->Option Blk} {w w1 w2:World} (h:Fr J a w J1 b w1) (k:Fr J1 b w1 J2 c w2) (hs:w.heap.size<=w1.heap.size):Fr J a w J2 c w2:=λi hi hf=>by
 obtain ⟨p1,p2⟩:=h i hi hf;obtain ⟨q1,q2⟩:=k i (xi hi hs) p2;exact ⟨q1.trans p1,q2⟩
theorem Fr.same {J:Inj} {h:Nat->Option Blk} {w w':World} (e:∀i,i<w.heap.size->w'.heap[i]?=w.heap[i]?):Fr J h w J h w':=λi hi hf=>⟨e i hi,hf⟩
theorem Fr.write {J:Inj} {st:St} {w w':World} {g:Nat} {b b':Blk} (hg:st.hp.get g=some b) (e:∀k,k≠(J.m g).1->w'.heap[k]?=w.heap[k]?):Fr J st.hp.get w J (st.write g b').hp.get w':=λi hi hf=>⟨e i (λq=>hf g b hg q.symm),λk bk hk=>by
 rw [Swe] at hk;dsimp only at hk;rw [Tgu] at hk;by_cases e1:k=g
 ·subst e1;exact hf k b hg
 ·rw [ga e1] at hk;exact hf k bk hk⟩
theorem Fr.push {J:Inj} {h h0 h':Nat->Option Blk} {w w':World} (hless:∀g b,h0 g=some b->h g=some b) (hlt:∀g b,h g=some b->g<J.nx) {r d x:Nat} (hr:w.heap.size<=r\/∃g b,h g=some b/\(J.m g).1=r)
  (hh':∀k b,h' k=some b->k=J.nx\/h0 k=some b) (e:∀i,i<w.heap.size->zhW J h i->w'.heap[i]?=w.heap[i]?):Fr J h w (J.push (r,d,x)) h' w':=λi hi hf=>⟨e i hi hf,λk b hk=>by
 rcases hh' k b hk with rfl|q
 ·rw [Ips];rcases hr with z|⟨g,bg,z1,z2⟩
  ·show r≠i;omega
  ·intro z3;exact hf g bg z1 (z2.trans z3)
 ·have q1:=hless k b q;rw [(J.le_push (r,d,x)).m k (hlt k b q1)];exact hf k b q1⟩
structure Post (J:Inj) (ro:Nat) (B:World) (st:St) (w:World) (J':Inj) (st':St) (w':World):Prop where
 le:J.le J'
 nx:J'.nx=st'.nx
 hr:HR J' ro B st'.hp.get w'
 below:Below B.heap.size w w'
 ext:Ext st st'
 ro:ro<=J'.nx
 fr:Fr J st.hp.get w J' st'.hp.get w'
theorem Post.refl {J:Inj} {ro:Nat} {B:World} {st:St} {w:World} (hn:J.nx=st.nx) (hh:HR J ro B st.hp.get w) (hro:ro<=J.nx):Post J ro B st w J st w:=
 ⟨Inj.le.refl J,hn,hh,Below.refl _ _,Ext.refl _,hro,Fr.same λ_ _=>rfl⟩
theorem Post.trans {J J1 J2:Inj} {ro:Nat} {B:World} {st st1 st2:St} {w w1 w2:World} (h:Post J ro B st w J1 st1 w1) (k:Post J1 ro B st1 w1 J2 st2 w2):Post J ro B st w J2 st2 w2:=
 ⟨h.le.trans k.le,k.nx,k.hr,h.below.trans k.below,h.ext.trans k.ext,k.ro,h.fr.trans k.fr h.below.size⟩
theorem Jao (t:T Blk) (i:Nat) (x:Option Blk):(t.upd i x).get=λk=>if k=i then x else t.get k:=by funext k;rw [Tgu]
theorem Ext.alloc {st:St} {J:Inj} {ro:Nat} {B:World} {w:World} (hn:J.nx=st.nx) (hh:HR J ro B st.hp.get w) (b:Blk):Ext st (st.alloc b):=by
 refine ⟨di _,Ra _,λg x hx _=>?_⟩
 have:=(hh.blk g x hx).1;show (st.hp.upd st.nx (some b)).get g=some x;rw [Tgu,ga (by omega)];exact hx
theorem Fr.alloc {J:Inj} {ro:Nat} {B:World} {st:St} {w:World} {x:Nat} {c:Array Value} {e:TypeId} {fz:Nat×Nat} (hn:J.nx=st.nx) (hh:HR J ro B st.hp.get w) (b:Blk):Fr J st.hp.get w (J.push (w.heap.size,0,x)) (st.alloc b).hp.get (w.alloc (.cells c e fz)):=by
 refine Fr.push (h0:=st.hp.get) (λ_ _ q=>q) (λg b hg=>(hh.blk g b hg).1) (.inl (Ra _)) (λk bk hk=>?_) (λi hi _=>Below.heap_alloc _ _ _ hi)
 have hk:(st.hp.upd st.nx (some b)).get k=some bk:=hk;rw [Tgu] at hk;by_cases e1:k=st.nx
 ·exact .inl (e1.trans hn.symm)
 ·rw [ga e1] at hk;exact .inr hk
section
variable {P:Program} {J:Inj} {ro:Nat} {B:World} {st:St} {w:World}
theorem jcX (hn:J.nx=st.nx) (hh:HR J ro B st.hp.get w) (hro:ro<=J.nx) {b:Blk} {x:Nat} {c:Array Value} {e:TypeId} {fz:Nat×Nat}
  (h1:b.sz<=c.size) (h2:b.op=true->b.sz+x*b.es=c.size/\b.zero=[]) (h3:∀o,o<c.size+b.op.toNat->(decide (fz.1<=o)&&decide (o<fz.2))=false/\fz.1<=fz.2)
  (h4:∀o v,b.get o=some v->v.ok J.nx/\v.atom=true/\c[o]?=some (v.real J)) :
  Post J ro B st w (J.push (w.heap.size,0,x)) (st.alloc b) (w.alloc (.cells c e fz)):=by
 refine ⟨J.le_push _,by show J.nx+1=st.nx+1;omega,?_,(Below.refl B.heap.size w).alloc hh.base.size _,Ext.alloc hn hh b,Ho hro,Fr.alloc hn hh (c:=c) (e:=e) (fz:=fz) b⟩
 have:=hh.alloc (b:=b) (x:=x) (c:=c) (e:=e) (fz:=fz) h1 h2 h3 h4;rw [hn] at this;show HR _ ro B (st.hp.upd st.nx (some b)).get _;rw [Jao];exact this
theorem jdE (hn:J.nx=st.nx) (hh:HR J ro B st.hp.get w) (hro:ro<=J.nx) {v x:V} {es:Nat} {st':St} (t:TypeId) (hv:v.ok J.nx) (h:jdf st v es=some (x,st')) :
  ∃J' w',(newVar t (v.real J)).run P w=.ok ⟨w.heap.size,0,none⟩ w'/\x.real J'=.pointer (some ⟨w.heap.size,0,none⟩)/\x.ok J'.nx/\Post J ro B st w J' st' w':=by
 unfold jdf at h;cases hb:JbE v.cells es false with
 | none=>simp [hb] at h
 | some b=>
  simp only [hb,jy,xa,xb] at h;obtain ⟨rfl,rfl⟩:=h;obtain ⟨q1,q2,q3,q4,q5,q6⟩:=JL hb;refine ⟨J.push (w.heap.size,0,0),w.alloc (.cells (v.cells.map (V.real J)).toArray t),?_,?_,?_,?_⟩
  ·simp [newVar,newRow,Vcr]
  ·rw [<-hn];simp [V.real,Ips]
  ·simp only [V.ok,Inj.push];omega
  ·refine jcX hn hh hro (by simp [q1]) (by simp [q3]) (λo _=>by simp) (λo u hu=>?_)
   rw [q5] at hu;have hm:=List.mem_of_getElem? hu;exact ⟨V.ok_cells hv u hm,q6 u hm,by simp [hu]⟩
theorem ZcX (hn:J.nx=st.nx) (hh:HR J ro B st.hp.get w) {t:TypeId} {g off:Nat} {v:V} (h:Zau P st t g off=some v) :
  (Instr.loadAt t ((V.p g off).real J)).run P w=.ok (v.real J) w/\v.ok st.nx:=by
 unfold Zau at h;split at h
 ·rename_i b ti d hb hi hd;have br:=hh.blk g b hb;simp only [V.real,Instr.loadAt,Instr.sureAddr,Qd,Yf,Yd,loadVar,Jem w hd,Sem.run_ite];cases ha:jbT P t with
  | true=>
   simp only [ha,Qa] at h;cases hr:b.row ti.size off with
   | none=>simp [hr] at h
   | some cs=>
    simp only [hr,xa] at h;subst h;obtain ⟨q1,_,q3,_⟩:=br.row (P:=P) hr;refine ⟨?_,?_⟩
    ·simp [sizeOf,typeInfo,hi,q1,V.real,Vre]
    ·simp only [V.ok,V.oks_iff];rw [<-hn];exact q3
  | false=>
   simp only [ha,Yc] at h;obtain ⟨q1,q2,_⟩:=br.cell h;exact ⟨by simp [q1],by rw [<-hn];exact q2⟩
 ·simp at h
theorem zfw (hn:J.nx=st.nx) (hh:HR J ro B st.hp.get w) (hro:ro<=J.nx) {t:TypeId} {g off:Nat} {v:V} {st':St} (hv:v.ok J.nx) (h:ZdB P ro st t g off v=some st') :
  ∃w',(Instr.storeAt t ((V.p g off).real J) (v.real J)).run P w=.ok () w'/\Post J ro B st w J st' w':=by
 unfold ZdB at h;split at h
 ·rename_i b ti hb hi;cases hc:(Nat.ble ro g&&Nat.beq v.cells.length ti.size) with
  | false=>simp [hc] at h
  | true=>
   simp only [hc,Qa] at h;simp only [yb,xd,Rc] at hc;cases hp:b.put v.cells off with
   | none=>simp [hp] at h
   | some b'=>
    simp only [hp,xa] at h;subst h;obtain ⟨w',r1,r2,r3,r4⟩:=HR.put (P:=P) v.cells hh (g:=g) (o:=off) (i:=0) hb hc.1 (by simpa using hp) (V.ok_cells hv)
    refine ⟨w',?_,Inj.le.refl J,by rw [Swe];exact hn,?_,r3,Ext.write _ _ _,hro,Fr.write hb r4⟩
    ·have hs:¬(v.real J).cells.size≠ti.size:=by rw [Vcr];simp [hc.2]
     simp only [V.real,Instr.storeAt,Instr.sureAddr,Qd,Yf,Yd,storeVar,sizeOf,typeInfo,run_program,hi,Sem.run_ite,ga hs];rw [Vcr];exact r1
    ·rw [Swe];show HR J ro B (st.hp.upd g (some b')).get w';rw [Jao];exact r2
 ·simp at h
theorem ZdE (J:Inj) (off:Nat):∀(vs:List V) (k:Nat) (cs:List V),
  ((vs.map (V.real J)).zipIdx k).foldl (λ(a:Array Value) (x:Value×Nat)=>a.setIfInBounds (off+x.2) x.1) (cs.map (V.real J)).toArray=((setAt cs (off+k) vs).map (V.real J)).toArray
 | [],k,cs=>rfl
 | v::r,k,cs=>by
  simp only [Rl,List.zipIdx_cons,List.foldl_cons,setAt];have:(cs.map (V.real J)).toArray.setIfInBounds (off+k) (v.real J)=((cs.set (off+k) v).map (V.real J)).toArray:=by
   apply Ri;simp [List.map_set]
  rw [this,ZdE J off r (k+1) _];rfl
theorem zdg:∀(vs:List V) (cs:List V) (off:Nat),(setAt cs off vs).length=cs.length
 | [],_,_=>rfl
 | v::r,cs,off=>by simp [setAt,zdg r]
theorem je0 {p:V->Prop}:∀(vs:List V) (cs:List V) (off:Nat),(∀v∈vs,p v)->(∀v∈cs,p v)->∀v∈setAt cs off vs,p v
 | [],_,_,_,h2=>h2
 | v::r,cs,off,h1,h2=>by
  refine je0 r _ _ (λx hx=>h1 x (gd _ hx)) (λx hx=>?_)
  rcases List.mem_or_eq_of_mem_set hx with h|rfl
  ·exact h2 x h
  ·exact h1 _ (yc ..)
theorem Jbv (J:Inj) (place:Nat->Option (Nat×Nat)):∀(ps:List (Nat×V)) (cs r:List V),ZcW place cs ps=some r->
  Instr.fill place (cs.map (V.real J)).toArray (ps.map λx=>(x.1,x.2.real J))=some (r.map (V.real J)).toArray/\r.length=cs.length/\
  ∀n,(∀x∈ps,x.2.ok n)->(∀v∈cs,v.ok n)->∀v∈r,v.ok n
 | [],cs,r,h=>by simp only [ZcW,xa] at h;subst h;exact ⟨rfl,rfl,λn _ h2=>h2⟩
 | (i,v)::ps,cs,r,h=>by
  simp only [ZcW] at h;cases hp:place i with
  | none=>simp [hp] at h
  | some q=>
   obtain ⟨off,size⟩:=q;simp only [hp] at h;cases hc:(Nat.beq v.cells.length size&&Nat.ble (off+v.cells.length) cs.length) with
   | false=>simp [hc] at h
   | true=>
    simp only [hc,Qa] at h;simp only [yb,Rc,xd] at hc;obtain ⟨q1,q2,q3⟩:=Jbv J place ps _ r h;have hz:(v.real J).cells.size=v.cells.length:=by rw [Vcr];simp
    refine ⟨?_,by rw [q2,zdg],λn h1 h2=>q3 n (λx hx=>h1 x (gd _ hx)) (je0 _ _ _ (V.ok_cells (h1 (i,v) (yc ..))) h2)⟩
    simp only [Rl,Instr.fill,hp];have hcond:¬((decide ((v.real J).cells.size≠size)||decide (off+(v.real J).cells.size > (cs.map (V.real J)).toArray.size))=true):=by
     rw [hz];simp only [xg,xc,List.size_toArray,Qm];omega
    rw [ga hcond];have:=ZdE J off v.cells 0 cs;rw [Vcr];simp only [Array.zipIdx_toArray,List.foldl_toArray];simp only [Re] at this;rw [this];exact q1
theorem zap {t:TypeId} {z:V} (J:Inj) (n:Nat) (h:Zba P t=some z):∃ti,P.info? t=some ti/\ti.zero=some (z.real J)/\z.ok n:=by
 unfold Zba at h;cases hi:P.info? t with
 | none=>simp [hi] at h
 | some ti=>
  cases hz:ti.zero with
  | none=>simp [hi,hz] at h
  | some x=>
   simp only [hi,hz] at h;obtain ⟨q1,q2⟩:=Zf1 J n 4 x z h;exact ⟨ti,rfl,by rw [q1];exact hz,q2⟩
theorem ja8 {t:TypeId} {z:V} (J:Inj) (h:Zba P t=some z):(zeroValue t).run P w=.ok (z.real J) w:=by
 obtain ⟨ti,h1,h2,_⟩:=zap J 0 h;simp [zeroValue,typeInfo,h1,h2]
theorem jb0 (w:World):∀(fs:List Field) (r:List (Nat×Nat)),jbE (zcv P) fs=some r->
  (fs.mapM λf=>(do pure (f.offset,<-sizeOf f.type):Sem (Nat×Nat))).run P w=.ok r w
 | [],r,h=>by simp only [jbE,xa] at h;subst h;simp
 | f::fs,r,h=>by
  simp only [jbE] at h;cases h1:zaa P f.type with
  | none=>simp [zcv,h1] at h
  | some n=>
   simp only [zcv,h1] at h;cases h2:jbE (zcv P) fs with
   | none=>simp [h2] at h
   | some ys=>
    simp only [h2,xa] at h;subst h;simp only [List.mapM_cons,Qd,ZW w h1,Yd,Yf,jb0 w fs ys h2]
theorem JdE {t:TypeId} {ps:List (Nat×V)} {v:V} {n:Nat} (hps:∀x∈ps,x.2.ok n) (h:JdB P t ps=some v) :
  (Instr.build t (ps.map λx=>(x.1,x.2.real J)).toArray).run P w=.ok (v.real J) w/\v.ok n:=by
 unfold JdB at h;split at h
 ·rename_i z fs hz e;cases hp:jbE (zcv P) fs.toList with
  | none=>simp [hp] at h
  | some places=>
   simp only [hp] at h;cases hf:ZcW (λi=>places[i]?) z.cells ps with
   | none=>simp [hf] at h
   | some cs=>
    simp only [hf,xa] at h;subst h;obtain ⟨q1,q2,q3⟩:=Jbv J _ ps _ cs hf;obtain ⟨_,_,_,hzok⟩:=zap J n hz;refine ⟨?_,by simp only [V.ok,V.oks_iff];exact q3 n hps (V.ok_cells hzok)⟩
    simp only [Instr.build,Qd,ja8 J hz,Yd,run_underlying e,Array.mapM_eq_mapM_toList,Sem.run_map,jb0 w _ _ hp];rw [Vcr];simp only [List.getElem?_toArray];rw [q1];simp [V.real,Vre]
 ·rename_i z len el hz e;cases hs:zaa P el with
  | none=>simp [hs] at h
  | some k=>
   simp only [hs] at h;cases hf:ZcW (λi=>some (i*k,k)) z.cells ps with
   | none=>simp [hf] at h
   | some cs=>
    simp only [hf,xa] at h;subst h;obtain ⟨q1,q2,q3⟩:=Jbv J _ ps _ cs hf;obtain ⟨_,_,_,hzok⟩:=zap J n hz;refine ⟨?_,by simp only [V.ok,V.oks_iff];exact q3 n hps (V.ok_cells hzok)⟩
    simp only [Instr.build,Qd,ja8 J hz,Yd,run_underlying e,ZW w hs];rw [Vcr];simp [q1,V.real,Vre]
 ·simp at h
end
