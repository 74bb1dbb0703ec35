/-
 A faster evaluator: code is turned into functions once, and run by continuation. Definitions. Nothing is claimed here.
-/
import Derived.Test.YtbpbaicbaehhjaaGreatDoorVa3
namespace Go.Vk
open Go.Vm
abbrev KCall := FuncId → List V → St → (V → St → Bool) → Bool
noncomputable def ifB (x t f : Bool) : Bool := Bool.rec f t x
noncomputable def ZgE (o : Option V) (k : V → Bool) : Bool := Option.rec false k o
noncomputable def onB (v : V) (t f : Bool) : Bool :=
 V.rec (motive_1 := fun _ => Bool) (motive_2 := fun _ => Unit) (fun x => Bool.rec f t x) (fun _ _ => false) (fun _ _ => false) (fun _ _ => false) false (fun _ _ _ _ _ => false) false (fun _ _ _ _ _ => false) false false (fun _ _ => false) (fun _ _ => false) (fun _ _ _ => false) (fun _ => false) () (fun _ _ _ _ => ()) v
noncomputable def Jhr (v : V) (t f d : Bool) : Bool :=
 V.rec (motive_1 := fun _ => Bool) (motive_2 := fun _ => Unit) (fun x => Bool.rec f t x) (fun _ _ => d) (fun _ _ => d) (fun _ _ => d) d (fun _ _ _ _ _ => d) d (fun _ _ _ _ _ => d) d d (fun _ _ => d) (fun _ _ => d) (fun _ _ _ => d) (fun _ => d) () (fun _ _ _ _ => ()) v
noncomputable def onI (v : V) (k : IntKind → Int → Bool) : Bool :=
 V.rec (motive_1 := fun _ => Bool) (motive_2 := fun _ => Unit) (fun _ => false) k (fun _ _ => false) (fun _ _ => false) false (fun _ _ _ _ _ => false) false (fun _ _ _ _ _ => false) false false (fun _ _ => false) (fun _ _ => false) (fun _ _ _ => false) (fun _ => false) () (fun _ _ _ _ => ()) v
noncomputable def onS (v : V) (k : Nat → Nat → Bool) : Bool :=
 V.rec (motive_1 := fun _ => Bool) (motive_2 := fun _ => Unit) (fun _ => false) (fun _ _ => false) k (fun _ _ => false) false (fun _ _ _ _ _ => false) false (fun _ _ _ _ _ => false) false false (fun _ _ => false) (fun _ _ => false) (fun _ _ _ => false) (fun _ => false) () (fun _ _ _ _ => ()) v
noncomputable def onP (v : V) (k : Nat → Nat → Bool) : Bool :=
 V.rec (motive_1 := fun _ => Bool) (motive_2 := fun _ => Unit) (fun _ => false) (fun _ _ => false) (fun _ _ => false) k false (fun _ _ _ _ _ => false) false (fun _ _ _ _ _ => false) false false (fun _ _ => false) (fun _ _ => false) (fun _ _ _ => false) (fun _ => false) () (fun _ _ _ _ => ()) v
noncomputable def onF (v : V) (k : Fn → List V → List V → Bool) : Bool :=
 V.rec (motive_1 := fun _ => Bool) (motive_2 := fun _ => Unit) (fun _ => false) (fun _ _ => false) (fun _ _ => false) (fun _ _ => false) false (fun _ _ _ _ _ => false) false (fun f xs ys _ _ => k f xs ys) false false (fun _ _ => false) (fun _ _ => false) (fun _ _ _ => false) (fun _ => false) () (fun _ _ _ _ => ()) v
noncomputable def onT (v : V) (k : List V → Bool) : Bool :=
 V.rec (motive_1 := fun _ => Bool) (motive_2 := fun _ => Unit) (fun _ => false) (fun _ _ => false) (fun _ _ => false) (fun _ _ => false) false (fun _ _ _ _ _ => false) false (fun _ _ _ _ _ => false) false false (fun _ _ => false) (fun vs _ => k vs) (fun _ _ _ => false) (fun _ => false) () (fun _ _ _ _ => ()) v
noncomputable def jfV (a b : Int) (k : Nat → Nat → Bool) (d : Bool) : Bool := Int.rec (fun m => Int.rec (fun n => k m n) (fun _ => d) b) (fun _ => d) a
noncomputable def onN (a : Int) (k : Nat → Bool) (d : Bool) : Bool := Int.rec k (fun _ => d) a
noncomputable def Jao (n : Nat) (k : Nat → Bool) : Bool := Nat.rec (motive := fun _ => Bool) (k 0) (fun m _ => k (Nat.succ m)) n
noncomputable def jaB (v : V) (k : V → Bool) : Bool :=
 V.rec (motive_1 := fun _ => Bool) (motive_2 := fun _ => Unit) (fun x => Bool.rec (k (.b false)) (k (.b true)) x)
  (fun kd n => zfe kd fun kd => Int.rec (fun m => Jao m fun m => k (.i kd (.ofNat m))) (fun m => Jao m fun m => k (.i kd (.negSucc m))) n)
  (fun l x => Jao l fun l => Jao x fun x => k (.s l x)) (fun g o => Jao g fun g => Jao o fun o => k (.p g o)) (k .pn)
  (fun g o l c op => Jao g fun g => Jao o fun o => Jao l fun l => Jao c fun c => Bool.rec (k (.sl g o l c false)) (k (.sl g o l c true)) op) (k .sn) (fun f xs ys _ _ => k (.f f xs ys)) (k .fz) (k .nz) (fun cs _ => k (.a cs)) (fun vs _ => k (.t vs)) (fun g o p => Jao g fun g => Jao o fun o => Jao p fun p => k (.se g o p)) (fun a => k (.ze a)) () (fun _ _ _ _ => ()) v
noncomputable def Jco (f : Nat) : Nat → List Bool :=
 Nat.rec (motive := fun _ => Nat → List Bool) (fun _ => [])
  (fun _ ih i => Nat.rec (motive := fun _ => List Bool) [] (fun k _ => Bool.rec (motive := fun _ => List Bool) (false :: ih (k / 2)) (true :: ih (k / 2)) (Nat.beq (k % 2) 0)) i) f
noncomputable def zaw (i : Nat) : List Bool := Jco (i + 1) i
noncomputable def getD {α : Type} (p : List Bool) (t : T α) (k : α → Bool) (d : Bool) : Bool :=
 List.rec (motive := fun _ => T α → Bool)
  (fun t => T.rec (motive := fun _ => Bool) d (fun _ v _ _ _ => Option.rec d k v) t)
  (fun b _ ih t => T.rec (motive := fun _ => Bool) d (fun l _ r _ _ => Bool.rec (ih r) (ih l) b) t) p t
noncomputable def zhs (p : List Bool) (t : T V) (k : V → Bool) : Bool := getD p t k false
noncomputable def ZfV {α : Type} (p : List Bool) (t : T α) (v : Option α) (k : T α → Bool) : Bool :=
 List.rec (motive := fun _ => T α → (T α → Bool) → Bool)
  (fun t k => T.rec (motive := fun _ => Bool) (k (.n .e v .e)) (fun l _ r _ _ => k (.n l v r)) t)
  (fun b _ ih t k => Bool.rec
   (T.rec (motive := fun _ => Bool) (ih .e fun r => k (.n .e none r)) (fun l x r _ _ => ih r fun r => k (.n l x r)) t)
   (T.rec (motive := fun _ => Bool) (ih .e fun l => k (.n l none .e)) (fun l x r _ _ => ih l fun l => k (.n l x r)) t) b) p t k
noncomputable def JgE (p : List Bool) (t : T V) (v : V) (k : T V → Bool) : Bool := ZfV p t (some v) k
noncomputable def zhH (j : Nat) (ls : List V) (k : V → Bool) : Bool :=
 Nat.rec (motive := fun _ => List V → Bool)
  (fun ls => List.rec (motive := fun _ => Bool) false (fun v _ _ => k v) ls)
  (fun _ ih ls => List.rec (motive := fun _ => Bool) false (fun _ r _ => ih r) ls) j ls
structure KOpd where
 run : T V → List V → (V → Bool) → Bool
structure KOpds where
 run : T V → List V → (List V → Bool) → Bool
structure KOpdO where
 run : T V → List V → (Option V → Bool) → Bool
structure KParts where
 run : T V → List V → (List (Nat × V) → Bool) → Bool
def zdt : List Nat → Nat → Option Nat
 | [], _ => none
 | x :: r, t => match Nat.beq x t with
  | true => some 0
  | false => match zdt r t with
   | some j => some (j + 1)
   | none => none
def zc5 (mask t : Nat) : Bool := Nat.beq (mask / 2 ^ t % 2) 1
section
variable (mask : Nat) (Jb : List Nat)
noncomputable def Jfq (t : Nat) : KOpd := match zdt Jb t with
 | some j => jaz j fun j => ⟨fun _ ls k => zhH j ls k⟩
 | none => match zc5 mask t with
  | true => ⟨fun fr _ k => zhs (zaw t) fr k⟩
  | false => ⟨fun _ _ _ => false⟩
noncomputable def JA : Operand → KOpd
 | .tmp t => Jfq mask Jb t
 | .const c => match ofV 4 c with
  | some v => v.force fun v => ⟨fun _ _ k => k v⟩
  | none => ⟨fun _ _ _ => false⟩
 | .global g => cond (Nat.blt g GL) ⟨fun _ _ k => k (.p g 0)⟩ ⟨fun _ _ _ => false⟩
 | .func f => ⟨fun _ _ k => k (.f (.func f) [] [])⟩
noncomputable def jaw : List Operand → KOpds
 | [] => ⟨fun _ _ k => k []⟩
 | o :: r => ⟨fun fr ls k => (JA mask Jb o).run fr ls fun v => (jaw r).run fr ls fun vs => k (v :: vs)⟩
noncomputable def zeN : Option Operand → KOpdO
 | none => ⟨fun _ _ k => k none⟩
 | some o => ⟨fun fr ls k => (JA mask Jb o).run fr ls fun v => k (some v)⟩
noncomputable def Jdg : List (Nat × Operand) → KParts
 | [] => ⟨fun _ _ k => k []⟩
 | (i, o) :: r => ⟨fun fr ls k => (JA mask Jb o).run fr ls fun v => (Jdg r).run fr ls fun vs => k ((i, v) :: vs)⟩
end
noncomputable def JeY (k : IntKind) : Nat := IntKind.rec (motive := fun _ => Nat) 0 1 2 3 4 5 6 7 k
noncomputable def Jhn (k : IntKind) : Nat := IntKind.rec (motive := fun _ => Nat) 128 32768 2147483648 9223372036854775808 256 65536 4294967296 18446744073709551616 k
noncomputable def Zeo (kd : IntKind) (n : Int) (k : V → Bool) : Bool := jaB (V.i kd (kd.wrap n)) k
noncomputable def zdh (kd : IntKind) (m : Nat) (k : V → Bool) : Bool := ifB (Nat.blt m (Jhn kd)) (Jao m fun m => k (.i kd (.ofNat m))) (Zeo kd (.ofNat m) k)
noncomputable def Jg5 (kd : IntKind) (n : Int) (k : V → Bool) : Bool := onN n (fun m => zdh kd m k) (Zeo kd n k)
structure KBin where
 run : V → V → (V → Bool) → Bool
noncomputable def jc5 (x y : V) (k : IntKind → Int → Int → Bool) : Bool := onI x fun ka a => onI y fun kb b => ifB (Nat.beq (JeY ka) (JeY kb)) (k ka a b) false
noncomputable def zg6 (P : Program) (t : TypeId) : BinOp → KBin
 | .add => ⟨fun x y k => jc5 x y fun ka a b => jfV a b (fun m n => zdh ka (m + n) k) (Zeo ka (a + b) k)⟩
 | .sub => ⟨fun x y k => jc5 x y fun ka a b => jfV a b (fun m n => ifB (Nat.ble n m) (zdh ka (m - n) k) (Zeo ka (a - b) k)) (Zeo ka (a - b) k)⟩
 | .mul => ⟨fun x y k => jc5 x y fun ka a b => jfV a b (fun m n => zdh ka (m * n) k) (Zeo ka (a * b) k)⟩
 | .lss => ⟨fun x y k => jc5 x y fun _ a b => jfV a b (fun m n => jbA (Nat.blt m n) fun z => k (.b z)) (jbA (ilt a b) fun z => k (.b z))⟩
 | .leq => ⟨fun x y k => jc5 x y fun _ a b => jfV a b (fun m n => jbA (Nat.ble m n) fun z => k (.b z)) (jbA (ile a b) fun z => k (.b z))⟩
 | .gtr => ⟨fun x y k => jc5 x y fun _ a b => jfV a b (fun m n => jbA (Nat.blt n m) fun z => k (.b z)) (jbA (ilt b a) fun z => k (.b z))⟩
 | .geq => ⟨fun x y k => jc5 x y fun _ a b => jfV a b (fun m n => jbA (Nat.ble n m) fun z => k (.b z)) (jbA (ile b a) fun z => k (.b z))⟩
 | .eql => ⟨fun x y k => jc5 x y fun _ a b => jfV a b (fun m n => jbA (Nat.beq m n) fun z => k (.b z)) (jbA (a == b) fun z => k (.b z))⟩
 | .neq => ⟨fun x y k => jc5 x y fun _ a b => jfV a b (fun m n => jbA (!(Nat.beq m n)) fun z => k (.b z)) (jbA (a != b) fun z => k (.b z))⟩
 | op => ⟨fun x y k => match jb3 P op t x y with | some v => jaB v k | none => false⟩
noncomputable def jhs (P : Program) (op : BinOp) (t : TypeId) : KBin :=
 match P.underlying t with
 | some (.int _) => zg6 P t op
 | _ => ⟨fun x y k => match jb3 P op t x y with | some v => jaB v k | none => false⟩
noncomputable def zfr (P : Program) (t : TypeId) : KBin :=
 match P.underlying t with
 | some .string => ⟨fun x y k => onS x fun len bits => onI y fun _ i => onN i (fun i => ifB (Nat.blt i len) (Jao (Zby bits i) fun n => k (.i .u8 (.ofNat n))) false) false⟩
 | _ => ⟨fun x y k => onI y fun _ i => match za7 P t x i with | some v => jaB v k | none => false⟩
noncomputable def zdV (b : Blk) (k : T V → List V → Nat → Nat → Bool → Bool) : Bool := Blk.rec (motive := fun _ => Bool) k b
noncomputable def zho (st : St) (k : Nat → T Blk → Nat → Bool) : Bool := St.rec (motive := fun _ => Bool) k st
noncomputable def jfr (cs : T V) (zero : List V) (sz es o : Nat) (k : V → Bool) : Bool := ifB (Nat.blt o sz) (getD (zaw o) cs k (ZgE zero[o % es]? k)) false
noncomputable def jgX (cs : T V) (zero : List V) (sz es n o : Nat) (k : List V → Bool) : Bool :=
 Nat.rec (motive := fun _ => Nat → (List V → Bool) → Bool) (fun _ k => k []) (fun _ ih o k => jfr cs zero sz es o fun v => Jao (o + 1) fun o => ih o fun r => k (v :: r)) n o k
noncomputable def ZgX (sz : Nat) (vs : List V) (cs : T V) (o : Nat) (k : T V → Bool) : Bool :=
 List.rec (motive := fun _ => T V → Nat → Bool) (fun cs _ => k cs) (fun v _ ih cs o => ifB (Nat.blt o sz) (ifB v.atom (jaB v fun v => ZfV (zaw o) cs (some v) fun cs => Jao (o + 1) fun o => ih cs o) false) false) vs cs o
noncomputable def JgX (l : List V) (k : Nat → Bool) : Bool := Jao (List.rec (motive := fun _ => Nat) 0 (fun _ _ ih => Nat.succ ih) l) k
noncomputable def zgY (cs : List V) (es : Nat) (op : Bool) (k : Blk → Bool) : Bool := JgX cs fun sz => ZgX sz cs .e 0 fun t => k ⟨t, [], sz, es, op⟩
noncomputable def jbS (st : St) (b : Blk) (k : Nat → St → Bool) : Bool := zho st fun nx hp ver => ZfV (zaw nx) hp (some b) fun hp => Jao (nx + 1) fun nx1 => k nx ⟨nx1, hp, ver⟩
noncomputable def zcl (st : St) (id : Nat) (b : Option Blk) (k : St → Bool) : Bool := zho st fun nx hp ver => ZfV (zaw id) hp b fun hp => ifB (Nat.ble ver id) (k ⟨nx, hp, ver⟩) (k ⟨nx, hp, id⟩)
noncomputable def jgq (st : St) (id : Nat) (k : Blk → Bool) : Bool := zho st fun _ hp _ => getD (zaw id) hp k false
noncomputable def jeN (v : V) (k : List V → Bool) : Bool :=
 V.rec (motive_1 := fun _ => Bool) (motive_2 := fun _ => Unit) (fun _ => k [v]) (fun _ _ => k [v]) (fun _ _ => k [v]) (fun _ _ => k [v]) (k [v]) (fun _ _ _ _ _ => k [v]) (k [v]) (fun _ _ _ _ _ => k [v]) (k [v]) (k [v]) (fun cs _ => k cs) (fun _ _ => k [v]) (fun _ _ _ => k [v]) (fun _ => k [v]) () (fun _ _ _ _ => ()) v
structure KLoad where
 run : St → Nat → Nat → (V → Bool) → Bool
noncomputable def Jeo (P : Program) (t : TypeId) : KLoad :=
 match P.info? t, P.underlying t with
 | some ti, some _ => match JaE P t with
  | true => jaz ti.size fun n => ⟨fun st id off k => jgq st id fun b => zdV b fun cs zero sz es _ => jgX cs zero sz es n off fun cs => k (.a cs)⟩
  | false => ⟨fun st id off k => jgq st id fun b => zdV b fun cs zero sz es _ => jfr cs zero sz es off k⟩
 | _, _ => ⟨fun _ _ _ _ => false⟩
structure KStore where
 run : St → Nat → Nat → V → (St → Bool) → Bool
noncomputable def Zfr (P : Program) (ro : Nat) (t : TypeId) : KStore :=
 match P.info? t with
 | some ti => jaz ti.size fun n => ⟨fun st id off v k => jgq st id fun b => jeN v fun vs => ifB (Nat.ble ro id) (JgX vs fun l => ifB (Nat.beq l n) (zdV b fun cs zero sz es op => ZgX sz vs cs off fun cs => zcl st id (some ⟨cs, zero, sz, es, op⟩) k) false) false⟩
 | none => ⟨fun _ _ _ _ _ => false⟩
noncomputable def jdt (st : St) (v : V) (es : Nat) (k : V → St → Bool) : Bool := jeN v fun cs => zgY cs es false fun b => jbS st b fun nx st => k (.p nx 0) st
structure KOne where
 run : St → V → (V → St → Bool) → Bool
noncomputable def Zhs (P : Program) (t : TypeId) : KOne :=
 match P.underlying t with
 | some (.slice e) => match jH P e, jal P e with
  | some n, some z => match (Nat.ble (1 * n) 16777216 && Nat.blt 0 n && Nat.beq z.cells.length n) with
   | true => jaz n fun n => ⟨fun st v k => jeN v fun cs => JgX cs fun l => ifB (Nat.beq l n) (zgY cs n false fun b => jbS st b fun nx st => k (.sl nx 0 1 1 false) st) false⟩
   | false => ⟨fun _ _ _ => false⟩
  | _, _ => ⟨fun _ _ _ => false⟩
 | _ => ⟨fun _ _ _ => false⟩
noncomputable def jhH (v : V) (d e : Bool) : Bool :=
 V.rec (motive_1 := fun _ => Bool) (motive_2 := fun _ => Unit) (fun _ => e) (fun _ _ => e) (fun _ _ => e) (fun _ _ => e) e (fun _ _ _ _ _ => e) e (fun _ _ _ _ _ => e) e e (fun _ _ => e) (fun _ _ => e) (fun _ _ _ => d) (fun _ => d) () (fun _ _ _ _ => ()) v
noncomputable def jg6 (v : V) (k : Nat → Nat → Nat → Nat → Bool → Bool) (n : Bool) (s : Nat → Nat → Bool) : Bool :=
 V.rec (motive_1 := fun _ => Bool) (motive_2 := fun _ => Unit) (fun _ => false) (fun _ _ => false) s (fun _ _ => false) false k n (fun _ _ _ _ _ => false) false false (fun _ _ => false) (fun _ _ => false) (fun _ _ _ => false) (fun _ => false) () (fun _ _ _ _ => ()) v
noncomputable def Jfr (n x : Nat) (k : List V → Bool) : Bool :=
 Nat.rec (motive := fun _ => Nat → (List V → Bool) → Bool) (fun _ k => k []) (fun _ ih x k => Jao (x % 256) fun c => Jao (x / 256) fun y => ih y fun r => k (.i .u8 (.ofNat c) :: r)) n x k
noncomputable def Zgq (st : St) (es : Nat) (x : V) (k : Nat → List V → Bool) : Bool :=
 jg6 x (fun id off l _ _ => jgq st id fun b => zdV b fun cs zero sz e _ => jgX cs zero sz e (l * es) off fun r => k l r) (k 0 []) (fun l x => ifB (Nat.beq es 1) (Jfr l x fun r => k l r) false)
structure KApp where
 run : St → V → V → (V → St → Bool) → Bool
noncomputable def zep (P : Program) (ro : Nat) (t : TypeId) : KApp :=
 match P.underlying t with
 | some (.slice e) => match P.info? e with
  | some ti => jaz ti.size fun es => jaz ti.bytes fun by_ => match (Nat.blt 0 es && Nat.blt 0 by_ && Zai P e es) with
   | true => ⟨fun st s x k => Zgq st es x fun n new => jg6 s
     (fun id off len cap op => jgq st id fun b => ifB (Nat.ble ((len + n) * by_) 1099511627776)
      (ifB (Nat.ble (len + n) cap)
       (ifB (Nat.ble ro id) (zdV b fun cs zero sz e op' => ZgX sz new cs (off + len * es) fun cs => zcl st id (some ⟨cs, zero, sz, e, op'⟩) fun st => Jao (len + n) fun m => k (.sl id off m cap op) st) false)
       (zdV b fun cs zero sz e op' =>
        (fun (go : Blk → Bool) => ifB (op' && Nat.beq off 0 && Nat.beq (len * es) sz && Nat.beq e es)
         (JgX new fun nl => Jao (sz + nl) fun sz1 => ZgX sz1 new cs sz fun cs => go ⟨cs, zero, sz1, e, true⟩)
         (jgX cs zero sz e (len * es) off fun old => zgY (old ++ new) es true go)) fun b' =>
        ifB op (ifB (Nat.ble ro id && op' && Nat.beq e es && Nat.beq (off + cap * es) sz) (zcl st id none fun st => jbS st b' fun nx st => Jao (len + n) fun m => k (.sl nx 0 m m true) st) false)
         (jbS st b' fun nx st => Jao (len + n) fun m => k (.sl nx 0 m m true) st)))
      false)
     (ifB (Nat.ble (n * by_) 1099511627776) (ifB (Nat.beq n 0) (k .sn st) (zgY new es true fun b => jbS st b fun nx st => k (.sl nx 0 n n true) st)) false)
     (fun _ _ => false)⟩
   | false => ⟨fun _ _ _ _ => false⟩
  | none => ⟨fun _ _ _ _ => false⟩
 | _ => ⟨fun _ _ _ _ => false⟩
noncomputable def Zg6 (cs : List V) (k : Nat → Nat → Bool) : Bool :=
 List.rec (motive := fun _ => Nat → Nat → Nat → Bool) (fun l _ acc => k l acc) (fun v _ ih l pw acc => onI v fun kd n => ifB (Nat.beq (JeY kd) 4) (onN n (fun c => Jao (l + 1) fun l => Jao (acc + c % 256 * pw) fun acc => Jao (256 * pw) fun pw => ih l pw acc) false) false) cs 0 1 0
structure KConv where
 run : St → V → (V → St → Bool) → Bool
def zeZ (r : Option (V × St)) (k : V → St → Bool) : Bool := match r with
 | some (v, st) => k v st
 | none => false
noncomputable def zgF (P : Program) (s d : TypeId) : KConv :=
 match P.underlying s, P.underlying d with
 | some (.slice e), some .string => match P.underlying e with
  | some (.int .u8) => ⟨fun st x k => jg6 x (fun id off len _ _ => jgq st id fun b => zdV b fun cs zero sz es _ => jgX cs zero sz es len off fun r => Zg6 r fun l x => k (.s l x) st) (k (.s 0 0) st) (fun _ _ => false)⟩
  | _ => ⟨fun _ _ _ => false⟩
 | some _, some .string => ⟨fun st x k => onS x fun l x => k (.s l x) st⟩
 | some _, some (.int kd) => ⟨fun st x k => onI x fun _ n => Jg5 kd n fun v => k v st⟩
 | _, _ => ⟨fun st x k => zeZ (zu P st s d x) fun v st => jaB v fun v => k v st⟩
noncomputable def zfs (P : Program) (ro : Nat) (s d : TypeId) : KConv :=
 match P.underlying s, P.underlying d with
 | some (.slice _), some (.slice _) => ⟨fun st x k => zeZ (zbz P ro st s d x) fun v st => jaB v fun v => k v st⟩
 | _, _ => zgF P s d
structure KO where
 run : KCall → T V → List V → St → (Option V → St → Bool) → Bool
noncomputable def jgF (r : Option V) (k : V → Bool) : Bool := match r with
 | some v => jaB v k
 | none => false
section
variable (P : Program) (ro mask : Nat) (Jb : List Nat)
noncomputable def ZeN (as : KOpds) (b : Builtin) (ts : List TypeId) : KO := ⟨fun _ fr ls st k => as.run fr ls fun args => zeZ (ju P ro b ts args st) fun v st => jaB v fun v => k (some v) st⟩
noncomputable def Jg6 (l : List V) (k : V → V → Bool) : Bool := List.rec (motive := fun _ => Bool) false (fun x r _ => List.rec (motive := fun _ => Bool) false (fun y r _ => List.rec (motive := fun _ => Bool) (k x y) (fun _ _ _ => false) r) r) l
noncomputable def ZgF (l : List V) (k : V → Bool) : Bool := List.rec (motive := fun _ => Bool) false (fun x r _ => List.rec (motive := fun _ => Bool) (k x) (fun _ _ _ => false) r) l
noncomputable def Zdt (as : KOpds) (b : Builtin) (ts : List TypeId) : KO := match b, ts with
 | .append, [t, u] => match P.underlying u with
  | some (.int _) => ⟨fun _ _ _ _ _ => false⟩
  | some _ => ⟨fun _ fr ls st k => as.run fr ls fun args => Jg6 args fun s x => (zep P ro t).run st s x fun v st => k (some v) st⟩
  | none => ⟨fun _ _ _ _ _ => false⟩
 | .len, [t] => match P.underlying t with
  | some .string => ⟨fun _ fr ls st k => as.run fr ls fun args => ZgF args fun x => onS x fun l _ => k (some (.i .i64 (.ofNat l))) st⟩
  | some (.slice _) => ⟨fun _ fr ls st k => as.run fr ls fun args => ZgF args fun x => jhH x (k (some (.i .i64 (.ofNat 0))) st) (jg6 x (fun _ _ l _ _ => k (some (.i .i64 (.ofNat l))) st) (k (some (.i .i64 (.ofNat 0))) st) (fun _ _ => false))⟩
  | _ => ZeN P ro as b ts
 | b, ts => ZeN P ro as b ts
noncomputable def jfs (as : KOpds) (ts : List TypeId) : Callee → KO
 | .builtin b => Zdt P ro as b ts
 | .value o => match o with
  | .func f => ⟨fun call fr ls st k => as.run fr ls fun args => call f args st fun v st => k (some v) st⟩
  | o => ⟨fun call fr ls st k => as.run fr ls fun args => (JA mask Jb o).run fr ls fun g => onF g fun fn first caps => match fn with
   | .func f => call f (first ++ args ++ caps) st fun v st => k (some v) st
   | _ => false⟩
 | .invoke _ _ => ⟨fun _ _ _ _ _ => false⟩
noncomputable def kop : Op → KO
 | .move x => ⟨fun _ fr ls st k => (JA mask Jb x).run fr ls fun v => k (some v) st⟩
 | .assign x => ⟨fun _ fr ls st k => (JA mask Jb x).run fr ls fun v => k (some v) st⟩
 | .pick c a b => ⟨fun _ fr ls st k => (JA mask Jb c).run fr ls fun v => onB v ((JA mask Jb a).run fr ls fun v => k (some v) st) ((JA mask Jb b).run fr ls fun v => k (some v) st)⟩
 | .binOp op t x y _ => ⟨fun _ fr ls st k => (JA mask Jb x).run fr ls fun x => (JA mask Jb y).run fr ls fun y => (jhs P op t).run x y fun v => k (some v) st⟩
 | .unOp op _ x => ⟨fun _ fr ls st k => (JA mask Jb x).run fr ls fun x => jgF (vun op x) fun v => k (some v) st⟩
 | .convert s d x => ⟨fun _ fr ls st k => (JA mask Jb x).run fr ls fun x => (zfs P ro s d).run st x fun v st => k (some v) st⟩
 | .field t x f => ⟨fun _ fr ls st k => (JA mask Jb x).run fr ls fun x => jgF (zcj P t x f) fun v => k (some v) st⟩
 | .index t x i => ⟨fun _ fr ls st k => (JA mask Jb x).run fr ls fun x => (JA mask Jb i).run fr ls fun i => (zfr P t).run x i fun v => k (some v) st⟩
 | .indexAddr t x i => ⟨fun _ fr ls st k => (JA mask Jb x).run fr ls fun x => (JA mask Jb i).run fr ls fun i => onI i fun _ i => jgF (JG P t x i) fun v => k (some v) st⟩
 | .fieldAddr t x f => ⟨fun _ fr ls st k => (JA mask Jb x).run fr ls fun x => onP x fun id off => jgF (Z8 P t id off f) fun v => k (some v) st⟩
 | .load t x => ⟨fun _ fr ls st k => (JA mask Jb x).run fr ls fun x => onP x fun id off => (Jeo P t).run st id off fun v => k (some v) st⟩
 | .store t x v => ⟨fun _ fr ls st k => (JA mask Jb x).run fr ls fun x => (JA mask Jb v).run fr ls fun v => onP x fun id off => (Zfr P ro t).run st id off v fun st => k none st⟩
 | .alloc t => match jal P t, jH P t with
  | some z, some n => jaz n fun n => ⟨fun _ _ _ st k => jdt st z n fun v st => k (some v) st⟩
  | _, _ => ⟨fun _ _ _ _ _ => false⟩
 | .box t x => match jH P t with
  | some n => jaz n fun n => ⟨fun _ fr ls st k => (JA mask Jb x).run fr ls fun z => jdt st z n fun v st => k (some v) st⟩
  | none => ⟨fun _ _ _ _ _ => false⟩
 | .build t ps => ⟨fun _ fr ls st k => (Jdg mask Jb ps.toList).run fr ls fun ps => jgF (Jci P t ps) fun v => k (some v) st⟩
 | .buildSlice t len ps => match len, ps.toList with
  | 1, [(0, o)] => ⟨fun _ fr ls st k => (JA mask Jb o).run fr ls fun v => (Zhs P t).run st v fun v st => k (some v) st⟩
  | len, ps => ⟨fun _ fr ls st k => (Jdg mask Jb ps).run fr ls fun ps => zeZ (Jv P st t len ps) fun v st => jaB v fun v => k (some v) st⟩
 | .makeSlice t l c => ⟨fun _ fr ls st k => (JA mask Jb l).run fr ls fun l => (JA mask Jb c).run fr ls fun c => onI l fun _ l => onI c fun _ c => zeZ (Zaf P st t l c) fun v st => jaB v fun v => k (some v) st⟩
 | .slice t x lo hi mx => ⟨fun _ fr ls st k => (JA mask Jb x).run fr ls fun x => (zeN mask Jb lo).run fr ls fun lo => (zeN mask Jb hi).run fr ls fun hi => (zeN mask Jb mx).run fr ls fun mx => jgF (Z0 P t x lo hi mx) fun v => k (some v) st⟩
 | .nilCheck x => ⟨fun _ fr ls st k => (JA mask Jb x).run fr ls fun x => onP x fun id off => k (some (.p id off)) st⟩
 | .makeFunc fn first caps => ⟨fun _ fr ls st k => (jaw mask Jb first.toList).run fr ls fun xs => (jaw mask Jb caps.toList).run fr ls fun ys => k (some (.f fn xs ys)) st⟩
 | .extract x i => ⟨fun _ fr ls st k => (JA mask Jb x).run fr ls fun x => onT x fun vs => ZgE vs[i]? fun v => k (some v) st⟩
 | .call c => jfs P ro mask Jb (jaw mask Jb c.args.toList) c.argTypes.toList c.callee
 | _ => ⟨fun _ _ _ _ _ => false⟩
end
structure KPut where
 run : T V → List V → Option V → (T V → List V → Bool) → Bool
def JgF : V := .t []
noncomputable def Zc5 (nt mask : Nat) : Option Nat → KPut
 | none => ⟨fun fr ls _ k => k fr ls⟩
 | some d => match Nat.blt d nt with
  | true => match zc5 mask d with
   | true => ⟨fun fr ls v k => Option.rec (motive := fun _ => Bool) (JgE (zaw d) fr JgF fun fr => k fr ls) (fun v => JgE (zaw d) fr v fun fr => k fr ls) v⟩
   | false => ⟨fun fr ls v k => Option.rec (motive := fun _ => Bool) (k fr (JgF :: ls)) (fun v => k fr (v :: ls)) v⟩
  | false => ⟨fun _ _ _ _ => false⟩
def ZJ (mask : Nat) (Jb : List Nat) : Option Nat → List Nat
 | none => Jb
 | some d => match zc5 mask d with
  | true => Jb
  | false => d :: Jb
structure KW where
 run : T V → List V → Bool → Bool → Bool
noncomputable def J5 (mask : Nat) (Jb : List Nat) (ops : Array Oper) : Option (Nat × Bool) → KW
 | none => ⟨fun _ _ t _ => t⟩
 | some (j, want) => match (ops[j]?).bind (·.dst) with
  | none => ⟨fun _ _ _ f => f⟩
  | some d => match want with
   | true => ⟨fun fr ls t f => (Jfq mask Jb d).run fr ls fun v => Jhr v t f f⟩
   | false => ⟨fun fr ls t f => (Jfq mask Jb d).run fr ls fun v => Jhr v f t f⟩
structure KR where
 run : KCall → T V → List V → St → (T V → St → Bool) → Bool
noncomputable def Zfs (P : Program) (ro nt mask : Nat) (ops : Array Oper) : List Nat → List Oper → KR
 | _, [] => ⟨fun _ fr _ st k => k fr st⟩
 | Jb, o :: r => match o.guard with
  | none => ⟨fun call fr ls st k => (kop P ro mask Jb o.op).run call fr ls st fun v st => (Zc5 nt mask o.dst).run fr ls v fun fr ls => (Zfs P ro nt mask ops (ZJ mask Jb o.dst) r).run call fr ls st k⟩
  | some g => ⟨fun call fr ls st k => (J5 mask Jb ops (some g)).run fr ls
   ((kop P ro mask Jb o.op).run call fr ls st fun v st => (Zc5 nt mask o.dst).run fr ls v fun fr ls => (Zfs P ro nt mask ops (ZJ mask Jb o.dst) r).run call fr ls st k)
   ((Zc5 nt mask o.dst).run fr ls none fun fr ls => (Zfs P ro nt mask ops (ZJ mask Jb o.dst) r).run call fr ls st k)⟩
noncomputable def Jc5 (P : Program) (ro nt mask : Nat) (ops : Array Oper) : List Nat → List Oper → KR
 | _, [] => ⟨fun _ fr _ st k => k fr st⟩
 | Jb, o :: r => match jJ o.op with
  | true => ⟨fun call fr ls st k => (J5 mask Jb ops o.guard).run fr ls
   ((kop P ro mask Jb o.op).run call fr ls ⟨st.nx, st.hp, st.nx⟩ fun v st' => ifB (Nat.ble st.nx st'.ver && (Nat.beq st'.nx st.nx || zbN v)) ((Zc5 nt mask o.dst).run fr ls v fun fr ls => (Jc5 P ro nt mask ops (ZJ mask Jb o.dst) r).run call fr ls st k) false)
   ((Zc5 nt mask o.dst).run fr ls none fun fr ls => (Jc5 P ro nt mask ops (ZJ mask Jb o.dst) r).run call fr ls st k)⟩
  | false => ⟨fun call fr ls st k => (J5 mask Jb ops o.guard).run fr ls false
   ((Zc5 nt mask o.dst).run fr ls none fun fr ls => (Jc5 P ro nt mask ops (ZJ mask Jb o.dst) r).run call fr ls st k)⟩
noncomputable def jdV (P : Program) (ro nt mask : Nat) (ops : Array Oper) (tl : List Oper) : List Nat → List Oper → KR
 | Jb, [] => Zfs P ro nt mask ops Jb tl
 | Jb, o :: r => match jJ o.op with
  | true => ⟨fun call fr ls st k => (J5 mask Jb ops o.guard).run fr ls
   ((kop P ro mask Jb o.op).run call fr ls ⟨st.nx, st.hp, st.nx⟩ fun v st' => ifB (Nat.ble st.nx st'.ver && (Nat.beq st'.nx st.nx || zbN v)) ((Zc5 nt mask o.dst).run fr ls v fun fr ls => (jdV P ro nt mask ops tl (ZJ mask Jb o.dst) r).run call fr ls st k) false)
   ((Zc5 nt mask o.dst).run fr ls none fun fr ls => (jdV P ro nt mask ops tl (ZJ mask Jb o.dst) r).run call fr ls st k)⟩
  | false => ⟨fun call fr ls st k => (J5 mask Jb ops o.guard).run fr ls false
   ((Zc5 nt mask o.dst).run fr ls none fun fr ls => (jdV P ro nt mask ops tl (ZJ mask Jb o.dst) r).run call fr ls st k)⟩
noncomputable def jf2 (P : Program) (st : St) (es : List Ent) (b : Bool) : Bool :=
 List.rec (motive := fun _ => Bool) b (fun e _ ih => (Jeo P e.t).run st e.id e.off fun v => ifB (zdn v e.v) ih false) es
noncomputable def Jgq (P : Program) (c : Bool) (st : St) (es : List Ent) (b : Bool) : Bool := Bool.rec (jf2 P st es b) b c
structure KRE where
 run : KCall → T V → List V → List Ent → St → (T V → St → Bool) → Bool
noncomputable def Jfs (P : Program) (ro nt mask : Nat) (ops : Array Oper) : List Nat → List (Nat × Oper) → KRE
 | _, [] => ⟨fun _ fr _ _ st k => k fr st⟩
 | Jb, (i, o) :: r => match jaW o.op with
  | 0 => ⟨fun call fr ls es st k => (J5 mask Jb ops o.guard).run fr ls
   ((kop P ro mask Jb o.op).run call fr ls ⟨st.nx, .e, 0⟩ fun v _ => (Zc5 nt mask o.dst).run fr ls v fun fr ls => (Jfs P ro nt mask ops (ZJ mask Jb o.dst) r).run call fr ls es st k)
   ((Zc5 nt mask o.dst).run fr ls none fun fr ls => (Jfs P ro nt mask ops (ZJ mask Jb o.dst) r).run call fr ls es st k)⟩
  | 1 => match o.op with
   | .load t x => ⟨fun call fr ls es st k => (J5 mask Jb ops o.guard).run fr ls
    ((JA mask Jb x).run fr ls fun x => onP x fun id off => (Jeo P t).run st id off fun v => (Zc5 nt mask o.dst).run fr ls (some v) fun fr ls => (Jfs P ro nt mask ops (ZJ mask Jb o.dst) r).run call fr ls (⟨i, t, id, off, v⟩ :: es) st k)
    ((Zc5 nt mask o.dst).run fr ls none fun fr ls => (Jfs P ro nt mask ops (ZJ mask Jb o.dst) r).run call fr ls es st k)⟩
   | _ => ⟨fun _ _ _ _ _ _ => false⟩
  | _ => ⟨fun call fr ls es st k => (J5 mask Jb ops o.guard).run fr ls
   ((kop P ro mask Jb o.op).run call fr ls ⟨st.nx, st.hp, st.nx⟩ fun v st' => Jgq P (Nat.ble st.nx st'.ver) st' (zab ops i es) ((Zc5 nt mask o.dst).run fr ls v fun fr ls => Jao (low st.ver st'.ver) fun ver => (Jfs P ro nt mask ops (ZJ mask Jb o.dst) r).run call fr ls (zab ops i es) ⟨st'.nx, st'.hp, ver⟩ k))
   ((Zc5 nt mask o.dst).run fr ls none fun fr ls => (Jfs P ro nt mask ops (ZJ mask Jb o.dst) r).run call fr ls es st k)⟩
structure KB where
 run : KCall → T V → St → (T V → St → Bool) → (Ex → T V → St → Bool) → Bool
noncomputable def Zf2 (b : KB) (call : KCall) (kx : Ex → T V → St → Bool) (n : Nat) : T V → St → Bool :=
 Nat.rec (motive := fun _ => T V → St → Bool) (fun _ _ => false) (fun _ ih fr st => b.run call fr st ih kx) n
noncomputable def zgr (e : Ex) (k : Nat → Bool) (d : Bool) : Bool := Ex.rec (motive := fun _ => Bool) d k (fun _ => d) d e
noncomputable def zg7 (e : Ex) (d : Bool) : Bool := Ex.rec (motive := fun _ => Bool) d (fun _ => d) (fun _ => false) d e
noncomputable def jg7 (e : Ex) (d : Bool) : Bool := Ex.rec (motive := fun _ => Bool) false (fun _ => false) (fun _ => false) d e
noncomputable def kC (P : Program) (ro nt mask L : Nat) : Code → KB
 | .skip => ⟨fun _ fr st kn _ => kn fr st⟩
 | .label _ => ⟨fun _ fr st kn _ => kn fr st⟩
 | .region _ ops draw => match draw with
  | false => ⟨fun call fr st kn _ => (Zfs P ro nt mask ops [] ops.toList).run call fr [] st kn⟩
  | true => match Zeh P ops with
   | true => ⟨fun call fr st kn _ => (Jc5 P ro nt mask ops [] ops.toList).run call fr [] st kn⟩
   | false => match jeh ops with
    | true => ⟨fun call fr st kn _ => (jdV P ro nt mask ops (ops.toList.drop (ops.size - 1)) [] (ops.toList.take (ops.size - 1))).run call fr [] st kn⟩
    | false => match jcj P ops with
     | some pl => ⟨fun call fr st kn _ => (Jfs P ro nt mask ops [] pl).run call fr [] [] st kn⟩
     | none => match jfW ops with
      | true => ⟨fun call fr st kn _ => (Jc5 P ro nt mask ops [] ops.toList).run call fr [] st kn⟩
      | false => ⟨fun _ _ _ _ _ => false⟩
 | .seq a b => ⟨fun call fr st kn kx => (kC P ro nt mask L a).run call fr st (fun fr st => (kC P ro nt mask L b).run call fr st kn kx) kx⟩
 | .cond c a b => ⟨fun call fr st kn kx => (JA mask [] c).run fr [] fun v => onB v ((kC P ro nt mask L a).run call fr st kn kx) ((kC P ro nt mask L b).run call fr st kn kx)⟩
 | .block id b => ⟨fun call fr st kn kx => (kC P ro nt mask L b).run call fr st kn fun e fr st => zgr e (fun id' => ifB (Nat.beq id' id) (kn fr st) (kx e fr st)) (kx e fr st)⟩
 | .loop b => ⟨fun call fr st _ kx => Zf2 (kC P ro nt mask L b) call kx L fr st⟩
 | .exit id => ⟨fun _ fr st _ kx => kx (.exit id) fr st⟩
 | .goto l => ⟨fun _ fr st _ kx => kx (.goto l) fr st⟩
 | .scope b => ⟨fun call fr st kn kx => (kC P ro nt mask L b).run call fr st kn fun e fr st => zg7 e (kx e fr st)⟩
 | .ret => ⟨fun _ fr st _ kx => kx .ret fr st⟩
 | _ => ⟨fun _ _ _ _ _ => false⟩
noncomputable def jgr (l : List V) (k : T V → Bool) : Bool :=
 List.rec (motive := fun _ => Nat → T V → Bool) (fun _ fr => k fr) (fun v _ ih i fr => JgE (zaw i) fr v fun fr => Jao (i + 1) fun i => ih i fr) l 0 .e
structure KRes where
 run : T V → St → (List V → Bool) → Bool
noncomputable def jgY (P : Program) (mask : Nat) : List ResultVar → KRes
 | [] => ⟨fun _ _ k => k []⟩
 | .tmp t :: r => ⟨fun fr st k => (Jfq mask [] t).run fr [] fun v => (jgY P mask r).run fr st fun vs => k (v :: vs)⟩
 | .cell a t :: r => ⟨fun fr st k => (Jfq mask [] a).run fr [] fun x => onP x fun id off => (Jeo P t).run st id off fun v => (jgY P mask r).run fr st fun vs => k (v :: vs)⟩
structure KF where
 run : KCall → List V → St → (V → St → Bool) → Bool
noncomputable def Jhs (P : Program) (ZdX : Nat → Nat) (ro L : Nat) (f : FuncId) : KF := match P.funcs[f]? with
 | some fn => match fn.body with
  | some c => jaz fn.ntmps fun nt => jaz (ZdX f) fun mask => ⟨fun call args st k => ifB (Nat.ble args.length nt)
   (jgr args fun fr => (kC P ro nt mask L c).run call fr st (fun fr st => (jgY P mask fn.results.toList).run fr st fun vs => k (JaO vs) st) fun e fr st => jg7 e
    ((jgY P mask fn.results.toList).run fr st fun vs => k (JaO vs) st)) false⟩
  | none => ⟨fun _ _ _ _ => false⟩
 | none => ⟨fun _ _ _ _ => false⟩
noncomputable def Jf2 (P : Program) (ZdX : Nat → Nat) (ov : Ov) (ro L n : Nat) : KCall :=
 Nat.rec (motive := fun _ => KCall) (fun _ _ _ _ => false) (fun _ ih f args st k => match ov f args st with
  | some (v, st) => jaB v fun v => k v st
  | none => (Jhs P ZdX ro L f).run ih args st k) n
noncomputable def JeN (P : Program) (ZdX : Nat → Nat) (ov : Ov) (gs : List (Nat × List V)) (L n : Nat) (f : FuncId) (args : List V) : Bool :=
 Jf2 P ZdX ov GL L n f args (st0 gs) fun v _ => onB v true false
end Go.Vk
