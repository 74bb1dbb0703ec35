/-
  A faster evaluator: code is turned into functions once, and run by continuation. Definitions. Nothing is claimed here.
-/
import Derived.Test.YtnfddmjbfkfnhaaGreatDoorVd
import Derived.Test.YtnfddmjbfkfnhaaGreatDoorVf4
namespace Go.Vk
open Go.Vm

abbrev KCall := FuncId → List V → St → (V → St → Bool) → Bool

/-! ### Cases, straight by recursors -/

noncomputable def ifB (x t f : Bool) : Bool := Bool.rec f t x
noncomputable def onOpt (o : Option V) (k : V → Bool) : Bool := Option.rec false k o
noncomputable def onB (v : V) (t f : Bool) : Bool :=
  V.rec (motive_1 := fun _ => Bool) (motive_2 := fun _ => Unit) (fun x => Bool.rec f t x) (fun _ _ => false) (fun _ _ => false) (fun _ _ => false) false (fun _ _ _ _ _ => false) false (fun _ _ _ _ _ => false) false false (fun _ _ => false) (fun _ _ => false) (fun _ _ _ => false) (fun _ => false) (fun _ => false) (false) (fun _ _ _ => false) () (fun _ _ _ _ => ()) v
/-- What is no bool: d. -/
noncomputable def onBx (v : V) (t f d : Bool) : Bool :=
  V.rec (motive_1 := fun _ => Bool) (motive_2 := fun _ => Unit) (fun x => Bool.rec f t x) (fun _ _ => d) (fun _ _ => d) (fun _ _ => d) d (fun _ _ _ _ _ => d) d (fun _ _ _ _ _ => d) d d (fun _ _ => d) (fun _ _ => d) (fun _ _ _ => d) (fun _ => d) (fun _ => d) (d) (fun _ _ _ => d) () (fun _ _ _ _ => ()) v
noncomputable def onI (v : V) (k : IntKind → Int → Bool) : Bool :=
  V.rec (motive_1 := fun _ => Bool) (motive_2 := fun _ => Unit) (fun _ => false) k (fun _ _ => false) (fun _ _ => false) false (fun _ _ _ _ _ => false) false (fun _ _ _ _ _ => false) false false (fun _ _ => false) (fun _ _ => false) (fun _ _ _ => false) (fun _ => false) (fun _ => false) (false) (fun _ _ _ => false) () (fun _ _ _ _ => ()) v
noncomputable def onS (v : V) (k : Nat → Nat → Bool) : Bool :=
  V.rec (motive_1 := fun _ => Bool) (motive_2 := fun _ => Unit) (fun _ => false) (fun _ _ => false) k (fun _ _ => false) false (fun _ _ _ _ _ => false) false (fun _ _ _ _ _ => false) false false (fun _ _ => false) (fun _ _ => false) (fun _ _ _ => false) (fun _ => false) (fun _ => false) (false) (fun _ _ _ => false) () (fun _ _ _ _ => ()) v
noncomputable def onP (v : V) (k : Nat → Nat → Bool) : Bool :=
  V.rec (motive_1 := fun _ => Bool) (motive_2 := fun _ => Unit) (fun _ => false) (fun _ _ => false) (fun _ _ => false) k false (fun _ _ _ _ _ => false) false (fun _ _ _ _ _ => false) false false (fun _ _ => false) (fun _ _ => false) (fun _ _ _ => false) (fun _ => false) (fun _ => false) (false) (fun _ _ _ => false) () (fun _ _ _ _ => ()) v
noncomputable def onF (v : V) (k : Fn → List V → List V → Bool) : Bool :=
  V.rec (motive_1 := fun _ => Bool) (motive_2 := fun _ => Unit) (fun _ => false) (fun _ _ => false) (fun _ _ => false) (fun _ _ => false) false (fun _ _ _ _ _ => false) false (fun f xs ys _ _ => k f xs ys) false false (fun _ _ => false) (fun _ _ => false) (fun _ _ _ => false) (fun _ => false) (fun _ => false) (false) (fun _ _ _ => false) () (fun _ _ _ _ => ()) v
noncomputable def onT (v : V) (k : List V → Bool) : Bool :=
  V.rec (motive_1 := fun _ => Bool) (motive_2 := fun _ => Unit) (fun _ => false) (fun _ _ => false) (fun _ _ => false) (fun _ _ => false) false (fun _ _ _ _ _ => false) false (fun _ _ _ _ _ => false) false false (fun _ _ => false) (fun vs _ => k vs) (fun _ _ _ => false) (fun _ => false) (fun _ => false) (false) (fun _ _ _ => false) () (fun _ _ _ _ => ()) v
/-- Both are no less than 0. -/
noncomputable def onNN (a b : Int) (k : Nat → Nat → Bool) (d : Bool) : Bool := Int.rec (fun m => Int.rec (fun n => k m n) (fun _ => d) b) (fun _ => d) a
noncomputable def onN (a : Int) (k : Nat → Bool) (d : Bool) : Bool := Int.rec k (fun _ => d) a
noncomputable def natK (n : Nat) (k : Nat → Bool) : Bool := Nat.rec (motive := fun _ => Bool) (k 0) (fun m _ => k (Nat.succ m)) n

/-- A value is forced. -/
noncomputable def forceK (v : V) (k : V → Bool) : Bool :=
  V.rec (motive_1 := fun _ => Bool) (motive_2 := fun _ => Unit) (fun x => Bool.rec (k (.b false)) (k (.b true)) x)
    (fun kd n => kindF kd fun kd => Int.rec (fun m => natK m fun m => k (.i kd (.ofNat m))) (fun m => natK m fun m => k (.i kd (.negSucc m))) n)
    (fun l x => natK l fun l => natK x fun x => k (.s l x)) (fun g o => natK g fun g => natK o fun o => k (.p g o)) (k .pn)
    (fun g o l c op => natK g fun g => natK o fun o => natK l fun l => natK c fun c => Bool.rec (k (.sl g o l c false)) (k (.sl g o l c true)) op) (k .sn) (fun f xs ys _ _ => k (.f f xs ys)) (k .fz) (k .nz) (fun cs _ => k (.a cs)) (fun vs _ => k (.t vs)) (fun g o p => natK g fun g => natK o fun o => natK p fun p => k (.se g o p)) (fun a => k (.ze a)) (fun g => natK g fun g => k (.m g)) (k .mz) (fun g o p => natK g fun g => natK o fun o => natK p fun p => k (.sy g o p)) () (fun _ _ _ _ => ()) v

/-! ### Frames -/

/-- The way to a place of a tree. -/
noncomputable def pathR (f : Nat) : Nat → List Bool :=
  Nat.rec (motive := fun _ => Nat → List Bool) (fun _ => [])
    (fun _ ih i => Nat.rec (motive := fun _ => List Bool) [] (fun k _ => Bool.rec (motive := fun _ => List Bool) (false :: ih (k / 2)) (true :: ih (k / 2)) (Nat.beq (k % 2) 0)) i) f
noncomputable def pathOf (i : Nat) : List Bool := pathR (i + 1) i

noncomputable def getD {α : Type} (p : List Bool) (t : T α) (k : α → Bool) (d : Bool) : Bool :=
  List.rec (motive := fun _ => T α → Bool)
    (fun t => T.rec (motive := fun _ => Bool) d (fun _ v _ _ _ => Option.rec d k v) t)
    (fun b _ ih t => T.rec (motive := fun _ => Bool) d (fun l _ r _ _ => Bool.rec (ih r) (ih l) b) t) p t
noncomputable def getK (p : List Bool) (t : T V) (k : V → Bool) : Bool := getD p t k false

noncomputable def updA {α : Type} (p : List Bool) (t : T α) (v : Option α) (k : T α → Bool) : Bool :=
  List.rec (motive := fun _ => T α → (T α → Bool) → Bool)
    (fun t k => T.rec (motive := fun _ => Bool) (k (.n .e v .e)) (fun l _ r _ _ => k (.n l v r)) t)
    (fun b _ ih t k => Bool.rec
      (T.rec (motive := fun _ => Bool) (ih .e fun r => k (.n .e none r)) (fun l x r _ _ => ih r fun r => k (.n l x r)) t)
      (T.rec (motive := fun _ => Bool) (ih .e fun l => k (.n l none .e)) (fun l x r _ _ => ih l fun l => k (.n l x r)) t) b) p t k
noncomputable def updK (p : List Bool) (t : T V) (v : V) (k : T V → Bool) : Bool := updA p t (some v) k

noncomputable def nthK (j : Nat) (ls : List V) (k : V → Bool) : Bool :=
  Nat.rec (motive := fun _ => List V → Bool)
    (fun ls => List.rec (motive := fun _ => Bool) false (fun v _ _ => k v) ls)
    (fun _ ih ls => List.rec (motive := fun _ => Bool) false (fun _ r _ => ih r) ls) j ls

structure KOpd where
  run : T V → List V → (V → Bool) → Bool
structure KOpds where
  run : T V → List V → (List V → Bool) → Bool
structure KOpdO where
  run : T V → List V → (Option V → Bool) → Bool
structure KParts where
  run : T V → List V → (List (Nat × V) → Bool) → Bool

def posOf : List Nat → Nat → Option Nat
  | [], _ => none
  | x :: r, t => match Nat.beq x t with
    | true => some 0
    | false => match posOf r t with
      | some j => some (j + 1)
      | none => none
def liveB (mask t : Nat) : Bool := Nat.beq (mask / 2 ^ t % 2) 1

section
variable (mask : Nat) (names : List Nat)
noncomputable def ktmp (t : Nat) : KOpd := match posOf names t with
  | some j => natF j fun j => ⟨fun _ ls k => nthK j ls k⟩
  | none => match liveB mask t with
    | true => ⟨fun fr _ k => getK (pathOf t) fr k⟩
    | false => ⟨fun _ _ _ => false⟩
noncomputable def kopnd : Operand → KOpd
  | .tmp t => ktmp mask names t
  | .const c => match ofV 4 c with
    | some v => v.force fun v => ⟨fun _ _ k => k v⟩
    | none => ⟨fun _ _ _ => false⟩
  | .global g => cond (Nat.blt g GL) ⟨fun _ _ k => k (.p g 0)⟩ ⟨fun _ _ _ => false⟩
  | .func f => ⟨fun _ _ k => k (.f (.func f) [] [])⟩
noncomputable def kopnds : List Operand → KOpds
  | [] => ⟨fun _ _ k => k []⟩
  | o :: r => ⟨fun fr ls k => (kopnd mask names o).run fr ls fun v => (kopnds r).run fr ls fun vs => k (v :: vs)⟩
noncomputable def kopndO : Option Operand → KOpdO
  | none => ⟨fun _ _ k => k none⟩
  | some o => ⟨fun fr ls k => (kopnd mask names o).run fr ls fun v => k (some v)⟩
noncomputable def kparts : List (Nat × Operand) → KParts
  | [] => ⟨fun _ _ k => k []⟩
  | (i, o) :: r => ⟨fun fr ls k => (kopnd mask names o).run fr ls fun v => (kparts r).run fr ls fun vs => k ((i, v) :: vs)⟩
end

/-! ### Operations -/

noncomputable def kindN (k : IntKind) : Nat := IntKind.rec (motive := fun _ => Nat) 0 1 2 3 4 5 6 7 k
noncomputable def limN (k : IntKind) : Nat := IntKind.rec (motive := fun _ => Nat) 128 32768 2147483648 9223372036854775808 256 65536 4294967296 18446744073709551616 k
/-- The number, held to its kind. -/
noncomputable def wrapK (kd : IntKind) (n : Int) (k : V → Bool) : Bool := forceK (V.i kd (kd.wrap n)) k
noncomputable def smallK (kd : IntKind) (m : Nat) (k : V → Bool) : Bool := ifB (Nat.blt m (limN kd)) (natK m fun m => k (.i kd (.ofNat m))) (wrapK kd (.ofNat m) k)

noncomputable def wrapV (kd : IntKind) (n : Int) (k : V → Bool) : Bool := onN n (fun m => smallK kd m k) (wrapK kd n k)

structure KBin where
  run : V → V → (V → Bool) → Bool
noncomputable def sameK (x y : V) (k : IntKind → Int → Int → Bool) : Bool := onI x fun ka a => onI y fun kb b => ifB (Nat.beq (kindN ka) (kindN kb)) (k ka a b) false
noncomputable def kbinI (P : Program) (t : TypeId) : BinOp → KBin
  | .add => ⟨fun x y k => sameK x y fun ka a b => onNN a b (fun m n => smallK ka (m + n) k) (wrapK ka (a + b) k)⟩
  | .sub => ⟨fun x y k => sameK x y fun ka a b => onNN a b (fun m n => ifB (Nat.ble n m) (smallK ka (m - n) k) (wrapK ka (a - b) k)) (wrapK ka (a - b) k)⟩
  | .mul => ⟨fun x y k => sameK x y fun ka a b => onNN a b (fun m n => smallK ka (m * n) k) (wrapK ka (a * b) k)⟩
  | .lss => ⟨fun x y k => sameK x y fun _ a b => onNN a b (fun m n => boolF (Nat.blt m n) fun z => k (.b z)) (boolF (ilt a b) fun z => k (.b z))⟩
  | .leq => ⟨fun x y k => sameK x y fun _ a b => onNN a b (fun m n => boolF (Nat.ble m n) fun z => k (.b z)) (boolF (ile a b) fun z => k (.b z))⟩
  | .gtr => ⟨fun x y k => sameK x y fun _ a b => onNN a b (fun m n => boolF (Nat.blt n m) fun z => k (.b z)) (boolF (ilt b a) fun z => k (.b z))⟩
  | .geq => ⟨fun x y k => sameK x y fun _ a b => onNN a b (fun m n => boolF (Nat.ble n m) fun z => k (.b z)) (boolF (ile b a) fun z => k (.b z))⟩
  | .eql => ⟨fun x y k => sameK x y fun _ a b => onNN a b (fun m n => boolF (Nat.beq m n) fun z => k (.b z)) (boolF (a == b) fun z => k (.b z))⟩
  | .neq => ⟨fun x y k => sameK x y fun _ a b => onNN a b (fun m n => boolF (!(Nat.beq m n)) fun z => k (.b z)) (boolF (a != b) fun z => k (.b z))⟩
  | op => ⟨fun x y k => match vbin P op t x y with | some v => forceK v k | none => false⟩
noncomputable def kbin (P : Program) (op : BinOp) (t : TypeId) : KBin :=
  match P.underlying t with
  | some (.int _) => kbinI P t op
  | _ => ⟨fun x y k => match vbin P op t x y with | some v => forceK v k | none => false⟩

noncomputable def kindex (P : Program) (t : TypeId) : KBin :=
  match P.underlying t with
  | some .string => ⟨fun x y k => onS x fun len bits => onI y fun _ i => onN i (fun i => ifB (Nat.blt i len) (natK (byteAt bits i) fun n => k (.i .u8 (.ofNat n))) false) false⟩
  | _ => ⟨fun x y k => onI y fun _ i => match vindex P t x i with | some v => forceK v k | none => false⟩

/-! ### Memory -/

noncomputable def onBlk (b : Blk) (k : T V → List V → Nat → Nat → Bool → Bool) : Bool := Blk.rec (motive := fun _ => Bool) (fun cs zero sz es op _ => k cs zero sz es op) b
noncomputable def onBlkM (b : Blk) (k : T V → List V → Nat → Nat → Bool → Option (List (V × V)) → Bool) : Bool := Blk.rec (motive := fun _ => Bool) k b
noncomputable def noMap (mp : Option (List (V × V))) (b : Bool) : Bool := Option.rec (motive := fun _ => Bool) b (fun _ => false) mp
noncomputable def onSt (st : St) (k : Nat → T Blk → Nat → Bool) : Bool := St.rec (motive := fun _ => Bool) k st
noncomputable def cellK (cs : T V) (zero : List V) (sz es o : Nat) (k : V → Bool) : Bool := ifB (Nat.blt o sz) (getD (pathOf o) cs k (onOpt zero[o % es]? k)) false
noncomputable def rowK (cs : T V) (zero : List V) (sz es n o : Nat) (k : List V → Bool) : Bool :=
  Nat.rec (motive := fun _ => Nat → (List V → Bool) → Bool) (fun _ k => k []) (fun _ ih o k => cellK cs zero sz es o fun v => natK (o + 1) fun o => ih o fun r => k (v :: r)) n o k
noncomputable def putK (sz : Nat) (vs : List V) (cs : T V) (o : Nat) (k : T V → Bool) : Bool :=
  List.rec (motive := fun _ => T V → Nat → Bool) (fun cs _ => k cs) (fun v _ ih cs o => ifB (Nat.blt o sz) (ifB v.atom (forceK v fun v => updA (pathOf o) cs (some v) fun cs => natK (o + 1) fun o => ih cs o) false) false) vs cs o
noncomputable def lenK (l : List V) (k : Nat → Bool) : Bool := natK (List.rec (motive := fun _ => Nat) 0 (fun _ _ ih => Nat.succ ih) l) k
/-- A new block of some cells. -/
noncomputable def newK (cs : List V) (es : Nat) (op : Bool) (k : Blk → Bool) : Bool := lenK cs fun sz => putK sz cs .e 0 fun t => k ⟨t, [], sz, es, op, none⟩
noncomputable def allocK (st : St) (b : Blk) (k : Nat → St → Bool) : Bool := onSt st fun nx hp ver => updA (pathOf nx) hp (some b) fun hp => natK (nx + 1) fun nx1 => k nx ⟨nx1, hp, ver⟩
noncomputable def writeK (st : St) (id : Nat) (b : Option Blk) (k : St → Bool) : Bool := onSt st fun nx hp ver => updA (pathOf id) hp b fun hp => ifB (Nat.ble ver id) (k ⟨nx, hp, ver⟩) (k ⟨nx, hp, id⟩)
noncomputable def blkK (st : St) (id : Nat) (k : Blk → Bool) : Bool := onSt st fun _ hp _ => getD (pathOf id) hp k false
noncomputable def cellsV (v : V) (k : List V → Bool) : Bool :=
  V.rec (motive_1 := fun _ => Bool) (motive_2 := fun _ => Unit) (fun _ => k [v]) (fun _ _ => k [v]) (fun _ _ => k [v]) (fun _ _ => k [v]) (k [v]) (fun _ _ _ _ _ => k [v]) (k [v]) (fun _ _ _ _ _ => k [v]) (k [v]) (k [v]) (fun cs _ => k cs) (fun _ _ => k [v]) (fun _ _ _ => k [v]) (fun _ => k [v]) (fun _ => k [v]) (k [v]) (fun _ _ _ => k [v]) () (fun _ _ _ _ => ()) v

structure KLoad where
  run : St → Nat → Nat → (V → Bool) → Bool
noncomputable def kload (P : Program) (t : TypeId) : KLoad :=
  match P.info? t, P.underlying t with
  | some ti, some _ => match isAggB P t with
    | true => natF ti.size fun n => ⟨fun st id off k => blkK st id fun b => onBlk b fun cs zero sz es _ => rowK cs zero sz es n off fun cs => k (.a cs)⟩
    | false => ⟨fun st id off k => blkK st id fun b => onBlk b fun cs zero sz es _ => cellK cs zero sz es off k⟩
  | _, _ => ⟨fun _ _ _ _ => false⟩

structure KStore where
  run : St → Nat → Nat → V → (St → Bool) → Bool
noncomputable def kstore (P : Program) (ro : Nat) (t : TypeId) : KStore :=
  match P.info? t with
  | some ti => natF ti.size fun n => ⟨fun st id off v k => blkK st id fun b => cellsV v fun vs => ifB (Nat.ble ro id) (lenK vs fun l => ifB (Nat.beq l n) (onBlkM b fun cs zero sz es op mp => putK sz vs cs off fun cs => writeK st id (some ⟨cs, zero, sz, es, op, mp⟩) k) false) false⟩
  | none => ⟨fun _ _ _ _ _ => false⟩

noncomputable def kvalloc (st : St) (v : V) (es : Nat) (k : V → St → Bool) : Bool := cellsV v fun cs => newK cs es false fun b => allocK st b fun nx st => k (.p nx 0) st

/-- One element, as append has it. -/
structure KOne where
  run : St → V → (V → St → Bool) → Bool
noncomputable def kone (P : Program) (t : TypeId) : KOne :=
  match P.underlying t with
  | some (.slice e) => match sizeB P e, zeroOf P e with
    | some n, some z => match (Nat.ble (1 * n) 16777216 && Nat.blt 0 n && Nat.beq z.cells.length n) with
      | true => natF n fun n => ⟨fun st v k => cellsV v fun cs => lenK cs fun l => ifB (Nat.beq l n) (newK cs n false fun b => allocK st b fun nx st => k (.sl nx 0 1 1 false) st) false⟩
      | false => ⟨fun _ _ _ => false⟩
    | _, _ => ⟨fun _ _ _ => false⟩
  | _ => ⟨fun _ _ _ => false⟩

/-- An empty slice of open room, or not. -/
noncomputable def onSe (v : V) (d e : Bool) : Bool :=
  V.rec (motive_1 := fun _ => Bool) (motive_2 := fun _ => Unit) (fun _ => e) (fun _ _ => e) (fun _ _ => e) (fun _ _ => e) e (fun _ _ _ _ _ => e) e (fun _ _ _ _ _ => e) e e (fun _ _ => e) (fun _ _ => e) (fun _ _ _ => d) (fun _ => d) (fun _ => e) (e) (fun _ _ _ => d) () (fun _ _ _ _ => ()) v
noncomputable def onSl (v : V) (k : Nat → Nat → Nat → Nat → Bool → Bool) (n : Bool) (s : Nat → Nat → Bool) : Bool :=
  V.rec (motive_1 := fun _ => Bool) (motive_2 := fun _ => Unit) (fun _ => false) (fun _ _ => false) s (fun _ _ => false) false k n (fun _ _ _ _ _ => false) false false (fun _ _ => false) (fun _ _ => false) (fun _ _ _ => false) (fun _ => false) (fun _ => false) (false) (fun _ _ _ => false) () (fun _ _ _ _ => ()) v
noncomputable def bytesK (n x : Nat) (k : List V → Bool) : Bool :=
  Nat.rec (motive := fun _ => Nat → (List V → Bool) → Bool) (fun _ k => k []) (fun _ ih x k => natK (x % 256) fun c => natK (x / 256) fun y => ih y fun r => k (.i .u8 (.ofNat c) :: r)) n x k
/-- What is appended: how many, and their cells. -/
noncomputable def firstK (st : St) (es : Nat) (x : V) (k : Nat → List V → Bool) : Bool :=
  onSl x (fun id off l _ _ => blkK st id fun b => onBlk b fun cs zero sz e _ => rowK cs zero sz e (l * es) off fun r => k l r) (k 0 []) (fun l x => ifB (Nat.beq es 1) (bytesK l x fun r => k l r) false)

structure KApp where
  run : St → V → V → (V → St → Bool) → Bool
noncomputable def kappend (P : Program) (ro : Nat) (t : TypeId) : KApp :=
  match P.underlying t with
  | some (.slice e) => match P.info? e with
    | some ti => natF ti.size fun es => natF ti.bytes fun by_ => match (Nat.blt 0 es && Nat.blt 0 by_ && zeroFits P e es) with
      | true => ⟨fun st s x k => firstK st es x fun n new => onSl s
          (fun id off len cap op => blkK st id fun b => ifB (Nat.ble ((len + n) * by_) 1099511627776)
            (ifB (Nat.ble (len + n) cap)
              (ifB (Nat.ble ro id) (onBlkM b fun cs zero sz e op' mp => putK sz new cs (off + len * es) fun cs => writeK st id (some ⟨cs, zero, sz, e, op', mp⟩) fun st => natK (len + n) fun m => k (.sl id off m cap op) st) false)
              (onBlkM b fun cs zero sz e op' mp => noMap mp
                ((fun (go : Blk → Bool) => ifB (op' && Nat.beq off 0 && Nat.beq (len * es) sz && Nat.beq e es)
                  (lenK new fun nl => natK (sz + nl) fun sz1 => putK sz1 new cs sz fun cs => go ⟨cs, zero, sz1, e, true, none⟩)
                  (rowK cs zero sz e (len * es) off fun old => newK (old ++ new) es true go)) fun b' =>
                ifB op (ifB (Nat.ble ro id && op' && Nat.beq e es && Nat.beq (off + cap * es) sz) (writeK st id none fun st => allocK st b' fun nx st => natK (len + n) fun m => k (.sl nx 0 m m true) st) false)
                  (allocK st b' fun nx st => natK (len + n) fun m => k (.sl nx 0 m m true) st))))
            false)
          (ifB (Nat.ble (n * by_) 1099511627776) (ifB (Nat.beq n 0) (k .sn st) (newK new es true fun b => allocK st b fun nx st => k (.sl nx 0 n n true) st)) false)
          (fun _ _ => false)⟩
      | false => ⟨fun _ _ _ _ => false⟩
    | none => ⟨fun _ _ _ _ => false⟩
  | _ => ⟨fun _ _ _ _ => false⟩

/-- The text of some cells. -/
noncomputable def textK (cs : List V) (k : Nat → Nat → Bool) : Bool :=
  List.rec (motive := fun _ => Nat → Nat → Nat → Bool) (fun l _ acc => k l acc) (fun v _ ih l pw acc => onI v fun kd n => ifB (Nat.beq (kindN kd) 4) (onN n (fun c => natK (l + 1) fun l => natK (acc + c % 256 * pw) fun acc => natK (256 * pw) fun pw => ih l pw acc) false) false) cs 0 1 0

structure KConv where
  run : St → V → (V → St → Bool) → Bool
def optSt (r : Option (V × St)) (k : V → St → Bool) : Bool := match r with
  | some (v, st) => k v st
  | none => false
noncomputable def kconv (P : Program) (s d : TypeId) : KConv :=
  match P.underlying s, P.underlying d with
  | some (.slice e), some .string => match P.underlying e with
    | some (.int .u8) => ⟨fun st x k => onSl x (fun id off len _ _ => blkK st id fun b => onBlk b fun cs zero sz es _ => rowK cs zero sz es len off fun r => textK r fun l x => k (.s l x) st) (k (.s 0 0) st) (fun _ _ => false)⟩
    | _ => ⟨fun _ _ _ => false⟩
  | some _, some .string => ⟨fun st x k => onS x fun l x => k (.s l x) st⟩
  | some _, some (.int kd) => ⟨fun st x k => onI x fun _ n => wrapV kd n fun v => k v st⟩
  | _, _ => ⟨fun st x k => optSt (vconvert P st s d x) fun v st => forceK v fun v => k v st⟩
noncomputable def kconv2 (P : Program) (ro : Nat) (s d : TypeId) : KConv :=
  match P.underlying s, P.underlying d with
  | some (.slice _), some (.slice _) => ⟨fun st x k => optSt (vconv2 P ro st s d x) fun v st => forceK v fun v => k v st⟩
  | _, _ => kconv P s d

structure KO where
  run : KCall → T V → List V → St → (Option V → St → Bool) → Bool
noncomputable def optV (r : Option V) (k : V → Bool) : Bool := match r with
  | some v => forceK v k
  | none => false

section
variable (P : Program) (ro mask : Nat) (names : List Nat)
noncomputable def kother (as : KOpds) (b : Builtin) (ts : List TypeId) : KO := ⟨fun _ fr ls st k => as.run fr ls fun args => optSt (vbuiltin P ro b ts args st) fun v st => forceK v fun v => k (some v) st⟩
noncomputable def onTwo (l : List V) (k : V → V → Bool) : Bool := List.rec (motive := fun _ => Bool) false (fun x r _ => List.rec (motive := fun _ => Bool) false (fun y r _ => List.rec (motive := fun _ => Bool) (k x y) (fun _ _ _ => false) r) r) l
noncomputable def onOne (l : List V) (k : V → Bool) : Bool := List.rec (motive := fun _ => Bool) false (fun x r _ => List.rec (motive := fun _ => Bool) (k x) (fun _ _ _ => false) r) l
noncomputable def kbuiltin (as : KOpds) (b : Builtin) (ts : List TypeId) : KO := match b, ts with
  | .append, [t, u] => match P.underlying u with
    | some (.int _) => ⟨fun _ _ _ _ _ => false⟩
    | some _ => ⟨fun _ fr ls st k => as.run fr ls fun args => onTwo args fun s x => onSe s (optSt (vappend P ro st t s x) fun v st => forceK v fun v => k (some v) st) (onSe x (optSt (vappend P ro st t s x) fun v st => forceK v fun v => k (some v) st) ((kappend P ro t).run st s x fun v st => k (some v) st))⟩
    | none => ⟨fun _ _ _ _ _ => false⟩
  | .len, [t] => match P.underlying t with
    | some .string => ⟨fun _ fr ls st k => as.run fr ls fun args => onOne args fun x => onS x fun l _ => k (some (.i .i64 (.ofNat l))) st⟩
    | some (.slice _) => ⟨fun _ fr ls st k => as.run fr ls fun args => onOne args fun x => onSe x (k (some (.i .i64 (.ofNat 0))) st) (onSl x (fun _ _ l _ _ => k (some (.i .i64 (.ofNat l))) st) (k (some (.i .i64 (.ofNat 0))) st) (fun _ _ => false))⟩
    | _ => kother P ro as b ts
  | b, ts => kother P ro as b ts
noncomputable def kcallee (as : KOpds) (ts : List TypeId) : Callee → KO
  | .builtin b => kbuiltin P ro as b ts
  | .value o => match o with
    | .func f => ⟨fun call fr ls st k => as.run fr ls fun args => call f args st fun v st => k (some v) st⟩
    | o => ⟨fun call fr ls st k => as.run fr ls fun args => (kopnd mask names o).run fr ls fun g => onF g fun fn first caps => match fn with
      | .func f => call f (first ++ args ++ caps) st fun v st => k (some v) st
      | _ => false⟩
  | .invoke _ _ => ⟨fun _ _ _ _ _ => false⟩

/-- The entries of a map are forced. -/
noncomputable def spineK (l : List (V × V)) (k : List (V × V) → Bool) : Bool :=
  List.rec (motive := fun _ => (List (V × V) → Bool) → Bool) (fun k => k []) (fun x _ ih k => forceK x.1 fun a => forceK x.2 fun b => ih fun r => k ((a, b) :: r)) l k
noncomputable def kmapUpd (t : TypeId) : V → V → V → St → (Option V → St → Bool) → Bool
  | .m g, x, y, st, k => match vmapUpdate P ro st t (.m g) x y with
    | some st' => blkK st' g fun b => onBlkM b fun cs zero sz es op mp => match mp with
      | some l => spineK l fun l => writeK st g (some ⟨cs, zero, sz, es, op, some l⟩) fun st => k none st
      | none => false
    | none => false
  | _, _, _, _, _ => false
noncomputable def kop : Op → KO
  | .move x => ⟨fun _ fr ls st k => (kopnd mask names x).run fr ls fun v => k (some v) st⟩
  | .assign x => ⟨fun _ fr ls st k => (kopnd mask names x).run fr ls fun v => k (some v) st⟩
  | .pick c a b => ⟨fun _ fr ls st k => (kopnd mask names c).run fr ls fun v => onB v ((kopnd mask names a).run fr ls fun v => k (some v) st) ((kopnd mask names b).run fr ls fun v => k (some v) st)⟩
  | .binOp op t x y _ => ⟨fun _ fr ls st k => (kopnd mask names x).run fr ls fun x => (kopnd mask names y).run fr ls fun y => (kbin P op t).run x y fun v => k (some v) st⟩
  | .unOp op _ x => ⟨fun _ fr ls st k => (kopnd mask names x).run fr ls fun x => optV (vun op x) fun v => k (some v) st⟩
  | .convert s d x => ⟨fun _ fr ls st k => (kopnd mask names x).run fr ls fun x => (kconv2 P ro s d).run st x fun v st => k (some v) st⟩
  | .field t x f => ⟨fun _ fr ls st k => (kopnd mask names x).run fr ls fun x => optV (vfield P t x f) fun v => k (some v) st⟩
  | .index t x i => ⟨fun _ fr ls st k => (kopnd mask names x).run fr ls fun x => (kopnd mask names i).run fr ls fun i => (kindex P t).run x i fun v => k (some v) st⟩
  | .indexAddr t x i => ⟨fun _ fr ls st k => (kopnd mask names x).run fr ls fun x => (kopnd mask names i).run fr ls fun i => onI i fun _ i => optV (vindexAddr P t x i) fun v => k (some v) st⟩
  | .fieldAddr t x f => ⟨fun _ fr ls st k => (kopnd mask names x).run fr ls fun x => onP x fun id off => optV (vfieldAddr P t id off f) fun v => k (some v) st⟩
  | .load t x => ⟨fun _ fr ls st k => (kopnd mask names x).run fr ls fun x => onP x fun id off => (kload P t).run st id off fun v => k (some v) st⟩
  | .store t x v => ⟨fun _ fr ls st k => (kopnd mask names x).run fr ls fun x => (kopnd mask names v).run fr ls fun v => onP x fun id off => (kstore P ro t).run st id off v fun st => k none st⟩
  | .alloc t => match zeroOf P t, sizeB P t with
    | some z, some n => natF n fun n => ⟨fun _ _ _ st k => kvalloc st z n fun v st => k (some v) st⟩
    | _, _ => ⟨fun _ _ _ _ _ => false⟩
  | .box t x => match sizeB P t with
    | some n => natF n fun n => ⟨fun _ fr ls st k => (kopnd mask names x).run fr ls fun z => kvalloc st z n fun v st => k (some v) st⟩
    | none => ⟨fun _ _ _ _ _ => false⟩
  | .build t ps => ⟨fun _ fr ls st k => (kparts mask names ps.toList).run fr ls fun ps => optV (vbuild P t ps) fun v => k (some v) st⟩
  | .buildSlice t len ps => match len, ps.toList with
    | 1, [(0, o)] => ⟨fun _ fr ls st k => (kopnd mask names o).run fr ls fun v => (kone P t).run st v fun v st => k (some v) st⟩
    | len, ps => ⟨fun _ fr ls st k => (kparts mask names ps).run fr ls fun ps => optSt (vbuildSlice P st t len ps) fun v st => forceK v fun v => k (some v) st⟩
  | .makeSlice t l c => ⟨fun _ fr ls st k => (kopnd mask names l).run fr ls fun l => (kopnd mask names c).run fr ls fun c => onI l fun _ l => onI c fun _ c => optSt (vmakeSlice P st t l c) fun v st => forceK v fun v => k (some v) st⟩
  | .slice t x lo hi mx => ⟨fun _ fr ls st k => (kopnd mask names x).run fr ls fun x => (kopndO mask names lo).run fr ls fun lo => (kopndO mask names hi).run fr ls fun hi => (kopndO mask names mx).run fr ls fun mx => optV (vslice P t x lo hi mx) fun v => k (some v) st⟩
  | .nilCheck x => ⟨fun _ fr ls st k => (kopnd mask names x).run fr ls fun x => onP x fun id off => k (some (.p id off)) st⟩
  | .makeFunc fn first caps => ⟨fun _ fr ls st k => (kopnds mask names first.toList).run fr ls fun xs => (kopnds mask names caps.toList).run fr ls fun ys => k (some (.f fn xs ys)) st⟩
  | .extract x i => ⟨fun _ fr ls st k => (kopnd mask names x).run fr ls fun x => onT x fun vs => onOpt vs[i]? fun v => k (some v) st⟩
  | .call c => kcallee P ro mask names (kopnds mask names c.args.toList) c.argTypes.toList c.callee
  | .makeMap _ none => ⟨fun _ _ _ st k => allocK st ⟨.e, [], 0, 0, false, some []⟩ fun nx st => k (some (.m nx)) st⟩
  | .lookup t x y ok => ⟨fun _ fr ls st k => (kopnd mask names x).run fr ls fun x => (kopnd mask names y).run fr ls fun y => optV (vlookup P ro st t x y ok) fun v => k (some v) st⟩
  | .mapUpdate t m x y => ⟨fun _ fr ls st k => (kopnd mask names m).run fr ls fun m => (kopnd mask names x).run fr ls fun x => (kopnd mask names y).run fr ls fun y => kmapUpd P ro t m x y st k⟩
  | _ => ⟨fun _ _ _ _ _ => false⟩
end

/-- A result is laid down: in the frame, or among the region's own. -/
structure KPut where
  run : T V → List V → Option V → (T V → List V → Bool) → Bool
def vNone : V := .t []
noncomputable def kput (nt mask : Nat) : Option Nat → KPut
  | none => ⟨fun fr ls _ k => k fr ls⟩
  | some d => match Nat.blt d nt with
    | true => match liveB mask d with
      | true => ⟨fun fr ls v k => Option.rec (motive := fun _ => Bool) (updK (pathOf d) fr vNone fun fr => k fr ls) (fun v => updK (pathOf d) fr v fun fr => k fr ls) v⟩
      | false => ⟨fun fr ls v k => Option.rec (motive := fun _ => Bool) (k fr (vNone :: ls)) (fun v => k fr (v :: ls)) v⟩
    | false => ⟨fun _ _ _ _ => false⟩
/-- The names of the region's own, behind it. -/
def namesOf (mask : Nat) (names : List Nat) : Option Nat → List Nat
  | none => names
  | some d => match liveB mask d with
    | true => names
    | false => d :: names

structure KW where
  run : T V → List V → Bool → Bool → Bool
/-- Is it wanted? -/
noncomputable def kwanted (mask : Nat) (names : List Nat) (ops : Array Oper) : Option (Nat × Bool) → KW
  | none => ⟨fun _ _ t _ => t⟩
  | some (j, want) => match (ops[j]?).bind (·.dst) with
    | none => ⟨fun _ _ _ f => f⟩
    | some d => match want with
      | true => ⟨fun fr ls t f => (ktmp mask names d).run fr ls fun v => onBx v t f f⟩
      | false => ⟨fun fr ls t f => (ktmp mask names d).run fr ls fun v => onBx v f t f⟩

structure KR where
  run : KCall → T V → List V → St → (T V → St → Bool) → Bool

noncomputable def kops (P : Program) (ro nt mask : Nat) (ops : Array Oper) : List Nat → List Oper → KR
  | _, [] => ⟨fun _ fr _ st k => k fr st⟩
  | names, o :: r => match o.guard with
    | none => ⟨fun call fr ls st k => (kop P ro mask names o.op).run call fr ls st fun v st => (kput nt mask o.dst).run fr ls v fun fr ls => (kops P ro nt mask ops (namesOf mask names o.dst) r).run call fr ls st k⟩
    | some g => ⟨fun call fr ls st k => (kwanted mask names ops (some g)).run fr ls
      ((kop P ro mask names o.op).run call fr ls st fun v st => (kput nt mask o.dst).run fr ls v fun fr ls => (kops P ro nt mask ops (namesOf mask names o.dst) r).run call fr ls st k)
      ((kput nt mask o.dst).run fr ls none fun fr ls => (kops P ro nt mask ops (namesOf mask names o.dst) r).run call fr ls st k)⟩

noncomputable def kopsQ (P : Program) (ro nt mask : Nat) (ops : Array Oper) : List Nat → List Oper → KR
  | _, [] => ⟨fun _ fr _ st k => k fr st⟩
  | names, o :: r => match quietOp o.op with
    | true => ⟨fun call fr ls st k => (kwanted mask names ops o.guard).run fr ls
      ((kop P ro mask names o.op).run call fr ls ⟨st.nx, st.hp, st.nx⟩ fun v st' => ifB (Nat.ble st.nx st'.ver && (Nat.beq st'.nx st.nx || plainO v)) ((kput nt mask o.dst).run fr ls v fun fr ls => (kopsQ P ro nt mask ops (namesOf mask names o.dst) r).run call fr ls st k) false)
      ((kput nt mask o.dst).run fr ls none fun fr ls => (kopsQ P ro nt mask ops (namesOf mask names o.dst) r).run call fr ls st k)⟩
    | false => ⟨fun call fr ls st k => (kwanted mask names ops o.guard).run fr ls false
      ((kput nt mask o.dst).run fr ls none fun fr ls => (kopsQ P ro nt mask ops (namesOf mask names o.dst) r).run call fr ls st k)⟩

/-- The same, and behind them the region's last operations. -/
noncomputable def kopsT (P : Program) (ro nt mask : Nat) (ops : Array Oper) (tl : List Oper) : List Nat → List Oper → KR
  | names, [] => kops P ro nt mask ops names tl
  | names, o :: r => match quietOp o.op with
    | true => ⟨fun call fr ls st k => (kwanted mask names ops o.guard).run fr ls
      ((kop P ro mask names o.op).run call fr ls ⟨st.nx, st.hp, st.nx⟩ fun v st' => ifB (Nat.ble st.nx st'.ver && (Nat.beq st'.nx st.nx || plainO v)) ((kput nt mask o.dst).run fr ls v fun fr ls => (kopsT P ro nt mask ops tl (namesOf mask names o.dst) r).run call fr ls st k) false)
      ((kput nt mask o.dst).run fr ls none fun fr ls => (kopsT P ro nt mask ops tl (namesOf mask names o.dst) r).run call fr ls st k)⟩
    | false => ⟨fun call fr ls st k => (kwanted mask names ops o.guard).run fr ls false
      ((kput nt mask o.dst).run fr ls none fun fr ls => (kopsT P ro nt mask ops tl (namesOf mask names o.dst) r).run call fr ls st k)⟩

/-- Loads that were carried out read the same again. -/
noncomputable def kkeep (P : Program) (st : St) (es : List Ent) (b : Bool) : Bool :=
  List.rec (motive := fun _ => Bool) b (fun e _ ih => (kload P e.t).run st e.id e.off fun v => ifB (sameV v e.v) ih false) es

noncomputable def kkeep2 (P : Program) (c : Bool) (st : St) (es : List Ent) (b : Bool) : Bool := Bool.rec (kkeep P st es b) b c

structure KRE where
  run : KCall → T V → List V → List Ent → St → (T V → St → Bool) → Bool
noncomputable def krunF (P : Program) (ro nt mask : Nat) (ops : Array Oper) (fin : List Nat → KRE) : List Nat → List (Nat × Oper) → KRE
  | names, [] => fin names
  | names, (i, o) :: r => match opCls o.op with
    | 0 => ⟨fun call fr ls es st k => (kwanted mask names ops o.guard).run fr ls
      ((kop P ro mask names o.op).run call fr ls ⟨st.nx, .e, 0⟩ fun v _ => (kput nt mask o.dst).run fr ls v fun fr ls => (krunF P ro nt mask ops fin (namesOf mask names o.dst) r).run call fr ls es st k)
      ((kput nt mask o.dst).run fr ls none fun fr ls => (krunF P ro nt mask ops fin (namesOf mask names o.dst) r).run call fr ls es st k)⟩
    | 1 => match o.op with
      | .load t x => ⟨fun call fr ls es st k => (kwanted mask names ops o.guard).run fr ls
        ((kopnd mask names x).run fr ls fun x => onP x fun id off => (kload P t).run st id off fun v => (kput nt mask o.dst).run fr ls (some v) fun fr ls => (krunF P ro nt mask ops fin (namesOf mask names o.dst) r).run call fr ls (⟨i, t, id, off, v⟩ :: es) st k)
        ((kput nt mask o.dst).run fr ls none fun fr ls => (krunF P ro nt mask ops fin (namesOf mask names o.dst) r).run call fr ls es st k)⟩
      | _ => ⟨fun _ _ _ _ _ _ => false⟩
    | _ => ⟨fun call fr ls es st k => (kwanted mask names ops o.guard).run fr ls
      ((kop P ro mask names o.op).run call fr ls ⟨st.nx, st.hp, st.nx⟩ fun v st' => kkeep2 P (Nat.ble st.nx st'.ver) st' (aliveE ops i es) ((kput nt mask o.dst).run fr ls v fun fr ls => natK (low st.ver st'.ver) fun ver => (krunF P ro nt mask ops fin (namesOf mask names o.dst) r).run call fr ls (aliveE ops i es) ⟨st'.nx, st'.hp, ver⟩ k))
      ((kput nt mask o.dst).run fr ls none fun fr ls => (krunF P ro nt mask ops fin (namesOf mask names o.dst) r).run call fr ls es st k)⟩

noncomputable def krun (P : Program) (ro nt mask : Nat) (ops : Array Oper) : List Nat → List (Nat × Oper) → KRE := krunF P ro nt mask ops fun _ => ⟨fun _ fr _ _ st k => k fr st⟩
/-- Two stores at the end. -/
noncomputable def kpair (P : Program) (ro mask : Nat) (o q : Oper) (names : List Nat) : KRE := match o.op, q.op with
  | .store t x v, .store t' y u => ⟨fun _ fr ls _ st k => (kopnd mask names x).run fr ls fun x => (kopnd mask names v).run fr ls fun v => (kopnd mask names y).run fr ls fun y => (kopnd mask names u).run fr ls fun u => onP x fun g a => onP y fun g' a' => ifB (Nat.beq g g') false ((kstore P ro t).run st g a v fun st => (kstore P ro t').run st g' a' u fun st => k fr st)⟩
  | _, _ => ⟨fun _ _ _ _ _ _ => false⟩

/-! ### Code -/

structure KB where
  run : KCall → T V → St → (T V → St → Bool) → (Ex → T V → St → Bool) → Bool

noncomputable def loopK (b : KB) (call : KCall) (kx : Ex → T V → St → Bool) (n : Nat) : T V → St → Bool :=
  Nat.rec (motive := fun _ => T V → St → Bool) (fun _ _ => false) (fun _ ih fr st => b.run call fr st ih kx) n
noncomputable def onExit (e : Ex) (k : Nat → Bool) (d : Bool) : Bool := Ex.rec (motive := fun _ => Bool) d k (fun _ => d) d e
noncomputable def onGoto (e : Ex) (d : Bool) : Bool := Ex.rec (motive := fun _ => Bool) d (fun _ => d) (fun _ => false) d e
noncomputable def onRet (e : Ex) (d : Bool) : Bool := Ex.rec (motive := fun _ => Bool) false (fun _ => false) (fun _ => false) d e

/-- No call. -/
noncomputable def noK : KCall := fun _ _ _ _ => false
def okO (mask : Nat) : Operand → Bool
  | .tmp t => liveB mask t
  | _ => true
/-- What both ways must agree on, at what they came to. -/
def flagV (P : Program) (F : FlagI) (nx : Nat) (fA fB : T V) (sB : St) (frA frB : T V) : Bool :=
  sameO (opnd fA F.tA.cur) (opnd fB F.tB.cur) && sameO (opnd frA F.tA.x) (opnd frB F.tB.x) &&
    (match opnd fB F.tB.cur, opnd frA F.eI.ix, opnd frA F.eI.v, opnd frB F.tB.x, opnd frB (.tmp F.tB.r) with
    | some c, some (.i _ n), some v, some (.p g _), some (.sl gr _ _ _ _) => (match vlen c, sB.hp.get nx with
      | some len, some b => decide (n = .ofNat len) && (match b.row (elemSz P F.tB.tl) 0 with | some cs => sameL cs v.cells | none => false)
      | _, _ => false) && (match c with | .sl id _ _ _ _ => Nat.blt id nx | _ => true) && !(Nat.beq g gr) && !(Nat.beq g nx) && !(Nat.beq gr nx)
    | _, _, _, _, _ => false)
def flagOps (F : FlagI) (mask : Nat) : Bool := [F.tA.cur, F.tB.cur, F.tA.x, F.tB.x, F.eI.ix, F.eI.v, .tmp F.tB.r].all (okO mask)
structure KPk where
  run : T V → T V → (T V → Bool) → Bool
noncomputable def pickK : List Nat → KPk
  | [] => ⟨fun _ acc k => k acc⟩
  | t :: r => ⟨fun fr acc k => getD (pathOf t) fr (fun v => updK (pathOf t) acc v fun acc => (pickK r).run fr acc k) ((pickK r).run fr acc k)⟩
structure KEr where
  run : T V → (T V → Bool) → Bool
noncomputable def eraseK : List Nat → KEr
  | [] => ⟨fun fr k => k fr⟩
  | t :: r => ⟨fun fr k => updA (pathOf t) fr none fun fr => (eraseK r).run fr k⟩

/-- x.F = append(x.F, v), in either of two ways. -/
noncomputable def kflag (P : Program) (ro nt mask : Nat) (F : FlagI) : KB := match (needOf F).all (liveB mask) && flagOps F (2 ^ nt - 1) with
  | true => ⟨fun _ fr st kn _ => onSt st fun nx hp ver => natK (nx + 1) fun nx1 => (pickK (needOf F)).run fr .e fun f0 =>
      (krun P ro nt (2 ^ nt - 1) F.opsA [] F.lA).run noK f0 [] [] ⟨nx1, hp, ver⟩ fun frA stA =>
      (kops P ro nt (2 ^ nt - 1) F.opsE [] F.opsE.toList).run noK frA [] stA fun _ stE =>
      (krun P ro nt (2 ^ nt - 1) F.opsA [] (F.tA.pre ++ [(F.tA.i1, F.tA.o1)])).run noK f0 [] [] ⟨nx1, hp, ver⟩ fun fA _ =>
      (krun P ro nt (2 ^ nt - 1) F.opsB [] (F.tB.pre ++ [(F.tB.i1, F.tB.o1)])).run noK f0 [] [] ⟨nx1, hp, ver⟩ fun fB sB =>
      (krun P ro nt (2 ^ nt - 1) F.opsB [] F.lB).run noK f0 [] [] ⟨nx1, hp, ver⟩ fun frB stB =>
      ifB (flagV P F nx1 fA fB sB frA frB && Nat.beq stE.nx stB.nx) (onSt stB fun nx hp ver => updA (pathOf nx1) hp none fun hp => natK nx fun nx => natK (low (low ver stE.ver) nx1) fun ver =>
        (eraseK (F.dead.filter (liveB mask))).run fr fun fr => kn fr ⟨nx, hp, ver⟩) false⟩
  | false => ⟨fun _ _ _ _ _ => false⟩

noncomputable def kC (P : Program) (ro nt mask L : Nat) : Code → KB
  | .skip => ⟨fun _ fr st kn _ => kn fr st⟩
  | .label _ => ⟨fun _ fr st kn _ => kn fr st⟩
  | .region _ ops draw => match draw with
    | false => ⟨fun call fr st kn _ => (kops P ro nt mask ops [] ops.toList).run call fr [] st kn⟩
    | true => match lexQ1 P ops with
      | true => ⟨fun call fr st kn _ => (kopsQ P ro nt mask ops [] ops.toList).run call fr [] st kn⟩
      | false => match tailB ops with
        | true => ⟨fun call fr st kn _ => (kopsT P ro nt mask ops (ops.toList.drop (ops.size - 1)) [] (ops.toList.take (ops.size - 1))).run call fr [] st kn⟩
        | false => match planOf P ops with
          | some pl => ⟨fun call fr st kn _ => (krun P ro nt mask ops [] pl).run call fr [] [] st kn⟩
          | none => match lexQ ops with
            | true => ⟨fun call fr st kn _ => (kopsQ P ro nt mask ops [] ops.toList).run call fr [] st kn⟩
            | false => match planPair ops with
              | some (l, o, q) => ⟨fun call fr st kn _ => (krunF P ro nt mask ops (kpair P ro mask o q) [] l).run call fr [] [] st kn⟩
              | none => ⟨fun _ _ _ _ _ => false⟩
  | .seq a b => match flagOf P nt a b with
    | some F => kflag P ro nt mask F
    | none => ⟨fun call fr st kn kx => (kC P ro nt mask L a).run call fr st (fun fr st => (kC P ro nt mask L b).run call fr st kn kx) kx⟩
  | .cond c a b => ⟨fun call fr st kn kx => (kopnd mask [] c).run fr [] fun v => onB v ((kC P ro nt mask L a).run call fr st kn kx) ((kC P ro nt mask L b).run call fr st kn kx)⟩
  | .block id b => ⟨fun call fr st kn kx => (kC P ro nt mask L b).run call fr st kn fun e fr st => onExit e (fun id' => ifB (Nat.beq id' id) (kn fr st) (kx e fr st)) (kx e fr st)⟩
  | .loop b => ⟨fun call fr st _ kx => loopK (kC P ro nt mask L b) call kx L fr st⟩
  | .exit id => ⟨fun _ fr st _ kx => kx (.exit id) fr st⟩
  | .goto l => ⟨fun _ fr st _ kx => kx (.goto l) fr st⟩
  | .scope b => ⟨fun call fr st kn kx => (kC P ro nt mask L b).run call fr st kn fun e fr st => onGoto e (kx e fr st)⟩
  | .ret => ⟨fun _ fr st _ kx => kx .ret fr st⟩
  | _ => ⟨fun _ _ _ _ _ => false⟩

noncomputable def frameK (l : List V) (k : T V → Bool) : Bool :=
  List.rec (motive := fun _ => Nat → T V → Bool) (fun _ fr => k fr) (fun v _ ih i fr => updK (pathOf i) fr v fun fr => natK (i + 1) fun i => ih i fr) l 0 .e

structure KRes where
  run : T V → St → (List V → Bool) → Bool
noncomputable def kres (P : Program) (mask : Nat) : List ResultVar → KRes
  | [] => ⟨fun _ _ k => k []⟩
  | .tmp t :: r => ⟨fun fr st k => (ktmp mask [] t).run fr [] fun v => (kres P mask r).run fr st fun vs => k (v :: vs)⟩
  | .cell a t :: r => ⟨fun fr st k => (ktmp mask [] a).run fr [] fun x => onP x fun id off => (kload P t).run st id off fun v => (kres P mask r).run fr st fun vs => k (v :: vs)⟩

structure KF where
  run : KCall → List V → St → (V → St → Bool) → Bool
noncomputable def kfun (P : Program) (live : Nat → Nat) (ro L : Nat) (f : FuncId) : KF := match P.funcs[f]? with
  | some fn => match fn.body with
    | some c => natF fn.ntmps fun nt => natF (live f) fun mask => ⟨fun call args st k => ifB (Nat.ble args.length nt)
      (frameK args fun fr => (kC P ro nt mask L c).run call fr st (fun fr st => (kres P mask fn.results.toList).run fr st fun vs => k (oneOf vs) st) fun e fr st => onRet e
        ((kres P mask fn.results.toList).run fr st fun vs => k (oneOf vs) st)) false⟩
    | none => ⟨fun _ _ _ _ => false⟩
  | none => ⟨fun _ _ _ _ => false⟩

noncomputable def kcall (P : Program) (live : Nat → Nat) (ov : Ov) (ro L n : Nat) : KCall :=
  Nat.rec (motive := fun _ => KCall) (fun _ _ _ _ => false) (fun _ ih f args st k => match ov f args st with
    | some (v, st) => forceK v fun v => k v st
    | none => (kfun P live ro L f).run ih args st k) n

/-- A function answers true. -/
noncomputable def kAnswers (P : Program) (live : Nat → Nat) (ov : Ov) (gs : List (Nat × List V)) (L n : Nat) (f : FuncId) (args : List V) : Bool :=
  kcall P live ov GL L n f args (st0 gs) fun v _ => onB v true false
end Go.Vk
