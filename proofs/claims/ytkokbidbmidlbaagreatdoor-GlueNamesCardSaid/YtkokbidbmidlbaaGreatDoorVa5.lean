/-
 A faster evaluator: code is turned into functions once, and run by continuation. Definitions. Nothing is claimed here.
-/
import Derived.Test.YtkokbidbmidlbaaGreatDoorVa3
namespace Go.Vk
open Go.Vm
abbrev KCall := FuncId → List V → St → (V → St → Bool) → Bool
noncomputable def ifB (x t f : Bool) : Bool := Bool.rec f t x
noncomputable def ZfQ (o : Option V) (k : V → Bool) : Bool := Option.rec false k o
noncomputable def onB (v : V) (t f : Bool) : Bool :=
 V.rec (motive_1 := fun _ => Bool) (motive_2 := fun _ => Unit) (fun x => Bool.rec f t x) (fun _ _ => false) (fun _ _ => false) (fun _ _ => false) false (fun _ _ _ _ _ => false) false (fun _ _ _ _ _ => false) false false (fun _ _ => false) (fun _ _ => false) (fun _ _ _ => false) (fun _ => false) () (fun _ _ _ _ => ()) v
noncomputable def ZgD (v : V) (t f d : Bool) : Bool :=
 V.rec (motive_1 := fun _ => Bool) (motive_2 := fun _ => Unit) (fun x => Bool.rec f t x) (fun _ _ => d) (fun _ _ => d) (fun _ _ => d) d (fun _ _ _ _ _ => d) d (fun _ _ _ _ _ => d) d d (fun _ _ => d) (fun _ _ => d) (fun _ _ _ => d) (fun _ => d) () (fun _ _ _ _ => ()) v
noncomputable def onI (v : V) (k : IntKind → Int → Bool) : Bool :=
 V.rec (motive_1 := fun _ => Bool) (motive_2 := fun _ => Unit) (fun _ => false) k (fun _ _ => false) (fun _ _ => false) false (fun _ _ _ _ _ => false) false (fun _ _ _ _ _ => false) false false (fun _ _ => false) (fun _ _ => false) (fun _ _ _ => false) (fun _ => false) () (fun _ _ _ _ => ()) v
noncomputable def onS (v : V) (k : Nat → Nat → Bool) : Bool :=
 V.rec (motive_1 := fun _ => Bool) (motive_2 := fun _ => Unit) (fun _ => false) (fun _ _ => false) k (fun _ _ => false) false (fun _ _ _ _ _ => false) false (fun _ _ _ _ _ => false) false false (fun _ _ => false) (fun _ _ => false) (fun _ _ _ => false) (fun _ => false) () (fun _ _ _ _ => ()) v
noncomputable def onP (v : V) (k : Nat → Nat → Bool) : Bool :=
 V.rec (motive_1 := fun _ => Bool) (motive_2 := fun _ => Unit) (fun _ => false) (fun _ _ => false) (fun _ _ => false) k false (fun _ _ _ _ _ => false) false (fun _ _ _ _ _ => false) false false (fun _ _ => false) (fun _ _ => false) (fun _ _ _ => false) (fun _ => false) () (fun _ _ _ _ => ()) v
noncomputable def onF (v : V) (k : Fn → List V → List V → Bool) : Bool :=
 V.rec (motive_1 := fun _ => Bool) (motive_2 := fun _ => Unit) (fun _ => false) (fun _ _ => false) (fun _ _ => false) (fun _ _ => false) false (fun _ _ _ _ _ => false) false (fun f xs ys _ _ => k f xs ys) false false (fun _ _ => false) (fun _ _ => false) (fun _ _ _ => false) (fun _ => false) () (fun _ _ _ _ => ()) v
noncomputable def onT (v : V) (k : List V → Bool) : Bool :=
 V.rec (motive_1 := fun _ => Bool) (motive_2 := fun _ => Unit) (fun _ => false) (fun _ _ => false) (fun _ _ => false) (fun _ _ => false) false (fun _ _ _ _ _ => false) false (fun _ _ _ _ _ => false) false false (fun _ _ => false) (fun vs _ => k vs) (fun _ _ _ => false) (fun _ => false) () (fun _ _ _ _ => ()) v
noncomputable def je9 (a b : Int) (k : Nat → Nat → Bool) (d : Bool) : Bool := Int.rec (fun m => Int.rec (fun n => k m n) (fun _ => d) b) (fun _ => d) a
noncomputable def onN (a : Int) (k : Nat → Bool) (d : Bool) : Bool := Int.rec k (fun _ => d) a
noncomputable def Jaa (n : Nat) (k : Nat → Bool) : Bool := Nat.rec (motive := fun _ => Bool) (k 0) (fun m _ => k (Nat.succ m)) n
noncomputable def Jaj (v : V) (k : V → Bool) : Bool :=
 V.rec (motive_1 := fun _ => Bool) (motive_2 := fun _ => Unit) (fun x => Bool.rec (k (.b false)) (k (.b true)) x)
  (fun kd n => zev kd fun kd => Int.rec (fun m => Jaa m fun m => k (.i kd (.ofNat m))) (fun m => Jaa m fun m => k (.i kd (.negSucc m))) n)
  (fun l x => Jaa l fun l => Jaa x fun x => k (.s l x)) (fun g o => Jaa g fun g => Jaa o fun o => k (.p g o)) (k .pn)
  (fun g o l c op => Jaa g fun g => Jaa o fun o => Jaa l fun l => Jaa c fun c => Bool.rec (k (.sl g o l c false)) (k (.sl g o l c true)) op) (k .sn) (fun f xs ys _ _ => k (.f f xs ys)) (k .fz) (k .nz) (fun cs _ => k (.a cs)) (fun vs _ => k (.t vs)) (fun g o p => Jaa g fun g => Jaa o fun o => Jaa p fun p => k (.se g o p)) (fun a => k (.ze a)) () (fun _ _ _ _ => ()) v
noncomputable def ZbZ (f : Nat) : Nat → List Bool :=
 Nat.rec (motive := fun _ => Nat → List Bool) (fun _ => [])
  (fun _ ih i => Nat.rec (motive := fun _ => List Bool) [] (fun k _ => Bool.rec (motive := fun _ => List Bool) (false :: ih (k / 2)) (true :: ih (k / 2)) (Nat.beq (k % 2) 0)) i) f
noncomputable def zaf (i : Nat) : List Bool := ZbZ (i + 1) i
noncomputable def getD {α : Type} (p : List Bool) (t : T α) (k : α → Bool) (d : Bool) : Bool :=
 List.rec (motive := fun _ => T α → Bool)
  (fun t => T.rec (motive := fun _ => Bool) d (fun _ v _ _ _ => Option.rec d k v) t)
  (fun b _ ih t => T.rec (motive := fun _ => Bool) d (fun l _ r _ _ => Bool.rec (ih r) (ih l) b) t) p t
noncomputable def JgD (p : List Bool) (t : T V) (k : V → Bool) : Bool := getD p t k false
noncomputable def Ze9 {α : Type} (p : List Bool) (t : T α) (v : Option α) (k : T α → Bool) : Bool :=
 List.rec (motive := fun _ => T α → (T α → Bool) → Bool)
  (fun t k => T.rec (motive := fun _ => Bool) (k (.n .e v .e)) (fun l _ r _ _ => k (.n l v r)) t)
  (fun b _ ih t k => Bool.rec
   (T.rec (motive := fun _ => Bool) (ih .e fun r => k (.n .e none r)) (fun l x r _ _ => ih r fun r => k (.n l x r)) t)
   (T.rec (motive := fun _ => Bool) (ih .e fun l => k (.n l none .e)) (fun l x r _ _ => ih l fun l => k (.n l x r)) t) b) p t k
noncomputable def JfQ (p : List Bool) (t : T V) (v : V) (k : T V → Bool) : Bool := Ze9 p t (some v) k
noncomputable def zgU (j : Nat) (ls : List V) (k : V → Bool) : Bool :=
 Nat.rec (motive := fun _ => List V → Bool)
  (fun ls => List.rec (motive := fun _ => Bool) false (fun v _ _ => k v) ls)
  (fun _ ih ls => List.rec (motive := fun _ => Bool) false (fun _ r _ => ih r) ls) j ls
structure KOpd where
 run : T V → List V → (V → Bool) → Bool
structure KOpds where
 run : T V → List V → (List V → Bool) → Bool
structure KOpdO where
 run : T V → List V → (Option V → Bool) → Bool
structure KParts where
 run : T V → List V → (List (Nat × V) → Bool) → Bool
def jcZ : List Nat → Nat → Option Nat
 | [], _ => none
 | x :: r, t => match Nat.beq x t with
  | true => some 0
  | false => match jcZ r t with
   | some j => some (j + 1)
   | none => none
def jcD (mask t : Nat) : Bool := Nat.beq (mask / 2 ^ t % 2) 1
section
variable (mask : Nat) (jb : List Nat)
noncomputable def jeI (t : Nat) : KOpd := match jcZ jb t with
 | some j => jaa j fun j => ⟨fun _ ls k => zgU j ls k⟩
 | none => match jcD mask t with
  | true => ⟨fun fr _ k => JgD (zaf t) fr k⟩
  | false => ⟨fun _ _ _ => false⟩
noncomputable def Js : Operand → KOpd
 | .tmp t => jeI mask jb t
 | .const c => match ofV 4 c with
  | some v => v.force fun v => ⟨fun _ _ k => k v⟩
  | none => ⟨fun _ _ _ => false⟩
 | .global g => cond (Nat.blt g GL) ⟨fun _ _ k => k (.p g 0)⟩ ⟨fun _ _ _ => false⟩
 | .func f => ⟨fun _ _ k => k (.f (.func f) [] [])⟩
noncomputable def jaf : List Operand → KOpds
 | [] => ⟨fun _ _ k => k []⟩
 | o :: r => ⟨fun fr ls k => (Js mask jb o).run fr ls fun v => (jaf r).run fr ls fun vs => k (v :: vs)⟩
noncomputable def Zd3 : Option Operand → KOpdO
 | none => ⟨fun _ _ k => k none⟩
 | some o => ⟨fun fr ls k => (Js mask jb o).run fr ls fun v => k (some v)⟩
noncomputable def JcM : List (Nat × Operand) → KParts
 | [] => ⟨fun _ _ k => k []⟩
 | (i, o) :: r => ⟨fun fr ls k => (Js mask jb o).run fr ls fun v => (JcM r).run fr ls fun vs => k ((i, v) :: vs)⟩
end
noncomputable def zei (k : IntKind) : Nat := IntKind.rec (motive := fun _ => Nat) 0 1 2 3 4 5 6 7 k
noncomputable def jgw (k : IntKind) : Nat := IntKind.rec (motive := fun _ => Nat) 128 32768 2147483648 9223372036854775808 256 65536 4294967296 18446744073709551616 k
noncomputable def jdL (kd : IntKind) (n : Int) (k : V → Bool) : Bool := Jaj (V.i kd (kd.wrap n)) k
noncomputable def zcN (kd : IntKind) (m : Nat) (k : V → Bool) : Bool := ifB (Nat.blt m (jgw kd)) (Jaa m fun m => k (.i kd (.ofNat m))) (jdL kd (.ofNat m) k)
noncomputable def Jgh (kd : IntKind) (n : Int) (k : V → Bool) : Bool := onN n (fun m => zcN kd m k) (jdL kd n k)
structure KBin where
 run : V → V → (V → Bool) → Bool
noncomputable def ZcD (x y : V) (k : IntKind → Int → Int → Bool) : Bool := onI x fun ka a => onI y fun kb b => ifB (Nat.beq (zei ka) (zei kb)) (k ka a b) false
noncomputable def zgi (P : Program) (t : TypeId) : BinOp → KBin
 | .add => ⟨fun x y k => ZcD x y fun ka a b => je9 a b (fun m n => zcN ka (m + n) k) (jdL ka (a + b) k)⟩
 | .sub => ⟨fun x y k => ZcD x y fun ka a b => je9 a b (fun m n => ifB (Nat.ble n m) (zcN ka (m - n) k) (jdL ka (a - b) k)) (jdL ka (a - b) k)⟩
 | .mul => ⟨fun x y k => ZcD x y fun ka a b => je9 a b (fun m n => zcN ka (m * n) k) (jdL ka (a * b) k)⟩
 | .lss => ⟨fun x y k => ZcD x y fun _ a b => je9 a b (fun m n => Zbh (Nat.blt m n) fun z => k (.b z)) (Zbh (ilt a b) fun z => k (.b z))⟩
 | .leq => ⟨fun x y k => ZcD x y fun _ a b => je9 a b (fun m n => Zbh (Nat.ble m n) fun z => k (.b z)) (Zbh (ile a b) fun z => k (.b z))⟩
 | .gtr => ⟨fun x y k => ZcD x y fun _ a b => je9 a b (fun m n => Zbh (Nat.blt n m) fun z => k (.b z)) (Zbh (ilt b a) fun z => k (.b z))⟩
 | .geq => ⟨fun x y k => ZcD x y fun _ a b => je9 a b (fun m n => Zbh (Nat.ble n m) fun z => k (.b z)) (Zbh (ile b a) fun z => k (.b z))⟩
 | .eql => ⟨fun x y k => ZcD x y fun _ a b => je9 a b (fun m n => Zbh (Nat.beq m n) fun z => k (.b z)) (Zbh (a == b) fun z => k (.b z))⟩
 | .neq => ⟨fun x y k => ZcD x y fun _ a b => je9 a b (fun m n => Zbh (!(Nat.beq m n)) fun z => k (.b z)) (Zbh (a != b) fun z => k (.b z))⟩
 | op => ⟨fun x y k => match ZbE P op t x y with | some v => Jaj v k | none => false⟩
noncomputable def zgE (P : Program) (op : BinOp) (t : TypeId) : KBin :=
 match P.underlying t with
 | some (.int _) => zgi P t op
 | _ => ⟨fun x y k => match ZbE P op t x y with | some v => Jaj v k | none => false⟩
noncomputable def ZeI (P : Program) (t : TypeId) : KBin :=
 match P.underlying t with
 | some .string => ⟨fun x y k => onS x fun len bits => onI y fun _ i => onN i (fun i => ifB (Nat.blt i len) (Jaa (zbf bits i) fun n => k (.i .u8 (.ofNat n))) false) false⟩
 | _ => ⟨fun x y k => onI y fun _ i => match ZaN P t x i with | some v => Jaj v k | none => false⟩
noncomputable def Zdn (b : Blk) (k : T V → List V → Nat → Nat → Bool → Bool) : Bool := Blk.rec (motive := fun _ => Bool) k b
noncomputable def Zgw (st : St) (k : Nat → T Blk → Nat → Bool) : Bool := St.rec (motive := fun _ => Bool) k st
noncomputable def JeI (cs : T V) (zero : List V) (sz es o : Nat) (k : V → Bool) : Bool := ifB (Nat.blt o sz) (getD (zaf o) cs k (ZfQ zero[o % es]? k)) false
noncomputable def Jf8 (cs : T V) (zero : List V) (sz es n o : Nat) (k : List V → Bool) : Bool :=
 Nat.rec (motive := fun _ => Nat → (List V → Bool) → Bool) (fun _ k => k []) (fun _ ih o k => JeI cs zero sz es o fun v => Jaa (o + 1) fun o => ih o fun r => k (v :: r)) n o k
noncomputable def zf9 (sz : Nat) (vs : List V) (cs : T V) (o : Nat) (k : T V → Bool) : Bool :=
 List.rec (motive := fun _ => T V → Nat → Bool) (fun cs _ => k cs) (fun v _ ih cs o => ifB (Nat.blt o sz) (ifB v.atom (Jaj v fun v => Ze9 (zaf o) cs (some v) fun cs => Jaa (o + 1) fun o => ih cs o) false) false) vs cs o
noncomputable def jf9 (l : List V) (k : Nat → Bool) : Bool := Jaa (List.rec (motive := fun _ => Nat) 0 (fun _ _ ih => Nat.succ ih) l) k
noncomputable def Zf9 (cs : List V) (es : Nat) (op : Bool) (k : Blk → Bool) : Bool := jf9 cs fun sz => zf9 sz cs .e 0 fun t => k ⟨t, [], sz, es, op⟩
noncomputable def Zbv (st : St) (b : Blk) (k : Nat → St → Bool) : Bool := Zgw st fun nx hp ver => Ze9 (zaf nx) hp (some b) fun hp => Jaa (nx + 1) fun nx1 => k nx ⟨nx1, hp, ver⟩
noncomputable def jbV (st : St) (id : Nat) (b : Option Blk) (k : St → Bool) : Bool := Zgw st fun nx hp ver => Ze9 (zaf id) hp b fun hp => ifB (Nat.ble ver id) (k ⟨nx, hp, ver⟩) (k ⟨nx, hp, id⟩)
noncomputable def zfB (st : St) (id : Nat) (k : Blk → Bool) : Bool := Zgw st fun _ hp _ => getD (zaf id) hp k false
noncomputable def Jd3 (v : V) (k : List V → Bool) : Bool :=
 V.rec (motive_1 := fun _ => Bool) (motive_2 := fun _ => Unit) (fun _ => k [v]) (fun _ _ => k [v]) (fun _ _ => k [v]) (fun _ _ => k [v]) (k [v]) (fun _ _ _ _ _ => k [v]) (k [v]) (fun _ _ _ _ _ => k [v]) (k [v]) (k [v]) (fun cs _ => k cs) (fun _ _ => k [v]) (fun _ _ _ => k [v]) (fun _ => k [v]) () (fun _ _ _ _ => ()) v
structure KLoad where
 run : St → Nat → Nat → (V → Bool) → Bool
noncomputable def ZdL (P : Program) (t : TypeId) : KLoad :=
 match P.info? t, P.underlying t with
 | some ti, some _ => match Zan P t with
  | true => jaa ti.size fun n => ⟨fun st id off k => zfB st id fun b => Zdn b fun cs zero sz es _ => Jf8 cs zero sz es n off fun cs => k (.a cs)⟩
  | false => ⟨fun st id off k => zfB st id fun b => Zdn b fun cs zero sz es _ => JeI cs zero sz es off k⟩
 | _, _ => ⟨fun _ _ _ _ => false⟩
structure KStore where
 run : St → Nat → Nat → V → (St → Bool) → Bool
noncomputable def zeJ (P : Program) (ro : Nat) (t : TypeId) : KStore :=
 match P.info? t with
 | some ti => jaa ti.size fun n => ⟨fun st id off v k => zfB st id fun b => Jd3 v fun vs => ifB (Nat.ble ro id) (jf9 vs fun l => ifB (Nat.beq l n) (Zdn b fun cs zero sz es op => zf9 sz vs cs off fun cs => jbV st id (some ⟨cs, zero, sz, es, op⟩) k) false) false⟩
 | none => ⟨fun _ _ _ _ _ => false⟩
noncomputable def ZcZ (st : St) (v : V) (es : Nat) (k : V → St → Bool) : Bool := Jd3 v fun cs => Zf9 cs es false fun b => Zbv st b fun nx st => k (.p nx 0) st
structure KOne where
 run : St → V → (V → St → Bool) → Bool
noncomputable def jgE (P : Program) (t : TypeId) : KOne :=
 match P.underlying t with
 | some (.slice e) => match zy P e, j7 P e with
  | some n, some z => match (Nat.ble (1 * n) 16777216 && Nat.blt 0 n && Nat.beq z.cells.length n) with
   | true => jaa n fun n => ⟨fun st v k => Jd3 v fun cs => jf9 cs fun l => ifB (Nat.beq l n) (Zf9 cs n false fun b => Zbv st b fun nx st => k (.sl nx 0 1 1 false) st) false⟩
   | false => ⟨fun _ _ _ => false⟩
  | _, _ => ⟨fun _ _ _ => false⟩
 | _ => ⟨fun _ _ _ => false⟩
noncomputable def jgU (v : V) (d e : Bool) : Bool :=
 V.rec (motive_1 := fun _ => Bool) (motive_2 := fun _ => Unit) (fun _ => e) (fun _ _ => e) (fun _ _ => e) (fun _ _ => e) e (fun _ _ _ _ _ => e) e (fun _ _ _ _ _ => e) e e (fun _ _ => e) (fun _ _ => e) (fun _ _ _ => d) (fun _ => d) () (fun _ _ _ _ => ()) v
noncomputable def jgi (v : V) (k : Nat → Nat → Nat → Nat → Bool → Bool) (n : Bool) (s : Nat → Nat → Bool) : Bool :=
 V.rec (motive_1 := fun _ => Bool) (motive_2 := fun _ => Unit) (fun _ => false) (fun _ _ => false) s (fun _ _ => false) false k n (fun _ _ _ _ _ => false) false false (fun _ _ => false) (fun _ _ => false) (fun _ _ _ => false) (fun _ => false) () (fun _ _ _ _ => ()) v
noncomputable def jeJ (n x : Nat) (k : List V → Bool) : Bool :=
 Nat.rec (motive := fun _ => Nat → (List V → Bool) → Bool) (fun _ k => k []) (fun _ ih x k => Jaa (x % 256) fun c => Jaa (x / 256) fun y => ih y fun r => k (.i .u8 (.ofNat c) :: r)) n x k
noncomputable def jfB (st : St) (es : Nat) (x : V) (k : Nat → List V → Bool) : Bool :=
 jgi x (fun id off l _ _ => zfB st id fun b => Zdn b fun cs zero sz e _ => Jf8 cs zero sz e (l * es) off fun r => k l r) (k 0 []) (fun l x => ifB (Nat.beq es 1) (jeJ l x fun r => k l r) false)
structure KApp where
 run : St → V → V → (V → St → Bool) → Bool
noncomputable def JdL (P : Program) (ro : Nat) (t : TypeId) : KApp :=
 match P.underlying t with
 | some (.slice e) => match P.info? e with
  | some ti => jaa ti.size fun es => jaa ti.bytes fun by_ => match (Nat.blt 0 es && Nat.blt 0 by_ && ZY P e es) with
   | true => ⟨fun st s x k => jfB st es x fun n new => jgi s
     (fun id off len cap op => zfB st id fun b => ifB (Nat.ble ((len + n) * by_) 1099511627776)
      (ifB (Nat.ble (len + n) cap)
       (ifB (Nat.ble ro id) (Zdn b fun cs zero sz e op' => zf9 sz new cs (off + len * es) fun cs => jbV st id (some ⟨cs, zero, sz, e, op'⟩) fun st => Jaa (len + n) fun m => k (.sl id off m cap op) st) false)
       (Zdn b fun cs zero sz e op' =>
        (fun (go : Blk → Bool) => ifB (op' && Nat.beq off 0 && Nat.beq (len * es) sz && Nat.beq e es)
         (jf9 new fun nl => Jaa (sz + nl) fun sz1 => zf9 sz1 new cs sz fun cs => go ⟨cs, zero, sz1, e, true⟩)
         (Jf8 cs zero sz e (len * es) off fun old => Zf9 (old ++ new) es true go)) fun b' =>
        ifB op (ifB (Nat.ble ro id && op' && Nat.beq e es && Nat.beq (off + cap * es) sz) (jbV st id none fun st => Zbv st b' fun nx st => Jaa (len + n) fun m => k (.sl nx 0 m m true) st) false)
         (Zbv st b' fun nx st => Jaa (len + n) fun m => k (.sl nx 0 m m true) st)))
      false)
     (ifB (Nat.ble (n * by_) 1099511627776) (ifB (Nat.beq n 0) (k .sn st) (Zf9 new es true fun b => Zbv st b fun nx st => k (.sl nx 0 n n true) st)) false)
     (fun _ _ => false)⟩
   | false => ⟨fun _ _ _ _ => false⟩
  | none => ⟨fun _ _ _ _ => false⟩
 | _ => ⟨fun _ _ _ _ => false⟩
noncomputable def Zgi (cs : List V) (k : Nat → Nat → Bool) : Bool :=
 List.rec (motive := fun _ => Nat → Nat → Nat → Bool) (fun l _ acc => k l acc) (fun v _ ih l pw acc => onI v fun kd n => ifB (Nat.beq (zei kd) 4) (onN n (fun c => Jaa (l + 1) fun l => Jaa (acc + c % 256 * pw) fun acc => Jaa (256 * pw) fun pw => ih l pw acc) false) false) cs 0 1 0
structure KConv where
 run : St → V → (V → St → Bool) → Bool
def jei (r : Option (V × St)) (k : V → St → Bool) : Bool := match r with
 | some (v, st) => k v st
 | none => false
noncomputable def zfR (P : Program) (s d : TypeId) : KConv :=
 match P.underlying s, P.underlying d with
 | some (.slice e), some .string => match P.underlying e with
  | some (.int .u8) => ⟨fun st x k => jgi x (fun id off len _ _ => zfB st id fun b => Zdn b fun cs zero sz es _ => Jf8 cs zero sz es len off fun r => Zgi r fun l x => k (.s l x) st) (k (.s 0 0) st) (fun _ _ => false)⟩
  | _ => ⟨fun _ _ _ => false⟩
 | some _, some .string => ⟨fun st x k => onS x fun l x => k (.s l x) st⟩
 | some _, some (.int kd) => ⟨fun st x k => onI x fun _ n => Jgh kd n fun v => k v st⟩
 | _, _ => ⟨fun st x k => jei (Zo P st s d x) fun v st => Jaj v fun v => k v st⟩
noncomputable def ZeJ (P : Program) (ro : Nat) (s d : TypeId) : KConv :=
 match P.underlying s, P.underlying d with
 | some (.slice _), some (.slice _) => ⟨fun st x k => jei (Zbf P ro st s d x) fun v st => Jaj v fun v => k v st⟩
 | _, _ => zfR P s d
structure KO where
 run : KCall → T V → List V → St → (Option V → St → Bool) → Bool
noncomputable def jfR (r : Option V) (k : V → Bool) : Bool := match r with
 | some v => Jaj v k
 | none => false
section
variable (P : Program) (ro mask : Nat) (jb : List Nat)
noncomputable def zd4 (as : KOpds) (b : Builtin) (ts : List TypeId) : KO := ⟨fun _ fr ls st k => as.run fr ls fun args => jei (Jo P ro b ts args st) fun v st => Jaj v fun v => k (some v) st⟩
noncomputable def Jgi (l : List V) (k : V → V → Bool) : Bool := List.rec (motive := fun _ => Bool) false (fun x r _ => List.rec (motive := fun _ => Bool) false (fun y r _ => List.rec (motive := fun _ => Bool) (k x y) (fun _ _ _ => false) r) r) l
noncomputable def ZfR (l : List V) (k : V → Bool) : Bool := List.rec (motive := fun _ => Bool) false (fun x r _ => List.rec (motive := fun _ => Bool) (k x) (fun _ _ _ => false) r) l
noncomputable def JcZ (as : KOpds) (b : Builtin) (ts : List TypeId) : KO := match b, ts with
 | .append, [t, u] => match P.underlying u with
  | some (.int _) => ⟨fun _ _ _ _ _ => false⟩
  | some _ => ⟨fun _ fr ls st k => as.run fr ls fun args => Jgi args fun s x => (JdL P ro t).run st s x fun v st => k (some v) st⟩
  | none => ⟨fun _ _ _ _ _ => false⟩
 | .len, [t] => match P.underlying t with
  | some .string => ⟨fun _ fr ls st k => as.run fr ls fun args => ZfR args fun x => onS x fun l _ => k (some (.i .i64 (.ofNat l))) st⟩
  | some (.slice _) => ⟨fun _ fr ls st k => as.run fr ls fun args => ZfR args fun x => jgU x (k (some (.i .i64 (.ofNat 0))) st) (jgi x (fun _ _ l _ _ => k (some (.i .i64 (.ofNat l))) st) (k (some (.i .i64 (.ofNat 0))) st) (fun _ _ => false))⟩
  | _ => zd4 P ro as b ts
 | b, ts => zd4 P ro as b ts
noncomputable def JeJ (as : KOpds) (ts : List TypeId) : Callee → KO
 | .builtin b => JcZ P ro as b ts
 | .value o => match o with
  | .func f => ⟨fun call fr ls st k => as.run fr ls fun args => call f args st fun v st => k (some v) st⟩
  | o => ⟨fun call fr ls st k => as.run fr ls fun args => (Js mask jb o).run fr ls fun g => onF g fun fn first caps => match fn with
   | .func f => call f (first ++ args ++ caps) st fun v st => k (some v) st
   | _ => false⟩
 | .invoke _ _ => ⟨fun _ _ _ _ _ => false⟩
noncomputable def kop : Op → KO
 | .move x => ⟨fun _ fr ls st k => (Js mask jb x).run fr ls fun v => k (some v) st⟩
 | .assign x => ⟨fun _ fr ls st k => (Js mask jb x).run fr ls fun v => k (some v) st⟩
 | .pick c a b => ⟨fun _ fr ls st k => (Js mask jb c).run fr ls fun v => onB v ((Js mask jb a).run fr ls fun v => k (some v) st) ((Js mask jb b).run fr ls fun v => k (some v) st)⟩
 | .binOp op t x y _ => ⟨fun _ fr ls st k => (Js mask jb x).run fr ls fun x => (Js mask jb y).run fr ls fun y => (zgE P op t).run x y fun v => k (some v) st⟩
 | .unOp op _ x => ⟨fun _ fr ls st k => (Js mask jb x).run fr ls fun x => jfR (vun op x) fun v => k (some v) st⟩
 | .convert s d x => ⟨fun _ fr ls st k => (Js mask jb x).run fr ls fun x => (ZeJ P ro s d).run st x fun v st => k (some v) st⟩
 | .field t x f => ⟨fun _ fr ls st k => (Js mask jb x).run fr ls fun x => jfR (JbS P t x f) fun v => k (some v) st⟩
 | .index t x i => ⟨fun _ fr ls st k => (Js mask jb x).run fr ls fun x => (Js mask jb i).run fr ls fun i => (ZeI P t).run x i fun v => k (some v) st⟩
 | .indexAddr t x i => ⟨fun _ fr ls st k => (Js mask jb x).run fr ls fun x => (Js mask jb i).run fr ls fun i => onI i fun _ i => jfR (Zx P t x i) fun v => k (some v) st⟩
 | .fieldAddr t x f => ⟨fun _ fr ls st k => (Js mask jb x).run fr ls fun x => onP x fun id off => jfR (jQ P t id off f) fun v => k (some v) st⟩
 | .load t x => ⟨fun _ fr ls st k => (Js mask jb x).run fr ls fun x => onP x fun id off => (ZdL P t).run st id off fun v => k (some v) st⟩
 | .store t x v => ⟨fun _ fr ls st k => (Js mask jb x).run fr ls fun x => (Js mask jb v).run fr ls fun v => onP x fun id off => (zeJ P ro t).run st id off v fun st => k none st⟩
 | .alloc t => match j7 P t, zy P t with
  | some z, some n => jaa n fun n => ⟨fun _ _ _ st k => ZcZ st z n fun v st => k (some v) st⟩
  | _, _ => ⟨fun _ _ _ _ _ => false⟩
 | .box t x => match zy P t with
  | some n => jaa n fun n => ⟨fun _ fr ls st k => (Js mask jb x).run fr ls fun z => ZcZ st z n fun v st => k (some v) st⟩
  | none => ⟨fun _ _ _ _ _ => false⟩
 | .build t ps => ⟨fun _ fr ls st k => (JcM mask jb ps.toList).run fr ls fun ps => jfR (ZbS P t ps) fun v => k (some v) st⟩
 | .buildSlice t len ps => match len, ps.toList with
  | 1, [(0, o)] => ⟨fun _ fr ls st k => (Js mask jb o).run fr ls fun v => (jgE P t).run st v fun v st => k (some v) st⟩
  | len, ps => ⟨fun _ fr ls st k => (JcM mask jb ps).run fr ls fun ps => jei (zp P st t len ps) fun v st => Jaj v fun v => k (some v) st⟩
 | .makeSlice t l c => ⟨fun _ fr ls st k => (Js mask jb l).run fr ls fun l => (Js mask jb c).run fr ls fun c => onI l fun _ l => onI c fun _ c => jei (jW P st t l c) fun v st => Jaj v fun v => k (some v) st⟩
 | .slice t x lo hi mx => ⟨fun _ fr ls st k => (Js mask jb x).run fr ls fun x => (Zd3 mask jb lo).run fr ls fun lo => (Zd3 mask jb hi).run fr ls fun hi => (Zd3 mask jb mx).run fr ls fun mx => jfR (jM P t x lo hi mx) fun v => k (some v) st⟩
 | .nilCheck x => ⟨fun _ fr ls st k => (Js mask jb x).run fr ls fun x => onP x fun id off => k (some (.p id off)) st⟩
 | .makeFunc fn first caps => ⟨fun _ fr ls st k => (jaf mask jb first.toList).run fr ls fun xs => (jaf mask jb caps.toList).run fr ls fun ys => k (some (.f fn xs ys)) st⟩
 | .extract x i => ⟨fun _ fr ls st k => (Js mask jb x).run fr ls fun x => onT x fun vs => ZfQ vs[i]? fun v => k (some v) st⟩
 | .call c => JeJ P ro mask jb (jaf mask jb c.args.toList) c.argTypes.toList c.callee
 | _ => ⟨fun _ _ _ _ _ => false⟩
end
structure KPut where
 run : T V → List V → Option V → (T V → List V → Bool) → Bool
def JfR : V := .t []
noncomputable def JcD (nt mask : Nat) : Option Nat → KPut
 | none => ⟨fun fr ls _ k => k fr ls⟩
 | some d => match Nat.blt d nt with
  | true => match jcD mask d with
   | true => ⟨fun fr ls v k => Option.rec (motive := fun _ => Bool) (JfQ (zaf d) fr JfR fun fr => k fr ls) (fun v => JfQ (zaf d) fr v fun fr => k fr ls) v⟩
   | false => ⟨fun fr ls v k => Option.rec (motive := fun _ => Bool) (k fr (JfR :: ls)) (fun v => k fr (v :: ls)) v⟩
  | false => ⟨fun _ _ _ _ => false⟩
def zA (mask : Nat) (jb : List Nat) : Option Nat → List Nat
 | none => jb
 | some d => match jcD mask d with
  | true => jb
  | false => d :: jb
structure KW where
 run : T V → List V → Bool → Bool → Bool
noncomputable def JO (mask : Nat) (jb : List Nat) (ops : Array Oper) : Option (Nat × Bool) → KW
 | none => ⟨fun _ _ t _ => t⟩
 | some (j, want) => match (ops[j]?).bind (·.dst) with
  | none => ⟨fun _ _ _ f => f⟩
  | some d => match want with
   | true => ⟨fun fr ls t f => (jeI mask jb d).run fr ls fun v => ZgD v t f f⟩
   | false => ⟨fun fr ls t f => (jeI mask jb d).run fr ls fun v => ZgD v f t f⟩
structure KR where
 run : KCall → T V → List V → St → (T V → St → Bool) → Bool
noncomputable def zeK (P : Program) (ro nt mask : Nat) (ops : Array Oper) : List Nat → List Oper → KR
 | _, [] => ⟨fun _ fr _ st k => k fr st⟩
 | jb, o :: r => match o.guard with
  | none => ⟨fun call fr ls st k => (kop P ro mask jb o.op).run call fr ls st fun v st => (JcD nt mask o.dst).run fr ls v fun fr ls => (zeK P ro nt mask ops (zA mask jb o.dst) r).run call fr ls st k⟩
  | some g => ⟨fun call fr ls st k => (JO mask jb ops (some g)).run fr ls
   ((kop P ro mask jb o.op).run call fr ls st fun v st => (JcD nt mask o.dst).run fr ls v fun fr ls => (zeK P ro nt mask ops (zA mask jb o.dst) r).run call fr ls st k)
   ((JcD nt mask o.dst).run fr ls none fun fr ls => (zeK P ro nt mask ops (zA mask jb o.dst) r).run call fr ls st k)⟩
noncomputable def zcE (P : Program) (ro nt mask : Nat) (ops : Array Oper) : List Nat → List Oper → KR
 | _, [] => ⟨fun _ fr _ st k => k fr st⟩
 | jb, o :: r => match Jz o.op with
  | true => ⟨fun call fr ls st k => (JO mask jb ops o.guard).run fr ls
   ((kop P ro mask jb o.op).run call fr ls ⟨st.nx, st.hp, st.nx⟩ fun v st' => ifB (Nat.ble st.nx st'.ver && (Nat.beq st'.nx st.nx || Zbr v)) ((JcD nt mask o.dst).run fr ls v fun fr ls => (zcE P ro nt mask ops (zA mask jb o.dst) r).run call fr ls st k) false)
   ((JcD nt mask o.dst).run fr ls none fun fr ls => (zcE P ro nt mask ops (zA mask jb o.dst) r).run call fr ls st k)⟩
  | false => ⟨fun call fr ls st k => (JO mask jb ops o.guard).run fr ls false
   ((JcD nt mask o.dst).run fr ls none fun fr ls => (zcE P ro nt mask ops (zA mask jb o.dst) r).run call fr ls st k)⟩
noncomputable def Jdn (P : Program) (ro nt mask : Nat) (ops : Array Oper) (tl : List Oper) : List Nat → List Oper → KR
 | jb, [] => zeK P ro nt mask ops jb tl
 | jb, o :: r => match Jz o.op with
  | true => ⟨fun call fr ls st k => (JO mask jb ops o.guard).run fr ls
   ((kop P ro mask jb o.op).run call fr ls ⟨st.nx, st.hp, st.nx⟩ fun v st' => ifB (Nat.ble st.nx st'.ver && (Nat.beq st'.nx st.nx || Zbr v)) ((JcD nt mask o.dst).run fr ls v fun fr ls => (Jdn P ro nt mask ops tl (zA mask jb o.dst) r).run call fr ls st k) false)
   ((JcD nt mask o.dst).run fr ls none fun fr ls => (Jdn P ro nt mask ops tl (zA mask jb o.dst) r).run call fr ls st k)⟩
  | false => ⟨fun call fr ls st k => (JO mask jb ops o.guard).run fr ls false
   ((JcD nt mask o.dst).run fr ls none fun fr ls => (Jdn P ro nt mask ops tl (zA mask jb o.dst) r).run call fr ls st k)⟩
noncomputable def Zff (P : Program) (st : St) (es : List Ent) (b : Bool) : Bool :=
 List.rec (motive := fun _ => Bool) b (fun e _ ih => (ZdL P e.t).run st e.id e.off fun v => ifB (jcR v e.v) ih false) es
noncomputable def ZfB (P : Program) (c : Bool) (st : St) (es : List Ent) (b : Bool) : Bool := Bool.rec (Zff P st es b) b c
structure KRE where
 run : KCall → T V → List V → List Ent → St → (T V → St → Bool) → Bool
noncomputable def jeK (P : Program) (ro nt mask : Nat) (ops : Array Oper) : List Nat → List (Nat × Oper) → KRE
 | _, [] => ⟨fun _ fr _ _ st k => k fr st⟩
 | jb, (i, o) :: r => match jaE o.op with
  | 0 => ⟨fun call fr ls es st k => (JO mask jb ops o.guard).run fr ls
   ((kop P ro mask jb o.op).run call fr ls ⟨st.nx, .e, 0⟩ fun v _ => (JcD nt mask o.dst).run fr ls v fun fr ls => (jeK P ro nt mask ops (zA mask jb o.dst) r).run call fr ls es st k)
   ((JcD nt mask o.dst).run fr ls none fun fr ls => (jeK P ro nt mask ops (zA mask jb o.dst) r).run call fr ls es st k)⟩
  | 1 => match o.op with
   | .load t x => ⟨fun call fr ls es st k => (JO mask jb ops o.guard).run fr ls
    ((Js mask jb x).run fr ls fun x => onP x fun id off => (ZdL P t).run st id off fun v => (JcD nt mask o.dst).run fr ls (some v) fun fr ls => (jeK P ro nt mask ops (zA mask jb o.dst) r).run call fr ls (⟨i, t, id, off, v⟩ :: es) st k)
    ((JcD nt mask o.dst).run fr ls none fun fr ls => (jeK P ro nt mask ops (zA mask jb o.dst) r).run call fr ls es st k)⟩
   | _ => ⟨fun _ _ _ _ _ _ => false⟩
  | _ => ⟨fun call fr ls es st k => (JO mask jb ops o.guard).run fr ls
   ((kop P ro mask jb o.op).run call fr ls ⟨st.nx, st.hp, st.nx⟩ fun v st' => ZfB P (Nat.ble st.nx st'.ver) st' (jS ops i es) ((JcD nt mask o.dst).run fr ls v fun fr ls => Jaa (low st.ver st'.ver) fun ver => (jeK P ro nt mask ops (zA mask jb o.dst) r).run call fr ls (jS ops i es) ⟨st'.nx, st'.hp, ver⟩ k))
   ((JcD nt mask o.dst).run fr ls none fun fr ls => (jeK P ro nt mask ops (zA mask jb o.dst) r).run call fr ls es st k)⟩
structure KB where
 run : KCall → T V → St → (T V → St → Bool) → (Ex → T V → St → Bool) → Bool
noncomputable def Jff (b : KB) (call : KCall) (kx : Ex → T V → St → Bool) (n : Nat) : T V → St → Bool :=
 Nat.rec (motive := fun _ => T V → St → Bool) (fun _ _ => false) (fun _ ih fr st => b.run call fr st ih kx) n
noncomputable def JfB (e : Ex) (k : Nat → Bool) (d : Bool) : Bool := Ex.rec (motive := fun _ => Bool) d k (fun _ => d) d e
noncomputable def zgj (e : Ex) (d : Bool) : Bool := Ex.rec (motive := fun _ => Bool) d (fun _ => d) (fun _ => false) d e
noncomputable def jgj (e : Ex) (d : Bool) : Bool := Ex.rec (motive := fun _ => Bool) false (fun _ => false) (fun _ => false) d e
noncomputable def kC (P : Program) (ro nt mask L : Nat) : Code → KB
 | .skip => ⟨fun _ fr st kn _ => kn fr st⟩
 | .label _ => ⟨fun _ fr st kn _ => kn fr st⟩
 | .region _ ops draw => match draw with
  | false => ⟨fun call fr st kn _ => (zeK P ro nt mask ops [] ops.toList).run call fr [] st kn⟩
  | true => match jdF P ops with
   | true => ⟨fun call fr st kn _ => (zcE P ro nt mask ops [] ops.toList).run call fr [] st kn⟩
   | false => match zdF ops with
    | true => ⟨fun call fr st kn _ => (Jdn P ro nt mask ops (ops.toList.drop (ops.size - 1)) [] (ops.toList.take (ops.size - 1))).run call fr [] st kn⟩
    | false => match zbT P ops with
     | some pl => ⟨fun call fr st kn _ => (jeK P ro nt mask ops [] pl).run call fr [] [] st kn⟩
     | none => match Zfa ops with
      | true => ⟨fun call fr st kn _ => (zcE P ro nt mask ops [] ops.toList).run call fr [] st kn⟩
      | false => ⟨fun _ _ _ _ _ => false⟩
 | .seq a b => ⟨fun call fr st kn kx => (kC P ro nt mask L a).run call fr st (fun fr st => (kC P ro nt mask L b).run call fr st kn kx) kx⟩
 | .cond c a b => ⟨fun call fr st kn kx => (Js mask [] c).run fr [] fun v => onB v ((kC P ro nt mask L a).run call fr st kn kx) ((kC P ro nt mask L b).run call fr st kn kx)⟩
 | .block id b => ⟨fun call fr st kn kx => (kC P ro nt mask L b).run call fr st kn fun e fr st => JfB e (fun id' => ifB (Nat.beq id' id) (kn fr st) (kx e fr st)) (kx e fr st)⟩
 | .loop b => ⟨fun call fr st _ kx => Jff (kC P ro nt mask L b) call kx L fr st⟩
 | .exit id => ⟨fun _ fr st _ kx => kx (.exit id) fr st⟩
 | .goto l => ⟨fun _ fr st _ kx => kx (.goto l) fr st⟩
 | .scope b => ⟨fun call fr st kn kx => (kC P ro nt mask L b).run call fr st kn fun e fr st => zgj e (kx e fr st)⟩
 | .ret => ⟨fun _ fr st _ kx => kx .ret fr st⟩
 | _ => ⟨fun _ _ _ _ _ => false⟩
noncomputable def zfC (l : List V) (k : T V → Bool) : Bool :=
 List.rec (motive := fun _ => Nat → T V → Bool) (fun _ fr => k fr) (fun v _ ih i fr => JfQ (zaf i) fr v fun fr => Jaa (i + 1) fun i => ih i fr) l 0 .e
structure KRes where
 run : T V → St → (List V → Bool) → Bool
noncomputable def Jf9 (P : Program) (mask : Nat) : List ResultVar → KRes
 | [] => ⟨fun _ _ k => k []⟩
 | .tmp t :: r => ⟨fun fr st k => (jeI mask [] t).run fr [] fun v => (Jf9 P mask r).run fr st fun vs => k (v :: vs)⟩
 | .cell a t :: r => ⟨fun fr st k => (jeI mask [] a).run fr [] fun x => onP x fun id off => (ZdL P t).run st id off fun v => (Jf9 P mask r).run fr st fun vs => k (v :: vs)⟩
structure KF where
 run : KCall → List V → St → (V → St → Bool) → Bool
noncomputable def ZgE (P : Program) (jdf : Nat → Nat) (ro L : Nat) (f : FuncId) : KF := match P.funcs[f]? with
 | some fn => match fn.body with
  | some c => jaa fn.ntmps fun nt => jaa (jdf f) fun mask => ⟨fun call args st k => ifB (Nat.ble args.length nt)
   (zfC args fun fr => (kC P ro nt mask L c).run call fr st (fun fr st => (Jf9 P mask fn.results.toList).run fr st fun vs => k (zaE vs) st) fun e fr st => jgj e
    ((Jf9 P mask fn.results.toList).run fr st fun vs => k (zaE vs) st)) false⟩
  | none => ⟨fun _ _ _ _ => false⟩
 | none => ⟨fun _ _ _ _ => false⟩
noncomputable def zfg (P : Program) (jdf : Nat → Nat) (ov : Ov) (ro L n : Nat) : KCall :=
 Nat.rec (motive := fun _ => KCall) (fun _ _ _ _ => false) (fun _ ih f args st k => match ov f args st with
  | some (v, st) => Jaj v fun v => k v st
  | none => (ZgE P jdf ro L f).run ih args st k) n
noncomputable def zc0 (P : Program) (jdf : Nat → Nat) (ov : Ov) (gs : List (Nat × List V)) (L n : Nat) (f : FuncId) (args : List V) : Bool :=
 zfg P jdf ov GL L n f args (st0 gs) fun v _ => onB v true false
end Go.Vk
namespace Go.Vk
open Go.Vm
def Even {α : Type} (f : Nat → Option α) (r : α) : Prop := ∃ m, ∀ m', m ≤ m' → f m' = some r
theorem Even.const {α : Type} {o : Option α} {r : α} (h : o = some r) : Even (fun _ => o) r := ⟨0, fun _ _ => h⟩
theorem no {p : Prop} (h : false = true) : p := Bool.noConfusion h
theorem Za6 {x t f : Bool} (h : ifB x t f = true) : (x = true ∧ t = true) ∨ (x = false ∧ f = true) := by
 cases x
 ·exact .inr ⟨rfl, h⟩
 ·exact .inl ⟨rfl, h⟩
theorem ZaP {x t : Bool} (h : ifB x t false = true) : x = true ∧ t = true := by
 cases x
 ·exact no h
 ·exact ⟨rfl, h⟩
theorem jcN {o : Option V} {k : V → Bool} (h : ZfQ o k = true) : ∃ v, o = some v ∧ k v = true := by
 cases o
 ·exact no h
 ·exact ⟨_, rfl, h⟩
theorem jc0 {v : V} {t f : Bool} (h : onB v t f = true) : (v = .b true ∧ t = true) ∨ (v = .b false ∧ f = true) := by
 cases v with
 | b x =>
  cases x
  ·exact .inr ⟨rfl, h⟩
  ·exact .inl ⟨rfl, h⟩
 | _ => exact no h
theorem zdo {v : V} {t f d : Bool} (h : ZgD v t f d = true) : (v = .b true ∧ t = true) ∨ (v = .b false ∧ f = true) ∨ ((∀ x, v ≠ .b x) ∧ d = true) := by
 cases v with
 | b x =>
  cases x
  ·exact .inr (.inl ⟨rfl, h⟩)
  ·exact .inl ⟨rfl, h⟩
 | _ => exact .inr (.inr ⟨fun x e => (by cases e), h⟩)
theorem Zag {v : V} {k : IntKind → Int → Bool} (h : onI v k = true) : ∃ kd n, v = .i kd n ∧ k kd n = true := by
 cases v with
 | i kd n => exact ⟨kd, n, rfl, h⟩
 | _ => exact no h
theorem Zc0 {v : V} {k : Nat → Nat → Bool} (h : onS v k = true) : ∃ l x, v = .s l x ∧ k l x = true := by
 cases v with
 | s l x => exact ⟨l, x, rfl, h⟩
 | _ => exact no h
theorem Ja6 {v : V} {k : Nat → Nat → Bool} (h : onP v k = true) : ∃ g o, v = .p g o ∧ k g o = true := by
 cases v with
 | p g o => exact ⟨g, o, rfl, h⟩
 | _ => exact no h
theorem jfg {v : V} {k : Fn → List V → List V → Bool} (h : onF v k = true) : ∃ f xs ys, v = .f f xs ys ∧ k f xs ys = true := by
 cases v with
 | f f xs ys => exact ⟨f, xs, ys, rfl, h⟩
 | _ => exact no h
theorem Zfg {v : V} {k : List V → Bool} (h : onT v k = true) : ∃ vs, v = .t vs ∧ k vs = true := by
 cases v with
 | t vs => exact ⟨vs, rfl, h⟩
 | _ => exact no h
theorem ZeK {v : V} {d e : Bool} (h : jgU v d e = true) : (((∃ g o p, v = .se g o p) ∨ ∃ a, v = .ze a) ∧ d = true) ∨ e = true := by
 cases v with
 | se g o p => exact .inl ⟨.inl ⟨g, o, p, rfl⟩, h⟩
 | ze a => exact .inl ⟨.inr ⟨a, rfl⟩, h⟩
 | _ => exact .inr h
theorem Jbv {v : V} {k : Nat → Nat → Nat → Nat → Bool → Bool} {n : Bool} {s : Nat → Nat → Bool} (h : jgi v k n s = true) :
  (∃ id off l c op, v = .sl id off l c op ∧ k id off l c op = true) ∨ (v = .sn ∧ n = true) ∨ (∃ l x, v = .s l x ∧ s l x = true) := by
 cases v with
 | sl id off l c op => exact .inl ⟨id, off, l, c, op, rfl, h⟩
 | sn => exact .inr (.inl ⟨rfl, h⟩)
 | s l x => exact .inr (.inr ⟨l, x, rfl, h⟩)
 | _ => exact no h
theorem zZ {a b : Int} {k : Nat → Nat → Bool} {d : Bool} (h : je9 a b k d = true) : (∃ m n : Nat, a = .ofNat m ∧ b = .ofNat n ∧ k m n = true) ∨ d = true := by
 cases a with
 | ofNat m => cases b with
  | ofNat n => exact .inl ⟨m, n, rfl, rfl, h⟩
  | negSucc n => exact .inr h
 | negSucc m => exact .inr h
theorem jd4 {a : Int} {k : Nat → Bool} {d : Bool} (h : onN a k d = true) : (∃ m : Nat, a = .ofNat m ∧ k m = true) ∨ d = true := by
 cases a with
 | ofNat m => exact .inl ⟨m, rfl, h⟩
 | negSucc m => exact .inr h
theorem zq (n : Nat) (k : Nat → Bool) : Jaa n k = k n := by cases n <;> rfl
theorem jK (v : V) (k : V → Bool) : Jaj v k = k v := by
 cases v with
 | b x => cases x <;> rfl
 | i kd n =>
  cases n with
  | ofNat m =>
   show zev kd (fun kd => Jaa m fun m => k (.i kd (.ofNat m))) = _
   rw [ZcR, zq]
  | negSucc m =>
   show zev kd (fun kd => Jaa m fun m => k (.i kd (.negSucc m))) = _
   rw [ZcR, zq]
 | s l x => show Jaa l (fun l => Jaa x fun x => k (.s l x)) = _; rw [zq, zq]
 | p g o => show Jaa g (fun g => Jaa o fun o => k (.p g o)) = _; rw [zq, zq]
 | sl g o l c op => cases op <;> (show Jaa g (fun g => Jaa o fun o => Jaa l fun l => Jaa c fun c => k (.sl g o l c _)) = _; rw [zq, zq, zq, zq])
 | se g o p => show Jaa g (fun g => Jaa o fun o => Jaa p fun p => k (.se g o p)) = _; rw [zq, zq, zq]
 | _ => rfl
theorem Zei (f : Nat) : ZbZ (f + 1) 0 = [] := rfl
theorem ZcN (f k : Nat) : ZbZ (f + 1) (k + 1) = Nat.beq (k % 2) 0 :: ZbZ f (k / 2) := by
 show (Bool.rec (false :: ZbZ f (k / 2)) (true :: ZbZ f (k / 2)) (Nat.beq (k % 2) 0) : List Bool) = _
 cases Nat.beq (k % 2) 0 <;> rfl
theorem JeK {α : Type} (b : Bool) (p : List Bool) (t : T α) (k : α → Bool) (d : Bool) : getD (b :: p) t k d = match t with | .e => d | .n l _ r => cond b (getD p l k d) (getD p r k d) := by cases t <;> cases b <;> rfl
theorem zeL {α : Type} (k : α → Bool) (d : Bool) : ∀ (f : Nat) (t : T α) (i : Nat), i < f → getD (ZbZ f i) t k d = match t.get i with | some v => k v | none => d := by
 intro f
 induction f with
 | zero => intro t i h; omega
 | succ f ih =>
  intro t i h
  cases i with
  | zero =>
   rw [Zei]
   cases t with
   | e => rfl
   | n l v r => cases v <;> rfl
  | succ j =>
   rw [ZcN, JeK]
   cases t with
   | e => rfl
   | n l v r =>
    rw [T.get_n]
    dsimp only
    cases Nat.beq (j % 2) 0
    ·exact ih r (j / 2) (by omega)
    ·exact ih l (j / 2) (by omega)
theorem zdM {α : Type} (i : Nat) (t : T α) (k : α → Bool) (d : Bool) : getD (zaf i) t k d = match t.get i with | some v => k v | none => d := zeL k d (i + 1) t i (Nat.lt_succ_self i)
theorem jeL {i : Nat} {t : T V} {k : V → Bool} (h : JgD (zaf i) t k = true) : ∃ v, t.get i = some v ∧ k v = true := by
 unfold JgD at h
 rw [zdM] at h
 cases e : t.get i with
 | none => rw [e] at h; exact no h
 | some v => rw [e] at h; exact ⟨v, rfl, h⟩
theorem ZeL {α : Type} (v : Option α) : ∀ (f : Nat) (t : T α) (i : Nat) (k : T α → Bool), i < f → Ze9 (ZbZ f i) t v k = k (T.go v f t i) := by
 intro f
 induction f with
 | zero => intro t i k h; omega
 | succ f ih =>
  intro t i k h
  cases i with
  | zero => cases t <;> rfl
  | succ j =>
   rw [ZcN]
   have hl : j / 2 < f := by omega
   cases t with
   | e =>
    simp only [T.go]
    cases Nat.beq (j % 2) 0
    ·show Ze9 (ZbZ f (j / 2)) .e v (fun r => k (.n .e none r)) = _
     rw [ih _ _ _ hl]
     simp only [cond_false]
     cases T.go v f .e (j / 2) <;> rfl
    ·show Ze9 (ZbZ f (j / 2)) .e v (fun l => k (.n l none .e)) = _
     rw [ih _ _ _ hl]
     simp only [cond_true]
     cases T.go v f .e (j / 2) <;> rfl
   | n l x r =>
    simp only [T.go]
    cases Nat.beq (j % 2) 0
    ·show Ze9 (ZbZ f (j / 2)) r v (fun r => k (.n l x r)) = _
     rw [ih _ _ _ hl]
     simp only [cond_false]
     cases T.go v f r (j / 2) <;> rfl
    ·show Ze9 (ZbZ f (j / 2)) l v (fun l => k (.n l x r)) = _
     rw [ih _ _ _ hl]
     simp only [cond_true]
     cases T.go v f l (j / 2) <;> rfl
theorem zck {α : Type} (i : Nat) (t : T α) (v : Option α) (k : T α → Bool) : Ze9 (zaf i) t v k = k (t.upd i v) := ZeL v (i + 1) t i k (Nat.lt_succ_self i)
theorem JeL (i : Nat) (t : T V) (v : V) (k : T V → Bool) : JfQ (zaf i) t v k = k (t.upd i (some v)) := zck i t (some v) k
theorem jdo {k : V → Bool} : ∀ (j : Nat) (ls : List V), zgU j ls k = true → ∃ v, ls[j]? = some v ∧ k v = true
 | 0, [], h => no h
 | 0, v :: r, h => ⟨v, rfl, h⟩
 | j + 1, [], h => no h
 | j + 1, v :: r, h => by
  obtain ⟨x, h1, h2⟩ := jdo j r h
  exact ⟨x, by simpa using h1, h2⟩
structure Rel (mask : Nat) (jb : List Nat) (fr : T V) (ls : List V) (fr0 : T V) : Prop where
 tree : ∀ t v, jcD mask t = true → fr.get t = some v → fr0.get t = some v
 loc : ∀ t j v, jcZ jb t = some j → ls[j]? = some v → fr0.get t = some v
 sep : ∀ t j, jcZ jb t = some j → jcD mask t = false
theorem Rel.drop {mask : Nat} {jb : List Nat} {fr fr0 : T V} {ls : List V} (h : Rel mask jb fr ls fr0) : Rel mask [] fr [] fr0 :=
 ⟨h.tree, fun t j v e => (by cases e), fun t j e => (by cases e)⟩
section
variable {mask : Nat} {jb : List Nat} {fr fr0 : T V} {ls : List V}
theorem zaV (hr : Rel mask jb fr ls fr0) {t : Nat} {k : V → Bool} (h : (jeI mask jb t).run fr ls k = true) : ∃ v, fr0.get t = some v ∧ k v = true := by
 unfold jeI at h
 cases hp : jcZ jb t with
 | some j =>
  rw [hp] at h
  dsimp only at h
  rw [jf] at h
  obtain ⟨v, h1, h2⟩ := jdo j ls h
  exact ⟨v, hr.loc t j v hp h1, h2⟩
 | none =>
  rw [hp] at h
  cases hl : jcD mask t with
  | true =>
   rw [hl] at h
   obtain ⟨v, h1, h2⟩ := jeL h
   exact ⟨v, hr.tree t v hl h1, h2⟩
  | false => rw [hl] at h; exact no h
theorem zf (hr : Rel mask jb fr ls fr0) {x : Operand} {k : V → Bool} (h : (Js mask jb x).run fr ls k = true) : ∃ v, jq fr0 x = some v ∧ k v = true := by
 cases x with
 | tmp t => exact zaV hr h
 | const c =>
  simp only [Js, jq] at h ⊢
  cases e : ofV 4 c with
  | none => rw [e] at h; exact no h
  | some v => rw [e] at h; dsimp only at h; rw [V.force_eq] at h; exact ⟨v, rfl, h⟩
 | global g =>
  simp only [Js, jq] at h ⊢
  cases e : Nat.blt g GL with
  | false => rw [e] at h; exact no h
  | true => rw [e] at h; exact ⟨_, rfl, h⟩
 | func f => exact ⟨_, rfl, h⟩
theorem jH (hr : Rel mask jb fr ls fr0) : ∀ {l : List Operand} {k : List V → Bool}, (jaf mask jb l).run fr ls k = true → ∃ vs, Zac fr0 l = some vs ∧ k vs = true
 | [], k, h => ⟨[], rfl, h⟩
 | o :: r, k, h => by
  obtain ⟨v, h1, h2⟩ := zf hr (show (Js mask jb o).run fr ls _ = true from h)
  obtain ⟨vs, h3, h4⟩ := jH hr h2
  exact ⟨v :: vs, by simp only [Zac, h1, h3], h4⟩
theorem Jbk (hr : Rel mask jb fr ls fr0) {o : Option Operand} {k : Option V → Bool} (h : (Zd3 mask jb o).run fr ls k = true) :
  (o = none ∧ k none = true) ∨ ∃ o' v, o = some o' ∧ jq fr0 o' = some v ∧ k (some v) = true := by
 cases o with
 | none => exact .inl ⟨rfl, h⟩
 | some o =>
  obtain ⟨v, h1, h2⟩ := zf hr (show (Js mask jb o).run fr ls _ = true from h)
  exact .inr ⟨o, v, rfl, h1, h2⟩
theorem zbl (hr : Rel mask jb fr ls fr0) : ∀ {l : List (Nat × Operand)} {k : List (Nat × V) → Bool}, (JcM mask jb l).run fr ls k = true → ∃ vs, zE fr0 l = some vs ∧ k vs = true
 | [], k, h => ⟨[], rfl, h⟩
 | (i, o) :: r, k, h => by
  obtain ⟨v, h1, h2⟩ := zf hr (show (Js mask jb o).run fr ls _ = true from h)
  obtain ⟨vs, h3, h4⟩ := zbl hr h2
  exact ⟨(i, v) :: vs, by simp only [zE, h1, h3], h4⟩
end
theorem ZgY (l : List V) : (List.rec (motive := fun _ => Nat) 0 (fun _ _ ih => Nat.succ ih) l : Nat) = l.length := by
 induction l with
 | nil => rfl
 | cons v r ih => show Nat.succ _ = _; rw [ih]; rfl
theorem Jc0 (l : List V) (k : Nat → Bool) : jf9 l k = k l.length := by unfold jf9; rw [zq, ZgY]
theorem jck (v : V) (k : List V → Bool) : Jd3 v k = k v.cells := by cases v <;> rfl
theorem JaF (b : Blk) (k : T V → List V → Nat → Nat → Bool → Bool) : Zdn b k = k b.cs b.zero b.sz b.es b.op := rfl
theorem zc1 (st : St) (k : Nat → T Blk → Nat → Bool) : Zgw st k = k st.nx st.hp st.ver := rfl
theorem Jaz {st : St} {id : Nat} {k : Blk → Bool} (h : zfB st id k = true) : ∃ b, st.hp.get id = some b ∧ k b = true := by
 unfold zfB at h
 rw [zc1, zdM] at h
 cases e : st.hp.get id with
 | none => rw [e] at h; exact no h
 | some b => rw [e] at h; exact ⟨b, rfl, h⟩
theorem JcN {b : Blk} {o : Nat} {k : V → Bool} (h : JeI b.cs b.zero b.sz b.es o k = true) : ∃ v, b.get o = some v ∧ k v = true := by
 unfold JeI at h
 obtain ⟨h1, h2⟩ := ZaP h
 rw [zdM] at h2
 unfold Blk.get
 rw [h1, cond_true]
 cases e : b.cs.get o with
 | some v => rw [e] at h2; exact ⟨v, rfl, h2⟩
 | none => rw [e] at h2; exact jcN h2
theorem jaV {b : Blk} : ∀ {n o : Nat} {k : List V → Bool}, Jf8 b.cs b.zero b.sz b.es n o k = true → ∃ cs, b.row n o = some cs ∧ k cs = true
 | 0, o, k, h => ⟨[], rfl, h⟩
 | n + 1, o, k, h => by
  obtain ⟨v, h1, h2⟩ := JcN (show JeI b.cs b.zero b.sz b.es o _ = true from h)
  rw [zq] at h2
  obtain ⟨cs, h3, h4⟩ := jaV (n := n) (show Jf8 b.cs b.zero b.sz b.es n (o + 1) _ = true from h2)
  exact ⟨v :: cs, by simp only [Blk.row, h1, h3], h4⟩
theorem ZaV : ∀ {vs : List V} {b : Blk} {o : Nat} {k : T V → Bool}, zf9 b.sz vs b.cs o k = true → ∃ cs, b.put vs o = some ⟨cs, b.zero, b.sz, b.es, b.op⟩ ∧ k cs = true
 | [], b, o, k, h => ⟨b.cs, rfl, h⟩
 | v :: r, b, o, k, h => by
  obtain ⟨h1, h2⟩ := ZaP (show ifB (Nat.blt o b.sz) _ false = true from h)
  obtain ⟨h3, h4⟩ := ZaP h2
  rw [jK, zck, zq] at h4
  obtain ⟨cs, h5, h6⟩ := ZaV (vs := r) (b := b.set o v) (o := o + 1) (show zf9 b.sz r (b.cs.upd o (some v)) (o + 1) k = true from h4)
  refine ⟨cs, ?_, h6⟩
  simp only [Blk.put, h1, h3, Bool.and_self, cond_true, V.force_eq, h5]
  rfl
theorem zbw {cs : List V} {es : Nat} {op : Bool} {k : Blk → Bool} (h : Zf9 cs es op k = true) : ∃ b, Zaw cs es op = some b ∧ k b = true := by
 unfold Zf9 at h
 rw [Jc0] at h
 obtain ⟨t, h1, h2⟩ := ZaV (b := ⟨.e, [], cs.length, es, op⟩) h
 exact ⟨_, h1, h2⟩
theorem JaV (st : St) (b : Blk) (k : Nat → St → Bool) : Zbv st b k = k st.nx (St.alloc st b) := by unfold Zbv; rw [zc1, zck, zq]; rfl
theorem jfC (a b : Nat) : low a b = cond (Nat.ble a b) a b := rfl
theorem Zdo (st : St) (id : Nat) (b : Blk) (k : St → Bool) : jbV st id (some b) k = k (st.write id b) := by
 unfold jbV
 rw [zc1, zck, St.write_eq, jfC]
 cases Nat.ble st.ver id <;> rfl
theorem zb8 (st : St) (id : Nat) (k : St → Bool) : jbV st id none k = k (st.kill id) := by
 unfold jbV
 rw [zc1, zck, St.kill_eq, jfC]
 cases Nat.ble st.ver id <;> rfl
end Go.Vk
namespace Go.Vk
open Go.Vm
section
variable {P : Program} {ro : Nat}
theorem zaA {r : Option V} {k : V → Bool} (h : jfR r k = true) : ∃ v, r = some v ∧ k v = true := by
 cases r with
 | none => exact no h
 | some v => exact ⟨v, rfl, (jK _ _).symm.trans h⟩
theorem jaA {r : Option (V × St)} {k : V → St → Bool} (h : jei r k = true) : ∃ v st, r = some (v, st) ∧ k v st = true := by
 cases r with
 | none => exact no h
 | some x => exact ⟨x.1, x.2, rfl, h⟩
theorem Jdo {a b : IntKind} (h : Nat.beq (zei a) (zei b) = true) : a = b := by cases a <;> cases b <;> first | rfl | cases h
theorem zR {x y : V} {k : IntKind → Int → Int → Bool} (h : ZcD x y k = true) : ∃ kd a b, x = .i kd a ∧ y = .i kd b ∧ k kd a b = true := by
 obtain ⟨ka, a, rfl, h1⟩ := Zag h
 clear h
 obtain ⟨kb, b, rfl, h2⟩ := Zag h1
 obtain ⟨h3, h4⟩ := ZaP h2
 obtain rfl := Jdo h3
 exact ⟨ka, a, b, rfl, rfl, h4⟩
theorem Jei {kd : IntKind} {m : Nat} (h : Nat.blt m (jgw kd) = true) : kd.wrap (.ofNat m) = .ofNat m := by
 rw [Nat.blt_eq] at h
 cases kd <;> simp only [jgw] at h <;> simp [IntKind.wrap, IntKind.bits, IntKind.signed] <;> omega
theorem za7 (kd : IntKind) (n : Int) (k : V → Bool) : jdL kd n k = k (.i kd (kd.wrap n)) := jK _ _
theorem jbw (kd : IntKind) (m : Nat) (k : V → Bool) : zcN kd m k = k (.i kd (kd.wrap (.ofNat m))) := by
 unfold zcN
 cases e : Nat.blt m (jgw kd) with
 | false => exact za7 _ _ _
 | true => show Jaa m (fun m => k (.i kd (.ofNat m))) = _; rw [zq, Jei e]
theorem Jfg (kd : IntKind) (n : Int) (k : V → Bool) : Jgh kd n k = k (.i kd (kd.wrap n)) := by
 cases n with
 | ofNat m => exact jbw kd m k
 | negSucc m => exact za7 _ _ _
theorem Zbw {op : BinOp} {t : TypeId} {kd : IntKind} {a b : Int} (h1 : op ≠ .shl) (h2 : op ≠ .shr) : ZbE P op t (.i kd a) (.i kd b) = Jet op kd a b := by cases op <;> simp_all [ZbE]
theorem zej {op : BinOp} {t : TypeId} {x y : V} {k : V → Bool} (h : (zgi P t op).run x y k = true) : ∃ v, ZbE P op t x y = some v ∧ k v = true := by
 have other : (match ZbE P op t x y with | some v => Jaj v k | none => false) = true → ∃ v, ZbE P op t x y = some v ∧ k v = true := by
  intro h
  cases e : ZbE P op t x y with
  | none => rw [e] at h; exact no h
  | some v => rw [e] at h; exact ⟨v, rfl, (jK _ _).symm.trans h⟩
 cases op with
 | add =>
  obtain ⟨kd, a, b, rfl, rfl, h0⟩ := zR h
  clear h
  have h := h0
  clear h0
  refine ⟨_, by rw [Zbw (by simp) (by simp)]; rfl, ?_⟩
  rcases zZ h with ⟨m, n, rfl, rfl, h2⟩ | h2 <;> clear h <;> have h := h2 <;> clear h2
  ·rw [jbw] at h; exact h
  ·rw [za7] at h; exact h
 | sub =>
  obtain ⟨kd, a, b, rfl, rfl, h0⟩ := zR h
  clear h
  have h := h0
  clear h0
  refine ⟨_, by rw [Zbw (by simp) (by simp)]; rfl, ?_⟩
  rcases zZ h with ⟨m, n, rfl, rfl, h2⟩ | h2 <;> clear h <;> have h := h2 <;> clear h2
  ·rcases Za6 h with ⟨h1, h2⟩ | ⟨_, h2⟩
   ·rw [jbw] at h2
    rw [Nat.ble_eq] at h1
    have e : (Int.ofNat (m - n)) = Int.ofNat m - Int.ofNat n := by simp only [Int.ofNat_eq_natCast]; omega
    rw [e] at h2; exact h2
   ·rw [za7] at h2; exact h2
  ·rw [za7] at h; exact h
 | mul =>
  obtain ⟨kd, a, b, rfl, rfl, h0⟩ := zR h
  clear h
  have h := h0
  clear h0
  refine ⟨_, by rw [Zbw (by simp) (by simp)]; rfl, ?_⟩
  rcases zZ h with ⟨m, n, rfl, rfl, h2⟩ | h2 <;> clear h <;> have h := h2 <;> clear h2
  ·rw [jbw] at h; exact h
  ·rw [za7] at h; exact h
 | lss =>
  obtain ⟨kd, a, b, rfl, rfl, h0⟩ := zR h
  clear h
  have h := h0
  clear h0
  refine ⟨_, by rw [Zbw (by simp) (by simp)]; rfl, ?_⟩
  rcases zZ h with ⟨m, n, rfl, rfl, h2⟩ | h2 <;> clear h <;> have h := h2 <;> clear h2
  ·rw [ZQ] at h
   have e : Nat.blt m n = ilt (.ofNat m) (.ofNat n) := by rw [Bool.eq_iff_iff, Nat.blt_eq]; simp [ilt, Int.ofNat_eq_natCast]
   rw [e] at h; exact h
  ·rw [ZQ] at h; exact h
 | leq =>
  obtain ⟨kd, a, b, rfl, rfl, h0⟩ := zR h
  clear h
  have h := h0
  clear h0
  refine ⟨_, by rw [Zbw (by simp) (by simp)]; rfl, ?_⟩
  rcases zZ h with ⟨m, n, rfl, rfl, h2⟩ | h2 <;> clear h <;> have h := h2 <;> clear h2
  ·rw [ZQ] at h
   have e : Nat.ble m n = ile (.ofNat m) (.ofNat n) := by rw [Bool.eq_iff_iff, Nat.ble_eq]; simp [ile, Int.ofNat_eq_natCast]
   rw [e] at h; exact h
  ·rw [ZQ] at h; exact h
 | gtr =>
  obtain ⟨kd, a, b, rfl, rfl, h0⟩ := zR h
  clear h
  have h := h0
  clear h0
  refine ⟨_, by rw [Zbw (by simp) (by simp)]; rfl, ?_⟩
  rcases zZ h with ⟨m, n, rfl, rfl, h2⟩ | h2 <;> clear h <;> have h := h2 <;> clear h2
  ·rw [ZQ] at h
   have e : Nat.blt n m = ilt (.ofNat n) (.ofNat m) := by rw [Bool.eq_iff_iff, Nat.blt_eq]; simp [ilt, Int.ofNat_eq_natCast]
   rw [e] at h; exact h
  ·rw [ZQ] at h; exact h
 | geq =>
  obtain ⟨kd, a, b, rfl, rfl, h0⟩ := zR h
  clear h
  have h := h0
  clear h0
  refine ⟨_, by rw [Zbw (by simp) (by simp)]; rfl, ?_⟩
  rcases zZ h with ⟨m, n, rfl, rfl, h2⟩ | h2 <;> clear h <;> have h := h2 <;> clear h2
  ·rw [ZQ] at h
   have e : Nat.ble n m = ile (.ofNat n) (.ofNat m) := by rw [Bool.eq_iff_iff, Nat.ble_eq]; simp [ile, Int.ofNat_eq_natCast]
   rw [e] at h; exact h
  ·rw [ZQ] at h; exact h
 | eql =>
  obtain ⟨kd, a, b, rfl, rfl, h0⟩ := zR h
  clear h
  have h := h0
  clear h0
  refine ⟨_, by rw [Zbw (by simp) (by simp)]; rfl, ?_⟩
  rcases zZ h with ⟨m, n, rfl, rfl, h2⟩ | h2 <;> clear h <;> have h := h2 <;> clear h2
  ·rw [ZQ] at h
   have e : Nat.beq m n = (Int.ofNat m == Int.ofNat n) := by rw [Bool.eq_iff_iff, Nat.beq_eq]; simp [Int.ofNat_eq_natCast]; omega
   rw [e] at h; exact h
  ·rw [ZQ] at h; exact h
 | neq =>
  obtain ⟨kd, a, b, rfl, rfl, h0⟩ := zR h
  clear h
  have h := h0
  clear h0
  refine ⟨_, by rw [Zbw (by simp) (by simp)]; rfl, ?_⟩
  rcases zZ h with ⟨m, n, rfl, rfl, h2⟩ | h2 <;> clear h <;> have h := h2 <;> clear h2
  ·rw [ZQ] at h
   have e : Nat.beq m n = (Int.ofNat m == Int.ofNat n) := by rw [Bool.eq_iff_iff, Nat.beq_eq]; simp [Int.ofNat_eq_natCast]; omega
   rw [e] at h; exact h
  ·rw [ZQ] at h; exact h
 | _ => exact other h
theorem zeM {op : BinOp} {t : TypeId} {x y : V} {k : V → Bool} (h : (zgE P op t).run x y k = true) : ∃ v, ZbE P op t x y = some v ∧ k v = true := by
 unfold zgE at h
 split at h
 ·exact zej h
 ·dsimp only at h
  cases e : ZbE P op t x y with
  | none => rw [e] at h; exact no h
  | some v => rw [e] at h; exact ⟨v, rfl, (jK _ _).symm.trans h⟩
theorem jdM {t : TypeId} {x y : V} {k : V → Bool} (h : (ZeI P t).run x y k = true) : ∃ kd i v, y = .i kd i ∧ ZaN P t x i = some v ∧ k v = true := by
 unfold ZeI at h
 split at h
 ·rename_i ht
  obtain ⟨len, bits, rfl, hz⟩ := Zc0 h
  clear h
  have h := hz
  clear hz
  obtain ⟨kd, i, rfl, hz⟩ := Zag h
  clear h
  have h := hz
  clear hz
  rcases jd4 h with ⟨m, rfl, hz⟩ | hz <;> clear h <;> have h := hz <;> clear hz
  ·obtain ⟨h1, h2⟩ := ZaP h
   rw [zq] at h2
   rw [Nat.blt_eq] at h1
   refine ⟨kd, _, _, rfl, ?_, h2⟩
   have hb : (ile 0 (Int.ofNat m) && ilt (Int.ofNat m) len) = true := by simp [ile, ilt, Int.ofNat_eq_natCast]; omega
   simp only [ZaN, ht, hb, cond_true]
   rfl
  ·exact no h
 ·obtain ⟨kd, i, rfl, hz⟩ := Zag h
  clear h
  have h := hz
  clear hz
  cases e : ZaN P t x i with
  | none => rw [e] at h; exact no h
  | some v => rw [e] at h; exact ⟨kd, i, v, rfl, e, (jK _ _).symm.trans h⟩
end
end Go.Vk
namespace Go.Vk
open Go.Vm
section
variable {P : Program} {ro : Nat}
theorem ja7 {t : TypeId} {st : St} {id off : Nat} {k : V → Bool} (h : (ZdL P t).run st id off k = true) : ∃ v, jN P st t id off = some v ∧ k v = true := by
 unfold ZdL at h
 unfold jN
 cases hi : P.info? t with
 | none => rw [hi] at h; exact no h
 | some ti =>
  cases hu : P.underlying t with
  | none => rw [hi, hu] at h; exact no h
  | some d =>
   rw [hi, hu] at h
   dsimp only at h
   cases ha : Zan P t with
   | true =>
    rw [ha] at h
    dsimp only at h
    rw [jf] at h
    obtain ⟨b, h1, h2⟩ := Jaz h
    rw [JaF] at h2
    obtain ⟨cs, h3, h4⟩ := jaV h2
    exact ⟨.a cs, by simp only [h1, cond_true, h3], h4⟩
   | false =>
    rw [ha] at h
    obtain ⟨b, h1, h2⟩ := Jaz h
    rw [JaF] at h2
    obtain ⟨v, h3, h4⟩ := JcN h2
    exact ⟨v, by simp only [h1, cond_false, h3], h4⟩
theorem ZdM {t : TypeId} {st : St} {id off : Nat} {v : V} {k : St → Bool} (h : (zeJ P ro t).run st id off v k = true) : ∃ st', Jbr P ro st t id off v = some st' ∧ k st' = true := by
 unfold zeJ at h
 unfold Jbr
 cases hi : P.info? t with
 | none => rw [hi] at h; exact no h
 | some ti =>
  rw [hi] at h
  dsimp only at h
  rw [jf] at h
  obtain ⟨b, h1, h2⟩ := Jaz h
  rw [jck] at h2
  obtain ⟨h3, h4⟩ := ZaP h2
  rw [Jc0] at h4
  obtain ⟨h5, h6⟩ := ZaP h4
  rw [JaF] at h6
  obtain ⟨cs, h7, h8⟩ := ZaV h6
  rw [Zdo] at h8
  exact ⟨_, by simp only [h1, h3, h5, Bool.and_self, cond_true, h7], h8⟩
theorem ZbV {st : St} {v : V} {es : Nat} {k : V → St → Bool} (h : ZcZ st v es k = true) : ∃ x st', jbf st v es = some (x, st') ∧ k x st' = true := by
 unfold ZcZ at h
 rw [jck] at h
 obtain ⟨b, h1, h2⟩ := zbw h
 rw [JaV] at h2
 exact ⟨_, _, by simp only [jbf, h1, jf], h2⟩
theorem zdp : ∀ (vs cs pre : List V), vs.length = cs.length → setAt (pre ++ cs) pre.length vs = pre ++ vs
 | [], cs, pre, h => by
  have : cs = [] := List.length_eq_zero_iff.1 h.symm
  simp [setAt, this]
 | v :: r, [], pre, h => by simp at h
 | v :: r, c :: cs, pre, h => by
  have h' : r.length = cs.length := by simpa using h
  have := zdp r cs (pre ++ [v]) h'
  simp only [setAt]
  rw [List.set_append_right _ _ (Nat.le_refl _), Nat.sub_self, List.set_cons_zero]
  rw [List.length_append] at this
  simp only [List.append_assoc, List.singleton_append, List.length_singleton] at this
  exact this
theorem jeM {t : TypeId} {st : St} {v : V} {k : V → St → Bool} (h : (jgE P t).run st v k = true) : ∃ x st', zp P st t 1 [(0, v)] = some (x, st') ∧ k x st' = true := by
 unfold jgE at h
 split at h
 ·rename_i e hu
  cases hs : zy P e with
  | none => rw [hs] at h; exact no h
  | some n =>
   cases hz : j7 P e with
   | none => rw [hs, hz] at h; exact no h
   | some z =>
    rw [hs, hz] at h
    dsimp only at h
    cases hc : (Nat.ble (1 * n) 16777216 && Nat.blt 0 n && Nat.beq z.cells.length n) with
    | false => rw [hc] at h; exact no h
    | true =>
     rw [hc] at h
     dsimp only at h
     rw [jf] at h
     dsimp only at h
     rw [jck, Jc0] at h
     obtain ⟨h1, h2⟩ := ZaP h
     obtain ⟨b, h3, h4⟩ := zbw h2
     rw [JaV] at h4
     refine ⟨_, _, ?_, h4⟩
     have hl : v.cells.length = n := Nat.beq_eq ▸ h1
     have hzl : z.cells.length = n := by
      have := hc
      simp only [Bool.and_eq_true, Nat.beq_eq] at this
      exact this.2
     have hset : setAt (zC z.cells 1) (0 * n) v.cells = v.cells := by
      have := zdp v.cells z.cells [] (by omega)
      simpa [zC] using this
     have hle : Nat.ble (0 * n + v.cells.length) (zC z.cells 1).length = true := by rw [Nat.ble_eq]; simp [zC]; omega
     simp only [zp, hu, hs, hz, hc, cond_true, zbs, h1, hle, Bool.and_self, hset, h3, jf]
 ·exact no h
theorem Zck : ∀ {n x : Nat} {k : List V → Bool}, jeJ n x k = true → k (zG n x) = true
 | 0, x, k, h => h
 | n + 1, x, k, h => by
  have h' : Jaa (x % 256) (fun c => Jaa (x / 256) fun y => jeJ n y fun r => k (.i .u8 (.ofNat c) :: r)) = true := h
  rw [zq, zq] at h'
  exact Zck (n := n) (x := x / 256) (k := fun r => k (.i .u8 (.ofNat (x % 256)) :: r)) h'
theorem JdM {st : St} {es : Nat} {x : V} {k : Nat → List V → Bool} (h : jfB st es x k = true) : ∃ n new, JdE x = some n ∧ jY st es n x = some new ∧ k n new = true := by
 rcases Jbv h with ⟨id, off, l, c, op, rfl, hz⟩ | ⟨rfl, hz⟩ | ⟨l, x, rfl, hz⟩ <;> clear h <;> have h := hz <;> clear hz
 ·obtain ⟨b, h1, h2⟩ := Jaz h
  rw [JaF] at h2
  obtain ⟨cs, h3, h4⟩ := jaV h2
  exact ⟨l, cs, rfl, by simp only [jY, h1, h3], h4⟩
 ·exact ⟨0, [], rfl, rfl, h⟩
 ·obtain ⟨h1, h2⟩ := ZaP h
  exact ⟨l, _, rfl, by simp only [jY, h1, cond_true], Zck h2⟩
end
end Go.Vk
namespace Go.Vk
open Go.Vm
section
variable {P : Program} {ro : Nat}
theorem jdp {t : TypeId} {st : St} {s x : V} {k : V → St → Bool} (h : (JdL P ro t).run st s x k = true) : ∃ v st', ZE P ro st t s x = some (v, st') ∧ k v st' = true := by
 unfold JdL at h
 split at h
 ·rename_i e hu
  cases hi : P.info? e with
  | none => rw [hi] at h; exact no h
  | some ti =>
   rw [hi] at h
   dsimp only at h
   rw [jf, jf] at h
   cases hc : (Nat.blt 0 ti.size && Nat.blt 0 ti.bytes && ZY P e ti.size) with
   | false => rw [hc] at h; exact no h
   | true =>
    rw [hc] at h
    dsimp only at h
    obtain ⟨n, new, h1, h2, h⟩ := JdM h
    rcases Jbv h with ⟨id, off, len, cap, op, rfl, hz⟩ | ⟨rfl, hz⟩ | ⟨_, _, _, hz⟩ <;> clear h <;> have h := hz <;> clear hz
    ·obtain ⟨b, h3, h⟩ := Jaz h
     obtain ⟨h4, h⟩ := ZaP h
     rcases Za6 h with ⟨h5, h⟩ | ⟨h5, h⟩
     ·obtain ⟨h6, h⟩ := ZaP h
      rw [JaF] at h
      obtain ⟨cs, h7, h⟩ := ZaV h
      rw [Zdo, zq] at h
      exact ⟨_, _, by simp only [ZE, hu, hi, h1, h2, hc, cond_true, h3, h4, h5, h6, h7, jf], h⟩
     ·rw [JaF] at h
      have fin : ∀ b' : Blk, JaN b off len ti.size new = some b' → ifB op (ifB (Nat.ble ro id && b.op && Nat.beq b.es ti.size && Nat.beq (off + cap * ti.size) b.sz) (jbV st id none fun st => Zbv st b' fun nx st => Jaa (len + n) fun m => k (.sl nx 0 m m true) st) false)
         (Zbv st b' fun nx st => Jaa (len + n) fun m => k (.sl nx 0 m m true) st) = true → ∃ v st', ZE P ro st t (.sl id off len cap op) x = some (v, st') ∧ k v st' = true := by
       intro b' hg h
       rcases Za6 h with ⟨rfl, h⟩ | ⟨rfl, h⟩
       ·obtain ⟨h8, h⟩ := ZaP h
        rw [zb8, JaV, zq] at h
        refine ⟨_, _, ?_, h⟩
        simp only [ZE, hu, hi, h1, h2, hc, cond_true, cond_false, h3, h4, h5, hg, h8, jf]
        rw [St.kill_eq]
       ·rw [JaV, zq] at h
        refine ⟨_, _, ?_, h⟩
        simp only [ZE, hu, hi, h1, h2, hc, cond_true, cond_false, h3, h4, h5, hg, jf]
      rcases Za6 h with ⟨h6, h⟩ | ⟨h6, h⟩
      ·rw [Jc0, zq] at h
       obtain ⟨cs, h7, h⟩ := ZaV (b := ⟨b.cs, b.zero, b.sz + new.length, b.es, true⟩) h
       refine fin _ ?_ h
       simp only [JaN, h6, cond_true, Blk.grow]
       exact h7
      ·obtain ⟨old, h7, h⟩ := jaV h
       obtain ⟨b', h8, h⟩ := zbw h
       refine fin _ ?_ h
       simp only [JaN, h6, cond_false, h7]
       exact h8
    ·obtain ⟨h4, h⟩ := ZaP h
     rcases Za6 h with ⟨h5, h⟩ | ⟨h5, h⟩
     ·exact ⟨_, _, by simp only [ZE, hu, hi, h1, h2, hc, cond_true, h4, h5], h⟩
     ·obtain ⟨b, h6, h⟩ := zbw h
      rw [JaV] at h
      exact ⟨_, _, by simp only [ZE, hu, hi, h1, h2, hc, cond_true, cond_false, h4, h5, h6, jf], h⟩
    ·exact no h
 ·exact no h
end
end Go.Vk
namespace Go.Vk
open Go.Vm
section
variable {P : Program} {ro : Nat}
theorem zcO {k : Nat → Nat → Bool} : ∀ (cs : List V) (l pw acc : Nat), (List.rec (motive := fun _ => Nat → Nat → Nat → Bool) (fun l _ acc => k l acc) (fun v _ ih l pw acc => onI v fun kd n => ifB (Nat.beq (zei kd) 4) (onN n (fun c => Jaa (l + 1) fun l => Jaa (acc + c % 256 * pw) fun acc => Jaa (256 * pw) fun pw => ih l pw acc) false) false) cs l pw acc : Bool) = true →
  ∃ r, zi cs = some r ∧ k (l + r.length) (acc + pw * jv r) = true
 | [], l, pw, acc, h => ⟨[], rfl, by simpa [jv] using h⟩
 | v :: cs, l, pw, acc, h => by
  obtain ⟨kd, n, rfl, hz⟩ := Zag h
  clear h
  have h := hz
  clear hz
  obtain ⟨h1, h⟩ := ZaP h
  have hk : kd = .u8 := Jdo (b := .u8) h1
  subst hk
  rcases jd4 h with ⟨c, rfl, hz⟩ | hz <;> clear h <;> have h := hz <;> clear hz
  ·rw [zq, zq, zq] at h
   obtain ⟨r, h2, h3⟩ := zcO cs _ _ _ h
   refine ⟨UInt8.ofNat c :: r, by simp only [zi, h2]; rfl, ?_⟩
   have e1 : (UInt8.ofNat c).toNat = c % 256 := by simp
   simp only [jv, List.length_cons, e1]
   have e2 : acc + pw * (c % 256 + 256 * jv r) = acc + c % 256 * pw + 256 * pw * jv r := by
    rw [Nat.mul_add, Nat.mul_comm pw (c % 256), ← Nat.mul_assoc, Nat.mul_comm pw 256, Nat.add_assoc]
   rw [e2, show l + (r.length + 1) = l + 1 + r.length from by omega]
   exact h3
  ·exact no h
theorem jej {cs : List V} {k : Nat → Nat → Bool} (h : Zgi cs k = true) : ∃ r, zi cs = some r ∧ k r.length (jv r) = true := by
 obtain ⟨r, h1, h2⟩ := zcO cs 0 1 0 h
 exact ⟨r, h1, by simpa using h2⟩
theorem Zej {s d : TypeId} {st : St} {x : V} {k : V → St → Bool} (h : (zfR P s d).run st x k = true) : ∃ v st', Zo P st s d x = some (v, st') ∧ k v st' = true := by
 unfold zfR at h
 split at h
 ·rename_i e hs hd
  split at h
  ·rename_i he
   rcases Jbv h with ⟨id, off, len, c, op, rfl, hz⟩ | ⟨rfl, hz⟩ | ⟨_, _, _, hz⟩ <;> clear h <;> have h := hz <;> clear hz
   ·obtain ⟨b, h1, h⟩ := Jaz h
    rw [JaF] at h
    obtain ⟨cs, h2, h⟩ := jaV h
    obtain ⟨r, h3, h⟩ := jej h
    refine ⟨_, _, ?_, h⟩
    simp only [Zo, hs, hd, he, h1, jdY h2 h3]
    rfl
   ·exact ⟨_, _, by simp only [Zo, hs, hd, he], h⟩
   ·exact no h
  ·exact no h
 ·rename_i ds hno hs hd
  obtain ⟨l, y, rfl, hz⟩ := Zc0 h
  clear h
  have h := hz
  clear hz
  refine ⟨_, _, ?_, h⟩
  unfold Zo
  rw [hs, hd]
 ·rename_i ds kd hs hd
  obtain ⟨k0, n, rfl, hz⟩ := Zag h
  clear h
  have h := hz
  clear hz
  rw [Jfg] at h
  refine ⟨_, _, ?_, h⟩
  unfold Zo
  rw [hs, hd]
 ·obtain ⟨v, st', h1, h2⟩ := jaA h
  rw [jK] at h2
  exact ⟨v, st', h1, h2⟩
theorem zdN {ro : Nat} {s d : TypeId} {st : St} {x : V} {k : V → St → Bool} (h : (ZeJ P ro s d).run st x k = true) : ∃ v st', Zbf P ro st s d x = some (v, st') ∧ k v st' = true := by
 unfold ZeJ at h
 split at h
 ·obtain ⟨v, st', h1, h2⟩ := jaA h
  rw [jK] at h2
  exact ⟨v, st', h1, h2⟩
 ·obtain ⟨v, st', h1, h2⟩ := Zej h
  exact ⟨v, st', Jdi h1, h2⟩
end
end Go.Vk
namespace Go.Vk
open Go.Vm
section
variable {P : Program} {ov : Ov} {ro mask : Nat} {jb : List Nat} {fr fr0 : T V} {ls : List V} {st : St}
def KOK (P : Program) (ov : Ov) (ro : Nat) (call : KCall) : Prop :=
 ∀ f args st k, call f args st k = true → ∃ v st', Even (fun m => evF P ov ro m f args st) (v, st') ∧ k v st' = true
def OpT (P : Program) (ov : Ov) (ro : Nat) (fr0 : T V) (st : St) (op : Op) (k : Option V → St → Bool) : Prop :=
 ∃ v st', Even (fun m => vop P ro (evF P ov ro m) fr0 st op) (v, st') ∧ k v st' = true
theorem OpT.now {op : Op} {k : Option V → St → Bool} {v : Option V} {st' : St} (h : ∀ call, vop P ro call fr0 st op = some (v, st')) (hk : k v st' = true) : OpT P ov ro fr0 st op k :=
 ⟨v, st', ⟨0, fun _ _ => h _⟩, hk⟩
theorem Jej {l : List V} {k : V → V → Bool} (h : Jgi l k = true) : ∃ x y, l = [x, y] ∧ k x y = true := by
 cases l with
 | nil => exact no h
 | cons x r => cases r with
  | nil => exact no h
  | cons y r => cases r with
   | nil => exact ⟨x, y, rfl, h⟩
   | cons _ _ => exact no h
theorem jcO {l : List V} {k : V → Bool} (h : ZfR l k = true) : ∃ x, l = [x] ∧ k x = true := by
 cases l with
 | nil => exact no h
 | cons x r => cases r with
  | nil => exact ⟨x, rfl, h⟩
  | cons _ _ => exact no h
theorem Jck (hr : Rel mask jb fr ls fr0) {xs : Array Operand} {b : Builtin} {ts : Array TypeId} {call : KCall} {k : Option V → St → Bool} (h : (zd4 P ro (jaf mask jb xs.toList) b ts.toList).run call fr ls st k = true) :
  OpT P ov ro fr0 st (.call ⟨.builtin b, xs, ts⟩) k := by
 obtain ⟨args, h1, h2⟩ := jH hr (show (jaf mask jb xs.toList).run fr ls _ = true from h)
 obtain ⟨v, st', h3, h4⟩ := jaA h2
 rw [jK] at h4
 exact OpT.now (fun call => by simp only [vop, h1, h3]) h4
theorem jc1 (hr : Rel mask jb fr ls fr0) {xs : Array Operand} {b : Builtin} {ts : Array TypeId} {call : KCall} {k : Option V → St → Bool} (h : (JcZ P ro (jaf mask jb xs.toList) b ts.toList).run call fr ls st k = true) :
  OpT P ov ro fr0 st (.call ⟨.builtin b, xs, ts⟩) k := by
 unfold JcZ at h
 split at h
 ·rename_i t u hts
  split at h
  ·exact no h
  ·rename_i d hni hu
   obtain ⟨args, h1, h2⟩ := jH hr (show (jaf mask jb xs.toList).run fr ls _ = true from h)
   obtain ⟨s, x, rfl, h3⟩ := Jej h2
   obtain ⟨v, st', h4, h5⟩ := jdp h3
   refine OpT.now (fun call => ?_) h5
   have hb : Jo P ro .append [t, u] [s, x] st = ZE P ro st t s x := by
    simp only [Jo, hu]
   simp only [vop, h1, hts, hb, h4]
  ·exact no h
 ·rename_i t hts
  split at h
  ·rename_i hu
   obtain ⟨args, h1, h2⟩ := jH hr (show (jaf mask jb xs.toList).run fr ls _ = true from h)
   obtain ⟨x, rfl, h3⟩ := jcO h2
   obtain ⟨l, y, rfl, h4⟩ := Zc0 h3
   exact OpT.now (fun call => by simp only [vop, h1, hts, Jo, Z7, hu]) h4
  ·rename_i e hu
   obtain ⟨args, h1, h2⟩ := jH hr (show (jaf mask jb xs.toList).run fr ls _ = true from h)
   obtain ⟨x, rfl, h3⟩ := jcO h2
   rcases ZeK h3 with ⟨⟨g, o, q, rfl⟩ | ⟨a, rfl⟩, h4⟩ | h3
   ·exact OpT.now (fun call => by simp only [vop, h1, hts, Jo, Z7, hu]; rfl) h4
   ·exact OpT.now (fun call => by simp only [vop, h1, hts, Jo, Z7, hu]; rfl) h4
   rcases Jbv h3 with ⟨id, off, l, c, op, rfl, h4⟩ | ⟨rfl, h4⟩ | ⟨_, _, _, h4⟩
   ·exact OpT.now (fun call => by simp only [vop, h1, hts, Jo, Z7, hu]) h4
   ·exact OpT.now (fun call => by simp only [vop, h1, hts, Jo, Z7, hu]; rfl) h4
   ·exact no h4
  ·have h' : (zd4 P ro (jaf mask jb xs.toList) .len ts.toList).run call fr ls st k = true := h
   exact Jck hr h'
 ·exact Jck hr h
theorem Zdp (hr : Rel mask jb fr ls fr0) {c : Call} {call : KCall} (hc : KOK P ov ro call) {k : Option V → St → Bool} (h : (JeJ P ro mask jb (jaf mask jb c.args.toList) c.argTypes.toList c.callee).run call fr ls st k = true) :
  OpT P ov ro fr0 st (.call c) k := by
 obtain ⟨callee, xs, ts⟩ := c
 cases callee with
 | builtin b => exact jc1 hr h
 | invoke _ _ => exact no h
 | value o =>
  have slow : (∀ f, o ≠ .func f) → OpT P ov ro fr0 st (.call ⟨.value o, xs, ts⟩) k := by
   intro hno
   have h' : (jaf mask jb xs.toList).run fr ls (fun args => (Js mask jb o).run fr ls fun g => onF g fun fn first caps => match fn with
    | .func f => call f (first ++ args ++ caps) st fun v st => k (some v) st
    | _ => false) = true := by
    cases o with
    | func f => exact absurd rfl (hno f)
    | _ => exact h
   obtain ⟨args, h1, h2⟩ := jH hr h'
   obtain ⟨g, h3, h4⟩ := zf hr h2
   obtain ⟨fn, first, caps, rfl, h5⟩ := jfg h4
   cases fn with
   | func f =>
    obtain ⟨v, st', ⟨m, h6⟩, h7⟩ := hc f _ st _ h5
    exact ⟨some v, st', ⟨m, fun m' hm => by dsimp only at h6; simp only [vop, h1, h3, h6 m' hm]⟩, h7⟩
   | _ => exact no h5
  cases o with
  | func f =>
   obtain ⟨args, h1, h2⟩ := jH hr (show (jaf mask jb xs.toList).run fr ls _ = true from h)
   obtain ⟨v, st', ⟨m, h3⟩, h4⟩ := hc f args st _ h2
   exact ⟨some v, st', ⟨m, fun m' hm => by dsimp only at h3; simp only [vop, h1, jq, List.nil_append, List.append_nil, h3 m' hm]⟩, h4⟩
  | _ => exact slow (fun f e => by cases e)
theorem Jbw (hr : Rel mask jb fr ls fr0) {call : KCall} (hc : KOK P ov ro call) {op : Op} {k : Option V → St → Bool} (h : (kop P ro mask jb op).run call fr ls st k = true) : OpT P ov ro fr0 st op k := by
 cases op with
 | move x =>
  obtain ⟨v, h1, h2⟩ := zf hr (show (Js mask jb x).run fr ls _ = true from h)
  exact OpT.now (fun call => by simp only [vop, h1]) h2
 | assign x =>
  obtain ⟨v, h1, h2⟩ := zf hr (show (Js mask jb x).run fr ls _ = true from h)
  exact OpT.now (fun call => by simp only [vop, h1]) h2
 | pick c a b =>
  obtain ⟨v, h1, h2⟩ := zf hr (show (Js mask jb c).run fr ls _ = true from h)
  rcases jc0 h2 with ⟨rfl, h3⟩ | ⟨rfl, h3⟩
  ·obtain ⟨v, h4, h5⟩ := zf hr h3
   exact OpT.now (fun call => by simp only [vop, h1, cond_true, h4]) h5
  ·obtain ⟨v, h4, h5⟩ := zf hr h3
   exact OpT.now (fun call => by simp only [vop, h1, cond_false, h4]) h5
 | binOp op t x y u =>
  obtain ⟨a, h1, h2⟩ := zf hr (show (Js mask jb x).run fr ls _ = true from h)
  obtain ⟨b, h3, h4⟩ := zf hr h2
  obtain ⟨v, h5, h6⟩ := zeM h4
  exact OpT.now (fun call => by simp only [vop, h1, h3, h5]) h6
 | unOp op t x =>
  obtain ⟨a, h1, h2⟩ := zf hr (show (Js mask jb x).run fr ls _ = true from h)
  obtain ⟨v, h3, h4⟩ := zaA h2
  exact OpT.now (fun call => by simp only [vop, h1, h3]) h4
 | convert s d x =>
  obtain ⟨a, h1, h2⟩ := zf hr (show (Js mask jb x).run fr ls _ = true from h)
  obtain ⟨v, st', h3, h4⟩ := zdN h2
  exact OpT.now (fun call => by simp only [vop, h1, h3]) h4
 | field t x f =>
  obtain ⟨a, h1, h2⟩ := zf hr (show (Js mask jb x).run fr ls _ = true from h)
  obtain ⟨v, h3, h4⟩ := zaA h2
  exact OpT.now (fun call => by simp only [vop, h1, h3]) h4
 | index t x i =>
  obtain ⟨a, h1, h2⟩ := zf hr (show (Js mask jb x).run fr ls _ = true from h)
  obtain ⟨b, h3, h4⟩ := zf hr h2
  obtain ⟨kd, n, v, rfl, h5, h6⟩ := jdM h4
  exact OpT.now (fun call => by simp only [vop, h1, h3, h5]) h6
 | indexAddr t x i =>
  obtain ⟨a, h1, h2⟩ := zf hr (show (Js mask jb x).run fr ls _ = true from h)
  obtain ⟨b, h3, h4⟩ := zf hr h2
  obtain ⟨kd, n, rfl, h5⟩ := Zag h4
  obtain ⟨v, h6, h7⟩ := zaA h5
  exact OpT.now (fun call => by simp only [vop, h1, h3, h6]) h7
 | fieldAddr t x f =>
  obtain ⟨a, h1, h2⟩ := zf hr (show (Js mask jb x).run fr ls _ = true from h)
  obtain ⟨g, o, rfl, h3⟩ := Ja6 h2
  obtain ⟨v, h4, h5⟩ := zaA h3
  exact OpT.now (fun call => by simp only [vop, h1, h4]) h5
 | load t x =>
  obtain ⟨a, h1, h2⟩ := zf hr (show (Js mask jb x).run fr ls _ = true from h)
  obtain ⟨g, o, rfl, h3⟩ := Ja6 h2
  obtain ⟨v, h4, h5⟩ := ja7 h3
  exact OpT.now (fun call => by simp only [vop, h1, h4]) h5
 | store t x v =>
  obtain ⟨a, h1, h2⟩ := zf hr (show (Js mask jb x).run fr ls _ = true from h)
  obtain ⟨b, h3, h4⟩ := zf hr h2
  obtain ⟨g, o, rfl, h5⟩ := Ja6 h4
  obtain ⟨st', h6, h7⟩ := ZdM h5
  exact OpT.now (fun call => by simp only [vop, h1, h3, h6]) h7
 | alloc t =>
  simp only [kop] at h
  cases hz : j7 P t with
  | none => rw [hz] at h; exact no h
  | some z => cases hs : zy P t with
   | none => rw [hz, hs] at h; exact no h
   | some n =>
    rw [hz, hs] at h
    dsimp only at h
    rw [jf] at h
    dsimp only at h
    obtain ⟨v, st', h1, h2⟩ := ZbV h
    exact OpT.now (fun call => by simp only [vop, hz, hs, h1]) h2
 | box t x =>
  simp only [kop] at h
  cases hs : zy P t with
  | none => rw [hs] at h; exact no h
  | some n =>
   rw [hs] at h
   dsimp only at h
   rw [jf] at h
   obtain ⟨a, h1, h2⟩ := zf hr (show (Js mask jb x).run fr ls _ = true from h)
   obtain ⟨v, st', h3, h4⟩ := ZbV h2
   exact OpT.now (fun call => by simp only [vop, h1, hs, h3]) h4
 | build t ps =>
  obtain ⟨vs, h1, h2⟩ := zbl hr (show (JcM mask jb ps.toList).run fr ls _ = true from h)
  obtain ⟨v, h3, h4⟩ := zaA h2
  exact OpT.now (fun call => by simp only [vop, h1, h3]) h4
 | buildSlice t len ps =>
  simp only [kop] at h
  split at h
  ·rename_i o hps
   obtain ⟨v, h1, h2⟩ := zf hr (show (Js mask jb o).run fr ls _ = true from h)
   obtain ⟨x, st', h3, h4⟩ := jeM h2
   exact OpT.now (fun call => by simp only [vop, hps, zE, h1, h3]) h4
  ·obtain ⟨vs, h1, h2⟩ := zbl hr (show (JcM mask jb ps.toList).run fr ls _ = true from h)
   obtain ⟨v, st', h3, h4⟩ := jaA h2
   rw [jK] at h4
   exact OpT.now (fun call => by simp only [vop, h1, h3]) h4
 | makeSlice t l c =>
  obtain ⟨a, h1, h2⟩ := zf hr (show (Js mask jb l).run fr ls _ = true from h)
  obtain ⟨b, h3, h4⟩ := zf hr h2
  obtain ⟨k1, n, rfl, h5⟩ := Zag h4
  obtain ⟨k2, m, rfl, h6⟩ := Zag h5
  obtain ⟨v, st', h7, h8⟩ := jaA h6
  rw [jK] at h8
  exact OpT.now (fun call => by simp only [vop, h1, h3, h7]) h8
 | slice t x lo hi mx =>
  obtain ⟨a, h1, h2⟩ := zf hr (show (Js mask jb x).run fr ls _ = true from h)
  clear h
  rcases Jbk hr h2 with ⟨rfl, h3⟩ | ⟨o1, v1, rfl, e1, h3⟩ <;> clear h2 <;> rcases Jbk hr h3 with ⟨rfl, h4⟩ | ⟨o2, v2, rfl, e2, h4⟩ <;> clear h3 <;> rcases Jbk hr h4 with ⟨rfl, h5⟩ | ⟨o3, v3, rfl, e3, h5⟩ <;> clear h4 <;> obtain ⟨v, h6, h7⟩ := zaA h5 <;>
   exact OpT.now (fun call => by simp only [vop, Option.map_some, *]) h7
 | nilCheck x =>
  obtain ⟨a, h1, h2⟩ := zf hr (show (Js mask jb x).run fr ls _ = true from h)
  obtain ⟨g, o, rfl, h3⟩ := Ja6 h2
  exact OpT.now (fun call => by simp only [vop, h1]) h3
 | makeFunc fn first caps =>
  obtain ⟨xs, h1, h2⟩ := jH hr (show (jaf mask jb first.toList).run fr ls _ = true from h)
  obtain ⟨ys, h3, h4⟩ := jH hr h2
  exact OpT.now (fun call => by simp only [vop, h1, h3]) h4
 | extract x i =>
  obtain ⟨a, h1, h2⟩ := zf hr (show (Js mask jb x).run fr ls _ = true from h)
  obtain ⟨vs, rfl, h3⟩ := Zfg h2
  obtain ⟨v, h4, h5⟩ := jcN h3
  exact OpT.now (fun call => by simp only [vop, h1, h4]) h5
 | call c => exact Zdp hr hc h
 | _ => exact no h
theorem Rel.put {nt : Nat} (hr : Rel mask jb fr ls fr0) {dst : Option Nat} {v : Option V} {k : T V → List V → Bool} (h : (JcD nt mask dst).run fr ls v k = true) :
  ∃ fr0', Jaf nt fr0 dst v = some fr0' ∧ ∃ fr' ls', Rel mask (zA mask jb dst) fr' ls' fr0' ∧ k fr' ls' = true := by
 cases dst with
 | none => exact ⟨fr0, rfl, fr, ls, hr, h⟩
 | some d =>
  simp only [JcD] at h
  cases hd : Nat.blt d nt with
  | false => rw [hd] at h; exact no h
  | true =>
   rw [hd] at h
   have key : ∀ u : V, Jaf nt fr0 (some d) v = some (fr0.upd d (some u)) → (match jcD mask d with | true => JfQ (zaf d) fr u (fun fr => k fr ls) | false => k fr (u :: ls)) = true →
     ∃ fr0', Jaf nt fr0 (some d) v = some fr0' ∧ ∃ fr' ls', Rel mask (zA mask jb (some d)) fr' ls' fr0' ∧ k fr' ls' = true := by
    intro u hu hk
    refine ⟨_, hu, ?_⟩
    simp only [zA]
    cases hl : jcD mask d with
    | true =>
     rw [hl] at hk
     dsimp only at hk
     rw [JeL] at hk
     refine ⟨fr.upd d (some u), ls, ⟨fun t v ht hg => ?_, fun t j v hp hj => ?_, hr.sep⟩, hk⟩
     ·rw [T.get_upd] at hg ⊢
      by_cases e : t = d
      ·rw [if_pos e] at hg ⊢; exact hg
      ·rw [if_neg e] at hg ⊢; exact hr.tree t v ht hg
     ·by_cases e : t = d
      ·subst e; rw [hr.sep t j hp] at hl; cases hl
      ·rw [T.get_upd, if_neg e]; exact hr.loc t j v hp hj
    | false =>
     rw [hl] at hk
     refine ⟨fr, u :: ls, ⟨fun t v ht hg => ?_, fun t j v hp hj => ?_, fun t j hp => ?_⟩, hk⟩
     ·rw [T.get_upd]
      by_cases e : t = d
      ·subst e; rw [hl] at ht; cases ht
      ·rw [if_neg e]; exact hr.tree t v ht hg
     ·simp only [jcZ] at hp
      rw [T.get_upd]
      cases hq : Nat.beq d t with
      | true =>
       rw [hq] at hp
       obtain rfl := Option.some.inj hp
       rw [Nat.beq_eq] at hq
       rw [if_pos hq.symm]
       simpa using hj
      | false =>
       rw [hq] at hp
       have hne : t ≠ d := fun e => by subst e; rw [Nat.beq_refl] at hq; cases hq
       rw [if_neg hne]
       cases hq2 : jcZ jb t with
       | none => rw [hq2] at hp; cases hp
       | some i =>
        rw [hq2] at hp
        obtain rfl := Option.some.inj hp
        exact hr.loc t i v hq2 (by simpa using hj)
     ·simp only [jcZ] at hp
      cases hq : Nat.beq d t with
      | true => rw [Nat.beq_eq] at hq; subst hq; exact hl
      | false =>
       rw [hq] at hp
       cases hq2 : jcZ jb t with
       | none => rw [hq2] at hp; cases hp
       | some i => exact hr.sep t i hq2
   cases v with
   | none => exact key JfR (by simp only [Jaf, hd, cond_true]; rfl) (by cases hl : jcD mask d <;> (rw [hl] at h; exact h))
   | some u => exact key u (by simp only [Jaf, hd, cond_true, V.force_eq]) (by cases hl : jcD mask d <;> (rw [hl] at h; exact h))
end
end Go.Vk
namespace Go.Vk
open Go.Vm
section
variable {P : Program} {ov : Ov} {ro mask nt L : Nat} {jb : List Nat} {fr fr0 : T V} {ls : List V} {st : St}
theorem Zgj {n : Nat} : evF P ov ro n = Zv P ov (evC P ov ro n) := rfl
theorem jG (hr : Rel mask jb fr ls fr0) {ops : Array Oper} {o : Oper} {t f : Bool} (h : (JO mask jb ops o.guard).run fr ls t f = true) :
  (Jj ops fr0 o = some true ∧ t = true) ∨ (Jj ops fr0 o = some false ∧ f = true) := by
 unfold Jj
 cases hg : o.guard with
 | none => rw [hg] at h; exact .inl ⟨rfl, h⟩
 | some g =>
  obtain ⟨j, want⟩ := g
  rw [hg] at h
  simp only [JO] at h
  dsimp only
  cases hd : (ops[j]?).bind (·.dst) with
  | none => rw [hd] at h; exact .inr ⟨rfl, h⟩
  | some d =>
   rw [hd] at h
   dsimp only
   cases want with
   | true =>
    obtain ⟨v, h1, h2⟩ := zaV hr (show (jeI mask jb d).run fr ls _ = true from h)
    rw [h1]
    rcases zdo h2 with ⟨rfl, h3⟩ | ⟨rfl, h3⟩ | ⟨hx, h3⟩
    ·exact .inl ⟨rfl, h3⟩
    ·exact .inr ⟨rfl, h3⟩
    ·refine .inr ⟨?_, h3⟩
     cases v <;> first | rfl | exact absurd rfl (hx _)
   | false =>
    obtain ⟨v, h1, h2⟩ := zaV hr (show (jeI mask jb d).run fr ls _ = true from h)
    rw [h1]
    rcases zdo h2 with ⟨rfl, h3⟩ | ⟨rfl, h3⟩ | ⟨hx, h3⟩
    ·exact .inr ⟨rfl, h3⟩
    ·exact .inl ⟨rfl, h3⟩
    ·refine .inr ⟨?_, h3⟩
     cases v <;> first | rfl | exact absurd rfl (hx _)
theorem zbx {call : KCall} (hc : KOK P ov ro call) {ops : Array Oper} : ∀ (l : List Oper) {jb : List Nat} {fr fr0 : T V} {ls : List V} {st : St} {k : T V → St → Bool}, Rel mask jb fr ls fr0 → (zeK P ro nt mask ops jb l).run call fr ls st k = true →
  ∃ fr0' st', Even (fun m => zbi P ro nt (evF P ov ro m) ops l fr0 st) (fr0', st') ∧ ∃ fr', Rel mask [] fr' [] fr0' ∧ k fr' st' = true
 | [], jb, fr, fr0, ls, st, k, hr, h => ⟨fr0, st, ⟨0, fun _ _ => rfl⟩, fr, hr.drop, h⟩
 | o :: r, jb, fr, fr0, ls, st, k, hr, h => by
  have yes : Jj ops fr0 o = some true → (kop P ro mask jb o.op).run call fr ls st (fun v st => (JcD nt mask o.dst).run fr ls v fun fr ls => (zeK P ro nt mask ops (zA mask jb o.dst) r).run call fr ls st k) = true →
    ∃ fr0' st', Even (fun m => zbi P ro nt (evF P ov ro m) ops (o :: r) fr0 st) (fr0', st') ∧ ∃ fr', Rel mask [] fr' [] fr0' ∧ k fr' st' = true := by
   intro hw h
   obtain ⟨v, st1, ⟨m1, h1⟩, h2⟩ := Jbw hr hc h
   obtain ⟨fr1, h3, fr2, ls2, hr2, h4⟩ := hr.put h2
   obtain ⟨fr3, st3, ⟨m2, h5⟩, h6⟩ := zbx hc r hr2 h4
   dsimp only at h1 h5
   exact ⟨fr3, st3, ⟨max m1 m2, fun m' hm => by simp only [zbi, hw, h1 m' (by omega), h3, h5 m' (by omega)]⟩, h6⟩
  cases hg : o.guard with
  | none =>
   simp only [zeK, hg] at h
   exact yes (by unfold Jj; rw [hg]) h
  | some g =>
   simp only [zeK, hg] at h
   rw [← hg] at h
   rcases jG hr h with ⟨hw, h1⟩ | ⟨hw, h1⟩
   ·exact yes hw h1
   ·obtain ⟨fr1, h3, fr2, ls2, hr2, h4⟩ := hr.put h1
    obtain ⟨fr3, st3, ⟨m2, h5⟩, h6⟩ := zbx hc r hr2 h4
    dsimp only at h5
    exact ⟨fr3, st3, ⟨m2, fun m' hm => by simp only [zbi, hw, h3, h5 m' hm]⟩, h6⟩
theorem Za7 {call : KCall} (hc : KOK P ov ro call) {ops : Array Oper} : ∀ (l : List Oper) {jb : List Nat} {fr fr0 : T V} {ls : List V} {st : St} {k : T V → St → Bool}, Rel mask jb fr ls fr0 → (zcE P ro nt mask ops jb l).run call fr ls st k = true →
  ∃ fr0', Even (fun m => ZL P ro nt (evF P ov ro m) ops l fr0 st) fr0' ∧ ∃ fr', Rel mask [] fr' [] fr0' ∧ k fr' st = true
 | [], jb, fr, fr0, ls, st, k, hr, h => ⟨fr0, ⟨0, fun _ _ => rfl⟩, fr, hr.drop, h⟩
 | o :: r, jb, fr, fr0, ls, st, k, hr, h => by
  have skip : Jj ops fr0 o = some false → (JcD nt mask o.dst).run fr ls none (fun fr ls => (zcE P ro nt mask ops (zA mask jb o.dst) r).run call fr ls st k) = true →
    ∃ fr0', Even (fun m => ZL P ro nt (evF P ov ro m) ops (o :: r) fr0 st) fr0' ∧ ∃ fr', Rel mask [] fr' [] fr0' ∧ k fr' st = true := by
   intro hw h1
   obtain ⟨fr1, h3, fr2, ls2, hr2, h4⟩ := hr.put h1
   obtain ⟨fr3, ⟨m2, h5⟩, h6⟩ := Za7 hc r hr2 h4
   dsimp only at h5
   exact ⟨fr3, ⟨m2, fun m' hm => by simp only [ZL, hw, h3, h5 m' hm]⟩, h6⟩
  simp only [zcE] at h
  cases hq : Jz o.op with
  | true =>
   rw [hq] at h
   rcases jG hr (show (JO mask jb ops o.guard).run fr ls _ _ = true from h) with ⟨hw, h1⟩ | ⟨hw, h1⟩
   ·obtain ⟨v, st1, ⟨m1, h2⟩, h3⟩ := Jbw hr hc h1
    obtain ⟨h4, h5⟩ := ZaP h3
    obtain ⟨fr1, h6, fr2, ls2, hr2, h7⟩ := hr.put h5
    obtain ⟨fr3, ⟨m2, h8⟩, h9⟩ := Za7 hc r hr2 h7
    dsimp only at h2 h8
    exact ⟨fr3, ⟨max m1 m2, fun m' hm => by simp only [ZL, hw, hq, h2 m' (by omega), h4, cond_true, h6, h8 m' (by omega)]⟩, h9⟩
   ·exact skip hw h1
  | false =>
   rw [hq] at h
   rcases jG hr (show (JO mask jb ops o.guard).run fr ls _ _ = true from h) with ⟨hw, h1⟩ | ⟨hw, h1⟩
   ·exact no h1
   ·exact skip hw h1
theorem JbH {call : KCall} (hc : KOK P ov ro call) {ops : Array Oper} {tl : List Oper} : ∀ (l : List Oper) {jb : List Nat} {fr fr0 : T V} {ls : List V} {st : St} {k : T V → St → Bool}, Rel mask jb fr ls fr0 → (Jdn P ro nt mask ops tl jb l).run call fr ls st k = true →
  ∃ fr0' fr1' st', Even (fun m => ZL P ro nt (evF P ov ro m) ops l fr0 st) fr0' ∧ Even (fun m => zbi P ro nt (evF P ov ro m) ops tl fr0' st) (fr1', st') ∧ ∃ fr', Rel mask [] fr' [] fr1' ∧ k fr' st' = true
 | [], jb, fr, fr0, ls, st, k, hr, h => by
  obtain ⟨fr1, st1, h1, h2⟩ := zbx hc tl hr (show (zeK P ro nt mask ops jb tl).run call fr ls st k = true from h)
  exact ⟨fr0, fr1, st1, ⟨0, fun _ _ => rfl⟩, h1, h2⟩
 | o :: r, jb, fr, fr0, ls, st, k, hr, h => by
  have skip : Jj ops fr0 o = some false → (JcD nt mask o.dst).run fr ls none (fun fr ls => (Jdn P ro nt mask ops tl (zA mask jb o.dst) r).run call fr ls st k) = true →
    ∃ fr0' fr1' st', Even (fun m => ZL P ro nt (evF P ov ro m) ops (o :: r) fr0 st) fr0' ∧ Even (fun m => zbi P ro nt (evF P ov ro m) ops tl fr0' st) (fr1', st') ∧ ∃ fr', Rel mask [] fr' [] fr1' ∧ k fr' st' = true := by
   intro hw h1
   obtain ⟨fr1, h3, fr2, ls2, hr2, h4⟩ := hr.put h1
   obtain ⟨fr3, fr4, st4, ⟨m2, h5⟩, h6⟩ := JbH hc r hr2 h4
   dsimp only at h5
   exact ⟨fr3, fr4, st4, ⟨m2, fun m' hm => by simp only [ZL, hw, h3, h5 m' hm]⟩, h6⟩
  simp only [Jdn] at h
  cases hq : Jz o.op with
  | true =>
   rw [hq] at h
   rcases jG hr (show (JO mask jb ops o.guard).run fr ls _ _ = true from h) with ⟨hw, h1⟩ | ⟨hw, h1⟩
   ·obtain ⟨v, st1, ⟨m1, h2⟩, h3⟩ := Jbw hr hc h1
    obtain ⟨h4, h5⟩ := ZaP h3
    obtain ⟨fr1, h6, fr2, ls2, hr2, h7⟩ := hr.put h5
    obtain ⟨fr3, fr4, st4, ⟨m2, h8⟩, h9⟩ := JbH hc r hr2 h7
    dsimp only at h2 h8
    exact ⟨fr3, fr4, st4, ⟨max m1 m2, fun m' hm => by simp only [ZL, hw, hq, h2 m' (by omega), h4, cond_true, h6, h8 m' (by omega)]⟩, h9⟩
   ·exact skip hw h1
  | false =>
   rw [hq] at h
   rcases jG hr (show (JO mask jb ops o.guard).run fr ls _ _ = true from h) with ⟨hw, h1⟩ | ⟨hw, h1⟩
   ·exact no h1
   ·exact skip hw h1
theorem ZcO {st : St} {b : Bool} : ∀ {es : List Ent}, Zff P st es b = true → zbb P st es = true ∧ b = true
 | [], h => ⟨rfl, h⟩
 | e :: r, h => by
  have h' : (ZdL P e.t).run st e.id e.off (fun v => ifB (jcR v e.v) (Zff P st r b) false) = true := h
  obtain ⟨v, h1, h2⟩ := ja7 h'
  obtain ⟨h3, h4⟩ := ZaP h2
  obtain ⟨h5, h6⟩ := ZcO h4
  exact ⟨by simp only [zbb, h1, h3, cond_true, h5], h6⟩
theorem jdN {c : Bool} {st : St} {b : Bool} {es : List Ent} (h : ZfB P c st es b = true) : (c || zbb P st es) = true ∧ b = true := by
 cases c with
 | true => exact ⟨rfl, h⟩
 | false =>
  obtain ⟨h1, h2⟩ := ZcO (show Zff P st es b = true from h)
  exact ⟨by rw [h1]; rfl, h2⟩
theorem zaW {call : KCall} (hc : KOK P ov ro call) {ops : Array Oper} : ∀ (l : List (Nat × Oper)) {jb : List Nat} {fr fr0 : T V} {ls : List V} {es : List Ent} {st : St} {k : T V → St → Bool}, Rel mask jb fr ls fr0 → (jeK P ro nt mask ops jb l).run call fr ls es st k = true →
  ∃ fr0' st', Even (fun m => Zbs P ro nt (evF P ov ro m) ops l es fr0 st) (fr0', st') ∧ ∃ fr', Rel mask [] fr' [] fr0' ∧ k fr' st' = true
 | [], jb, fr, fr0, ls, es, st, k, hr, h => ⟨fr0, st, ⟨0, fun _ _ => rfl⟩, fr, hr.drop, h⟩
 | (i, o) :: r, jb, fr, fr0, ls, es, st, k, hr, h => by
  have skip : Jj ops fr0 o = some false → (JcD nt mask o.dst).run fr ls none (fun fr ls => (jeK P ro nt mask ops (zA mask jb o.dst) r).run call fr ls es st k) = true →
    ∃ fr0' st', Even (fun m => Zbs P ro nt (evF P ov ro m) ops ((i, o) :: r) es fr0 st) (fr0', st') ∧ ∃ fr', Rel mask [] fr' [] fr0' ∧ k fr' st' = true := by
   intro hw h1
   obtain ⟨fr1, h3, fr2, ls2, hr2, h4⟩ := hr.put h1
   obtain ⟨fr3, st3, ⟨m2, h5⟩, h6⟩ := zaW hc r hr2 h4
   dsimp only at h5
   exact ⟨fr3, st3, ⟨m2, fun m' hm => by simp only [Zbs, hw, h3, h5 m' hm]⟩, h6⟩
  simp only [jeK] at h
  split at h
  ·rename_i hcl
   rcases jG hr (show (JO mask jb ops o.guard).run fr ls _ _ = true from h) with ⟨hw, h1⟩ | ⟨hw, h1⟩
   ·obtain ⟨v, st1, ⟨m1, h2⟩, h3⟩ := Jbw hr hc h1
    obtain ⟨fr1, h6, fr2, ls2, hr2, h7⟩ := hr.put h3
    obtain ⟨fr3, st3, ⟨m2, h8⟩, h9⟩ := zaW hc r hr2 h7
    dsimp only at h2 h8
    exact ⟨fr3, st3, ⟨max m1 m2, fun m' hm => by simp only [Zbs, hw, hcl, h2 m' (by omega), h6, h8 m' (by omega)]⟩, h9⟩
   ·exact skip hw h1
  ·rename_i hcl
   split at h
   ·rename_i t x hop
    rcases jG hr (show (JO mask jb ops o.guard).run fr ls _ _ = true from h) with ⟨hw, h1⟩ | ⟨hw, h1⟩
    ·obtain ⟨v, h2, h3⟩ := zf hr h1
     obtain ⟨id, off, rfl, h4⟩ := Ja6 h3
     obtain ⟨u, h5, h6⟩ := ja7 h4
     obtain ⟨fr1, h7, fr2, ls2, hr2, h8⟩ := hr.put h6
     obtain ⟨fr3, st3, ⟨m2, h9⟩, h10⟩ := zaW hc r hr2 h8
     dsimp only at h9
     exact ⟨fr3, st3, ⟨m2, fun m' hm => by
      unfold Zbs
      simp only [hw, hcl]
      rw [hop]
      simp only [h2, h5, h7]
      exact h9 m' hm⟩, h10⟩
    ·exact skip hw h1
   ·exact no h
  ·rename_i h0 h1'
   rcases jG hr (show (JO mask jb ops o.guard).run fr ls _ _ = true from h) with ⟨hw, h1⟩ | ⟨hw, h1⟩
   ·obtain ⟨v, st1, ⟨m1, h2⟩, h3⟩ := Jbw hr hc h1
    obtain ⟨h4, h5⟩ := jdN h3
    obtain ⟨fr1, h6, fr2, ls2, hr2, h7⟩ := hr.put h5
    rw [zq] at h7
    obtain ⟨fr3, st3, ⟨m2, h8⟩, h9⟩ := zaW hc r hr2 h7
    dsimp only at h2 h8
    refine ⟨fr3, st3, ⟨max m1 m2, fun m' hm => ?_⟩, h9⟩
    obtain ⟨n, hn⟩ : ∃ n, jaE o.op = n + 2 := by
     cases hq : jaE o.op with
     | zero => exact absurd hq h0
     | succ q => cases q with
      | zero => exact absurd hq h1'
      | succ q => exact ⟨q, rfl⟩
    unfold Zbs
    simp only [hw, hn, h2 m' (by omega), h4, h6, jf]
    exact h8 m' (by omega)
   ·exact skip hw h1
theorem ZdN {e : Ex} {k : Nat → Bool} {d : Bool} (h : JfB e k d = true) : (∃ i, e = .exit i ∧ k i = true) ∨ ((∀ i, e ≠ .exit i) ∧ d = true) := by
 cases e with
 | exit i => exact .inl ⟨i, rfl, h⟩
 | nrm => exact .inr ⟨fun i q => (by cases q), h⟩
 | goto l => exact .inr ⟨fun i q => (by cases q), h⟩
 | ret => exact .inr ⟨fun i q => (by cases q), h⟩
def CT (P : Program) (ov : Ov) (ro nt mask : Nat) (c : Code) (fr0 : T V) (st : St) (kn : T V → St → Bool) (kx : Ex → T V → St → Bool) : Prop :=
 ∃ e fr0' st', Even (fun n => evC P ov ro n nt c fr0 st) (e, fr0', st') ∧ ∃ fr', Rel mask [] fr' [] fr0' ∧ ((e = .nrm ∧ kn fr' st' = true) ∨ (e ≠ .nrm ∧ kx e fr' st' = true))
def BT (P : Program) (ov : Ov) (ro nt mask : Nat) (call : KCall) (c : Code) (b : KB) : Prop :=
 ∀ fr fr0 st kn kx, Rel mask [] fr [] fr0 → b.run call fr st kn kx = true → CT P ov ro nt mask c fr0 st kn kx
theorem CT.now {c : Code} {kn : T V → St → Bool} {kx : Ex → T V → St → Bool} {e : Ex} (hr : Rel mask [] fr [] fr0) (h : ∀ n, evC P ov ro (n + 1) nt c fr0 st = some (e, fr0, st)) (hk : (e = .nrm ∧ kn fr st = true) ∨ (e ≠ .nrm ∧ kx e fr st = true)) : CT P ov ro nt mask c fr0 st kn kx :=
 ⟨e, fr0, st, ⟨1, fun m' hm => by obtain ⟨n, rfl⟩ : ∃ n, m' = n + 1 := ⟨m' - 1, by omega⟩; exact h n⟩, fr, hr, hk⟩
theorem JcO {b : Code} {kb : KB} {call : KCall} (hb : BT P ov ro nt mask call b kb) {kx : Ex → T V → St → Bool} : ∀ (n : Nat) (fr fr0 : T V) (st : St), Rel mask [] fr [] fr0 → Jff kb call kx n fr st = true →
  ∃ e fr0' st', (∃ m, ∀ n' j, m ≤ n' → m ≤ j → jae (evC P ov ro n' nt b) j fr0 st = some (e, fr0', st')) ∧ ∃ fr', Rel mask [] fr' [] fr0' ∧ e ≠ .nrm ∧ kx e fr' st' = true
 | 0, fr, fr0, st, hr, h => no h
 | n + 1, fr, fr0, st, hr, h => by
  obtain ⟨e, fr1, st1, ⟨m1, h1⟩, fr2, hr2, h2⟩ := hb fr fr0 st (Jff kb call kx n) kx hr h
  dsimp only at h1
  rcases h2 with ⟨rfl, h2⟩ | ⟨hne, h2⟩
  ·obtain ⟨e, fr3, st3, ⟨m2, h3⟩, h4⟩ := JcO hb n fr2 fr1 st1 hr2 h2
   refine ⟨e, fr3, st3, ⟨max m1 m2 + 1, fun n' j hn hj => ?_⟩, h4⟩
   obtain ⟨i, rfl⟩ : ∃ i, j = i + 1 := ⟨j - 1, by omega⟩
   simp only [jae, h1 n' (by omega), h3 n' i (by omega) (by omega)]
  ·refine ⟨e, fr1, st1, ⟨m1 + 1, fun n' j hn hj => ?_⟩, fr2, hr2, hne, h2⟩
   obtain ⟨i, rfl⟩ : ∃ i, j = i + 1 := ⟨j - 1, by omega⟩
   simp only [jae, h1 n' (by omega)]
   cases e <;> first | rfl | exact absurd rfl hne
theorem zfS {call : KCall} (hc : KOK P ov ro call) : ∀ c : Code, BT P ov ro nt mask call c (kC P ro nt mask L c) := by
 intro c
 induction c with
 | skip => intro fr fr0 st kn kx hr h; exact CT.now hr (fun n => rfl) (.inl ⟨rfl, h⟩)
 | label l => intro fr fr0 st kn kx hr h; exact CT.now hr (fun n => rfl) (.inl ⟨rfl, h⟩)
 | exit i => intro fr fr0 st kn kx hr h; exact CT.now hr (fun n => rfl) (.inr ⟨fun q => (by cases q), h⟩)
 | goto l => intro fr fr0 st kn kx hr h; exact CT.now hr (fun n => rfl) (.inr ⟨fun q => (by cases q), h⟩)
 | ret => intro fr fr0 st kn kx hr h; exact CT.now hr (fun n => rfl) (.inr ⟨fun q => (by cases q), h⟩)
 | refuse w => intro fr fr0 st kn kx hr h; exact no h
 | rangeFunc f ps a b _ _ => intro fr fr0 st kn kx hr h; exact no h
 | region i ops draw =>
  intro fr fr0 st kn kx hr h
  simp only [kC] at h
  cases draw with
  | false =>
   obtain ⟨fr1, st1, ⟨m, h1⟩, fr2, hr2, h2⟩ := zbx hc ops.toList hr (show (zeK P ro nt mask ops [] ops.toList).run call fr [] st kn = true from h)
   dsimp only at h1
   refine ⟨.nrm, fr1, st1, ⟨m + 1, fun m' hm => ?_⟩, fr2, hr2, .inl ⟨rfl, h2⟩⟩
   obtain ⟨n, rfl⟩ : ∃ n, m' = n + 1 := ⟨m' - 1, by omega⟩
   have := h1 n (by omega)
   simp only [evC]
   rw [← Zgj, this]
  | true =>
   cases hB : jdF P ops with
   | false =>
    rw [hB] at h
    dsimp only at h
    cases hT : zdF ops with
    | true =>
     rw [hT] at h
     obtain ⟨fr1, fr1', st1, ⟨m, h1⟩, ⟨m2, h1'⟩, fr2, hr2, h2⟩ := JbH hc (ops.toList.take (ops.size - 1)) hr (show (Jdn P ro nt mask ops (ops.toList.drop (ops.size - 1)) [] (ops.toList.take (ops.size - 1))).run call fr [] st kn = true from h)
     dsimp only at h1 h1'
     refine ⟨.nrm, fr1', st1, ⟨max m m2 + 1, fun m' hm => ?_⟩, fr2, hr2, .inl ⟨rfl, h2⟩⟩
     obtain ⟨n, rfl⟩ : ∃ n, m' = n + 1 := ⟨m' - 1, by omega⟩
     have e1 := h1 n (by omega)
     have e2 := h1' n (by omega)
     simp only [evC, hB, hT]
     rw [← Zgj, e1]
     dsimp only
     rw [e2]
    | false =>
     rw [hT] at h
     dsimp only at h
     cases hpl : zbT P ops with
     | none =>
      rw [hpl] at h
      dsimp only at h
      cases hL : Zfa ops with
      | false => rw [hL] at h; exact no h
      | true =>
       rw [hL] at h
       obtain ⟨fr1, ⟨m, h1⟩, fr2, hr2, h2⟩ := Za7 hc ops.toList hr (show (zcE P ro nt mask ops [] ops.toList).run call fr [] st kn = true from h)
       dsimp only at h1
       refine ⟨.nrm, fr1, st, ⟨m + 1, fun m' hm => ?_⟩, fr2, hr2, .inl ⟨rfl, h2⟩⟩
       obtain ⟨n, rfl⟩ : ∃ n, m' = n + 1 := ⟨m' - 1, by omega⟩
       have := h1 n (by omega)
       simp only [evC, hB, hT, hpl, hL]
       rw [← Zgj, this]
     | some pl =>
      rw [hpl] at h
      obtain ⟨fr1, st1, ⟨m, h1⟩, fr2, hr2, h2⟩ := zaW hc pl hr (show (jeK P ro nt mask ops [] pl).run call fr [] [] st kn = true from h)
      dsimp only at h1
      refine ⟨.nrm, fr1, st1, ⟨m + 1, fun m' hm => ?_⟩, fr2, hr2, .inl ⟨rfl, h2⟩⟩
      obtain ⟨n, rfl⟩ : ∃ n, m' = n + 1 := ⟨m' - 1, by omega⟩
      have := h1 n (by omega)
      simp only [evC, hB, hT, hpl]
      rw [← Zgj, this]
   | true =>
    rw [hB] at h
    obtain ⟨fr1, ⟨m, h1⟩, fr2, hr2, h2⟩ := Za7 hc ops.toList hr (show (zcE P ro nt mask ops [] ops.toList).run call fr [] st kn = true from h)
    dsimp only at h1
    refine ⟨.nrm, fr1, st, ⟨m + 1, fun m' hm => ?_⟩, fr2, hr2, .inl ⟨rfl, h2⟩⟩
    obtain ⟨n, rfl⟩ : ∃ n, m' = n + 1 := ⟨m' - 1, by omega⟩
    have := h1 n (by omega)
    simp only [evC, hB]
    rw [← Zgj, this]
 | seq a b iha ihb =>
  intro fr fr0 st kn kx hr h
  obtain ⟨e, fr1, st1, ⟨m1, h1⟩, fr2, hr2, h2⟩ := iha fr fr0 st _ kx hr (show (kC P ro nt mask L a).run call fr st _ kx = true from h)
  dsimp only at h1
  rcases h2 with ⟨rfl, h2⟩ | ⟨hne, h2⟩
  ·obtain ⟨e, fr3, st3, ⟨m2, h3⟩, fr4, hr4, h4⟩ := ihb fr2 fr1 st1 kn kx hr2 h2
   dsimp only at h3
   refine ⟨e, fr3, st3, ⟨max m1 m2 + 1, fun m' hm => ?_⟩, fr4, hr4, h4⟩
   obtain ⟨n, rfl⟩ : ∃ n, m' = n + 1 := ⟨m' - 1, by omega⟩
   simp only [evC, h1 n (by omega), h3 n (by omega)]
  ·refine ⟨e, fr1, st1, ⟨m1 + 1, fun m' hm => ?_⟩, fr2, hr2, .inr ⟨hne, h2⟩⟩
   obtain ⟨n, rfl⟩ : ∃ n, m' = n + 1 := ⟨m' - 1, by omega⟩
   simp only [evC, h1 n (by omega)]
   cases e <;> first | rfl | exact absurd rfl hne
 | cond x a b iha ihb =>
  intro fr fr0 st kn kx hr h
  obtain ⟨v, h1, h2⟩ := zf hr (show (Js mask [] x).run fr [] _ = true from h)
  rcases jc0 h2 with ⟨rfl, h3⟩ | ⟨rfl, h3⟩
  ·obtain ⟨e, fr1, st1, ⟨m, h4⟩, h5⟩ := iha fr fr0 st kn kx hr h3
   dsimp only at h4
   refine ⟨e, fr1, st1, ⟨m + 1, fun m' hm => ?_⟩, h5⟩
   obtain ⟨n, rfl⟩ : ∃ n, m' = n + 1 := ⟨m' - 1, by omega⟩
   simp only [evC, h1, h4 n (by omega)]
  ·obtain ⟨e, fr1, st1, ⟨m, h4⟩, h5⟩ := ihb fr fr0 st kn kx hr h3
   dsimp only at h4
   refine ⟨e, fr1, st1, ⟨m + 1, fun m' hm => ?_⟩, h5⟩
   obtain ⟨n, rfl⟩ : ∃ n, m' = n + 1 := ⟨m' - 1, by omega⟩
   simp only [evC, h1, h4 n (by omega)]
 | block i b ih =>
  intro fr fr0 st kn kx hr h
  obtain ⟨e, fr1, st1, ⟨m, h1⟩, fr2, hr2, h2⟩ := ih fr fr0 st kn _ hr (show (kC P ro nt mask L b).run call fr st kn _ = true from h)
  dsimp only at h1
  have up : ∀ r, (∀ n, m ≤ n → evC P ov ro (n + 1) nt (.block i b) fr0 st = some r) → Even (fun n => evC P ov ro n nt (.block i b) fr0 st) r := fun r hh => ⟨m + 1, fun m' hm => by
   obtain ⟨n, rfl⟩ : ∃ n, m' = n + 1 := ⟨m' - 1, by omega⟩
   exact hh n (by omega)⟩
  rcases h2 with ⟨rfl, h2⟩ | ⟨hne, h2⟩
  ·exact ⟨.nrm, fr1, st1, up _ fun n hn => by simp only [evC, h1 n hn], fr2, hr2, .inl ⟨rfl, h2⟩⟩
  ·rcases ZdN h2 with ⟨j, rfl, h3⟩ | ⟨hx, h3⟩
   ·rcases Za6 h3 with ⟨h4, h5⟩ | ⟨h4, h5⟩
    ·exact ⟨.nrm, fr1, st1, up _ fun n hn => by simp only [evC, h1 n hn, h4, cond_true], fr2, hr2, .inl ⟨rfl, h5⟩⟩
    ·exact ⟨.exit j, fr1, st1, up _ fun n hn => by simp only [evC, h1 n hn, h4, cond_false], fr2, hr2, .inr ⟨hne, h5⟩⟩
   ·refine ⟨e, fr1, st1, up _ fun n hn => ?_, fr2, hr2, .inr ⟨hne, h3⟩⟩
    simp only [evC, h1 n hn]
    cases e <;> first | rfl | exact absurd rfl (hx _)
 | loop b ih =>
  intro fr fr0 st kn kx hr h
  obtain ⟨e, fr1, st1, ⟨m, h1⟩, fr2, hr2, hne, h2⟩ := JcO ih L fr fr0 st hr (show Jff (kC P ro nt mask L b) call kx L fr st = true from h)
  refine ⟨e, fr1, st1, ⟨m + 1, fun m' hm => ?_⟩, fr2, hr2, .inr ⟨hne, h2⟩⟩
  obtain ⟨n, rfl⟩ : ∃ n, m' = n + 1 := ⟨m' - 1, by omega⟩
  simp only [evC]
  exact h1 n n (by omega) (by omega)
 | scope b ih =>
  intro fr fr0 st kn kx hr h
  obtain ⟨e, fr1, st1, ⟨m, h1⟩, fr2, hr2, h2⟩ := ih fr fr0 st kn _ hr (show (kC P ro nt mask L b).run call fr st kn _ = true from h)
  dsimp only at h1
  have fin : (∀ l, e ≠ .goto l) → Even (fun n => evC P ov ro n nt (.scope b) fr0 st) (e, fr1, st1) := fun hno => ⟨m + 2, fun m' hm => by
   obtain ⟨n, rfl⟩ : ∃ n, m' = n + 2 := ⟨m' - 2, by omega⟩
   show evC P ov ro (n + 2) nt (.scope b) fr0 st = _
   rw [show evC P ov ro (n + 2) nt (.scope b) fr0 st = zV (evC P ov ro (n + 1) nt) b (n + 1) b fr0 st from rfl]
   simp only [zV, h1 (n + 1) (by omega)]
   cases e <;> first | rfl | exact absurd rfl (hno _)⟩
  rcases h2 with ⟨rfl, h2⟩ | ⟨hne, h2⟩
  ·exact ⟨.nrm, fr1, st1, fin (fun l q => by cases q), fr2, hr2, .inl ⟨rfl, h2⟩⟩
  ·cases e with
   | goto l => exact no h2
   | nrm => exact absurd rfl hne
   | exit i => exact ⟨_, fr1, st1, fin (fun l q => by cases q), fr2, hr2, .inr ⟨hne, h2⟩⟩
   | ret => exact ⟨_, fr1, st1, fin (fun l q => by cases q), fr2, hr2, .inr ⟨hne, h2⟩⟩
theorem zcl {k : T V → Bool} : ∀ (l : List V) (i : Nat) (fr : T V), (List.rec (motive := fun _ => Nat → T V → Bool) (fun _ fr => k fr) (fun v _ ih i fr => JfQ (zaf i) fr v fun fr => Jaa (i + 1) fun i => ih i fr) l i fr : Bool) = k (zH l i fr)
 | [], i, fr => rfl
 | v :: r, i, fr => by
  have := zcl (k := k) r (i + 1) (fr.upd i (some v))
  show JfQ (zaf i) fr v (fun fr => Jaa (i + 1) fun i => _) = _
  rw [JeL, zq, zH, V.force_eq]
  exact this
theorem ZeM (l : List V) (k : T V → Bool) : zfC l k = k (zH l 0 .e) := zcl l 0 .e
theorem jcl (hr : Rel mask [] fr [] fr0) : ∀ {l : List ResultVar} {k : List V → Bool}, (Jf9 P mask l).run fr st k = true → ∃ vs, Zp P fr0 st l = some vs ∧ k vs = true
 | [], k, h => ⟨[], rfl, h⟩
 | .tmp t :: r, k, h => by
  obtain ⟨v, h1, h2⟩ := zaV hr (show (jeI mask [] t).run fr [] _ = true from h)
  obtain ⟨vs, h3, h4⟩ := jcl hr h2
  exact ⟨v :: vs, by simp only [Zp, Zaa, h1, h3], h4⟩
 | .cell a t :: r, k, h => by
  obtain ⟨v, h1, h2⟩ := zaV hr (show (jeI mask [] a).run fr [] _ = true from h)
  obtain ⟨g, o, rfl, h3⟩ := Ja6 h2
  obtain ⟨v, h4, h5⟩ := ja7 h3
  obtain ⟨vs, h6, h7⟩ := jcl hr h5
  exact ⟨v :: vs, by simp only [Zp, Zaa, h1, h4, h6], h7⟩
theorem zek {e : Ex} {d : Bool} (h : jgj e d = true) : e = .ret ∧ d = true := by
 cases e with
 | ret => exact ⟨rfl, h⟩
 | _ => exact no h
theorem zcP {jdf : Nat → Nat} : ∀ n : Nat, KOK P ov ro (zfg P jdf ov ro L n)
 | 0 => fun f args st k h => no h
 | n + 1 => by
  intro f args st k h
  have ih : KOK P ov ro (zfg P jdf ov ro L n) := zcP n
  have h' : (match ov f args st with
   | some (v, st) => Jaj v fun v => k v st
   | none => (ZgE P jdf ro L f).run (zfg P jdf ov ro L n) args st k) = true := h
  cases ho : ov f args st with
  | some v =>
   obtain ⟨v, st1⟩ := v
   rw [ho] at h'
   dsimp only at h'
   rw [jK] at h'
   exact ⟨v, st1, ⟨0, fun m _ => by unfold evF Zv; simp only [ho]⟩, h'⟩
  | none =>
   rw [ho] at h'
   dsimp only at h'
   unfold ZgE at h'
   cases hf : P.funcs[f]? with
   | none => rw [hf] at h'; exact no h'
   | some fn =>
    rw [hf] at h'
    dsimp only at h'
    cases hb : fn.body with
    | none => rw [hb] at h'; exact no h'
    | some c =>
     rw [hb] at h'
     dsimp only at h'
     rw [jf, jf] at h'
     obtain ⟨h1, h2⟩ := ZaP h'
     rw [ZeM] at h2
     have hr0 : Rel (jdf f) [] (zH args 0 .e) [] (zH args 0 .e) := ⟨fun _ _ _ q => q, fun t j v e => (by cases e), fun t j e => (by cases e)⟩
     obtain ⟨e, fr1, st1, ⟨m, h3⟩, fr2, hr2, h4⟩ := zfS (nt := fn.ntmps) (mask := jdf f) (L := L) ih c _ _ st _ _ hr0 h2
     dsimp only at h3
     have fin : (e = .nrm ∨ e = .ret) → (Jf9 P (jdf f) fn.results.toList).run fr2 st1 (fun vs => k (zaE vs) st1) = true → ∃ v st', Even (fun m => evF P ov ro m f args st) (v, st') ∧ k v st' = true := by
      intro he hk
      obtain ⟨vs, h5, h6⟩ := jcl hr2 hk
      refine ⟨zaE vs, st1, ⟨m, fun m' hm => ?_⟩, h6⟩
      unfold evF Zv
      simp only [ho, hf, hb, h1, cond_true, h3 m' hm]
      rcases he with rfl | rfl <;> simp only [h5]
     rcases h4 with ⟨rfl, h4⟩ | ⟨hne, h4⟩
     ·exact fin (.inl rfl) h4
     ·obtain ⟨rfl, h5⟩ := zek h4
      exact fin (.inr rfl) h5
theorem jbx {jdf : Nat → Nat} {gs : List (Nat × List V)} {n f : Nat} {args : List V} (h : zc0 P jdf ov gs L n f args = true) : ∃ m st', evF P ov GL m f args (st0 gs) = some (.b true, st') := by
 obtain ⟨v, st', ⟨m, h1⟩, h2⟩ := zcP n f args (st0 gs) _ h
 rcases jc0 h2 with ⟨rfl, _⟩ | ⟨_, h3⟩
 ·exact ⟨m, st', h1 m (Nat.le_refl _)⟩
 ·exact no h3
end
end Go.Vk
