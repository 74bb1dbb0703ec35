/-
  Code at values that are not known. Nothing is claimed here.
-/
import Derived.Test.YtnfddmjbfkfnhaaGreatDoorSt
import Derived.Test.YtnfddmjbfkfnhaaGreatDoorSj
namespace Go.Sx
open Go.Vm

/-- A state: a frame, how many names, what they hold, and the names that were given anew. -/
structure Z (S : Sg) where
  fr : T (U S)
  nx : Nat
  m : T (Ct S)
  ks : List Nat

abbrev CallT (S : Sg) := FuncId → List (U S) → Nat → T (Ct S) → Kn S → Prop
abbrev LoopT (S : Sg) := Code → Z S → (Ex → Z S → Prop) → Prop

/-! ### Trees are written and kept as they are, and not as what is to be done to them -/

def pathP : Nat → Nat → List Bool
  | 0, _ => []
  | f + 1, i => match i with
    | 0 => []
    | k + 1 => Nat.beq (k % 2) 0 :: pathP f (k / 2)
def updP {α : Type} : List Bool → T α → Option α → (T α → Prop) → Prop
  | [], .e, v, k => k (.n .e v .e)
  | [], .n l _ r, v, k => k (.n l v r)
  | true :: p, .e, v, k => updP p .e v fun l => k (.n l none .e)
  | true :: p, .n l x r, v, k => updP p l v fun l => k (.n l x r)
  | false :: p, .e, v, k => updP p .e v fun r => k (.n .e none r)
  | false :: p, .n l x r, v, k => updP p r v fun r => k (.n l x r)
theorem mkL_eq {α : Type} (v : Option α) (r x : T α) : T.mkL v r x = .n x v r := by cases x <;> rfl
theorem mkR_eq {α : Type} (v : Option α) (l x : T α) : T.mkR l v x = .n l v x := by cases x <;> rfl
theorem updP_go {α : Type} (v : Option α) : ∀ (f : Nat) (t : T α) (i : Nat) (k : T α → Prop), i < f → updP (pathP f i) t v k = k (T.go v f t i)
  | 0, _, _, _, h => absurd h (Nat.not_lt_zero _)
  | f + 1, t, i, k, h => by
    cases i with
    | zero => cases t <;> rfl
    | succ j =>
      have hj : j / 2 < f := by omega
      simp only [pathP, T.go]
      cases hb : Nat.beq (j % 2) 0 <;> cases t <;> simp only [updP, cond_true, cond_false, mkL_eq, mkR_eq] <;> rw [updP_go v f _ _ _ hj]
def updI {α : Type} (t : T α) (i : Nat) (v : Option α) (k : T α → Prop) : Prop := updP (pathP (i + 1) i) t v k
theorem updI_eq {α : Type} (t : T α) (i : Nat) (v : Option α) (k : T α → Prop) : updI t i v k = k (t.upd i v) := updP_go v (i + 1) t i k (Nat.lt_succ_self i)
def forceP {α : Type} : T α → (T α → Prop) → Prop
  | .e, k => k .e
  | .n l v r, k => forceP l fun l => forceP r fun r => k (.n l v r)
theorem forceP_eq {α : Type} : ∀ (t : T α) (k : T α → Prop), forceP t k = k t
  | .e, k => rfl
  | .n l v r, k => by rw [forceP, forceP_eq l, forceP_eq r]

section
variable {S : Sg} (Y : Sy S) (P : Program) (G : Gl)

def forceZ (z : Z S) (k : Z S → Prop) : Prop := forceP z.fr fun fr => forceP z.m fun m => k ⟨fr, z.nx, m, z.ks⟩
theorem forceZ_eq (z : Z S) (k : Z S → Prop) : forceZ z k = k z := by unfold forceZ; rw [forceP_eq, forceP_eq]
def killK (ks : List Nat) (fr : T (U S)) (k : T (U S) → Prop) : Prop := match ks with
  | [] => k fr
  | n :: r => forceP (Tmap (kill (n :: r)) fr) k
def killF (ks : List Nat) (fr : T (U S)) : T (U S) := match ks with
  | [] => fr
  | k :: r => Tmap (kill (k :: r)) fr

def plainU : U S → Bool
  | .b _ | .kb _ | .i _ _ | .s _ | .pn | .sn | .fz | .nz => true
  | _ => false
def plainsU : List (U S) → Bool
  | [] => true
  | u :: us => plainU u && plainsU us
def plainTU : U S → Bool
  | .a us | .t us => plainsU us
  | u => plainU u

def sOp (C : CallT S) (fr : T (U S)) (nx : Nat) (m : T (Ct S)) (o : Op) (k : Kn S) : Prop := match o with
  | .store t x v => sE Y P fr nx m (.store t x v) k
  | .alloc t => sE Y P fr nx m (.alloc t) k
  | .box t x => sE Y P fr nx m (.box t x) k
  | .buildSlice t l ps => sE Y P fr nx m (.buildSlice t l ps) k
  | .makeSlice t l c => sE Y P fr nx m (.makeSlice t l c) k
  | .convert s d x => sE Y P fr nx m (.convert s d x) k
  | .call c => match c.callee with
    | .value f => sOpd fr f fun w => match w with
      | .f fn caps => sOpds fr c.args.toList fun us => C fn (us ++ caps) nx m k
      | _ => False
    | .builtin .append => sE Y P fr nx m (.call c) k
    | _ => sQ Y P G fr m (.call c) fun u => k (some u) nx m [] []
  | .slice t x none (some hi) none => sOpd fr x fun u => match Y.cut, u with
    | true, .o r => sOpd fr hi fun w => match w with
      | .i _ n => sCut Y P nx m t r n k
      | _ => False
    | _, _ => sQ Y P G fr m (.slice t x none (some hi) none) fun u => k (some u) nx m [] []
  | o => sQ Y P G fr m o fun u => k (some u) nx m [] []
def quietK (k : U S → Prop) : Kn S := fun u _ _ ks wr => match u, ks, wr with
  | some u, [], [] => cond (plainTU u) (k u) False
  | _, _, _ => False
def sOpQ (C : CallT S) (fr : T (U S)) (nx : Nat) (m : T (Ct S)) (o : Op) (k : U S → Prop) : Prop := match o with
  | .call c => match c.callee with
    | .value f => sOpd fr f fun w => match w with
      | .f fn caps => sOpds fr c.args.toList fun us => C fn (us ++ caps) nx m (quietK k)
      | _ => False
    | _ => sQ Y P G fr m (.call c) k
  | o => sQ Y P G fr m o k

def sPut (nt : Nat) (fr : T (U S)) (dst : Option Nat) (v : Option (U S)) (k : T (U S) → Prop) : Prop := match dst with
  | none => k fr
  | some d => cond (Nat.blt d nt) (match v with
    | some u => updI fr d (some u) k
    | none => updI fr d (some (.t [])) k) False

/-- Is it carried out? -/
def sGuard (ops : Array Oper) (g : Option (Nat × Bool)) (fr : T (U S)) (run skip : T (U S) → Prop) : Prop := match g with
  | none => run fr
  | some (j, want) => match (ops[j]?).bind (·.dst) with
    | none => skip fr
    | some d => match fr.get d with
      | some (.kb x) => cond (x == want) (run fr) (skip fr)
      | some (.b x) => (x = want → updI fr d (some (.kb want)) run) ∧ (x = !want → updI fr d (some (.kb (!want))) skip)
      | some (.t _) => skip fr
      | _ => False

def sOps (C : CallT S) (nt : Nat) (ops : Array Oper) : List Oper → Z S → (Z S → Prop) → Prop
  | [], z, K => K z
  | o :: r, z, K => sGuard ops o.guard z.fr
    (fun fr => sOp Y P G C fr z.nx z.m o.op fun u nx' m' ks _ => forceP m' fun m' => killK ks fr fun fr => sPut nt fr o.dst u fun fr' => sOps C nt ops r ⟨fr', nx', m', ks ++ z.ks⟩ K)
    (fun fr => sPut nt fr o.dst none fun fr' => sOps C nt ops r ⟨fr', z.nx, z.m, z.ks⟩ K)
def sOpsQ (C : CallT S) (nt : Nat) (ops : Array Oper) (nx : Nat) (m : T (Ct S)) : List Oper → T (U S) → (T (U S) → Prop) → Prop
  | [], fr, K => K fr
  | o :: r, fr, K => sGuard ops o.guard fr
    (fun fr => sOpQ Y P G C fr nx m o.op fun u => sPut nt fr o.dst (some u) fun fr' => sOpsQ C nt ops nx m r fr' K)
    (fun fr => sPut nt fr o.dst none fun fr' => sOpsQ C nt ops nx m r fr' K)

/-- A load that was carried out: where, and what it read. -/
structure SE (S : Sg) where
  x : Nat
  t : TypeId
  a : U S
  u : U S
def aliveS (ops : Array Oper) (i : Nat) : List (SE S) → List (SE S)
  | [] => []
  | e :: r => match Region.waitsT .any ops i e.x with
    | true => aliveS ops i r
    | false => e :: aliveS ops i r
def killS (ks : List Nat) (es : List (SE S)) : List (SE S) := match ks with
  | [] => es
  | k :: r => es.map fun e => ⟨e.x, e.t, kill (k :: r) e.a, kill (k :: r) e.u⟩
/-- Values that stand for one value alone. -/
def detU (m : T (Ct S)) : U S → Bool
  | .b _ | .kb _ | .i _ _ | .s _ | .pn | .sn | .fz | .nz | .p _ _ | .g _ _ => true
  | .o r => match m.get r with
    | some (.buf _ _) => true
    | _ => false
  | _ => false
def detL (m : T (Ct S)) : List (U S) → Bool
  | [] => true
  | u :: us => detU m u && detL m us
def detT (m : T (Ct S)) : U S → Bool
  | .a us => detL m us
  | u => detU m u
/-- Loads that were carried out read the same again. -/
def isPd : U S → Bool
  | .pd _ _ _ _ => true
  | _ => false
def flT : U S → Bool
  | .a us => us.all U.flat
  | u => U.flat u
/-- The named block that a store writes to. -/
def tgtOf (fr : T (U S)) : Op → Option Nat
  | .store _ (.tmp t) _ => match fr.get t with
    | some (.p r _) => some r
    | _ => none
  | _ => none
def isAl : Op → Bool
  | .alloc _ => true
  | _ => false
/-- A place in another named block than the one that is written to. -/
def skipP (m0 : T (Ct S)) (b : Bool) (tgt : Option Nat) (a : U S) : Bool := match a with
  | .p r _ => match tgt with
    | some r' => b && (!(Nat.beq r r') && ((m0.get r).isSome && (m0.get r').isSome))
    | none => false
  | _ => false
/-- (Data, and other named blocks, read the same again.) -/
def sKeep (m0 : T (Ct S)) (b : Bool) (tgt : Option Nat) (m : T (Ct S)) : List (SE S) → Prop → Prop
  | [], p => p
  | e :: r, p => cond ((isPd e.a || skipP m0 b tgt e.a) && flT e.u) (sKeep m0 b tgt m r p) (sLoad Y P G m e.t e.a fun u => u = e.u ∧ cond (detT m u) (sKeep m0 b tgt m r p) False)

def sRun (C : CallT S) (nt : Nat) (ops : Array Oper) : List (Nat × Oper) → Bool → List (SE S) → Z S → (Z S → Prop) → Prop
  | [], _, _, z, K => K z
  | (i, o) :: r, b, es, z, K => sGuard ops o.guard z.fr
    (fun fr => match opCls o.op with
      | 0 => sQ Y P G fr z.m o.op fun u => sPut nt fr o.dst (some u) fun fr' => sRun C nt ops r b es ⟨fr', z.nx, z.m, z.ks⟩ K
      | 1 => match o.op with
        | .load t x => sOpd fr x fun a => sLoad Y P G z.m t a fun u => sPut nt fr o.dst (some u) fun fr' => sRun C nt ops r b (⟨i, t, a, u⟩ :: es) ⟨fr', z.nx, z.m, z.ks⟩ K
        | _ => False
      | _ => sOp Y P G C fr z.nx z.m o.op fun u nx' m' ks wr => forceP m' fun m' => killK ks fr fun fr2 => match wr with
        | [] => sPut nt fr2 o.dst u fun fr' => sRun C nt ops r b (killS ks (aliveS ops i es)) ⟨fr', nx', m', ks ++ z.ks⟩ K
        | _ :: _ => sKeep Y P G z.m b (tgtOf fr o.op) m' (killS ks (aliveS ops i es)) (sPut nt fr2 o.dst u fun fr' => sRun C nt ops r true (killS ks (aliveS ops i es)) ⟨fr', nx', m', ks ++ z.ks⟩ K))
    (fun fr => sPut nt fr o.dst none fun fr' => sRun C nt ops r b es ⟨fr', z.nx, z.m, z.ks⟩ K)

/-- Two stores, at different named blocks. -/
def sPair (z : Z S) (o q : Oper) (K : Z S → Prop) : Prop := match o.op, q.op with
  | .store t x v, .store t' y u => sOpd z.fr x fun a => sOpd z.fr v fun av => sOpd z.fr y fun b => sOpd z.fr u fun bv => match a, b with
    | .p r off, .p r' off' => match z.m.get r, z.m.get r' with
      | some _, some _ => cond (Nat.beq r r') False (sStore Y P z.nx z.m t (.p r off) av fun _ nx' m' ks _ => match ks with
        | [] => forceP m' fun m' => sStore Y P nx' m' t' (.p r' off') bv fun _ nx2 m2 ks2 _ => match ks2 with
          | [] => forceP m2 fun m2 => K ⟨z.fr, nx2, m2, z.ks⟩
          | _ :: _ => False
        | _ :: _ => False)
      | _, _ => False
    | _, _ => False
  | _, _ => False

def sC (C : CallT S) (L : LoopT S) (nt : Nat) : Code → Z S → (Ex → Z S → Prop) → Prop
  | .skip, z, K => K .nrm z
  | .label _, z, K => K .nrm z
  | .exit i, z, K => K (.exit i) z
  | .goto i, z, K => K (.goto i) z
  | .ret, z, K => K .ret z
  | .region _ ops draw, z, K => match draw with
    | false => sOps Y P G C nt ops ops.toList z (K .nrm)
    | true => cond (lexQ1 P ops) (sOpsQ Y P G C nt ops z.nx z.m ops.toList z.fr fun fr => K .nrm ⟨fr, z.nx, z.m, z.ks⟩)
      (cond (tailB ops) (sOpsQ Y P G C nt ops z.nx z.m (ops.toList.take (ops.size - 1)) z.fr fun fr => sOps Y P G C nt ops (ops.toList.drop (ops.size - 1)) ⟨fr, z.nx, z.m, z.ks⟩ (K .nrm))
      (match planF P ops with
        | some l => sRun Y P G C nt ops l true [] z (K .nrm)
        | none => cond (lexQ ops) (sOpsQ Y P G C nt ops z.nx z.m ops.toList z.fr fun fr => K .nrm ⟨fr, z.nx, z.m, z.ks⟩) (match planPair ops with
          | some (l, o, q) => sRun Y P G C nt ops l true [] z fun z => sPair Y P z o q (K .nrm)
          | none => False)))
  | .seq a b, z, K => match flagOf P nt a b with
    | some _ => False
    | none => sC C L nt a z fun e z' => match e with
      | .nrm => sC C L nt b z' K
      | .exit i => K (.exit i) z'
      | .goto i => K (.goto i) z'
      | .ret => K .ret z'
  | .cond c a b, z, K => match c with
    | .tmp t => match z.fr.get t with
      | some (.kb true) => sC C L nt a z K
      | some (.kb false) => sC C L nt b z K
      | some (.b x) => (x = true → updI z.fr t (some (.kb true)) fun fr => sC C L nt a ⟨fr, z.nx, z.m, z.ks⟩ K) ∧ (x = false → updI z.fr t (some (.kb false)) fun fr => sC C L nt b ⟨fr, z.nx, z.m, z.ks⟩ K)
      | _ => False
    | _ => False
  | .block i b, z, K => sC C L nt b z fun e z' => match e with
    | .nrm => K .nrm z'
    | .exit j => cond (Nat.beq j i) (K .nrm z') (K (.exit j) z')
    | .goto i => K (.goto i) z'
    | .ret => K .ret z'
  | .loop b, z, K => L b z K
  | .scope b, z, K => sC C L nt b z fun e z' => match e with
    | .nrm => K .nrm z'
    | .exit j => K (.exit j) z'
    | .goto _ => False
    | .ret => K .ret z'
  | _, _, _ => False

def loopsOf : Code → List Code
  | .seq a b => loopsOf a ++ loopsOf b
  | .cond _ a b => loopsOf a ++ loopsOf b
  | .block _ b => loopsOf b
  | .scope b => loopsOf b
  | .loop b => [b]
  | _ => []

/-! ### It is so -/

variable {Y P G}
variable {o0 : Nat → Prop} {ro nt : Nat} {ov : Ov}
theorem killK_eq (ks : List Nat) (fr : T (U S)) (k : T (U S) → Prop) : killK ks fr k = k (killF ks fr) := by
  cases ks with
  | nil => rfl
  | cons n r => simp only [killK, killF, forceP_eq]

/-- Where a run begins. -/
structure Bs (S : Sg) where
  E : En
  m : T (Ct S)
  st : St
def Zat (Y : Sy S) (G : Gl) (o0 : Nat → Prop) (ro : Nat) (B : Bs S) (z : Z S) (frV : T V) (st : St) : Prop :=
  ∃ E, Inv Y G o0 ro E z.nx z.m st ∧ Step o0 B.E B.m B.st E z.m st z.ks [0] ∧ RelF Y (Dat Y (ownOf o0 E z.m) st) E z.fr frV

/-- What a call comes to is told by its transformer. -/
def CalOK (Y : Sy S) (P : Program) (G : Gl) (ov : Ov) (o0 : Nat → Prop) (ro : Nat) (C : CallT S) : Prop :=
  ∀ f us nx m k, C f us nx m k → ∀ E st vs, Inv Y G o0 ro E nx m st → RelL Y (Dat Y (ownOf o0 E m) st) E us vs → ∃ v st', (∃ M, ∀ n, M ≤ n → evF P ov ro n f vs st = some (v, st')) ∧ Done Y G o0 ro E m st k (some v) st'

def Sem (Y : Sy S) (P : Program) (G : Gl) (ov : Ov) (o0 : Nat → Prop) (ro nt : Nat) (st0 : Bs S) (c : Code) (z : Z S) (K : Ex → Z S → Prop) : Prop :=
  ∀ frV st, Zat Y G o0 ro st0 z frV st → ∃ e frV' st', (∃ M, ∀ n, M ≤ n → evC P ov ro n nt c frV st = some (e, frV', st')) ∧ ∃ z', Zat Y G o0 ro st0 z' frV' st' ∧ K e z'

theorem Step.anyW {E E' : En} {m m' : T (Ct S)} {st st' : St} {ks wr : List Nat} (h : Step o0 E m st E' m' st' ks wr) : Step o0 E m st E' m' st' ks [0] := ⟨h.len, h.same, h.nx, h.keep, h.nam, fun j h1 h2 hw => h.ver j h1 h2 (.inr (hw.elim (fun q => by cases q) fun q => q)), fun q => by cases q⟩

theorem killF_rel {E E' : En} {m m' : T (Ct S)} {st st' : St} {ks wr : List Nat} {fr : T (U S)} {frV : T V} (hs : Step o0 E m st E' m' st' ks wr) (hf : RelF Y (Dat Y (ownOf o0 E m) st) E fr frV) : RelF Y (Dat Y (ownOf o0 E' m') st') E' (killF ks fr) frV := by
  intro t u hu
  cases ks with
  | nil =>
    obtain ⟨v, h1, h2⟩ := hf t u hu
    exact ⟨v, h1, hs.rel h2⟩
  | cons k r =>
    simp only [killF] at hu
    rw [Tmap_get] at hu
    cases hg : fr.get t with
    | none => rw [hg] at hu; cases hu
    | some u0 =>
      rw [hg] at hu
      cases hu
      obtain ⟨v, h1, h2⟩ := hf t u0 hg
      exact ⟨v, h1, hs.relK h2⟩

theorem relF_upd {D : DD S} {E : En} {fr : T (U S)} {frV : T V} (hf : RelF Y D E fr frV) {d : Nat} {u : U S} {v : V} (h : RelV Y D E u v) : RelF Y D E (fr.upd d (some u)) (frV.upd d (some v)) := by
  intro t w hw
  rw [T.get_upd] at hw
  by_cases e : t = d
  · subst e
    rw [if_pos rfl] at hw
    cases hw
    exact ⟨v, T.get_same, h⟩
  · rw [if_neg e] at hw
    obtain ⟨x, h1, h2⟩ := hf t w hw
    exact ⟨x, by rw [T.get_upd, if_neg e]; exact h1, h2⟩
/-- What is known of a slot is put there. -/
theorem relF_known {D : DD S} {E : En} {fr : T (U S)} {frV : T V} (hf : RelF Y D E fr frV) {d : Nat} {u : U S} {v : V} (hv : frV.get d = some v) (h : RelV Y D E u v) : RelF Y D E (fr.upd d (some u)) frV := by
  intro t w hw
  rw [T.get_upd] at hw
  by_cases e : t = d
  · subst e
    rw [if_pos rfl] at hw
    cases hw
    exact ⟨v, hv, h⟩
  · rw [if_neg e] at hw
    exact hf t w hw

theorem sPut_ok {D : DD S} {E : En} {fr : T (U S)} {frV : T V} {dst : Option Nat} {u : Option (U S)} {v : Option V} {k : T (U S) → Prop} (h : sPut nt fr dst u k) (hf : RelF Y D E fr frV) (hr : RelO Y D E u v) : ∃ fr' frV', vput nt frV dst v = some frV' ∧ RelF Y D E fr' frV' ∧ k fr' := by
  unfold sPut at h
  simp only [updI_eq] at h
  cases dst with
  | none => exact ⟨fr, frV, rfl, hf, h⟩
  | some d =>
    dsimp only at h
    cases hd : Nat.blt d nt with
    | false => rw [hd] at h; exact h.elim
    | true =>
      rw [hd] at h
      cases u with
      | none =>
        cases v with
        | some v => exact hr.elim
        | none => exact ⟨_, _, by simp only [vput, hd, cond_true], relF_upd hf (u := .t []) (v := .t []) ⟨[], rfl, rfl⟩, h⟩
      | some u =>
        cases v with
        | none => exact hr.elim
        | some v => exact ⟨_, _, by simp only [vput, hd, cond_true, V.force_eq], relF_upd hf hr, h⟩

theorem sGuard_ok {D : DD S} {E : En} {fr : T (U S)} {frV : T V} {ops : Array Oper} {o : Oper} {run skip : T (U S) → Prop} (h : sGuard ops o.guard fr run skip) (hf : RelF Y D E fr frV) : ∃ fr', RelF Y D E fr' frV ∧ ((vwanted ops frV o = some true ∧ run fr') ∨ (vwanted ops frV o = some false ∧ skip fr')) := by
  unfold sGuard at h
  simp only [updI_eq] at h
  unfold vwanted
  cases hg : o.guard with
  | none => rw [hg] at h; exact ⟨fr, hf, .inl ⟨rfl, h⟩⟩
  | some g =>
    obtain ⟨j, want⟩ := g
    rw [hg] at h
    dsimp only at h ⊢
    cases hd : (ops[j]?).bind (·.dst) with
    | none => rw [hd] at h; exact ⟨fr, hf, .inr ⟨rfl, h⟩⟩
    | some d =>
      rw [hd] at h
      dsimp only at h ⊢
      split at h
      · rename_i x hx
        obtain ⟨v, h1, h2⟩ := hf d _ hx
        simp only [RelV] at h2
        subst h2
        rw [h1]
        dsimp only
        cases hq : (x == want) with
        | true => rw [hq] at h; exact ⟨fr, hf, .inl ⟨rfl, h⟩⟩
        | false => rw [hq] at h; exact ⟨fr, hf, .inr ⟨rfl, h⟩⟩
      · rename_i x hx
        obtain ⟨v, h1, h2⟩ := hf d _ hx
        simp only [RelV] at h2
        subst h2
        rw [h1]
        dsimp only
        by_cases e : x = want
        · subst e
          exact ⟨_, relF_known hf h1 (u := .kb x) rfl, .inl ⟨by simp, h.1 rfl⟩⟩
        · have e' : x = !want := by cases x <;> cases want <;> first | rfl | exact absurd rfl e
          refine ⟨_, relF_known hf h1 (u := .kb (!want)) (by simp only [RelV]; rw [e']), .inr ⟨?_, h.2 e'⟩⟩
          have : (x == want) = false := by cases x <;> cases want <;> first | rfl | exact absurd rfl e
          rw [this]
      · rename_i us hx
        obtain ⟨v, h1, h2⟩ := hf d _ hx
        simp only [RelV] at h2
        obtain ⟨vs, rfl, _⟩ := h2
        rw [h1]
        exact ⟨fr, hf, .inr ⟨rfl, h⟩⟩
      · exact h.elim

theorem sOp_ok {C : CallT S} (hC : CalOK Y P G ov o0 ro C) {E : En} {nx : Nat} {m : T (Ct S)} {st : St} {fr : T (U S)} {frV : T V} (hI : Inv Y G o0 ro E nx m st) {o : Op} {k : Kn S} (h : sOp Y P G C fr nx m o k) (hf : RelF Y (Dat Y (ownOf o0 E m) st) E fr frV) :
    ∃ res st', (∃ M, ∀ n, M ≤ n → vop P ro (evF P ov ro n) frV st o = some (res, st')) ∧ Done Y G o0 ro E m st k res st' := by
  have eff : ∀ o, sE Y P fr nx m o k → ∃ res st', (∃ M, ∀ n, M ≤ n → vop P ro (evF P ov ro n) frV st o = some (res, st')) ∧ Done Y G o0 ro E m st k res st' := fun o h =>
    let ⟨res, st', h1, h2⟩ := sE_ok hI h hf
    ⟨res, st', ⟨0, fun n _ => h1 _⟩, h2⟩
  have quiet : ∀ o, (sQ Y P G fr m o fun u => k (some u) nx m [] []) → ∃ res st', (∃ M, ∀ n, M ≤ n → vop P ro (evF P ov ro n) frV st o = some (res, st')) ∧ Done Y G o0 ro E m st k res st' := fun o h =>
    let ⟨u, v, h1, h2, h3⟩ := sQ_ok (ro := ro) hI h hf
    ⟨some v, st, ⟨0, fun n _ => h1.2 _ st.ver⟩, done_pure hI h2 h3⟩
  unfold sOp at h
  split at h
  · exact eff _ h
  · exact eff _ h
  · exact eff _ h
  · exact eff _ h
  · exact eff _ h
  · exact eff _ h
  · rename_i c
    obtain ⟨callee, args, ts⟩ := c
    dsimp only at h
    split at h
    · obtain ⟨w, wv, h1, h2, h3⟩ := sOpd_ok h hf
      split at h3
      · simp only [RelV] at h2
        obtain ⟨cv, rfl, h2⟩ := h2
        obtain ⟨us, vs, h4, h5, h6⟩ := sOpds_ok hf h3
        obtain ⟨v, st', ⟨M, h7⟩, h8⟩ := hC _ _ _ _ _ h6 E st (vs ++ cv) hI (h5.append h2)
        exact ⟨some v, st', ⟨M, fun n hn => by simp only [vop, h4, h1, List.nil_append, h7 n hn]⟩, h8⟩
      · exact h3.elim
    · exact eff _ h
    · exact quiet _ h
  · rename_i t x hi
    obtain ⟨u, uv, h1, h2, h3⟩ := sOpd_ok h hf
    split at h3
    · rename_i r _
      obtain ⟨w, wv, h4, h5, h6⟩ := sOpd_ok h3 hf
      split at h6
      · simp only [RelV] at h5
        subst h5
        obtain ⟨v, h7, h8⟩ := sCut_ok hI h6 h2
        exact ⟨some v, st, ⟨0, fun n _ => by simp only [vop, h1, h4, Option.map]; rw [h7]⟩, h8⟩
      · exact h6.elim
    · exact quiet _ h3
  · exact quiet _ h

theorem sOps_ok {C : CallT S} (hC : CalOK Y P G ov o0 ro C) {st0 : Bs S} {ops : Array Oper} : ∀ (l : List Oper) {z : Z S} {K : Z S → Prop} {frV : T V} {st : St}, sOps Y P G C nt ops l z K → Zat Y G o0 ro st0 z frV st →
    ∃ frV' st', (∃ M, ∀ n, M ≤ n → vops P ro nt (evF P ov ro n) ops l frV st = some (frV', st')) ∧ ∃ z', Zat Y G o0 ro st0 z' frV' st' ∧ K z'
  | [], z, K, frV, st, h, hz => ⟨frV, st, ⟨0, fun _ _ => rfl⟩, z, hz, h⟩
  | o :: r, z, K, frV, st, h, hz => by
    obtain ⟨E, hI, hS, hf⟩ := hz
    simp only [sOps, forceP_eq, killK_eq] at h
    obtain ⟨fr', hf', ⟨hw, h⟩ | ⟨hw, h⟩⟩ := sGuard_ok h hf
    · obtain ⟨res, st', ⟨M, h1⟩, u, nx', m', ks, wr, E', hI', hS', hr, hk⟩ := sOp_ok hC hI h hf'
      obtain ⟨fr2, frV2, h2, h3, h4⟩ := sPut_ok hk (killF_rel hS' hf') hr
      obtain ⟨frV3, st3, ⟨M2, h5⟩, h6⟩ := sOps_ok hC r h4 ⟨E', hI', (hS.trans hS').anyW, h3⟩
      exact ⟨frV3, st3, ⟨max M M2, fun n hn => by simp only [vops, hw, h1 n (by omega), h2, h5 n (by omega)]⟩, h6⟩
    · obtain ⟨fr2, frV2, h2, h3, h4⟩ := sPut_ok (v := none) h hf' trivial
      obtain ⟨frV3, st3, ⟨M2, h5⟩, h6⟩ := sOps_ok hC r h4 ⟨E, hI, hS, h3⟩
      exact ⟨frV3, st3, ⟨M2, fun n hn => by simp only [vops, hw, h2, h5 n hn]⟩, h6⟩

theorem plainU_ok {D : DD S} {E E' : En} {D' : DD S} {u : U S} {v : V} (hp : plainU u = true) (h : RelV Y D E u v) : v.plain = true ∧ RelV Y D' E' u v := by
  cases u <;> simp only [plainU, Bool.false_eq_true] at hp <;> simp only [RelV] at h ⊢ <;> (subst h; exact ⟨rfl, rfl⟩)
theorem plainsU_ok {D : DD S} {E E' : En} {D' : DD S} : ∀ {us : List (U S)} {vs : List V}, plainsU us = true → RelL Y D E us vs → vs.all V.plain = true ∧ RelL Y D' E' us vs
  | [], vs, _, h => by simp only [RelL] at h ⊢; subst h; exact ⟨rfl, rfl⟩
  | u :: us, vs, hp, h => by
    simp only [RelL] at h ⊢
    obtain ⟨v, r, rfl, h1, h2⟩ := h
    simp only [plainsU, Bool.and_eq_true] at hp
    obtain ⟨a1, a2⟩ := plainU_ok (D' := D') (E' := E') hp.1 h1
    obtain ⟨b1, b2⟩ := plainsU_ok (D' := D') (E' := E') hp.2 h2
    exact ⟨by simp [a1, b1], v, r, rfl, a2, b2⟩
theorem plainTU_ok {D : DD S} {E E' : En} {D' : DD S} {u : U S} {v : V} (hp : plainTU u = true) (h : RelV Y D E u v) : v.plainT = true ∧ RelV Y D' E' u v := by
  have one : plainU u = true → v.plainT = true ∧ RelV Y D' E' u v := fun hp => by
    obtain ⟨a1, a2⟩ := plainU_ok (D' := D') (E' := E') hp h
    exact ⟨by cases v <;> simp_all [V.plain, V.plainT], a2⟩
  cases u with
  | a us =>
    simp only [RelV] at h ⊢
    obtain ⟨vs, rfl, h⟩ := h
    obtain ⟨a1, a2⟩ := plainsU_ok (D' := D') (E' := E') hp h
    exact ⟨a1, vs, rfl, a2⟩
  | t us =>
    simp only [RelV] at h ⊢
    obtain ⟨vs, rfl, h⟩ := h
    obtain ⟨a1, a2⟩ := plainsU_ok (D' := D') (E' := E') hp h
    exact ⟨a1, vs, rfl, a2⟩
  | _ => exact one hp

theorem sOpQ_ok {C : CallT S} (hC : CalOK Y P G ov o0 ro C) {E : En} {nx : Nat} {m : T (Ct S)} {st : St} {fr : T (U S)} {frV : T V} (hI : Inv Y G o0 ro E nx m st) {op : Op} {k : U S → Prop} (h : sOpQ Y P G C fr nx m op k) (hf : RelF Y (Dat Y (ownOf o0 E m) st) E fr frV) :
    ∃ u v st', quietOp op = true ∧ (∃ M, ∀ n, M ≤ n → vop P ro (evF P ov ro n) frV ⟨st.nx, st.hp, st.nx⟩ op = some (some v, st')) ∧ (Nat.ble st.nx st'.ver && (Nat.beq st'.nx st.nx || plainO (some v))) = true ∧ RelV Y (Dat Y (ownOf o0 E m) st) E u v ∧ k u := by
  have quiet : ∀ op, sQ Y P G fr m op k → ∃ u v st', quietOp op = true ∧ (∃ M, ∀ n, M ≤ n → vop P ro (evF P ov ro n) frV ⟨st.nx, st.hp, st.nx⟩ op = some (some v, st')) ∧ (Nat.ble st.nx st'.ver && (Nat.beq st'.nx st.nx || plainO (some v))) = true ∧ RelV Y (Dat Y (ownOf o0 E m) st) E u v ∧ k u := fun op h =>
    let ⟨u, v, h1, h2, h3⟩ := sQ_ok (ro := ro) hI h hf
    ⟨u, v, ⟨st.nx, st.hp, st.nx⟩, h1.1, ⟨0, fun n _ => h1.2 _ st.nx⟩, by simp, h2, h3⟩
  unfold sOpQ at h
  split at h
  · rename_i c
    obtain ⟨callee, args, ts⟩ := c
    dsimp only at h
    split at h
    · obtain ⟨w, wv, h1, h2, h3⟩ := sOpd_ok h hf
      split at h3
      · simp only [RelV] at h2
        obtain ⟨cv, rfl, h2⟩ := h2
        obtain ⟨us, vs, h4, h5, h6⟩ := sOpds_ok hf h3
        have st2 : Step o0 E m st E m ⟨st.nx, st.hp, st.nx⟩ [] [] := ⟨Nat.le_refl _, fun _ _ _ => rfl, Nat.le_refl _, fun _ _ _ => rfl, fun _ h => .inl h, fun _ h _ _ => h, fun _ _ _ => rfl⟩
        have hI2 : Inv Y G o0 ro E nx m ⟨st.nx, st.hp, st.nx⟩ := ⟨hI.len, hI.ro, hI.lt, fun r ct hr => by
          have := Ent.keep st2 (hI.ent r ct hr) rfl (fun _ _ _ _ => rfl)
          rwa [killCt_nil] at this, hI.out, hI.glob, hI.inj, hI.dis⟩
        obtain ⟨v, st', ⟨M, h7⟩, u, nx', m', ks, wr, E', hI', hS', hr, hk⟩ := hC _ _ _ _ _ h6 E ⟨st.nx, st.hp, st.nx⟩ (vs ++ cv) hI2 (st2.rels (h5.append h2))
        unfold quietK at hk
        split at hk
        · rename_i u
          cases hp : plainTU u with
          | false => rw [hp] at hk; exact hk.elim
          | true =>
            rw [hp] at hk
            obtain ⟨p1, p2⟩ := plainTU_ok (D' := Dat Y (ownOf o0 E m) st) (E' := E) hp hr
            refine ⟨u, v, st', rfl, ⟨M, fun n hn => by simp only [vop, h4, h1, List.nil_append, h7 n hn]⟩, ?_, p2, hk⟩
            have : st.nx ≤ st'.ver := hS'.ver st.nx (Nat.le_refl _) (Nat.le_refl _) (.inl rfl)
            rw [Bool.and_eq_true, Nat.ble_eq]
            exact ⟨this, by simp only [plainO, p1, Bool.or_true]⟩
        · exact hk.elim
      · exact h3.elim
    · exact quiet _ h
  · exact quiet _ h

theorem sOpsQ_ok {C : CallT S} (hC : CalOK Y P G ov o0 ro C) {E : En} {nx : Nat} {m : T (Ct S)} {st : St} (hI : Inv Y G o0 ro E nx m st) {ops : Array Oper} : ∀ (l : List Oper) {fr : T (U S)} {K : T (U S) → Prop} {frV : T V}, sOpsQ Y P G C nt ops nx m l fr K → RelF Y (Dat Y (ownOf o0 E m) st) E fr frV →
    ∃ frV', (∃ M, ∀ n, M ≤ n → vopsQ P ro nt (evF P ov ro n) ops l frV st = some frV') ∧ ∃ fr', RelF Y (Dat Y (ownOf o0 E m) st) E fr' frV' ∧ K fr'
  | [], fr, K, frV, h, hf => ⟨frV, ⟨0, fun _ _ => rfl⟩, fr, hf, h⟩
  | o :: r, fr, K, frV, h, hf => by
    simp only [sOpsQ] at h
    obtain ⟨fr', hf', ⟨hw, h⟩ | ⟨hw, h⟩⟩ := sGuard_ok h hf
    · have key := sOpQ_ok hC hI h hf'
      obtain ⟨u, v, st', k1, ⟨M, k2⟩, k3, k4, k5⟩ := key
      obtain ⟨fr2, frV2, h2, h3, h4⟩ := sPut_ok (v := some v) k5 hf' k4
      obtain ⟨frV3, ⟨M2, h5⟩, h6⟩ := sOpsQ_ok hC hI r h4 h3
      exact ⟨frV3, ⟨max M M2, fun n hn => by simp only [vopsQ, hw, k1, k2 n (by omega), k3, cond_true, h2, h5 n (by omega)]⟩, h6⟩
    · obtain ⟨fr2, frV2, h2, h3, h4⟩ := sPut_ok (v := none) h hf' trivial
      obtain ⟨frV3, ⟨M2, h5⟩, h6⟩ := sOpsQ_ok hC hI r h4 h3
      exact ⟨frV3, ⟨M2, fun n hn => by simp only [vopsQ, hw, h2, h5 n hn]⟩, h6⟩

/-! ### Regions whose order is open -/

theorem Dat.reVer {own : Nat → Prop} {st : St} {n : Nat} {c : S.Cd} {xs : List (S.Den c)} {v : V} (h : Dat Y own st c xs v) : Dat Y own ⟨st.nx, st.hp, n⟩ c xs v := Dat.keep (st := st) (st' := ⟨st.nx, st.hp, n⟩) (Nat.le_refl st.nx) (fun _ _ _ => rfl) (fun _ _ h => h) h
theorem DatA.reVer {own : Nat → Prop} {st : St} {n : Nat} {u : U S} {v : V} (h : DatA Y own st u v) : DatA Y own ⟨st.nx, st.hp, n⟩ u v := DatA.keep (st := st) (st' := ⟨st.nx, st.hp, n⟩) (Nat.le_refl st.nx) (fun _ _ _ => rfl) (fun _ _ h => h) h
theorem RelV.reVer {own : Nat → Prop} {st : St} {n : Nat} {E : En} {u : U S} {v : V} (h : RelV Y (Dat Y own st) E u v) : RelV Y (Dat Y own ⟨st.nx, st.hp, n⟩) E u v := RelV.mono (fun _ _ h => h) (fun _ _ _ => Dat.reVer) u v h
theorem RelL.reVer {own : Nat → Prop} {st : St} {n : Nat} {E : En} {u : List (U S)} {v : List V} (h : RelL Y (Dat Y own st) E u v) : RelL Y (Dat Y own ⟨st.nx, st.hp, n⟩) E u v := RelL.mono (fun _ _ h => h) (fun _ _ _ => Dat.reVer) u v h
theorem RelF.reVer {own : Nat → Prop} {st : St} {n : Nat} {E : En} {fr : T (U S)} {frV : T V} (h : RelF Y (Dat Y own st) E fr frV) : RelF Y (Dat Y own ⟨st.nx, st.hp, n⟩) E fr frV := fun t u hu => by
  obtain ⟨v, h1, h2⟩ := h t u hu
  exact ⟨v, h1, h2.reVer⟩
theorem Inv.reVer {E : En} {nx : Nat} {m : T (Ct S)} {st : St} (hI : Inv Y G o0 ro E nx m st) (n : Nat) : Inv Y G o0 ro E nx m ⟨st.nx, st.hp, n⟩ := by
  refine ⟨hI.len, hI.ro, hI.lt, fun r ct hr => ?_, hI.out, hI.glob, hI.inj, hI.dis⟩
  have h := hI.ent r ct hr
  cases ct with
  | cells us =>
    obtain ⟨id, hd, b, vs, e1, e2, e3, e4, e5, e6, e7⟩ := h
    exact ⟨id, hd, b, vs, e1, e2, e3, e4, e5, e6.reVer, e7⟩
  | buf c xs =>
    rcases h with h | ⟨id, cap, op, b, q1, q2, q3, q4, q5, q6, q7, q8, vs, q9, q10⟩
    · exact .inl h
    · exact .inr ⟨id, cap, op, b, q1, q2, q3, q4, q5, q6, q7, q8, vs, q9, fun i x hx j u v hu hv => (q10 i x hx j u v hu hv).reVer⟩
  | row c xs =>
    obtain ⟨id, b, q1, q2, q3, q4, q5, vs, q9, q10⟩ := h
    exact ⟨id, b, q1, q2, q3, q4, q5, vs, q9, fun i x hx j u v hu hv => (q10 i x hx j u v hu hv).reVer⟩

theorem keepB_ver {st : St} {n : Nat} : ∀ es : List Vm.Ent, keepB P ⟨st.nx, st.hp, n⟩ es = keepB P st es
  | [] => rfl
  | e :: r => by
    simp only [keepB, keepB_ver r]
    rfl
theorem vbuiltin_anyMem {b : Builtin} (hb : b = .len ∨ b = .min ∨ b = .max) {ts : List TypeId} {vs : List V} {st st' : St} {v : V} (h : vbuiltin P ro b ts vs st = some (v, st')) (st2 : St) : vbuiltin P ro b ts vs st2 = some (v, st2) := by
  rcases hb with rfl | rfl | rfl
  · rcases ts with _ | ⟨t, _ | ⟨t2, tr⟩⟩ <;> rcases vs with _ | ⟨x, _ | ⟨y, r⟩⟩ <;> simp only [vbuiltin, reduceCtorEq] at h ⊢
    cases hv : vlenOp P t x with
    | none => simp [hv] at h
    | some w => simp only [hv, Option.some.injEq, Prod.mk.injEq] at h ⊢; exact ⟨h.1, trivial⟩
  · rcases vs with _ | ⟨x, r⟩ <;> simp only [vbuiltin, reduceCtorEq] at h ⊢
    cases hv : vminL true x r with
    | none => simp [hv] at h
    | some w => simp only [hv, Option.some.injEq, Prod.mk.injEq] at h ⊢; exact ⟨h.1, trivial⟩
  · rcases vs with _ | ⟨x, r⟩ <;> simp only [vbuiltin, reduceCtorEq] at h ⊢
    cases hv : vminL false x r with
    | none => simp [hv] at h
    | some w => simp only [hv, Option.some.injEq, Prod.mk.injEq] at h ⊢; exact ⟨h.1, trivial⟩
/-- What looks at no memory comes to the same in every memory. -/
theorem vop_anyMem {call : CallF} {frV : T V} {op : Op} (hc : opCls op = 0) {st : St} {v : V} (h : ∀ ver, vop P ro call frV ⟨st.nx, st.hp, ver⟩ op = some (some v, ⟨st.nx, st.hp, ver⟩)) (st2 : St) : vop P ro call frV st2 op = some (some v, st2) := by
  replace h := h 0
  have key : ∀ (o : Option V) (s1 : St), (match o with | some v => some (some v, s1) | none => none) = some (some v, s1) → o = some v := by
    intro o s1 h
    cases o with
    | none => cases h
    | some u => simpa using h
  cases op <;> simp only [opCls, quietOp, cond_true, cond_false, reduceCtorEq, Nat.succ_ne_zero] at hc <;> simp only [vop] at h ⊢
  case call c =>
    obtain ⟨callee, args, ts⟩ := c
    cases callee <;> simp only [Nat.succ_ne_zero, reduceCtorEq] at hc
    rename_i b
    cases ha : opnds frV args.toList with
    | none => simp [ha] at h
    | some vs =>
      simp only [ha] at h ⊢
      have hb : b = .len ∨ b = .min ∨ b = .max := by cases b <;> simp_all
      cases hv : vbuiltin P ro b ts.toList vs ⟨st.nx, st.hp, 0⟩ with
      | none => simp [hv] at h
      | some w =>
        obtain ⟨w, s1⟩ := w
        simp only [hv, Option.some.injEq, Prod.mk.injEq] at h
        obtain ⟨rfl, rfl⟩ := h
        simp only [vbuiltin_anyMem hb hv st2]
  all_goals ((repeat' split at h) <;> simp_all)

def EsRel (Y : Sy S) (D : DD S) (E : En) : List (SE S) → List Vm.Ent → Prop
  | [], es => es = []
  | s :: r, es => ∃ e es', es = e :: es' ∧ (e.x = s.x ∧ e.t = s.t ∧ RelV Y D E s.a (.p e.id e.off) ∧ RelV Y D E s.u e.v) ∧ EsRel Y D E r es'
theorem EsRel.mono {D D' : DD S} {E E' : En} (f : ∀ u v, RelV Y D E u v → RelV Y D' E' u v) : ∀ {ses : List (SE S)} {es : List Vm.Ent}, EsRel Y D E ses es → EsRel Y D' E' ses es
  | [], es, h => h
  | s :: r, es, h => by
    obtain ⟨e, es', h1, ⟨h2, h3, h4, h5⟩, h6⟩ := h
    exact ⟨e, es', h1, ⟨h2, h3, f _ _ h4, f _ _ h5⟩, EsRel.mono f h6⟩
theorem EsRel.kills {D D' : DD S} {E E' : En} {ks : List Nat} (f : ∀ u v, RelV Y D E u v → RelV Y D' E' (kill ks u) v) (f0 : ks = [] → ∀ u v, RelV Y D E u v → RelV Y D' E' u v) {ses : List (SE S)} {es : List Vm.Ent} (h : EsRel Y D E ses es) : EsRel Y D' E' (killS ks ses) es := by
  unfold killS
  cases ks with
  | nil => exact h.mono (f0 rfl)
  | cons k ks =>
    have go : ∀ {ses : List (SE S)} {es : List Vm.Ent}, EsRel Y D E ses es → EsRel Y D' E' (ses.map fun e => ⟨e.x, e.t, kill (k :: ks) e.a, kill (k :: ks) e.u⟩) es := by
      intro ses
      induction ses with
      | nil => intro es h; exact h
      | cons s r ih =>
        intro es h
        obtain ⟨e, es', h1, ⟨h2, h3, h4, h5⟩, h6⟩ := h
        exact ⟨e, es', h1, ⟨h2, h3, f _ _ h4, f _ _ h5⟩, ih h6⟩
    exact go h
theorem EsRel.alive {D : DD S} {E : En} {ops : Array Oper} {i : Nat} : ∀ {ses : List (SE S)} {es : List Vm.Ent}, EsRel Y D E ses es → EsRel Y D E (aliveS ops i ses) (aliveE ops i es)
  | [], es, h => by simp only [EsRel] at h; subst h; rfl
  | s :: r, es, h => by
    obtain ⟨e, es', rfl, ⟨h2, h3, h4, h5⟩, h6⟩ := h
    simp only [aliveS, aliveE, h2]
    cases Region.waitsT .any ops i s.x with
    | true => exact h6.alive
    | false => exact ⟨e, _, rfl, ⟨h2, h3, h4, h5⟩, h6.alive⟩

/-- What was read from data reads the same. -/
def PdOK (P : Program) (st : St) (E : En) (m : T (Ct S)) (e : Vm.Ent) : Prop := ¬ named E m e.id ∧ e.id < st.nx ∧ vload P st e.t e.id e.off = some e.v
def EsPd (P : Program) (st : St) (E : En) (m : T (Ct S)) : List (SE S) → List Vm.Ent → Prop
  | s :: r, e :: es => (isPd s.a = true → PdOK P st E m e) ∧ EsPd P st E m r es
  | _, _ => True
theorem isPd_kill (ks : List Nat) (u : U S) : isPd (kill ks u) = true → isPd u = true := by
  cases u <;> simp only [kill] <;> first | exact id | (intro h; split at h <;> first | exact h | cases h) | (intro h; cases hc : mem ks _ <;> rw [hc] at h <;> cases h)
theorem PdOK.step {E E' : En} {m m' : T (Ct S)} {st st' : St} {ks wr : List Nat} {e : Vm.Ent} (hs : Step o0 E m st E' m' st' ks wr) (h : PdOK P st E m e) : PdOK P st' E' m' e := by
  obtain ⟨h1, h2, h3⟩ := h
  refine ⟨fun q => ?_, Nat.lt_of_lt_of_le h2 hs.nx, ?_⟩
  · rcases hs.nam _ q with z | z
    · exact h1 z
    · omega
  · unfold vload at h3 ⊢
    rw [hs.keep _ h2 h1]
    exact h3
theorem EsPd.step {E E' : En} {m m' : T (Ct S)} {st st' : St} {ks wr : List Nat} (hs : Step o0 E m st E' m' st' ks wr) : ∀ {ses : List (SE S)} {es : List Vm.Ent}, EsPd P st E m ses es → EsPd P st' E' m' (killS ks ses) es := by
  have go : ∀ (f : U S → U S) (g : U S → U S) (hf : ∀ u, isPd (f u) = true → isPd u = true) {ses : List (SE S)} {es : List Vm.Ent}, EsPd P st E m ses es → EsPd P st' E' m' (ses.map fun e => ⟨e.x, e.t, f e.a, g e.u⟩) es := by
    intro f g hf ses
    induction ses with
    | nil => intro es h; cases es <;> trivial
    | cons s r ih =>
      intro es h
      cases es with
      | nil => trivial
      | cons e es => exact ⟨fun q => (h.1 (hf _ q)).step hs, ih h.2⟩
  intro ses es h
  unfold killS
  cases ks with
  | nil =>
    have := go id id (fun _ q => q) h
    simpa using this
  | cons k r => exact go (kill (k :: r)) (kill (k :: r)) (fun u q => isPd_kill _ u q) h
theorem EsPd.alive {D : DD S} {E E0 : En} {m : T (Ct S)} {st : St} {ops : Array Oper} {i : Nat} : ∀ {ses : List (SE S)} {es : List Vm.Ent}, EsRel Y D E0 ses es → EsPd P st E m ses es → EsPd P st E m (aliveS ops i ses) (aliveE ops i es)
  | [], es, _, _ => by cases es <;> first | trivial | (simp only [aliveS]; cases aliveE ops i _ <;> trivial)
  | s :: r, es, h, hp => by
    obtain ⟨e, es', rfl, ⟨h2, h3, h4, h5⟩, h6⟩ := h
    simp only [aliveS, aliveE, h2]
    cases Region.waitsT .any ops i s.x with
    | true => exact EsPd.alive h6 hp.2
    | false => exact ⟨hp.1, EsPd.alive h6 hp.2⟩

theorem detU_ok {E : En} {nx : Nat} {m : T (Ct S)} {st : St} (hI : Inv Y G o0 ro E nx m st) {D D' : DD S} {u : U S} {v w : V} (hd : detU m u = true) (h : RelV Y D E u v) (h' : RelV Y D' E u w) : same1 v w = true := by
  have refl : ∀ v : V, (noRoom v = true ∨ ∃ a b c d e, v = .sl a b c d e) → same1 v v = true := by
    rintro v (q | ⟨a, b, c, d, e, rfl⟩)
    · cases v <;> simp only [noRoom, Bool.false_eq_true] at q <;> simp [same1]
    · cases e <;> simp [same1]
  cases u <;> simp only [detU, Bool.false_eq_true] at hd <;> simp only [RelV] at h h'
  case b x => subst h h'; cases x <;> rfl
  case kb x => subst h h'; cases x <;> rfl
  case i k n => subst h h'; simp [same1]
  case s l => subst h h'; simp [V.str, same1]
  case pn => subst h h'; rfl
  case sn => subst h h'; rfl
  case fz => subst h h'; rfl
  case nz => subst h h'; rfl
  case p r off =>
    obtain ⟨id, y, e1, rfl⟩ := h
    obtain ⟨id', y', e1', rfl⟩ := h'
    rw [e1] at e1'
    cases e1'
    simp [same1]
  case g g off =>
    obtain ⟨_, rfl⟩ := h
    obtain ⟨_, rfl⟩ := h'
    simp [same1]
  case o r =>
    obtain ⟨y, e1, _⟩ := h
    obtain ⟨y', e1', _⟩ := h'
    rw [e1] at e1'
    cases e1'
    split at hd
    · rename_i c xs hr
      rcases hI.ent r _ hr with ⟨_, q1, _, q0⟩ | ⟨id, cap, op, b, q1, _⟩
      · rw [e1] at q1; cases q1; exact refl _ (.inl q0)
      · rw [e1] at q1; cases q1; exact refl _ (.inr ⟨_, _, _, _, _, rfl⟩)
    · cases hd
theorem detL_ok {E : En} {nx : Nat} {m : T (Ct S)} {st : St} (hI : Inv Y G o0 ro E nx m st) {D D' : DD S} : ∀ {us : List (U S)} {vs ws : List V}, detL m us = true → RelL Y D E us vs → RelL Y D' E us ws → sameL vs ws = true
  | [], vs, ws, _, h, h' => by simp only [RelL] at h h'; subst h h'; rfl
  | u :: us, vs, ws, hd, h, h' => by
    simp only [RelL] at h h'
    simp only [detL, Bool.and_eq_true] at hd
    obtain ⟨v, r, rfl, h1, h2⟩ := h
    obtain ⟨v', r', rfl, h1', h2'⟩ := h'
    simp only [sameL, Bool.and_eq_true]
    exact ⟨detU_ok hI hd.1 h1 h1', detL_ok hI hd.2 h2 h2'⟩
theorem detT_ok {E : En} {nx : Nat} {m : T (Ct S)} {st : St} (hI : Inv Y G o0 ro E nx m st) {D D' : DD S} {u : U S} {v w : V} (hd : detT m u = true) (h : RelV Y D E u v) (h' : RelV Y D' E u w) : sameV v w = true := by
  have one : detU m u = true → sameV v w = true := fun hd => by
    have := detU_ok hI hd h h'
    unfold sameV
    split
    · simp [same1] at this
    · exact this
  cases u with
  | a us =>
    simp only [RelV] at h h'
    obtain ⟨vs, rfl, h⟩ := h
    obtain ⟨ws, rfl, h'⟩ := h'
    exact detL_ok hI hd h h'
  | _ => exact one hd

theorem dat_self {own : Nat → Prop} {st : St} {c : S.Cd} {xs : List (S.Den c)} {v : V} (h : Dat Y own st c xs v) : same1 v v = true := by
  cases h <;> simp [same1]
theorem fl1_self {own : Nat → Prop} {st : St} {E : En} {u : U S} {v : V} (hf : U.flat u = true) (h : RelV Y (Dat Y own st) E u v) : same1 v v = true := by
  cases u with
  | b x => have e : v = .b x := h; subst e; cases x <;> rfl
  | i k n => have e : v = .i k n := h; subst e; simp [same1]
  | s l => have e : v = V.str l := h; subst e; simp [V.str, same1]
  | sn => have e : v = .sn := h; subst e; rfl
  | l c xs => exact dat_self h
  | _ => cases hf
theorem fl_self {own : Nat → Prop} {st : St} {E : En} : ∀ {us : List (U S)} {vs : List V}, us.all U.flat = true → RelL Y (Dat Y own st) E us vs → sameL vs vs = true
  | [], vs, _, h => by
    simp only [RelL] at h
    subst h
    rfl
  | u :: us, vs, hf, h => by
    obtain ⟨v, r, rfl, h1, h2⟩ := h
    rw [List.all_cons, Bool.and_eq_true] at hf
    simp only [sameL, fl1_self hf.1 h1, fl_self hf.2 h2, Bool.and_self]
theorem flT_self {own : Nat → Prop} {st : St} {E : En} {u : U S} {v : V} (hf : flT u = true) (h : RelV Y (Dat Y own st) E u v) : sameV v v = true := by
  cases u with
  | a us =>
    obtain ⟨vs, rfl, h2⟩ := h
    exact fl_self hf h2
  | _ =>
    have h1 : same1 v v = true := fl1_self (by exact hf) h
    cases v <;> first | exact h1 | (simp [same1] at h1)
def EsQ (Q : U S → Vm.Ent → Prop) : List (SE S) → List Vm.Ent → Prop
  | s :: r, e :: es => Q s.a e ∧ EsQ Q r es
  | _, _ => True
theorem EsQ.of {D : DD S} {E : En} {Q : U S → Vm.Ent → Prop} : ∀ {ses : List (SE S)} {es : List Vm.Ent}, EsRel Y D E ses es → (∀ (s : SE S) e, e ∈ es → RelV Y D E s.a (.p e.id e.off) → Q s.a e) → EsQ Q ses es
  | [], es, _, _ => by cases es <;> trivial
  | s :: r, es, h, hq => by
    obtain ⟨e, es', rfl, ⟨h2, h3, h4, h5⟩, h6⟩ := h
    exact ⟨hq s e (List.mem_cons_self ..) h4, EsQ.of h6 fun s e he => hq s e (List.mem_cons_of_mem _ he)⟩
theorem EsQ.alive {D : DD S} {E0 : En} {Q : U S → Vm.Ent → Prop} {ops : Array Oper} {i : Nat} : ∀ {ses : List (SE S)} {es : List Vm.Ent}, EsRel Y D E0 ses es → EsQ Q ses es → EsQ Q (aliveS ops i ses) (aliveE ops i es)
  | [], es, _, _ => by simp only [aliveS]; cases aliveE ops i es <;> trivial
  | s :: r, es, h, hp => by
    obtain ⟨e, es', rfl, ⟨h2, h3, h4, h5⟩, h6⟩ := h
    simp only [aliveS, aliveE, h2]
    cases Region.waitsT .any ops i s.x with
    | true => exact EsQ.alive h6 hp.2
    | false => exact ⟨hp.1, EsQ.alive h6 hp.2⟩
theorem EsQ.kill {Q : U S → Vm.Ent → Prop} {ks : List Nat} (hq : ∀ a e, Q a e → Q (Go.Sx.kill ks a) e) {ses : List (SE S)} {es : List Vm.Ent} (h : EsQ Q ses es) : EsQ Q (killS ks ses) es := by
  unfold killS
  cases ks with
  | nil => exact h
  | cons k r =>
    dsimp only
    induction ses generalizing es with
    | nil => cases es <;> trivial
    | cons s t ih =>
      cases es with
      | nil => trivial
      | cons e es => exact ⟨hq _ _ h.1, ih h.2⟩
theorem EsQ.both {Q R : U S → Vm.Ent → Prop} : ∀ {ses : List (SE S)} {es : List Vm.Ent}, EsQ Q ses es → EsQ R ses es → EsQ (fun a e => Q a e ∧ R a e) ses es
  | [], es, _, _ => by cases es <;> trivial
  | s :: r, [], _, _ => trivial
  | s :: r, e :: es, h, h' => ⟨⟨h.1, h'.1⟩, EsQ.both h.2 h'.2⟩
theorem EsPd.q {E : En} {m : T (Ct S)} {st : St} : ∀ {ses : List (SE S)} {es : List Vm.Ent}, EsPd P st E m ses es → EsQ (fun a e => isPd a = true → vload P st e.t e.id e.off = some e.v) ses es
  | [], es, _ => by cases es <;> trivial
  | s :: r, [], _ => trivial
  | s :: r, e :: es, h => ⟨fun q => (h.1 q).2.2, EsPd.q h.2⟩
theorem skipP_kill {m0 : T (Ct S)} {b : Bool} {tgt : Option Nat} {ks : List Nat} {a : U S} (h : skipP m0 b tgt (kill ks a) = true) : skipP m0 b tgt a = true := by
  cases a <;> simp only [kill] at h <;> first
    | exact h
    | (cases hc : mem ks _ <;> rw [hc] at h <;> first | exact h | cases h)
    | cases h
theorem sKeep_ok {E : En} {nx : Nat} {m0 m : T (Ct S)} {b : Bool} {tgt : Option Nat} {st : St} (hI : Inv Y G o0 ro E nx m st) : ∀ {ses : List (SE S)} {es : List Vm.Ent} {p : Prop}, sKeep Y P G m0 b tgt m ses p → EsRel Y (Dat Y (ownOf o0 E m) st) E ses es →
    EsQ (fun a e => (isPd a = true → vload P st e.t e.id e.off = some e.v) ∧ (skipP m0 b tgt a = true → vload P st e.t e.id e.off = some e.v)) ses es → keepB P st es = true ∧ p
  | [], es, p, h, hr, _ => by simp only [EsRel] at hr; subst hr; exact ⟨rfl, h⟩
  | s :: r, es, p, h, hr, hp => by
    obtain ⟨e, es', rfl, ⟨h2, h3, h4, h5⟩, h6⟩ := hr
    simp only [sKeep] at h
    cases hpd : ((isPd s.a || skipP m0 b tgt s.a) && flT s.u) with
    | true =>
      rw [hpd, cond_true] at h
      rw [Bool.and_eq_true, Bool.or_eq_true] at hpd
      obtain ⟨k5, k6⟩ := sKeep_ok hI h h6 hp.2
      refine ⟨?_, k6⟩
      simp only [keepB]
      rw [hpd.1.elim hp.1.1 hp.1.2]
      simp only [flT_self hpd.2 h5, cond_true, k5]
    | false =>
      rw [hpd, cond_false] at h
      obtain ⟨id, off, u, w, k1, k2, k3, rfl, k4⟩ := sLoad_ok hI h h4
      cases k1
      cases hd : detT m s.u with
      | false => rw [hd] at k4; exact k4.elim
      | true =>
        rw [hd] at k4
        obtain ⟨k5, k6⟩ := sKeep_ok hI k4 h6 hp.2
        refine ⟨?_, k6⟩
        simp only [keepB]
        rw [h3, k2]
        simp only [detT_ok hI hd k3 h5, cond_true, k5]
/-- All that was read reads the same. -/
def EsF (P : Program) (st : St) (es : List Vm.Ent) : Prop := ∀ e ∈ es, vload P st e.t e.id e.off = some e.v
def EsLt (st : St) (es : List Vm.Ent) : Prop := ∀ e ∈ es, e.id < st.nx
theorem alive_mem {ops : Array Oper} {i : Nat} : ∀ {es : List Vm.Ent}, ∀ e ∈ aliveE ops i es, e ∈ es
  | [], e, h => h
  | x :: r, e, h => by
    simp only [aliveE] at h
    cases hw : Region.waitsT .any ops i x.x with
    | true => rw [hw] at h; exact List.mem_cons_of_mem _ (alive_mem e h)
    | false =>
      rw [hw] at h
      rcases List.mem_cons.1 h with rfl | h
      · exact List.mem_cons_self ..
      · exact List.mem_cons_of_mem _ (alive_mem e h)
theorem keepB_all {st : St} : ∀ {es : List Vm.Ent}, keepB P st es = true → ∀ e ∈ es, vload P st e.t e.id e.off = some e.v
  | [], _, e, he => by cases he
  | x :: r, h, e, he => by
    simp only [keepB] at h
    cases hv : vload P st x.t x.id x.off with
    | none => rw [hv] at h; cases h
    | some v =>
      rw [hv] at h
      dsimp only at h
      cases hs : sameV v x.v with
      | false => rw [hs] at h; cases h
      | true =>
        rw [hs, cond_true] at h
        rcases List.mem_cons.1 he with rfl | he
        · rw [hv, sameV_eq hs]
        · exact keepB_all h e he
theorem vload_hp {st st' : St} {id : Nat} (h : st'.hp.get id = st.hp.get id) (t : TypeId) (off : Nat) : vload P st' t id off = vload P st t id off := by
  unfold vload
  rw [h]
theorem al_keep {call : CallF} {frV : T V} {st st1 : St} {op : Op} {res : Option V} (hop : isAl op = true) (h : vop P ro call frV st op = some (res, st1)) : ∀ id, id < st.nx → st1.hp.get id = st.hp.get id := by
  cases op with
  | alloc t =>
    intro id hid
    simp only [vop] at h
    cases hz : zeroOf P t with
    | none => simp [hz] at h
    | some z =>
      cases hn : sizeB P t with
      | none => simp [hz, hn] at h
      | some n =>
        cases hb : blkOf z.cells n false with
        | none => simp [hz, hn, valloc, hb] at h
        | some bb =>
          simp only [hz, hn, valloc, hb, natF_eq] at h
          obtain ⟨_, rfl⟩ := Prod.mk.inj (Option.some.inj h)
          exact alloc_hp st bb id hid
  | _ => cases hop
theorem pd_ok {E : En} {m : T (Ct S)} {st : St} {a : U S} {id off : Nat} {x : Nat} {t : TypeId} {w : V} (q : isPd a = true) (h : RelV Y (Dat Y (ownOf o0 E m) st) E a (.p id off)) (hv : vload P st t id off = some w) : PdOK P st E m ⟨x, t, id, off, w⟩ := by
  cases a with
  | pd c xs i o =>
    obtain ⟨h0, id', o', cap, op, h1, h2⟩ := h
    cases h2
    cases h1 with
    | mk vs g1 g2 g3 g4 g5 g6 => exact ⟨fun z => g1 (.inr z), g2, hv⟩
  | _ => cases q
theorem sLoad_lt {E : En} {nx : Nat} {m : T (Ct S)} {st : St} (hI : Inv Y G o0 ro E nx m st) {t : TypeId} {a : U S} {k : U S → Prop} {id off : Nat} (h : sLoad Y P G m t a k) (hx : RelV Y (Dat Y (ownOf o0 E m) st) E a (.p id off)) : id < st.nx := by
  unfold sLoad at h
  split at h
  · rename_i r o
    split at h
    · rename_i us hm
      obtain ⟨id', x, e1, e2⟩ := hx
      cases e2
      obtain ⟨id2, y, b, vs, g1, g2, g3, _⟩ := hI.ent r _ hm
      rw [e1] at g1
      cases g1
      exact g3
    · exact h.elim
  · rename_i r w i o
    split at h
    · rename_i c xs hm
      obtain ⟨id', x, e1, e2⟩ := hx
      rcases hI.ent r _ hm with ⟨v0, g1, _⟩ | ⟨id2, cap, op, b, g1, g2, g3, _⟩
      · rw [e1] at g1; cases g1
      · rw [e1] at g1
        cases g1
        cases e2
        exact g3
    · exact h.elim
  · obtain ⟨h0, id', o', cap, op, h1, h2⟩ := hx
    cases h2
    cases h1 with
    | mk vs g1 g2 g3 g4 g5 g6 => exact g2
  · rename_i g o
    split at h
    · rename_i kd l hg
      obtain ⟨_, e⟩ := hx
      cases e
      exact Nat.lt_of_lt_of_le (hI.glob _ kd l hg).1 hI.ro
    · exact h.elim
  · exact h.elim
theorem vstore_other {st st' : St} {t : TypeId} {id off j : Nat} {v : V} (h : vstore P ro st t id off v = some st') (hj : j ≠ id) : st'.hp.get j = st.hp.get j := by
  unfold vstore at h
  split at h
  · rename_i b ti hb hti
    cases hc : (Nat.ble ro id && Nat.beq v.cells.length ti.size) with
    | false => rw [hc] at h; cases h
    | true =>
      rw [hc, cond_true] at h
      cases hp : b.put v.cells off with
      | none => rw [hp] at h; cases h
      | some b2 =>
        rw [hp] at h
        cases h
        exact write_hp st b2 id j hj
  · cases h
/-- A store to another named block. -/
theorem skip_ok {E : En} {nx : Nat} {m : T (Ct S)} {st st1 : St} {D : DD S} (hI : Inv Y G o0 ro E nx m st) {fr : T (U S)} {frV : T V} (hf : RelF Y D E fr frV) {call : CallF} {op : Op} {res : Option V} {b : Bool} {s : SE S} {e : Vm.Ent} (hv : vop P ro call frV ⟨st.nx, st.hp, st.nx⟩ op = some (res, st1))
    (q : skipP m b (tgtOf fr op) s.a = true) (hr : RelV Y D E s.a (.p e.id e.off)) (hF : b = true → vload P st e.t e.id e.off = some e.v) (n : Nat) : vload P ⟨st1.nx, st1.hp, n⟩ e.t e.id e.off = some e.v := by
  unfold skipP at q
  split at q
  · rename_i r o ha
    rw [ha] at hr
    obtain ⟨id, x, e1, e2⟩ := hr
    split at q
    · rename_i r' ht
      simp only [Bool.and_eq_true, Bool.not_eq_true', Option.isSome_iff_exists] at q
      obtain ⟨qb, qn, ⟨c1, m1⟩, ⟨c2, m2⟩⟩ := q
      unfold tgtOf at ht
      split at ht
      · rename_i t t' v
        split at ht
        · rename_i r2 o2 hg
          cases ht
          obtain ⟨w, w1, id', x', e3, e4⟩ := hf t' _ hg
          subst e4
          have ne : e.id ≠ id' := by
            intro z
            cases e2
            rw [z] at e1
            have := hI.inj r r' c1 c2 id' x x' m1 m2 e1 e3
            subst this
            simp at qn
          have w2 : opnd frV (.tmp t') = some (.p id' o2) := w1
          have : st1.hp.get e.id = st.hp.get e.id := by
            cases hy : opnd frV v with
            | none => simp [vop, w2, hy] at hv
            | some y =>
              cases hs : vstore P ro ⟨st.nx, st.hp, st.nx⟩ t id' o2 y with
              | none => simp [vop, w2, hy, hs] at hv
              | some st2 =>
                simp only [vop, w2, hy, hs] at hv
                obtain ⟨_, rfl⟩ := Prod.mk.inj (Option.some.inj hv)
                exact vstore_other (st := ⟨st.nx, st.hp, st.nx⟩) hs ne
          unfold vload
          rw [show (⟨st1.nx, st1.hp, n⟩ : St).hp.get e.id = st.hp.get e.id from this]
          exact hF qb
        · cases ht
      · cases ht
    · cases q
  · cases q
theorem sRun_ok {C : CallT S} (hC : CalOK Y P G ov o0 ro C) {st0 : Bs S} {ops : Array Oper} : ∀ (l : List (Nat × Oper)) {b : Bool} {ses : List (SE S)} {es : List Vm.Ent} {z : Z S} {K : Z S → Prop} {frV : T V} {st : St} {E : En}, sRun Y P G C nt ops l b ses z K →
    Inv Y G o0 ro E z.nx z.m st → Step o0 st0.E st0.m st0.st E z.m st z.ks [0] → RelF Y (Dat Y (ownOf o0 E z.m) st) E z.fr frV → EsRel Y (Dat Y (ownOf o0 E z.m) st) E ses es → EsPd P st E z.m ses es → EsLt st es → (b = true → EsF P st es) →
    ∃ frV' st', (∃ M, ∀ n, M ≤ n → runO P ro nt (evF P ov ro n) ops l es frV st = some (frV', st')) ∧ ∃ z', Zat Y G o0 ro st0 z' frV' st' ∧ K z'
  | [], b, ses, es, z, K, frV, st, E, h, hI, hS, hf, he, _, _, _ => ⟨frV, st, ⟨0, fun _ _ => rfl⟩, z, ⟨E, hI, hS, hf⟩, h⟩
  | (i, o) :: r, b, ses, es, z, K, frV, st, E, h, hI, hS, hf, he, hpd, hlt, hF => by
    simp only [sRun, forceP_eq, killK_eq] at h
    obtain ⟨fr', hf', ⟨hw, h⟩ | ⟨hw, h⟩⟩ := sGuard_ok h hf
    · split at h
      · rename_i hc
        obtain ⟨u, v, h1, h2, h3⟩ := sQ_ok (ro := ro) hI h hf'
        obtain ⟨fr2, frV2, k1, k2, k3⟩ := sPut_ok (v := some v) h3 hf' h2
        obtain ⟨frV3, st3, ⟨M2, h5⟩, h6⟩ := sRun_ok hC r k3 hI hS k2 he hpd hlt hF
        refine ⟨frV3, st3, ⟨M2, fun n hn => ?_⟩, h6⟩
        unfold runO
        simp only [hw, hc, vop_anyMem hc (h1.2 _) ⟨st.nx, .e, 0⟩, k1]
        exact h5 n hn
      · rename_i hc
        split at h
        · rename_i t x hop
          obtain ⟨a, av, h1, h2, h3⟩ := sOpd_ok h hf'
          obtain ⟨id, off, u, w, rfl, h4, h5, h6⟩ := sLoad_ok hI h3 h2
          obtain ⟨fr2, frV2, k1, k2, k3⟩ := sPut_ok (v := some w) h6 hf' h5
          obtain ⟨frV3, st3, ⟨M2, h7⟩, h8⟩ := sRun_ok (es := ⟨i, t, id, off, w⟩ :: es) hC r k3 hI hS k2 ⟨_, _, rfl, ⟨rfl, rfl, h2, h5⟩, he⟩ ⟨fun q => pd_ok q h2 h4, hpd⟩ (fun e hm => (List.mem_cons.1 hm).elim (fun z => by subst z; exact sLoad_lt hI h3 h2) (fun z => hlt e z)) (fun q e hm => (List.mem_cons.1 hm).elim (fun z => by subst z; exact h4) (fun z => hF q e z))
          refine ⟨frV3, st3, ⟨M2, fun n hn => ?_⟩, h8⟩
          unfold runO
          simp only [hw, hc]
          rw [hop]
          simp only [h1, h4, k1]
          exact h7 n hn
        · exact h.elim
      · rename_i hc0 hc1
        have hI1 := hI.reVer st.nx
        obtain ⟨res, st1, ⟨M, h1⟩, u, nx', m', ks, wr, E', hI', hS', hr, hk⟩ := sOp_ok hC hI1 h (RelF.reVer hf')
        have hSx : Step o0 E z.m st E' m' ⟨st1.nx, st1.hp, low st.ver st1.ver⟩ ks wr := ⟨hS'.len, hS'.same, hS'.nx, hS'.keep, hS'.nam, (fun j j1 j2 j3 => by
          have := hS'.ver j j1 j1 j3
          show j ≤ low st.ver st1.ver
          unfold low
          cases Nat.ble st.ver st1.ver <;> simp only [cond_true, cond_false] <;> assumption), hS'.all⟩
        have hI2 := hI'.reVer (low st.ver st1.ver)
        have hf2 : RelF Y (Dat Y (ownOf o0 E' m') ⟨st1.nx, st1.hp, low st.ver st1.ver⟩) E' (killF ks fr') frV := killF_rel hSx hf'
        have he2 : EsRel Y (Dat Y (ownOf o0 E' m') ⟨st1.nx, st1.hp, low st.ver st1.ver⟩) E' (killS ks (aliveS ops i ses)) (aliveE ops i es) :=
          he.alive.kills (fun u v h => hSx.relK h) (fun q u v h => by subst q; exact hSx.rel h)
        have hp2 : EsPd P ⟨st1.nx, st1.hp, low st.ver st1.ver⟩ E' m' (killS ks (aliveS ops i ses)) (aliveE ops i es) := (hpd.alive he).step hSx
        have hlt2 : EsLt ⟨st1.nx, st1.hp, low st.ver st1.ver⟩ (aliveE ops i es) := fun e hm => Nat.lt_of_lt_of_le (hlt e (alive_mem e hm)) hS'.nx
        have fin : ∀ b2, (Nat.ble st.nx st1.ver || keepB P st1 (aliveE ops i es)) = true → (sPut nt (killF ks fr') o.dst u fun fr' => sRun Y P G C nt ops r b2 (killS ks (aliveS ops i ses)) ⟨fr', nx', m', ks ++ z.ks⟩ K) → (b2 = true → EsF P ⟨st1.nx, st1.hp, low st.ver st1.ver⟩ (aliveE ops i es)) →
            ∃ frV' st', (∃ M, ∀ n, M ≤ n → runO P ro nt (evF P ov ro n) ops ((i, o) :: r) es frV st = some (frV', st')) ∧ ∃ z', Zat Y G o0 ro st0 z' frV' st' ∧ K z' := by
          intro b2 hkeep hk hF2
          have hr2 : RelO Y (Dat Y (ownOf o0 E' m') ⟨st1.nx, st1.hp, low st.ver st1.ver⟩) E' u res := by
            cases u <;> cases res <;> first | exact hr | exact RelV.reVer hr
          obtain ⟨fr2, frV2, k1, k2, k3⟩ := sPut_ok hk hf2 hr2
          obtain ⟨frV3, st3, ⟨M2, h5⟩, h6⟩ := sRun_ok hC r k3 hI2 (hS.trans hSx).anyW k2 he2 hp2 hlt2 hF2
          obtain ⟨n0, hn0⟩ : ∃ n, opCls o.op = n + 2 := by
            cases hq : opCls o.op with
            | zero => exact absurd hq hc0
            | succ q => cases q with
              | zero => exact absurd hq hc1
              | succ q => exact ⟨q, rfl⟩
          refine ⟨frV3, st3, ⟨max M M2, fun n hn => ?_⟩, h6⟩
          unfold runO
          simp only [hw, hn0, h1 n (by omega), hkeep, k1, natF_eq]
          exact h5 n (by omega)
        split at hk
        · refine fin _ ?_ hk fun q e hm => ?_
          rotate_left
          · exact (vload_hp (st := st) (st' := ⟨st1.nx, st1.hp, low st.ver st1.ver⟩) (hS'.all rfl _ (hlt e (alive_mem e hm))) _ _).trans (hF q e (alive_mem e hm))
          have : st.nx ≤ st1.ver := hS'.ver st.nx (Nat.le_refl _) (Nat.le_refl _) (.inl rfl)
          rw [Bool.or_eq_true, Nat.ble_eq]
          exact .inl this
        · have hq : EsQ (fun a e => skipP z.m b (tgtOf fr' o.op) a = true → vload P ⟨st1.nx, st1.hp, low st.ver st1.ver⟩ e.t e.id e.off = some e.v) ses es := EsQ.of he fun s e hm hr q => skip_ok hI hf' (h1 M (Nat.le_refl _)) q hr (fun z => hF z e hm) _
          have hq2 := (EsQ.alive (ops := ops) (i := i) he hq).kill (ks := ks) (fun a e w q => w (skipP_kill q))
          obtain ⟨k1, k2⟩ := sKeep_ok hI2 hk he2 (hp2.q.both hq2)
          refine fin true ?_ k2 fun _ => keepB_all k1
          rw [Bool.or_eq_true]
          exact .inr (by rw [← keepB_ver]; exact k1)
    · obtain ⟨fr2, frV2, h2, h3, h4⟩ := sPut_ok (v := none) h hf' trivial
      obtain ⟨frV3, st3, ⟨M2, h5⟩, h6⟩ := sRun_ok hC r h4 hI hS h3 he hpd hlt hF
      exact ⟨frV3, st3, ⟨M2, fun n hn => by unfold runO; simp only [hw, h2]; exact h5 n hn⟩, h6⟩

theorem relF_step {E E' : En} {m m' : T (Ct S)} {st st' : St} {wr : List Nat} {fr : T (U S)} {frV : T V} (hs : Step o0 E m st E' m' st' [] wr) (hf : RelF Y (Dat Y (ownOf o0 E m) st) E fr frV) : RelF Y (Dat Y (ownOf o0 E' m') st') E' fr frV := fun t u hu => by
  obtain ⟨v, h1, h2⟩ := hf t u hu
  exact ⟨v, h1, hs.rel h2⟩
theorem sPair_ok {st0 : Bs S} {o q : Oper} {z : Z S} {K : Z S → Prop} {frV : T V} {st : St} (h : sPair Y P z o q K) (hz : Zat Y G o0 ro st0 z frV st) : ∃ st', runPair P ro o q frV st = some st' ∧ ∃ z', Zat Y G o0 ro st0 z' frV st' ∧ K z' := by
  obtain ⟨E, hI, hS, hf⟩ := hz
  unfold sPair at h
  split at h
  · rename_i t x v t' y u ho hq
    obtain ⟨a, av, h1, h2, g1⟩ := sOpd_ok h hf
    obtain ⟨b, bv, h3, h4, g2⟩ := sOpd_ok g1 hf
    obtain ⟨c, cv, h5, h6, g3⟩ := sOpd_ok g2 hf
    obtain ⟨d, dv, h7, h8, g4⟩ := sOpd_ok g3 hf
    clear h g1 g2 g3
    split at g4
    · rename_i r off r' off'
      split at g4
      · rename_i c1 c2 m1 m2
        cases hc : Nat.beq r r' with
        | true => rw [hc] at g4; exact g4.elim
        | false =>
          rw [hc, cond_false] at g4
          obtain ⟨id, yo, e1, e2⟩ := h2
          obtain ⟨id', yo', e3, e4⟩ := h6
          have ne : Nat.beq id id' = false := by
            cases hb : Nat.beq id id' with
            | false => rfl
            | true =>
              rw [Nat.beq_eq] at hb
              subst hb
              have := hI.inj r r' c1 c2 id yo yo' m1 m2 e1 e3
              subst this
              simp at hc
          obtain ⟨i1, o1, st1, f1, f2, u1, nx1, mm1, ks1, wr1, E1, I1, S1, R1, K1⟩ := sStore_ok hI g4 ⟨id, yo, e1, e2⟩ h4
          cases ks1 with
          | cons _ _ => exact K1.elim
          | nil =>
            dsimp only at K1
            rw [forceP_eq] at K1
            have h6' : RelV Y (Dat Y (ownOf o0 E1 mm1) st1) E1 (.p r' off') cv := S1.rel (u := .p r' off') ⟨id', yo', e3, e4⟩
            obtain ⟨i2, o2, st2, f3, f4, u2, nx2, mm2, ks2, wr2, E2, I2, S2, R2, K2⟩ := sStore_ok I1 K1 h6' (S1.rel h8)
            cases ks2 with
            | cons _ _ => exact K2.elim
            | nil =>
              dsimp only at K2
              rw [forceP_eq] at K2
              refine ⟨st2, ?_, ⟨z.fr, nx2, mm2, z.ks⟩, ⟨E2, I2, ?_, relF_step S2 (relF_step S1 hf)⟩, K2⟩
              · unfold runPair
                rw [ho, hq]
                simp only [h1, h3, h5, h7]
                rw [e2] at f1
                rw [e4] at f3
                cases f1
                cases f3
                rw [e2, e4]
                simp only [ne, cond_false, f2, f4]
              · have := (hS.trans S1).trans S2
                exact this.anyW
      · exact g4.elim
    · exact g4.elim
  · exact h.elim

theorem sC_ok {C : CallT S} (hC : CalOK Y P G ov o0 ro C) {L : LoopT S} {st0 : Bs S} : ∀ (c : Code), (∀ b ∈ loopsOf c, ∀ z K, L b z K → Sem Y P G ov o0 ro nt st0 (.loop b) z K) → ∀ (z : Z S) (K : Ex → Z S → Prop), sC Y P G C L nt c z K → Sem Y P G ov o0 ro nt st0 c z K
  | .skip, _, z, K, h => fun frV st hz => ⟨.nrm, frV, st, ⟨1, fun n hn => by obtain ⟨k, rfl⟩ := Nat.exists_eq_succ_of_ne_zero (Nat.pos_iff_ne_zero.1 hn); rfl⟩, z, hz, h⟩
  | .label _, _, z, K, h => fun frV st hz => ⟨.nrm, frV, st, ⟨1, fun n hn => by obtain ⟨k, rfl⟩ := Nat.exists_eq_succ_of_ne_zero (Nat.pos_iff_ne_zero.1 hn); rfl⟩, z, hz, h⟩
  | .exit i, _, z, K, h => fun frV st hz => ⟨.exit i, frV, st, ⟨1, fun n hn => by obtain ⟨k, rfl⟩ := Nat.exists_eq_succ_of_ne_zero (Nat.pos_iff_ne_zero.1 hn); rfl⟩, z, hz, h⟩
  | .goto i, _, z, K, h => fun frV st hz => ⟨.goto i, frV, st, ⟨1, fun n hn => by obtain ⟨k, rfl⟩ := Nat.exists_eq_succ_of_ne_zero (Nat.pos_iff_ne_zero.1 hn); rfl⟩, z, hz, h⟩
  | .ret, _, z, K, h => fun frV st hz => ⟨.ret, frV, st, ⟨1, fun n hn => by obtain ⟨k, rfl⟩ := Nat.exists_eq_succ_of_ne_zero (Nat.pos_iff_ne_zero.1 hn); rfl⟩, z, hz, h⟩
  | .region id ops draw, _, z, K, h => fun frV st hz => by
    cases draw with
    | false =>
      obtain ⟨frV', st', ⟨M, h1⟩, z', hz', hk⟩ := sOps_ok hC ops.toList h hz
      exact ⟨.nrm, frV', st', ⟨M + 1, fun n hn => by
        obtain ⟨k, rfl⟩ := Nat.exists_eq_succ_of_ne_zero (show n ≠ 0 by omega)
        have := h1 k (by omega)
        simp only [evC]
        rw [show callGo P ov (evC P ov ro k) = evF P ov ro k from rfl, this]⟩, z', hz', hk⟩
    | true =>
      simp only [sC] at h
      cases hB : lexQ1 P ops with
      | false =>
        rw [hB] at h
        cases hT : tailB ops with
        | false =>
          rw [hT] at h
          simp only [cond_false] at h
          rw [planF_eq] at h
          cases hpl : planOf P ops with
          | some l =>
            rw [hpl] at h
            obtain ⟨E, hI, hS, hf⟩ := hz
            obtain ⟨frV', st', ⟨M, h1⟩, z', hz', hk⟩ := sRun_ok (es := []) hC l h hI hS hf rfl trivial (fun e he => by cases he) (fun _ e he => by cases he)
            exact ⟨.nrm, frV', st', ⟨M + 1, fun n hn => by
              obtain ⟨k, rfl⟩ := Nat.exists_eq_succ_of_ne_zero (show n ≠ 0 by omega)
              have := h1 k (by omega)
              simp only [evC, hB, hT, hpl]
              rw [show callGo P ov (evC P ov ro k) = evF P ov ro k from rfl, this]⟩, z', hz', hk⟩
          | none =>
            rw [hpl] at h
            cases hL : lexQ ops with
            | false =>
              rw [hL, cond_false] at h
              cases hpp : planPair ops with
              | none => rw [hpp] at h; exact h.elim
              | some lq =>
                obtain ⟨l, o, q⟩ := lq
                rw [hpp] at h
                obtain ⟨E, hI, hS, hf⟩ := hz
                obtain ⟨frV', st', ⟨M, h1⟩, z', hz', hk⟩ := sRun_ok (es := []) hC l h hI hS hf rfl trivial (fun e he => by cases he) (fun _ e he => by cases he)
                obtain ⟨st2, h2, z2, hz2, hk2⟩ := sPair_ok hk hz'
                exact ⟨.nrm, frV', st2, ⟨M + 1, fun n hn => by
                  obtain ⟨k, rfl⟩ := Nat.exists_eq_succ_of_ne_zero (show n ≠ 0 by omega)
                  have := h1 k (by omega)
                  simp only [evC, hB, hT, hpl, hL, hpp]
                  rw [show callGo P ov (evC P ov ro k) = evF P ov ro k from rfl, this]
                  simp only [h2]⟩, z2, hz2, hk2⟩
            | true =>
              rw [hL] at h
              obtain ⟨E, hI, hS, hf⟩ := hz
              obtain ⟨frV', ⟨M, h1⟩, fr', hf', hk⟩ := sOpsQ_ok hC hI ops.toList h hf
              exact ⟨.nrm, frV', st, ⟨M + 1, fun n hn => by
                obtain ⟨k, rfl⟩ := Nat.exists_eq_succ_of_ne_zero (show n ≠ 0 by omega)
                have := h1 k (by omega)
                simp only [evC, hB, hT, hpl, hL]
                rw [show callGo P ov (evC P ov ro k) = evF P ov ro k from rfl, this]⟩, ⟨fr', z.nx, z.m, z.ks⟩, ⟨E, hI, hS, hf'⟩, hk⟩
        | true =>
          rw [hT] at h
          simp only [cond_true, cond_false] at h
          obtain ⟨E, hI, hS, hf⟩ := hz
          obtain ⟨frV', ⟨M, h1⟩, fr', hf', hk⟩ := sOpsQ_ok hC hI (ops.toList.take (ops.size - 1)) h hf
          obtain ⟨frV2, st2, ⟨M2, h2⟩, z2, hz2, hk2⟩ := sOps_ok hC (ops.toList.drop (ops.size - 1)) hk ⟨E, hI, hS, hf'⟩
          exact ⟨.nrm, frV2, st2, ⟨max M M2 + 1, fun n hn => by
            obtain ⟨k, rfl⟩ := Nat.exists_eq_succ_of_ne_zero (show n ≠ 0 by omega)
            have q1 := h1 k (by omega)
            have q2 := h2 k (by omega)
            simp only [evC, hB, hT]
            rw [show callGo P ov (evC P ov ro k) = evF P ov ro k from rfl, q1]
            simp only
            rw [q2]⟩, z2, hz2, hk2⟩
      | true =>
        rw [hB] at h
        obtain ⟨E, hI, hS, hf⟩ := hz
        obtain ⟨frV', ⟨M, h1⟩, fr', hf', hk⟩ := sOpsQ_ok hC hI ops.toList h hf
        exact ⟨.nrm, frV', st, ⟨M + 1, fun n hn => by
          obtain ⟨k, rfl⟩ := Nat.exists_eq_succ_of_ne_zero (show n ≠ 0 by omega)
          have := h1 k (by omega)
          simp only [evC, hB]
          rw [show callGo P ov (evC P ov ro k) = evF P ov ro k from rfl, this]⟩, ⟨fr', z.nx, z.m, z.ks⟩, ⟨E, hI, hS, hf'⟩, hk⟩
  | .seq a b, hL, z, K, h => fun frV st hz => by
    have hLa : ∀ c ∈ loopsOf a, ∀ z K, L c z K → Sem Y P G ov o0 ro nt st0 (.loop c) z K := fun c hc => hL c (by simp only [loopsOf]; exact List.mem_append_left _ hc)
    have hLb : ∀ c ∈ loopsOf b, ∀ z K, L c z K → Sem Y P G ov o0 ro nt st0 (.loop c) z K := fun c hc => hL c (by simp only [loopsOf]; exact List.mem_append_right _ hc)
    simp only [sC] at h
    cases hfl : flagOf P nt a b with
    | some F => rw [hfl] at h; exact h.elim
    | none =>
    rw [hfl] at h
    obtain ⟨e, frV1, st1, ⟨M, h1⟩, z1, hz1, hk⟩ := sC_ok hC a hLa z _ h frV st hz
    cases e with
    | nrm =>
      obtain ⟨e2, frV2, st2, ⟨M2, h2⟩, h3⟩ := sC_ok hC b hLb z1 K hk frV1 st1 hz1
      exact ⟨e2, frV2, st2, ⟨max M M2 + 1, fun n hn => by
        obtain ⟨k, rfl⟩ := Nat.exists_eq_succ_of_ne_zero (show n ≠ 0 by omega)
        simp only [evC, hfl, h1 k (by omega), h2 k (by omega)]⟩, h3⟩
    | exit i => exact ⟨.exit i, frV1, st1, ⟨M + 1, fun n hn => by
        obtain ⟨k, rfl⟩ := Nat.exists_eq_succ_of_ne_zero (show n ≠ 0 by omega)
        simp only [evC, hfl, h1 k (by omega)]⟩, z1, hz1, hk⟩
    | goto i => exact ⟨.goto i, frV1, st1, ⟨M + 1, fun n hn => by
        obtain ⟨k, rfl⟩ := Nat.exists_eq_succ_of_ne_zero (show n ≠ 0 by omega)
        simp only [evC, hfl, h1 k (by omega)]⟩, z1, hz1, hk⟩
    | ret => exact ⟨.ret, frV1, st1, ⟨M + 1, fun n hn => by
        obtain ⟨k, rfl⟩ := Nat.exists_eq_succ_of_ne_zero (show n ≠ 0 by omega)
        simp only [evC, hfl, h1 k (by omega)]⟩, z1, hz1, hk⟩
  | .cond c a b, hL, z, K, h => fun frV st hz => by
    have hLa : ∀ c ∈ loopsOf a, ∀ z K, L c z K → Sem Y P G ov o0 ro nt st0 (.loop c) z K := fun x hc => hL x (by simp only [loopsOf]; exact List.mem_append_left _ hc)
    have hLb : ∀ c ∈ loopsOf b, ∀ z K, L c z K → Sem Y P G ov o0 ro nt st0 (.loop c) z K := fun x hc => hL x (by simp only [loopsOf]; exact List.mem_append_right _ hc)
    obtain ⟨E, hI, hS, hf⟩ := hz
    simp only [sC, updI_eq] at h
    split at h
    · rename_i t
      have fin : ∀ (x : Bool) (z1 : Z S), frV.get t = some (.b x) → Zat Y G o0 ro st0 z1 frV st → (x = true → sC Y P G C L nt a z1 K) → (x = false → sC Y P G C L nt b z1 K) → ∃ e frV' st', (∃ M, ∀ n, M ≤ n → evC P ov ro n nt (.cond (.tmp t) a b) frV st = some (e, frV', st')) ∧ ∃ z', Zat Y G o0 ro st0 z' frV' st' ∧ K e z' := by
        intro x z1 hx hz1 ha hb
        cases x with
        | true =>
          obtain ⟨e, frV2, st2, ⟨M, h2⟩, h3⟩ := sC_ok hC a hLa z1 K (ha rfl) frV st hz1
          exact ⟨e, frV2, st2, ⟨M + 1, fun n hn => by
            obtain ⟨k, rfl⟩ := Nat.exists_eq_succ_of_ne_zero (show n ≠ 0 by omega)
            simp only [evC, opnd, hx, h2 k (by omega)]⟩, h3⟩
        | false =>
          obtain ⟨e, frV2, st2, ⟨M, h2⟩, h3⟩ := sC_ok hC b hLb z1 K (hb rfl) frV st hz1
          exact ⟨e, frV2, st2, ⟨M + 1, fun n hn => by
            obtain ⟨k, rfl⟩ := Nat.exists_eq_succ_of_ne_zero (show n ≠ 0 by omega)
            simp only [evC, opnd, hx, h2 k (by omega)]⟩, h3⟩
      split at h
      · rename_i hx
        obtain ⟨v, h1, h2⟩ := hf t _ hx
        simp only [RelV] at h2
        subst h2
        exact fin true z h1 ⟨E, hI, hS, hf⟩ (fun _ => h) (fun q => by cases q)
      · rename_i hx
        obtain ⟨v, h1, h2⟩ := hf t _ hx
        simp only [RelV] at h2
        subst h2
        exact fin false z h1 ⟨E, hI, hS, hf⟩ (fun q => by cases q) (fun _ => h)
      · rename_i x hx
        obtain ⟨v, h1, h2⟩ := hf t _ hx
        simp only [RelV] at h2
        subst h2
        cases x with
        | true => exact fin true ⟨z.fr.upd t (some (.kb true)), z.nx, z.m, z.ks⟩ h1 ⟨E, hI, hS, relF_known hf h1 rfl⟩ (fun _ => h.1 rfl) (fun q => by cases q)
        | false => exact fin false ⟨z.fr.upd t (some (.kb false)), z.nx, z.m, z.ks⟩ h1 ⟨E, hI, hS, relF_known hf h1 rfl⟩ (fun q => by cases q) (fun _ => h.2 rfl)
      · exact h.elim
    · exact h.elim
  | .block i b, hL, z, K, h => fun frV st hz => by
    obtain ⟨e, frV1, st1, ⟨M, h1⟩, z1, hz1, hk⟩ := sC_ok hC b hL z _ h frV st hz
    cases e with
    | exit j =>
      dsimp only at hk
      cases hj : Nat.beq j i with
      | true =>
        rw [hj] at hk
        exact ⟨.nrm, frV1, st1, ⟨M + 1, fun n hn => by
          obtain ⟨k, rfl⟩ := Nat.exists_eq_succ_of_ne_zero (show n ≠ 0 by omega)
          simp only [evC, h1 k (by omega), hj, cond_true]⟩, z1, hz1, hk⟩
      | false =>
        rw [hj] at hk
        exact ⟨.exit j, frV1, st1, ⟨M + 1, fun n hn => by
          obtain ⟨k, rfl⟩ := Nat.exists_eq_succ_of_ne_zero (show n ≠ 0 by omega)
          simp only [evC, h1 k (by omega), hj, cond_false]⟩, z1, hz1, hk⟩
    | nrm => exact ⟨.nrm, frV1, st1, ⟨M + 1, fun n hn => by
        obtain ⟨k, rfl⟩ := Nat.exists_eq_succ_of_ne_zero (show n ≠ 0 by omega)
        simp only [evC, h1 k (by omega)]⟩, z1, hz1, hk⟩
    | goto i => exact ⟨.goto i, frV1, st1, ⟨M + 1, fun n hn => by
        obtain ⟨k, rfl⟩ := Nat.exists_eq_succ_of_ne_zero (show n ≠ 0 by omega)
        simp only [evC, h1 k (by omega)]⟩, z1, hz1, hk⟩
    | ret => exact ⟨.ret, frV1, st1, ⟨M + 1, fun n hn => by
        obtain ⟨k, rfl⟩ := Nat.exists_eq_succ_of_ne_zero (show n ≠ 0 by omega)
        simp only [evC, h1 k (by omega)]⟩, z1, hz1, hk⟩
  | .loop b, hL, z, K, h => hL b (by simp [loopsOf]) z K h
  | .scope b, hL, z, K, h => fun frV st hz => by
    obtain ⟨e, frV1, st1, ⟨M, h1⟩, z1, hz1, hk⟩ := sC_ok hC b hL z _ h frV st hz
    have sc : ∀ n, M + 2 ≤ n → ∃ k, n = k + 2 ∧ M ≤ k := fun n hn => ⟨n - 2, by omega, by omega⟩
    cases e with
    | goto i => exact hk.elim
    | nrm => exact ⟨.nrm, frV1, st1, ⟨M + 2, fun n hn => by
        obtain ⟨k, rfl, hk⟩ := sc n hn
        rw [show evC P ov ro (k + 2) nt (.scope b) frV st = scopeGo (evC P ov ro (k + 1) nt) b (k + 1) b frV st from rfl]
        simp only [scopeGo, h1 (k + 1) (by omega)]⟩, z1, hz1, hk⟩
    | exit j => exact ⟨.exit j, frV1, st1, ⟨M + 2, fun n hn => by
        obtain ⟨k, rfl, hk⟩ := sc n hn
        rw [show evC P ov ro (k + 2) nt (.scope b) frV st = scopeGo (evC P ov ro (k + 1) nt) b (k + 1) b frV st from rfl]
        simp only [scopeGo, h1 (k + 1) (by omega)]⟩, z1, hz1, hk⟩
    | ret => exact ⟨.ret, frV1, st1, ⟨M + 2, fun n hn => by
        obtain ⟨k, rfl, hk⟩ := sc n hn
        rw [show evC P ov ro (k + 2) nt (.scope b) frV st = scopeGo (evC P ov ro (k + 1) nt) b (k + 1) b frV st from rfl]
        simp only [scopeGo, h1 (k + 1) (by omega)]⟩, z1, hz1, hk⟩
  | .rangeFunc _ _ _ _, _, _, _, h => by simp [sC] at h
  | .refuse _, _, _, _, h => by simp [sC] at h
end
end Go.Sx
