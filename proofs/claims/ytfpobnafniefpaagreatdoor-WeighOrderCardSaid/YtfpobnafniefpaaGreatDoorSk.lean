/-
  Code at values that are not known. Nothing is claimed here.
-/
import Derived.Test.YtfpobnafniefpaaGreatDoorSj
namespace Go.Sx
open Go.Vm

/-- A state: a frame, how many names, what they hold, and the names that were given anew. -/
structure Z (S : Sg) where
  fr : T (U S)
  nx : Nat
  m : T (Ct S)
  ks : List Nat

abbrev CallT (S : Sg) := FuncId → List (U S) → Nat → T (Ct S) → Kn S → Prop
abbrev LoopT (S : Sg) := Code → Z S → (Ex → Z S → Prop) → Prop

/-! ### Trees are written and kept as they are, and not as what is to be done to them -/

def pathP : Nat → Nat → List Bool
  | 0, _ => []
  | f + 1, i => match i with
    | 0 => []
    | k + 1 => Nat.beq (k % 2) 0 :: pathP f (k / 2)
def updP {α : Type} : List Bool → T α → Option α → (T α → Prop) → Prop
  | [], .e, v, k => k (.n .e v .e)
  | [], .n l _ r, v, k => k (.n l v r)
  | true :: p, .e, v, k => updP p .e v fun l => k (.n l none .e)
  | true :: p, .n l x r, v, k => updP p l v fun l => k (.n l x r)
  | false :: p, .e, v, k => updP p .e v fun r => k (.n .e none r)
  | false :: p, .n l x r, v, k => updP p r v fun r => k (.n l x r)
theorem mkL_eq {α : Type} (v : Option α) (r x : T α) : T.mkL v r x = .n x v r := by cases x <;> rfl
theorem mkR_eq {α : Type} (v : Option α) (l x : T α) : T.mkR l v x = .n l v x := by cases x <;> rfl
theorem updP_go {α : Type} (v : Option α) : ∀ (f : Nat) (t : T α) (i : Nat) (k : T α → Prop), i < f → updP (pathP f i) t v k = k (T.go v f t i)
  | 0, _, _, _, h => absurd h (Nat.not_lt_zero _)
  | f + 1, t, i, k, h => by
    cases i with
    | zero => cases t <;> rfl
    | succ j =>
      have hj : j / 2 < f := by omega
      simp only [pathP, T.go]
      cases hb : Nat.beq (j % 2) 0 <;> cases t <;> simp only [updP, cond_true, cond_false, mkL_eq, mkR_eq] <;> rw [updP_go v f _ _ _ hj]
def updI {α : Type} (t : T α) (i : Nat) (v : Option α) (k : T α → Prop) : Prop := updP (pathP (i + 1) i) t v k
theorem updI_eq {α : Type} (t : T α) (i : Nat) (v : Option α) (k : T α → Prop) : updI t i v k = k (t.upd i v) := updP_go v (i + 1) t i k (Nat.lt_succ_self i)
def forceP {α : Type} : T α → (T α → Prop) → Prop
  | .e, k => k .e
  | .n l v r, k => forceP l fun l => forceP r fun r => k (.n l v r)
theorem forceP_eq {α : Type} : ∀ (t : T α) (k : T α → Prop), forceP t k = k t
  | .e, k => rfl
  | .n l v r, k => by rw [forceP, forceP_eq l, forceP_eq r]

section
variable {S : Sg} (Y : Sy S) (P : Program) (G : Gl)

def forceZ (z : Z S) (k : Z S → Prop) : Prop := forceP z.fr fun fr => forceP z.m fun m => k ⟨fr, z.nx, m, z.ks⟩
theorem forceZ_eq (z : Z S) (k : Z S → Prop) : forceZ z k = k z := by unfold forceZ; rw [forceP_eq, forceP_eq]
def killK (ks : List Nat) (fr : T (U S)) (k : T (U S) → Prop) : Prop := match ks with
  | [] => k fr
  | n :: r => forceP (Tmap (kill (n :: r)) fr) k
def killF (ks : List Nat) (fr : T (U S)) : T (U S) := match ks with
  | [] => fr
  | k :: r => Tmap (kill (k :: r)) fr

def plainU : U S → Bool
  | .b _ | .kb _ | .i _ _ | .s _ | .pn | .sn | .fz | .nz => true
  | _ => false
def plainsU : List (U S) → Bool
  | [] => true
  | u :: us => plainU u && plainsU us
def plainTU : U S → Bool
  | .a us | .t us => plainsU us
  | u => plainU u

def sOp (C : CallT S) (fr : T (U S)) (nx : Nat) (m : T (Ct S)) (o : Op) (k : Kn S) : Prop := match o with
  | .store t x v => sE Y P fr nx m (.store t x v) k
  | .alloc t => sE Y P fr nx m (.alloc t) k
  | .box t x => sE Y P fr nx m (.box t x) k
  | .buildSlice t l ps => sE Y P fr nx m (.buildSlice t l ps) k
  | .makeSlice t l c => sE Y P fr nx m (.makeSlice t l c) k
  | .convert s d x => sE Y P fr nx m (.convert s d x) k
  | .call c => match c.callee with
    | .value f => sOpd fr f fun w => match w with
      | .f fn caps => sOpds fr c.args.toList fun us => C fn (us ++ caps) nx m k
      | _ => False
    | .builtin .append => sE Y P fr nx m (.call c) k
    | _ => sQ Y P G fr m (.call c) fun u => k (some u) nx m [] []
  | o => sQ Y P G fr m o fun u => k (some u) nx m [] []
def quietK (k : U S → Prop) : Kn S := fun u _ _ ks wr => match u, ks, wr with
  | some u, [], [] => cond (plainTU u) (k u) False
  | _, _, _ => False
def sOpQ (C : CallT S) (fr : T (U S)) (nx : Nat) (m : T (Ct S)) (o : Op) (k : U S → Prop) : Prop := match o with
  | .call c => match c.callee with
    | .value f => sOpd fr f fun w => match w with
      | .f fn caps => sOpds fr c.args.toList fun us => C fn (us ++ caps) nx m (quietK k)
      | _ => False
    | _ => sQ Y P G fr m (.call c) k
  | o => sQ Y P G fr m o k

def sPut (nt : Nat) (fr : T (U S)) (dst : Option Nat) (v : Option (U S)) (k : T (U S) → Prop) : Prop := match dst with
  | none => k fr
  | some d => cond (Nat.blt d nt) (match v with
    | some u => updI fr d (some u) k
    | none => updI fr d (some (.t [])) k) False

/-- Is it carried out? -/
def sGuard (ops : Array Oper) (g : Option (Nat × Bool)) (fr : T (U S)) (run skip : T (U S) → Prop) : Prop := match g with
  | none => run fr
  | some (j, want) => match (ops[j]?).bind (·.dst) with
    | none => skip fr
    | some d => match fr.get d with
      | some (.kb x) => cond (x == want) (run fr) (skip fr)
      | some (.b x) => (x = want → updI fr d (some (.kb want)) run) ∧ (x = !want → updI fr d (some (.kb (!want))) skip)
      | some (.t _) => skip fr
      | _ => False

def sOps (C : CallT S) (nt : Nat) (ops : Array Oper) : List Oper → Z S → (Z S → Prop) → Prop
  | [], z, K => K z
  | o :: r, z, K => sGuard ops o.guard z.fr
    (fun fr => sOp Y P G C fr z.nx z.m o.op fun u nx' m' ks _ => forceP m' fun m' => killK ks fr fun fr => sPut nt fr o.dst u fun fr' => sOps C nt ops r ⟨fr', nx', m', ks ++ z.ks⟩ K)
    (fun fr => sPut nt fr o.dst none fun fr' => sOps C nt ops r ⟨fr', z.nx, z.m, z.ks⟩ K)
def sOpsQ (C : CallT S) (nt : Nat) (ops : Array Oper) (nx : Nat) (m : T (Ct S)) : List Oper → T (U S) → (T (U S) → Prop) → Prop
  | [], fr, K => K fr
  | o :: r, fr, K => sGuard ops o.guard fr
    (fun fr => sOpQ Y P G C fr nx m o.op fun u => sPut nt fr o.dst (some u) fun fr' => sOpsQ C nt ops nx m r fr' K)
    (fun fr => sPut nt fr o.dst none fun fr' => sOpsQ C nt ops nx m r fr' K)

/-- A load that was carried out: where, and what it read. -/
structure SE (S : Sg) where
  x : Nat
  t : TypeId
  a : U S
  u : U S
def aliveS (ops : Array Oper) (i : Nat) : List (SE S) → List (SE S)
  | [] => []
  | e :: r => match Region.waitsT .any ops i e.x with
    | true => aliveS ops i r
    | false => e :: aliveS ops i r
def killS (ks : List Nat) (es : List (SE S)) : List (SE S) := match ks with
  | [] => es
  | k :: r => es.map fun e => ⟨e.x, e.t, kill (k :: r) e.a, kill (k :: r) e.u⟩
/-- Values that stand for one value alone. -/
def detU (m : T (Ct S)) : U S → Bool
  | .b _ | .kb _ | .i _ _ | .s _ | .pn | .sn | .fz | .nz | .p _ _ | .g _ _ => true
  | .o r => match m.get r with
    | some (.buf _ _) => true
    | _ => false
  | _ => false
def detL (m : T (Ct S)) : List (U S) → Bool
  | [] => true
  | u :: us => detU m u && detL m us
def detT (m : T (Ct S)) : U S → Bool
  | .a us => detL m us
  | u => detU m u
/-- Loads that were carried out read the same again. -/
def sKeep (m : T (Ct S)) : List (SE S) → Prop → Prop
  | [], p => p
  | e :: r, p => sLoad Y P G m e.t e.a fun u => u = e.u ∧ cond (detT m u) (sKeep m r p) False

def sRun (C : CallT S) (nt : Nat) (ops : Array Oper) : List (Nat × Oper) → List (SE S) → Z S → (Z S → Prop) → Prop
  | [], _, z, K => K z
  | (i, o) :: r, es, z, K => sGuard ops o.guard z.fr
    (fun fr => match opCls o.op with
      | 0 => sQ Y P G fr z.m o.op fun u => sPut nt fr o.dst (some u) fun fr' => sRun C nt ops r es ⟨fr', z.nx, z.m, z.ks⟩ K
      | 1 => match o.op with
        | .load t x => sOpd fr x fun a => sLoad Y P G z.m t a fun u => sPut nt fr o.dst (some u) fun fr' => sRun C nt ops r (⟨i, t, a, u⟩ :: es) ⟨fr', z.nx, z.m, z.ks⟩ K
        | _ => False
      | _ => sOp Y P G C fr z.nx z.m o.op fun u nx' m' ks wr => forceP m' fun m' => killK ks fr fun fr => match wr with
        | [] => sPut nt fr o.dst u fun fr' => sRun C nt ops r (killS ks (aliveS ops i es)) ⟨fr', nx', m', ks ++ z.ks⟩ K
        | _ :: _ => sKeep Y P G m' (killS ks (aliveS ops i es)) (sPut nt fr o.dst u fun fr' => sRun C nt ops r (killS ks (aliveS ops i es)) ⟨fr', nx', m', ks ++ z.ks⟩ K))
    (fun fr => sPut nt fr o.dst none fun fr' => sRun C nt ops r es ⟨fr', z.nx, z.m, z.ks⟩ K)

def sC (C : CallT S) (L : LoopT S) (nt : Nat) : Code → Z S → (Ex → Z S → Prop) → Prop
  | .skip, z, K => K .nrm z
  | .label _, z, K => K .nrm z
  | .exit i, z, K => K (.exit i) z
  | .goto i, z, K => K (.goto i) z
  | .ret, z, K => K .ret z
  | .region _ ops draw, z, K => match draw with
    | false => sOps Y P G C nt ops ops.toList z (K .nrm)
    | true => cond (lexQ1 P ops) (sOpsQ Y P G C nt ops z.nx z.m ops.toList z.fr fun fr => K .nrm ⟨fr, z.nx, z.m, z.ks⟩)
      (cond (tailB ops) (sOpsQ Y P G C nt ops z.nx z.m (ops.toList.take (ops.size - 1)) z.fr fun fr => sOps Y P G C nt ops (ops.toList.drop (ops.size - 1)) ⟨fr, z.nx, z.m, z.ks⟩ (K .nrm))
      (match planOf P ops with
        | some l => sRun Y P G C nt ops l [] z (K .nrm)
        | none => cond (lexQ ops) (sOpsQ Y P G C nt ops z.nx z.m ops.toList z.fr fun fr => K .nrm ⟨fr, z.nx, z.m, z.ks⟩) False))
  | .seq a b, z, K => match flagOf P nt a b with
    | some _ => False
    | none => sC C L nt a z fun e z' => match e with
      | .nrm => sC C L nt b z' K
      | .exit i => K (.exit i) z'
      | .goto i => K (.goto i) z'
      | .ret => K .ret z'
  | .cond c a b, z, K => match c with
    | .tmp t => match z.fr.get t with
      | some (.kb true) => sC C L nt a z K
      | some (.kb false) => sC C L nt b z K
      | some (.b x) => (x = true → updI z.fr t (some (.kb true)) fun fr => sC C L nt a ⟨fr, z.nx, z.m, z.ks⟩ K) ∧ (x = false → updI z.fr t (some (.kb false)) fun fr => sC C L nt b ⟨fr, z.nx, z.m, z.ks⟩ K)
      | _ => False
    | _ => False
  | .block i b, z, K => sC C L nt b z fun e z' => match e with
    | .nrm => K .nrm z'
    | .exit j => cond (Nat.beq j i) (K .nrm z') (K (.exit j) z')
    | .goto i => K (.goto i) z'
    | .ret => K .ret z'
  | .loop b, z, K => L b z K
  | .scope b, z, K => sC C L nt b z fun e z' => match e with
    | .nrm => K .nrm z'
    | .exit j => K (.exit j) z'
    | .goto _ => False
    | .ret => K .ret z'
  | _, _, _ => False

def loopsOf : Code → List Code
  | .seq a b => loopsOf a ++ loopsOf b
  | .cond _ a b => loopsOf a ++ loopsOf b
  | .block _ b => loopsOf b
  | .scope b => loopsOf b
  | .loop b => [b]
  | _ => []

/-! ### It is so -/

variable {Y P G}
variable {o0 : Nat → Prop} {ro nt : Nat} {ov : Ov}
theorem killK_eq (ks : List Nat) (fr : T (U S)) (k : T (U S) → Prop) : killK ks fr k = k (killF ks fr) := by
  cases ks with
  | nil => rfl
  | cons n r => simp only [killK, killF, forceP_eq]

/-- Where a run begins. -/
structure Bs (S : Sg) where
  E : En
  m : T (Ct S)
  st : St
def Zat (Y : Sy S) (G : Gl) (o0 : Nat → Prop) (ro : Nat) (B : Bs S) (z : Z S) (frV : T V) (st : St) : Prop :=
  ∃ E, Inv Y G o0 ro E z.nx z.m st ∧ Step o0 B.E B.m B.st E z.m st z.ks [0] ∧ RelF Y (Dat Y (ownOf o0 E z.m) st) E z.fr frV

/-- What a call comes to is told by its transformer. -/
def CalOK (Y : Sy S) (P : Program) (G : Gl) (ov : Ov) (o0 : Nat → Prop) (ro : Nat) (C : CallT S) : Prop :=
  ∀ f us nx m k, C f us nx m k → ∀ E st vs, Inv Y G o0 ro E nx m st → RelL Y (Dat Y (ownOf o0 E m) st) E us vs → ∃ v st', (∃ M, ∀ n, M ≤ n → evF P ov ro n f vs st = some (v, st')) ∧ Done Y G o0 ro E m st k (some v) st'

def Sem (Y : Sy S) (P : Program) (G : Gl) (ov : Ov) (o0 : Nat → Prop) (ro nt : Nat) (st0 : Bs S) (c : Code) (z : Z S) (K : Ex → Z S → Prop) : Prop :=
  ∀ frV st, Zat Y G o0 ro st0 z frV st → ∃ e frV' st', (∃ M, ∀ n, M ≤ n → evC P ov ro n nt c frV st = some (e, frV', st')) ∧ ∃ z', Zat Y G o0 ro st0 z' frV' st' ∧ K e z'

theorem Step.anyW {E E' : En} {m m' : T (Ct S)} {st st' : St} {ks wr : List Nat} (h : Step o0 E m st E' m' st' ks wr) : Step o0 E m st E' m' st' ks [0] := ⟨h.len, h.same, h.nx, h.keep, h.nam, fun j h1 h2 hw => h.ver j h1 h2 (.inr (hw.elim (fun q => by cases q) fun q => q))⟩

theorem killF_rel {E E' : En} {m m' : T (Ct S)} {st st' : St} {ks wr : List Nat} {fr : T (U S)} {frV : T V} (hs : Step o0 E m st E' m' st' ks wr) (hf : RelF Y (Dat Y (ownOf o0 E m) st) E fr frV) : RelF Y (Dat Y (ownOf o0 E' m') st') E' (killF ks fr) frV := by
  intro t u hu
  cases ks with
  | nil =>
    obtain ⟨v, h1, h2⟩ := hf t u hu
    exact ⟨v, h1, hs.rel h2⟩
  | cons k r =>
    simp only [killF] at hu
    rw [Tmap_get] at hu
    cases hg : fr.get t with
    | none => rw [hg] at hu; cases hu
    | some u0 =>
      rw [hg] at hu
      cases hu
      obtain ⟨v, h1, h2⟩ := hf t u0 hg
      exact ⟨v, h1, hs.relK h2⟩

theorem relF_upd {D : DD S} {E : En} {fr : T (U S)} {frV : T V} (hf : RelF Y D E fr frV) {d : Nat} {u : U S} {v : V} (h : RelV Y D E u v) : RelF Y D E (fr.upd d (some u)) (frV.upd d (some v)) := by
  intro t w hw
  rw [T.get_upd] at hw
  by_cases e : t = d
  · subst e
    rw [if_pos rfl] at hw
    cases hw
    exact ⟨v, T.get_same, h⟩
  · rw [if_neg e] at hw
    obtain ⟨x, h1, h2⟩ := hf t w hw
    exact ⟨x, by rw [T.get_upd, if_neg e]; exact h1, h2⟩
/-- What is known of a slot is put there. -/
theorem relF_known {D : DD S} {E : En} {fr : T (U S)} {frV : T V} (hf : RelF Y D E fr frV) {d : Nat} {u : U S} {v : V} (hv : frV.get d = some v) (h : RelV Y D E u v) : RelF Y D E (fr.upd d (some u)) frV := by
  intro t w hw
  rw [T.get_upd] at hw
  by_cases e : t = d
  · subst e
    rw [if_pos rfl] at hw
    cases hw
    exact ⟨v, hv, h⟩
  · rw [if_neg e] at hw
    exact hf t w hw

theorem sPut_ok {D : DD S} {E : En} {fr : T (U S)} {frV : T V} {dst : Option Nat} {u : Option (U S)} {v : Option V} {k : T (U S) → Prop} (h : sPut nt fr dst u k) (hf : RelF Y D E fr frV) (hr : RelO Y D E u v) : ∃ fr' frV', vput nt frV dst v = some frV' ∧ RelF Y D E fr' frV' ∧ k fr' := by
  unfold sPut at h
  simp only [updI_eq] at h
  cases dst with
  | none => exact ⟨fr, frV, rfl, hf, h⟩
  | some d =>
    dsimp only at h
    cases hd : Nat.blt d nt with
    | false => rw [hd] at h; exact h.elim
    | true =>
      rw [hd] at h
      cases u with
      | none =>
        cases v with
        | some v => exact hr.elim
        | none => exact ⟨_, _, by simp only [vput, hd, cond_true], relF_upd hf (u := .t []) (v := .t []) ⟨[], rfl, rfl⟩, h⟩
      | some u =>
        cases v with
        | none => exact hr.elim
        | some v => exact ⟨_, _, by simp only [vput, hd, cond_true, V.force_eq], relF_upd hf hr, h⟩

theorem sGuard_ok {D : DD S} {E : En} {fr : T (U S)} {frV : T V} {ops : Array Oper} {o : Oper} {run skip : T (U S) → Prop} (h : sGuard ops o.guard fr run skip) (hf : RelF Y D E fr frV) : ∃ fr', RelF Y D E fr' frV ∧ ((vwanted ops frV o = some true ∧ run fr') ∨ (vwanted ops frV o = some false ∧ skip fr')) := by
  unfold sGuard at h
  simp only [updI_eq] at h
  unfold vwanted
  cases hg : o.guard with
  | none => rw [hg] at h; exact ⟨fr, hf, .inl ⟨rfl, h⟩⟩
  | some g =>
    obtain ⟨j, want⟩ := g
    rw [hg] at h
    dsimp only at h ⊢
    cases hd : (ops[j]?).bind (·.dst) with
    | none => rw [hd] at h; exact ⟨fr, hf, .inr ⟨rfl, h⟩⟩
    | some d =>
      rw [hd] at h
      dsimp only at h ⊢
      split at h
      · rename_i x hx
        obtain ⟨v, h1, h2⟩ := hf d _ hx
        simp only [RelV] at h2
        subst h2
        rw [h1]
        dsimp only
        cases hq : (x == want) with
        | true => rw [hq] at h; exact ⟨fr, hf, .inl ⟨rfl, h⟩⟩
        | false => rw [hq] at h; exact ⟨fr, hf, .inr ⟨rfl, h⟩⟩
      · rename_i x hx
        obtain ⟨v, h1, h2⟩ := hf d _ hx
        simp only [RelV] at h2
        subst h2
        rw [h1]
        dsimp only
        by_cases e : x = want
        · subst e
          exact ⟨_, relF_known hf h1 (u := .kb x) rfl, .inl ⟨by simp, h.1 rfl⟩⟩
        · have e' : x = !want := by cases x <;> cases want <;> first | rfl | exact absurd rfl e
          refine ⟨_, relF_known hf h1 (u := .kb (!want)) (by simp only [RelV]; rw [e']), .inr ⟨?_, h.2 e'⟩⟩
          have : (x == want) = false := by cases x <;> cases want <;> first | rfl | exact absurd rfl e
          rw [this]
      · rename_i us hx
        obtain ⟨v, h1, h2⟩ := hf d _ hx
        simp only [RelV] at h2
        obtain ⟨vs, rfl, _⟩ := h2
        rw [h1]
        exact ⟨fr, hf, .inr ⟨rfl, h⟩⟩
      · exact h.elim

theorem sOp_ok {C : CallT S} (hC : CalOK Y P G ov o0 ro C) {E : En} {nx : Nat} {m : T (Ct S)} {st : St} {fr : T (U S)} {frV : T V} (hI : Inv Y G o0 ro E nx m st) {o : Op} {k : Kn S} (h : sOp Y P G C fr nx m o k) (hf : RelF Y (Dat Y (ownOf o0 E m) st) E fr frV) :
    ∃ res st', (∃ M, ∀ n, M ≤ n → vop P ro (evF P ov ro n) frV st o = some (res, st')) ∧ Done Y G o0 ro E m st k res st' := by
  have eff : ∀ o, sE Y P fr nx m o k → ∃ res st', (∃ M, ∀ n, M ≤ n → vop P ro (evF P ov ro n) frV st o = some (res, st')) ∧ Done Y G o0 ro E m st k res st' := fun o h =>
    let ⟨res, st', h1, h2⟩ := sE_ok hI h hf
    ⟨res, st', ⟨0, fun n _ => h1 _⟩, h2⟩
  have quiet : ∀ o, (sQ Y P G fr m o fun u => k (some u) nx m [] []) → ∃ res st', (∃ M, ∀ n, M ≤ n → vop P ro (evF P ov ro n) frV st o = some (res, st')) ∧ Done Y G o0 ro E m st k res st' := fun o h =>
    let ⟨u, v, h1, h2, h3⟩ := sQ_ok (ro := ro) hI h hf
    ⟨some v, st, ⟨0, fun n _ => h1.2 _ st.ver⟩, done_pure hI h2 h3⟩
  unfold sOp at h
  split at h
  · exact eff _ h
  · exact eff _ h
  · exact eff _ h
  · exact eff _ h
  · exact eff _ h
  · exact eff _ h
  · rename_i c
    obtain ⟨callee, args, ts⟩ := c
    dsimp only at h
    split at h
    · obtain ⟨w, wv, h1, h2, h3⟩ := sOpd_ok h hf
      split at h3
      · simp only [RelV] at h2
        obtain ⟨cv, rfl, h2⟩ := h2
        obtain ⟨us, vs, h4, h5, h6⟩ := sOpds_ok hf h3
        obtain ⟨v, st', ⟨M, h7⟩, h8⟩ := hC _ _ _ _ _ h6 E st (vs ++ cv) hI (h5.append h2)
        exact ⟨some v, st', ⟨M, fun n hn => by simp only [vop, h4, h1, List.nil_append, h7 n hn]⟩, h8⟩
      · exact h3.elim
    · exact eff _ h
    · exact quiet _ h
  · exact quiet _ h

theorem sOps_ok {C : CallT S} (hC : CalOK Y P G ov o0 ro C) {st0 : Bs S} {ops : Array Oper} : ∀ (l : List Oper) {z : Z S} {K : Z S → Prop} {frV : T V} {st : St}, sOps Y P G C nt ops l z K → Zat Y G o0 ro st0 z frV st →
    ∃ frV' st', (∃ M, ∀ n, M ≤ n → vops P ro nt (evF P ov ro n) ops l frV st = some (frV', st')) ∧ ∃ z', Zat Y G o0 ro st0 z' frV' st' ∧ K z'
  | [], z, K, frV, st, h, hz => ⟨frV, st, ⟨0, fun _ _ => rfl⟩, z, hz, h⟩
  | o :: r, z, K, frV, st, h, hz => by
    obtain ⟨E, hI, hS, hf⟩ := hz
    simp only [sOps, forceP_eq, killK_eq] at h
    obtain ⟨fr', hf', ⟨hw, h⟩ | ⟨hw, h⟩⟩ := sGuard_ok h hf
    · obtain ⟨res, st', ⟨M, h1⟩, u, nx', m', ks, wr, E', hI', hS', hr, hk⟩ := sOp_ok hC hI h hf'
      obtain ⟨fr2, frV2, h2, h3, h4⟩ := sPut_ok hk (killF_rel hS' hf') hr
      obtain ⟨frV3, st3, ⟨M2, h5⟩, h6⟩ := sOps_ok hC r h4 ⟨E', hI', (hS.trans hS').anyW, h3⟩
      exact ⟨frV3, st3, ⟨max M M2, fun n hn => by simp only [vops, hw, h1 n (by omega), h2, h5 n (by omega)]⟩, h6⟩
    · obtain ⟨fr2, frV2, h2, h3, h4⟩ := sPut_ok (v := none) h hf' trivial
      obtain ⟨frV3, st3, ⟨M2, h5⟩, h6⟩ := sOps_ok hC r h4 ⟨E, hI, hS, h3⟩
      exact ⟨frV3, st3, ⟨M2, fun n hn => by simp only [vops, hw, h2, h5 n hn]⟩, h6⟩

theorem plainU_ok {D : DD S} {E E' : En} {D' : DD S} {u : U S} {v : V} (hp : plainU u = true) (h : RelV Y D E u v) : v.plain = true ∧ RelV Y D' E' u v := by
  cases u <;> simp only [plainU, Bool.false_eq_true] at hp <;> simp only [RelV] at h ⊢ <;> (subst h; exact ⟨rfl, rfl⟩)
theorem plainsU_ok {D : DD S} {E E' : En} {D' : DD S} : ∀ {us : List (U S)} {vs : List V}, plainsU us = true → RelL Y D E us vs → vs.all V.plain = true ∧ RelL Y D' E' us vs
  | [], vs, _, h => by simp only [RelL] at h ⊢; subst h; exact ⟨rfl, rfl⟩
  | u :: us, vs, hp, h => by
    simp only [RelL] at h ⊢
    obtain ⟨v, r, rfl, h1, h2⟩ := h
    simp only [plainsU, Bool.and_eq_true] at hp
    obtain ⟨a1, a2⟩ := plainU_ok (D' := D') (E' := E') hp.1 h1
    obtain ⟨b1, b2⟩ := plainsU_ok (D' := D') (E' := E') hp.2 h2
    exact ⟨by simp [a1, b1], v, r, rfl, a2, b2⟩
theorem plainTU_ok {D : DD S} {E E' : En} {D' : DD S} {u : U S} {v : V} (hp : plainTU u = true) (h : RelV Y D E u v) : v.plainT = true ∧ RelV Y D' E' u v := by
  have one : plainU u = true → v.plainT = true ∧ RelV Y D' E' u v := fun hp => by
    obtain ⟨a1, a2⟩ := plainU_ok (D' := D') (E' := E') hp h
    exact ⟨by cases v <;> simp_all [V.plain, V.plainT], a2⟩
  cases u with
  | a us =>
    simp only [RelV] at h ⊢
    obtain ⟨vs, rfl, h⟩ := h
    obtain ⟨a1, a2⟩ := plainsU_ok (D' := D') (E' := E') hp h
    exact ⟨a1, vs, rfl, a2⟩
  | t us =>
    simp only [RelV] at h ⊢
    obtain ⟨vs, rfl, h⟩ := h
    obtain ⟨a1, a2⟩ := plainsU_ok (D' := D') (E' := E') hp h
    exact ⟨a1, vs, rfl, a2⟩
  | _ => exact one hp

theorem sOpQ_ok {C : CallT S} (hC : CalOK Y P G ov o0 ro C) {E : En} {nx : Nat} {m : T (Ct S)} {st : St} {fr : T (U S)} {frV : T V} (hI : Inv Y G o0 ro E nx m st) {op : Op} {k : U S → Prop} (h : sOpQ Y P G C fr nx m op k) (hf : RelF Y (Dat Y (ownOf o0 E m) st) E fr frV) :
    ∃ u v st', quietOp op = true ∧ (∃ M, ∀ n, M ≤ n → vop P ro (evF P ov ro n) frV ⟨st.nx, st.hp, st.nx⟩ op = some (some v, st')) ∧ (Nat.ble st.nx st'.ver && (Nat.beq st'.nx st.nx || plainO (some v))) = true ∧ RelV Y (Dat Y (ownOf o0 E m) st) E u v ∧ k u := by
  have quiet : ∀ op, sQ Y P G fr m op k → ∃ u v st', quietOp op = true ∧ (∃ M, ∀ n, M ≤ n → vop P ro (evF P ov ro n) frV ⟨st.nx, st.hp, st.nx⟩ op = some (some v, st')) ∧ (Nat.ble st.nx st'.ver && (Nat.beq st'.nx st.nx || plainO (some v))) = true ∧ RelV Y (Dat Y (ownOf o0 E m) st) E u v ∧ k u := fun op h =>
    let ⟨u, v, h1, h2, h3⟩ := sQ_ok (ro := ro) hI h hf
    ⟨u, v, ⟨st.nx, st.hp, st.nx⟩, h1.1, ⟨0, fun n _ => h1.2 _ st.nx⟩, by simp, h2, h3⟩
  unfold sOpQ at h
  split at h
  · rename_i c
    obtain ⟨callee, args, ts⟩ := c
    dsimp only at h
    split at h
    · obtain ⟨w, wv, h1, h2, h3⟩ := sOpd_ok h hf
      split at h3
      · simp only [RelV] at h2
        obtain ⟨cv, rfl, h2⟩ := h2
        obtain ⟨us, vs, h4, h5, h6⟩ := sOpds_ok hf h3
        have st2 : Step o0 E m st E m ⟨st.nx, st.hp, st.nx⟩ [] [] := ⟨Nat.le_refl _, fun _ _ _ => rfl, Nat.le_refl _, fun _ _ _ => rfl, fun _ h => .inl h, fun _ h _ _ => h⟩
        have hI2 : Inv Y G o0 ro E nx m ⟨st.nx, st.hp, st.nx⟩ := ⟨hI.len, hI.ro, hI.lt, fun r ct hr => by
          have := Ent.keep st2 (hI.ent r ct hr) rfl (fun _ _ _ _ => rfl)
          rwa [killCt_nil] at this, hI.out, hI.glob, hI.inj⟩
        obtain ⟨v, st', ⟨M, h7⟩, u, nx', m', ks, wr, E', hI', hS', hr, hk⟩ := hC _ _ _ _ _ h6 E ⟨st.nx, st.hp, st.nx⟩ (vs ++ cv) hI2 (st2.rels (h5.append h2))
        unfold quietK at hk
        split at hk
        · rename_i u
          cases hp : plainTU u with
          | false => rw [hp] at hk; exact hk.elim
          | true =>
            rw [hp] at hk
            obtain ⟨p1, p2⟩ := plainTU_ok (D' := Dat Y (ownOf o0 E m) st) (E' := E) hp hr
            refine ⟨u, v, st', rfl, ⟨M, fun n hn => by simp only [vop, h4, h1, List.nil_append, h7 n hn]⟩, ?_, p2, hk⟩
            have : st.nx ≤ st'.ver := hS'.ver st.nx (Nat.le_refl _) (Nat.le_refl _) (.inl rfl)
            rw [Bool.and_eq_true, Nat.ble_eq]
            exact ⟨this, by simp only [plainO, p1, Bool.or_true]⟩
        · exact hk.elim
      · exact h3.elim
    · exact quiet _ h
  · exact quiet _ h

theorem sOpsQ_ok {C : CallT S} (hC : CalOK Y P G ov o0 ro C) {E : En} {nx : Nat} {m : T (Ct S)} {st : St} (hI : Inv Y G o0 ro E nx m st) {ops : Array Oper} : ∀ (l : List Oper) {fr : T (U S)} {K : T (U S) → Prop} {frV : T V}, sOpsQ Y P G C nt ops nx m l fr K → RelF Y (Dat Y (ownOf o0 E m) st) E fr frV →
    ∃ frV', (∃ M, ∀ n, M ≤ n → vopsQ P ro nt (evF P ov ro n) ops l frV st = some frV') ∧ ∃ fr', RelF Y (Dat Y (ownOf o0 E m) st) E fr' frV' ∧ K fr'
  | [], fr, K, frV, h, hf => ⟨frV, ⟨0, fun _ _ => rfl⟩, fr, hf, h⟩
  | o :: r, fr, K, frV, h, hf => by
    simp only [sOpsQ] at h
    obtain ⟨fr', hf', ⟨hw, h⟩ | ⟨hw, h⟩⟩ := sGuard_ok h hf
    · have key := sOpQ_ok hC hI h hf'
      obtain ⟨u, v, st', k1, ⟨M, k2⟩, k3, k4, k5⟩ := key
      obtain ⟨fr2, frV2, h2, h3, h4⟩ := sPut_ok (v := some v) k5 hf' k4
      obtain ⟨frV3, ⟨M2, h5⟩, h6⟩ := sOpsQ_ok hC hI r h4 h3
      exact ⟨frV3, ⟨max M M2, fun n hn => by simp only [vopsQ, hw, k1, k2 n (by omega), k3, cond_true, h2, h5 n (by omega)]⟩, h6⟩
    · obtain ⟨fr2, frV2, h2, h3, h4⟩ := sPut_ok (v := none) h hf' trivial
      obtain ⟨frV3, ⟨M2, h5⟩, h6⟩ := sOpsQ_ok hC hI r h4 h3
      exact ⟨frV3, ⟨M2, fun n hn => by simp only [vopsQ, hw, h2, h5 n hn]⟩, h6⟩

/-! ### Regions whose order is open -/

theorem Dat.reVer {own : Nat → Prop} {st : St} {n : Nat} {c : S.Cd} {xs : List (S.Den c)} {v : V} (h : Dat Y own st c xs v) : Dat Y own ⟨st.nx, st.hp, n⟩ c xs v := Dat.keep (st := st) (st' := ⟨st.nx, st.hp, n⟩) (Nat.le_refl st.nx) (fun _ _ _ => rfl) (fun _ _ h => h) h
theorem DatA.reVer {own : Nat → Prop} {st : St} {n : Nat} {u : U S} {v : V} (h : DatA Y own st u v) : DatA Y own ⟨st.nx, st.hp, n⟩ u v := DatA.keep (st := st) (st' := ⟨st.nx, st.hp, n⟩) (Nat.le_refl st.nx) (fun _ _ _ => rfl) (fun _ _ h => h) h
theorem RelV.reVer {own : Nat → Prop} {st : St} {n : Nat} {E : En} {u : U S} {v : V} (h : RelV Y (Dat Y own st) E u v) : RelV Y (Dat Y own ⟨st.nx, st.hp, n⟩) E u v := RelV.mono (fun _ _ h => h) (fun _ _ _ => Dat.reVer) u v h
theorem RelL.reVer {own : Nat → Prop} {st : St} {n : Nat} {E : En} {u : List (U S)} {v : List V} (h : RelL Y (Dat Y own st) E u v) : RelL Y (Dat Y own ⟨st.nx, st.hp, n⟩) E u v := RelL.mono (fun _ _ h => h) (fun _ _ _ => Dat.reVer) u v h
theorem RelF.reVer {own : Nat → Prop} {st : St} {n : Nat} {E : En} {fr : T (U S)} {frV : T V} (h : RelF Y (Dat Y own st) E fr frV) : RelF Y (Dat Y own ⟨st.nx, st.hp, n⟩) E fr frV := fun t u hu => by
  obtain ⟨v, h1, h2⟩ := h t u hu
  exact ⟨v, h1, h2.reVer⟩
theorem Inv.reVer {E : En} {nx : Nat} {m : T (Ct S)} {st : St} (hI : Inv Y G o0 ro E nx m st) (n : Nat) : Inv Y G o0 ro E nx m ⟨st.nx, st.hp, n⟩ := by
  refine ⟨hI.len, hI.ro, hI.lt, fun r ct hr => ?_, hI.out, hI.glob, hI.inj⟩
  have h := hI.ent r ct hr
  cases ct with
  | cells us =>
    obtain ⟨id, hd, b, vs, e1, e2, e3, e4, e5, e6, e7⟩ := h
    exact ⟨id, hd, b, vs, e1, e2, e3, e4, e5, e6.reVer, e7⟩
  | buf c xs =>
    rcases h with h | ⟨id, cap, op, b, q1, q2, q3, q4, q5, q6, q7, q8, vs, q9, q10⟩
    · exact .inl h
    · exact .inr ⟨id, cap, op, b, q1, q2, q3, q4, q5, q6, q7, q8, vs, q9, fun i x hx j u v hu hv => (q10 i x hx j u v hu hv).reVer⟩
  | row c xs =>
    obtain ⟨id, b, q1, q2, q3, q4, q5, vs, q9, q10⟩ := h
    exact ⟨id, b, q1, q2, q3, q4, q5, vs, q9, fun i x hx j u v hu hv => (q10 i x hx j u v hu hv).reVer⟩

theorem keepB_ver {st : St} {n : Nat} : ∀ es : List Vm.Ent, keepB P ⟨st.nx, st.hp, n⟩ es = keepB P st es
  | [] => rfl
  | e :: r => by
    simp only [keepB, keepB_ver r]
    rfl
theorem vbuiltin_anyMem {b : Builtin} (hb : b = .len ∨ b = .min ∨ b = .max) {ts : List TypeId} {vs : List V} {st st' : St} {v : V} (h : vbuiltin P ro b ts vs st = some (v, st')) (st2 : St) : vbuiltin P ro b ts vs st2 = some (v, st2) := by
  rcases hb with rfl | rfl | rfl
  · rcases ts with _ | ⟨t, _ | ⟨t2, tr⟩⟩ <;> rcases vs with _ | ⟨x, _ | ⟨y, r⟩⟩ <;> simp only [vbuiltin, reduceCtorEq] at h ⊢
    cases hv : vlenOp P t x with
    | none => simp [hv] at h
    | some w => simp only [hv, Option.some.injEq, Prod.mk.injEq] at h ⊢; exact ⟨h.1, trivial⟩
  · rcases vs with _ | ⟨x, r⟩ <;> simp only [vbuiltin, reduceCtorEq] at h ⊢
    cases hv : vminL true x r with
    | none => simp [hv] at h
    | some w => simp only [hv, Option.some.injEq, Prod.mk.injEq] at h ⊢; exact ⟨h.1, trivial⟩
  · rcases vs with _ | ⟨x, r⟩ <;> simp only [vbuiltin, reduceCtorEq] at h ⊢
    cases hv : vminL false x r with
    | none => simp [hv] at h
    | some w => simp only [hv, Option.some.injEq, Prod.mk.injEq] at h ⊢; exact ⟨h.1, trivial⟩
/-- What looks at no memory comes to the same in every memory. -/
theorem vop_anyMem {call : CallF} {frV : T V} {op : Op} (hc : opCls op = 0) {st : St} {v : V} (h : ∀ ver, vop P ro call frV ⟨st.nx, st.hp, ver⟩ op = some (some v, ⟨st.nx, st.hp, ver⟩)) (st2 : St) : vop P ro call frV st2 op = some (some v, st2) := by
  replace h := h 0
  have key : ∀ (o : Option V) (s1 : St), (match o with | some v => some (some v, s1) | none => none) = some (some v, s1) → o = some v := by
    intro o s1 h
    cases o with
    | none => cases h
    | some u => simpa using h
  cases op <;> simp only [opCls, quietOp, cond_true, cond_false, reduceCtorEq, Nat.succ_ne_zero] at hc <;> simp only [vop] at h ⊢
  case call c =>
    obtain ⟨callee, args, ts⟩ := c
    cases callee <;> simp only [Nat.succ_ne_zero, reduceCtorEq] at hc
    rename_i b
    cases ha : opnds frV args.toList with
    | none => simp [ha] at h
    | some vs =>
      simp only [ha] at h ⊢
      have hb : b = .len ∨ b = .min ∨ b = .max := by cases b <;> simp_all
      cases hv : vbuiltin P ro b ts.toList vs ⟨st.nx, st.hp, 0⟩ with
      | none => simp [hv] at h
      | some w =>
        obtain ⟨w, s1⟩ := w
        simp only [hv, Option.some.injEq, Prod.mk.injEq] at h
        obtain ⟨rfl, rfl⟩ := h
        simp only [vbuiltin_anyMem hb hv st2]
  all_goals ((repeat' split at h) <;> simp_all)

def EsRel (Y : Sy S) (D : DD S) (E : En) : List (SE S) → List Vm.Ent → Prop
  | [], es => es = []
  | s :: r, es => ∃ e es', es = e :: es' ∧ (e.x = s.x ∧ e.t = s.t ∧ RelV Y D E s.a (.p e.id e.off) ∧ RelV Y D E s.u e.v) ∧ EsRel Y D E r es'
theorem EsRel.mono {D D' : DD S} {E E' : En} (f : ∀ u v, RelV Y D E u v → RelV Y D' E' u v) : ∀ {ses : List (SE S)} {es : List Vm.Ent}, EsRel Y D E ses es → EsRel Y D' E' ses es
  | [], es, h => h
  | s :: r, es, h => by
    obtain ⟨e, es', h1, ⟨h2, h3, h4, h5⟩, h6⟩ := h
    exact ⟨e, es', h1, ⟨h2, h3, f _ _ h4, f _ _ h5⟩, EsRel.mono f h6⟩
theorem EsRel.kills {D D' : DD S} {E E' : En} {ks : List Nat} (f : ∀ u v, RelV Y D E u v → RelV Y D' E' (kill ks u) v) (f0 : ks = [] → ∀ u v, RelV Y D E u v → RelV Y D' E' u v) {ses : List (SE S)} {es : List Vm.Ent} (h : EsRel Y D E ses es) : EsRel Y D' E' (killS ks ses) es := by
  unfold killS
  cases ks with
  | nil => exact h.mono (f0 rfl)
  | cons k ks =>
    have go : ∀ {ses : List (SE S)} {es : List Vm.Ent}, EsRel Y D E ses es → EsRel Y D' E' (ses.map fun e => ⟨e.x, e.t, kill (k :: ks) e.a, kill (k :: ks) e.u⟩) es := by
      intro ses
      induction ses with
      | nil => intro es h; exact h
      | cons s r ih =>
        intro es h
        obtain ⟨e, es', h1, ⟨h2, h3, h4, h5⟩, h6⟩ := h
        exact ⟨e, es', h1, ⟨h2, h3, f _ _ h4, f _ _ h5⟩, ih h6⟩
    exact go h
theorem EsRel.alive {D : DD S} {E : En} {ops : Array Oper} {i : Nat} : ∀ {ses : List (SE S)} {es : List Vm.Ent}, EsRel Y D E ses es → EsRel Y D E (aliveS ops i ses) (aliveE ops i es)
  | [], es, h => by simp only [EsRel] at h; subst h; rfl
  | s :: r, es, h => by
    obtain ⟨e, es', rfl, ⟨h2, h3, h4, h5⟩, h6⟩ := h
    simp only [aliveS, aliveE, h2]
    cases Region.waitsT .any ops i s.x with
    | true => exact h6.alive
    | false => exact ⟨e, _, rfl, ⟨h2, h3, h4, h5⟩, h6.alive⟩

theorem detU_ok {E : En} {nx : Nat} {m : T (Ct S)} {st : St} (hI : Inv Y G o0 ro E nx m st) {D D' : DD S} {u : U S} {v w : V} (hd : detU m u = true) (h : RelV Y D E u v) (h' : RelV Y D' E u w) : same1 v w = true := by
  have refl : ∀ v : V, (v = .sn ∨ ∃ a b c d e, v = .sl a b c d e) → same1 v v = true := by
    rintro v (rfl | ⟨a, b, c, d, e, rfl⟩)
    · rfl
    · cases e <;> simp [same1]
  cases u <;> simp only [detU, Bool.false_eq_true] at hd <;> simp only [RelV] at h h'
  case b x => subst h h'; cases x <;> rfl
  case kb x => subst h h'; cases x <;> rfl
  case i k n => subst h h'; simp [same1]
  case s l => subst h h'; simp [V.str, same1]
  case pn => subst h h'; rfl
  case sn => subst h h'; rfl
  case fz => subst h h'; rfl
  case nz => subst h h'; rfl
  case p r off =>
    obtain ⟨id, y, e1, rfl⟩ := h
    obtain ⟨id', y', e1', rfl⟩ := h'
    rw [e1] at e1'
    cases e1'
    simp [same1]
  case g g off =>
    obtain ⟨_, rfl⟩ := h
    obtain ⟨_, rfl⟩ := h'
    simp [same1]
  case o r =>
    obtain ⟨y, e1, _⟩ := h
    obtain ⟨y', e1', _⟩ := h'
    rw [e1] at e1'
    cases e1'
    split at hd
    · rename_i c xs hr
      rcases hI.ent r _ hr with ⟨q1, _⟩ | ⟨id, cap, op, b, q1, _⟩
      · rw [e1] at q1; cases q1; exact refl _ (.inl rfl)
      · rw [e1] at q1; cases q1; exact refl _ (.inr ⟨_, _, _, _, _, rfl⟩)
    · cases hd
theorem detL_ok {E : En} {nx : Nat} {m : T (Ct S)} {st : St} (hI : Inv Y G o0 ro E nx m st) {D D' : DD S} : ∀ {us : List (U S)} {vs ws : List V}, detL m us = true → RelL Y D E us vs → RelL Y D' E us ws → sameL vs ws = true
  | [], vs, ws, _, h, h' => by simp only [RelL] at h h'; subst h h'; rfl
  | u :: us, vs, ws, hd, h, h' => by
    simp only [RelL] at h h'
    simp only [detL, Bool.and_eq_true] at hd
    obtain ⟨v, r, rfl, h1, h2⟩ := h
    obtain ⟨v', r', rfl, h1', h2'⟩ := h'
    simp only [sameL, Bool.and_eq_true]
    exact ⟨detU_ok hI hd.1 h1 h1', detL_ok hI hd.2 h2 h2'⟩
theorem detT_ok {E : En} {nx : Nat} {m : T (Ct S)} {st : St} (hI : Inv Y G o0 ro E nx m st) {D D' : DD S} {u : U S} {v w : V} (hd : detT m u = true) (h : RelV Y D E u v) (h' : RelV Y D' E u w) : sameV v w = true := by
  have one : detU m u = true → sameV v w = true := fun hd => by
    have := detU_ok hI hd h h'
    unfold sameV
    split
    · simp [same1] at this
    · exact this
  cases u with
  | a us =>
    simp only [RelV] at h h'
    obtain ⟨vs, rfl, h⟩ := h
    obtain ⟨ws, rfl, h'⟩ := h'
    exact detL_ok hI hd h h'
  | _ => exact one hd

theorem sKeep_ok {E : En} {nx : Nat} {m : T (Ct S)} {st : St} (hI : Inv Y G o0 ro E nx m st) : ∀ {ses : List (SE S)} {es : List Vm.Ent} {p : Prop}, sKeep Y P G m ses p → EsRel Y (Dat Y (ownOf o0 E m) st) E ses es → keepB P st es = true ∧ p
  | [], es, p, h, hr => by simp only [EsRel] at hr; subst hr; exact ⟨rfl, h⟩
  | s :: r, es, p, h, hr => by
    obtain ⟨e, es', rfl, ⟨h2, h3, h4, h5⟩, h6⟩ := hr
    simp only [sKeep] at h
    obtain ⟨id, off, u, w, k1, k2, k3, rfl, k4⟩ := sLoad_ok hI h h4
    cases k1
    cases hd : detT m s.u with
    | false => rw [hd] at k4; exact k4.elim
    | true =>
      rw [hd] at k4
      obtain ⟨k5, k6⟩ := sKeep_ok hI k4 h6
      refine ⟨?_, k6⟩
      simp only [keepB]
      rw [h3, k2]
      simp only [detT_ok hI hd k3 h5, cond_true, k5]

theorem sRun_ok {C : CallT S} (hC : CalOK Y P G ov o0 ro C) {st0 : Bs S} {ops : Array Oper} : ∀ (l : List (Nat × Oper)) {ses : List (SE S)} {es : List Vm.Ent} {z : Z S} {K : Z S → Prop} {frV : T V} {st : St} {E : En}, sRun Y P G C nt ops l ses z K →
    Inv Y G o0 ro E z.nx z.m st → Step o0 st0.E st0.m st0.st E z.m st z.ks [0] → RelF Y (Dat Y (ownOf o0 E z.m) st) E z.fr frV → EsRel Y (Dat Y (ownOf o0 E z.m) st) E ses es →
    ∃ frV' st', (∃ M, ∀ n, M ≤ n → runO P ro nt (evF P ov ro n) ops l es frV st = some (frV', st')) ∧ ∃ z', Zat Y G o0 ro st0 z' frV' st' ∧ K z'
  | [], ses, es, z, K, frV, st, E, h, hI, hS, hf, he => ⟨frV, st, ⟨0, fun _ _ => rfl⟩, z, ⟨E, hI, hS, hf⟩, h⟩
  | (i, o) :: r, ses, es, z, K, frV, st, E, h, hI, hS, hf, he => by
    simp only [sRun, forceP_eq, killK_eq] at h
    obtain ⟨fr', hf', ⟨hw, h⟩ | ⟨hw, h⟩⟩ := sGuard_ok h hf
    · split at h
      · rename_i hc
        obtain ⟨u, v, h1, h2, h3⟩ := sQ_ok (ro := ro) hI h hf'
        obtain ⟨fr2, frV2, k1, k2, k3⟩ := sPut_ok (v := some v) h3 hf' h2
        obtain ⟨frV3, st3, ⟨M2, h5⟩, h6⟩ := sRun_ok hC r k3 hI hS k2 he
        refine ⟨frV3, st3, ⟨M2, fun n hn => ?_⟩, h6⟩
        unfold runO
        simp only [hw, hc, vop_anyMem hc (h1.2 _) ⟨st.nx, .e, 0⟩, k1]
        exact h5 n hn
      · rename_i hc
        split at h
        · rename_i t x hop
          obtain ⟨a, av, h1, h2, h3⟩ := sOpd_ok h hf'
          obtain ⟨id, off, u, w, rfl, h4, h5, h6⟩ := sLoad_ok hI h3 h2
          obtain ⟨fr2, frV2, k1, k2, k3⟩ := sPut_ok (v := some w) h6 hf' h5
          obtain ⟨frV3, st3, ⟨M2, h7⟩, h8⟩ := sRun_ok (es := ⟨i, t, id, off, w⟩ :: es) hC r k3 hI hS k2 ⟨_, _, rfl, ⟨rfl, rfl, h2, h5⟩, he⟩
          refine ⟨frV3, st3, ⟨M2, fun n hn => ?_⟩, h8⟩
          unfold runO
          simp only [hw, hc]
          rw [hop]
          simp only [h1, h4, k1]
          exact h7 n hn
        · exact h.elim
      · rename_i hc0 hc1
        have hI1 := hI.reVer st.nx
        obtain ⟨res, st1, ⟨M, h1⟩, u, nx', m', ks, wr, E', hI', hS', hr, hk⟩ := sOp_ok hC hI1 h (RelF.reVer hf')
        have hSx : Step o0 E z.m st E' m' ⟨st1.nx, st1.hp, low st.ver st1.ver⟩ ks wr := ⟨hS'.len, hS'.same, hS'.nx, hS'.keep, hS'.nam, fun j j1 j2 j3 => by
          have := hS'.ver j j1 j1 j3
          show j ≤ low st.ver st1.ver
          unfold low
          cases Nat.ble st.ver st1.ver <;> simp only [cond_true, cond_false] <;> assumption⟩
        have hI2 := hI'.reVer (low st.ver st1.ver)
        have hf2 : RelF Y (Dat Y (ownOf o0 E' m') ⟨st1.nx, st1.hp, low st.ver st1.ver⟩) E' (killF ks fr') frV := killF_rel hSx hf'
        have he2 : EsRel Y (Dat Y (ownOf o0 E' m') ⟨st1.nx, st1.hp, low st.ver st1.ver⟩) E' (killS ks (aliveS ops i ses)) (aliveE ops i es) :=
          he.alive.kills (fun u v h => hSx.relK h) (fun q u v h => by subst q; exact hSx.rel h)
        have fin : (Nat.ble st.nx st1.ver || keepB P st1 (aliveE ops i es)) = true → (sPut nt (killF ks fr') o.dst u fun fr' => sRun Y P G C nt ops r (killS ks (aliveS ops i ses)) ⟨fr', nx', m', ks ++ z.ks⟩ K) →
            ∃ frV' st', (∃ M, ∀ n, M ≤ n → runO P ro nt (evF P ov ro n) ops ((i, o) :: r) es frV st = some (frV', st')) ∧ ∃ z', Zat Y G o0 ro st0 z' frV' st' ∧ K z' := by
          intro hkeep hk
          have hr2 : RelO Y (Dat Y (ownOf o0 E' m') ⟨st1.nx, st1.hp, low st.ver st1.ver⟩) E' u res := by
            cases u <;> cases res <;> first | exact hr | exact RelV.reVer hr
          obtain ⟨fr2, frV2, k1, k2, k3⟩ := sPut_ok hk hf2 hr2
          obtain ⟨frV3, st3, ⟨M2, h5⟩, h6⟩ := sRun_ok hC r k3 hI2 (hS.trans hSx).anyW k2 he2
          obtain ⟨n0, hn0⟩ : ∃ n, opCls o.op = n + 2 := by
            cases hq : opCls o.op with
            | zero => exact absurd hq hc0
            | succ q => cases q with
              | zero => exact absurd hq hc1
              | succ q => exact ⟨q, rfl⟩
          refine ⟨frV3, st3, ⟨max M M2, fun n hn => ?_⟩, h6⟩
          unfold runO
          simp only [hw, hn0, h1 n (by omega), hkeep, k1, natF_eq]
          exact h5 n (by omega)
        split at hk
        · refine fin ?_ hk
          have : st.nx ≤ st1.ver := hS'.ver st.nx (Nat.le_refl _) (Nat.le_refl _) (.inl rfl)
          rw [Bool.or_eq_true, Nat.ble_eq]
          exact .inl this
        · obtain ⟨k1, k2⟩ := sKeep_ok hI2 hk he2
          refine fin ?_ k2
          rw [Bool.or_eq_true]
          exact .inr (by rw [← keepB_ver]; exact k1)
    · obtain ⟨fr2, frV2, h2, h3, h4⟩ := sPut_ok (v := none) h hf' trivial
      obtain ⟨frV3, st3, ⟨M2, h5⟩, h6⟩ := sRun_ok hC r h4 hI hS h3 he
      exact ⟨frV3, st3, ⟨M2, fun n hn => by unfold runO; simp only [hw, h2]; exact h5 n hn⟩, h6⟩

theorem sC_ok {C : CallT S} (hC : CalOK Y P G ov o0 ro C) {L : LoopT S} {st0 : Bs S} : ∀ (c : Code), (∀ b ∈ loopsOf c, ∀ z K, L b z K → Sem Y P G ov o0 ro nt st0 (.loop b) z K) → ∀ (z : Z S) (K : Ex → Z S → Prop), sC Y P G C L nt c z K → Sem Y P G ov o0 ro nt st0 c z K
  | .skip, _, z, K, h => fun frV st hz => ⟨.nrm, frV, st, ⟨1, fun n hn => by obtain ⟨k, rfl⟩ := Nat.exists_eq_succ_of_ne_zero (Nat.pos_iff_ne_zero.1 hn); rfl⟩, z, hz, h⟩
  | .label _, _, z, K, h => fun frV st hz => ⟨.nrm, frV, st, ⟨1, fun n hn => by obtain ⟨k, rfl⟩ := Nat.exists_eq_succ_of_ne_zero (Nat.pos_iff_ne_zero.1 hn); rfl⟩, z, hz, h⟩
  | .exit i, _, z, K, h => fun frV st hz => ⟨.exit i, frV, st, ⟨1, fun n hn => by obtain ⟨k, rfl⟩ := Nat.exists_eq_succ_of_ne_zero (Nat.pos_iff_ne_zero.1 hn); rfl⟩, z, hz, h⟩
  | .goto i, _, z, K, h => fun frV st hz => ⟨.goto i, frV, st, ⟨1, fun n hn => by obtain ⟨k, rfl⟩ := Nat.exists_eq_succ_of_ne_zero (Nat.pos_iff_ne_zero.1 hn); rfl⟩, z, hz, h⟩
  | .ret, _, z, K, h => fun frV st hz => ⟨.ret, frV, st, ⟨1, fun n hn => by obtain ⟨k, rfl⟩ := Nat.exists_eq_succ_of_ne_zero (Nat.pos_iff_ne_zero.1 hn); rfl⟩, z, hz, h⟩
  | .region id ops draw, _, z, K, h => fun frV st hz => by
    cases draw with
    | false =>
      obtain ⟨frV', st', ⟨M, h1⟩, z', hz', hk⟩ := sOps_ok hC ops.toList h hz
      exact ⟨.nrm, frV', st', ⟨M + 1, fun n hn => by
        obtain ⟨k, rfl⟩ := Nat.exists_eq_succ_of_ne_zero (show n ≠ 0 by omega)
        have := h1 k (by omega)
        simp only [evC]
        rw [show callGo P ov (evC P ov ro k) = evF P ov ro k from rfl, this]⟩, z', hz', hk⟩
    | true =>
      simp only [sC] at h
      cases hB : lexQ1 P ops with
      | false =>
        rw [hB] at h
        cases hT : tailB ops with
        | false =>
          rw [hT] at h
          simp only [cond_false] at h
          cases hpl : planOf P ops with
          | some l =>
            rw [hpl] at h
            obtain ⟨E, hI, hS, hf⟩ := hz
            obtain ⟨frV', st', ⟨M, h1⟩, z', hz', hk⟩ := sRun_ok (es := []) hC l h hI hS hf rfl
            exact ⟨.nrm, frV', st', ⟨M + 1, fun n hn => by
              obtain ⟨k, rfl⟩ := Nat.exists_eq_succ_of_ne_zero (show n ≠ 0 by omega)
              have := h1 k (by omega)
              simp only [evC, hB, hT, hpl]
              rw [show callGo P ov (evC P ov ro k) = evF P ov ro k from rfl, this]⟩, z', hz', hk⟩
          | none =>
            rw [hpl] at h
            cases hL : lexQ ops with
            | false => rw [hL] at h; exact h.elim
            | true =>
              rw [hL] at h
              obtain ⟨E, hI, hS, hf⟩ := hz
              obtain ⟨frV', ⟨M, h1⟩, fr', hf', hk⟩ := sOpsQ_ok hC hI ops.toList h hf
              exact ⟨.nrm, frV', st, ⟨M + 1, fun n hn => by
                obtain ⟨k, rfl⟩ := Nat.exists_eq_succ_of_ne_zero (show n ≠ 0 by omega)
                have := h1 k (by omega)
                simp only [evC, hB, hT, hpl, hL]
                rw [show callGo P ov (evC P ov ro k) = evF P ov ro k from rfl, this]⟩, ⟨fr', z.nx, z.m, z.ks⟩, ⟨E, hI, hS, hf'⟩, hk⟩
        | true =>
          rw [hT] at h
          simp only [cond_true, cond_false] at h
          obtain ⟨E, hI, hS, hf⟩ := hz
          obtain ⟨frV', ⟨M, h1⟩, fr', hf', hk⟩ := sOpsQ_ok hC hI (ops.toList.take (ops.size - 1)) h hf
          obtain ⟨frV2, st2, ⟨M2, h2⟩, z2, hz2, hk2⟩ := sOps_ok hC (ops.toList.drop (ops.size - 1)) hk ⟨E, hI, hS, hf'⟩
          exact ⟨.nrm, frV2, st2, ⟨max M M2 + 1, fun n hn => by
            obtain ⟨k, rfl⟩ := Nat.exists_eq_succ_of_ne_zero (show n ≠ 0 by omega)
            have q1 := h1 k (by omega)
            have q2 := h2 k (by omega)
            simp only [evC, hB, hT]
            rw [show callGo P ov (evC P ov ro k) = evF P ov ro k from rfl, q1]
            simp only
            rw [q2]⟩, z2, hz2, hk2⟩
      | true =>
        rw [hB] at h
        obtain ⟨E, hI, hS, hf⟩ := hz
        obtain ⟨frV', ⟨M, h1⟩, fr', hf', hk⟩ := sOpsQ_ok hC hI ops.toList h hf
        exact ⟨.nrm, frV', st, ⟨M + 1, fun n hn => by
          obtain ⟨k, rfl⟩ := Nat.exists_eq_succ_of_ne_zero (show n ≠ 0 by omega)
          have := h1 k (by omega)
          simp only [evC, hB]
          rw [show callGo P ov (evC P ov ro k) = evF P ov ro k from rfl, this]⟩, ⟨fr', z.nx, z.m, z.ks⟩, ⟨E, hI, hS, hf'⟩, hk⟩
  | .seq a b, hL, z, K, h => fun frV st hz => by
    have hLa : ∀ c ∈ loopsOf a, ∀ z K, L c z K → Sem Y P G ov o0 ro nt st0 (.loop c) z K := fun c hc => hL c (by simp only [loopsOf]; exact List.mem_append_left _ hc)
    have hLb : ∀ c ∈ loopsOf b, ∀ z K, L c z K → Sem Y P G ov o0 ro nt st0 (.loop c) z K := fun c hc => hL c (by simp only [loopsOf]; exact List.mem_append_right _ hc)
    simp only [sC] at h
    cases hfl : flagOf P nt a b with
    | some F => rw [hfl] at h; exact h.elim
    | none =>
    rw [hfl] at h
    obtain ⟨e, frV1, st1, ⟨M, h1⟩, z1, hz1, hk⟩ := sC_ok hC a hLa z _ h frV st hz
    cases e with
    | nrm =>
      obtain ⟨e2, frV2, st2, ⟨M2, h2⟩, h3⟩ := sC_ok hC b hLb z1 K hk frV1 st1 hz1
      exact ⟨e2, frV2, st2, ⟨max M M2 + 1, fun n hn => by
        obtain ⟨k, rfl⟩ := Nat.exists_eq_succ_of_ne_zero (show n ≠ 0 by omega)
        simp only [evC, hfl, h1 k (by omega), h2 k (by omega)]⟩, h3⟩
    | exit i => exact ⟨.exit i, frV1, st1, ⟨M + 1, fun n hn => by
        obtain ⟨k, rfl⟩ := Nat.exists_eq_succ_of_ne_zero (show n ≠ 0 by omega)
        simp only [evC, hfl, h1 k (by omega)]⟩, z1, hz1, hk⟩
    | goto i => exact ⟨.goto i, frV1, st1, ⟨M + 1, fun n hn => by
        obtain ⟨k, rfl⟩ := Nat.exists_eq_succ_of_ne_zero (show n ≠ 0 by omega)
        simp only [evC, hfl, h1 k (by omega)]⟩, z1, hz1, hk⟩
    | ret => exact ⟨.ret, frV1, st1, ⟨M + 1, fun n hn => by
        obtain ⟨k, rfl⟩ := Nat.exists_eq_succ_of_ne_zero (show n ≠ 0 by omega)
        simp only [evC, hfl, h1 k (by omega)]⟩, z1, hz1, hk⟩
  | .cond c a b, hL, z, K, h => fun frV st hz => by
    have hLa : ∀ c ∈ loopsOf a, ∀ z K, L c z K → Sem Y P G ov o0 ro nt st0 (.loop c) z K := fun x hc => hL x (by simp only [loopsOf]; exact List.mem_append_left _ hc)
    have hLb : ∀ c ∈ loopsOf b, ∀ z K, L c z K → Sem Y P G ov o0 ro nt st0 (.loop c) z K := fun x hc => hL x (by simp only [loopsOf]; exact List.mem_append_right _ hc)
    obtain ⟨E, hI, hS, hf⟩ := hz
    simp only [sC, updI_eq] at h
    split at h
    · rename_i t
      have fin : ∀ (x : Bool) (z1 : Z S), frV.get t = some (.b x) → Zat Y G o0 ro st0 z1 frV st → (x = true → sC Y P G C L nt a z1 K) → (x = false → sC Y P G C L nt b z1 K) → ∃ e frV' st', (∃ M, ∀ n, M ≤ n → evC P ov ro n nt (.cond (.tmp t) a b) frV st = some (e, frV', st')) ∧ ∃ z', Zat Y G o0 ro st0 z' frV' st' ∧ K e z' := by
        intro x z1 hx hz1 ha hb
        cases x with
        | true =>
          obtain ⟨e, frV2, st2, ⟨M, h2⟩, h3⟩ := sC_ok hC a hLa z1 K (ha rfl) frV st hz1
          exact ⟨e, frV2, st2, ⟨M + 1, fun n hn => by
            obtain ⟨k, rfl⟩ := Nat.exists_eq_succ_of_ne_zero (show n ≠ 0 by omega)
            simp only [evC, opnd, hx, h2 k (by omega)]⟩, h3⟩
        | false =>
          obtain ⟨e, frV2, st2, ⟨M, h2⟩, h3⟩ := sC_ok hC b hLb z1 K (hb rfl) frV st hz1
          exact ⟨e, frV2, st2, ⟨M + 1, fun n hn => by
            obtain ⟨k, rfl⟩ := Nat.exists_eq_succ_of_ne_zero (show n ≠ 0 by omega)
            simp only [evC, opnd, hx, h2 k (by omega)]⟩, h3⟩
      split at h
      · rename_i hx
        obtain ⟨v, h1, h2⟩ := hf t _ hx
        simp only [RelV] at h2
        subst h2
        exact fin true z h1 ⟨E, hI, hS, hf⟩ (fun _ => h) (fun q => by cases q)
      · rename_i hx
        obtain ⟨v, h1, h2⟩ := hf t _ hx
        simp only [RelV] at h2
        subst h2
        exact fin false z h1 ⟨E, hI, hS, hf⟩ (fun q => by cases q) (fun _ => h)
      · rename_i x hx
        obtain ⟨v, h1, h2⟩ := hf t _ hx
        simp only [RelV] at h2
        subst h2
        cases x with
        | true => exact fin true ⟨z.fr.upd t (some (.kb true)), z.nx, z.m, z.ks⟩ h1 ⟨E, hI, hS, relF_known hf h1 rfl⟩ (fun _ => h.1 rfl) (fun q => by cases q)
        | false => exact fin false ⟨z.fr.upd t (some (.kb false)), z.nx, z.m, z.ks⟩ h1 ⟨E, hI, hS, relF_known hf h1 rfl⟩ (fun q => by cases q) (fun _ => h.2 rfl)
      · exact h.elim
    · exact h.elim
  | .block i b, hL, z, K, h => fun frV st hz => by
    obtain ⟨e, frV1, st1, ⟨M, h1⟩, z1, hz1, hk⟩ := sC_ok hC b hL z _ h frV st hz
    cases e with
    | exit j =>
      dsimp only at hk
      cases hj : Nat.beq j i with
      | true =>
        rw [hj] at hk
        exact ⟨.nrm, frV1, st1, ⟨M + 1, fun n hn => by
          obtain ⟨k, rfl⟩ := Nat.exists_eq_succ_of_ne_zero (show n ≠ 0 by omega)
          simp only [evC, h1 k (by omega), hj, cond_true]⟩, z1, hz1, hk⟩
      | false =>
        rw [hj] at hk
        exact ⟨.exit j, frV1, st1, ⟨M + 1, fun n hn => by
          obtain ⟨k, rfl⟩ := Nat.exists_eq_succ_of_ne_zero (show n ≠ 0 by omega)
          simp only [evC, h1 k (by omega), hj, cond_false]⟩, z1, hz1, hk⟩
    | nrm => exact ⟨.nrm, frV1, st1, ⟨M + 1, fun n hn => by
        obtain ⟨k, rfl⟩ := Nat.exists_eq_succ_of_ne_zero (show n ≠ 0 by omega)
        simp only [evC, h1 k (by omega)]⟩, z1, hz1, hk⟩
    | goto i => exact ⟨.goto i, frV1, st1, ⟨M + 1, fun n hn => by
        obtain ⟨k, rfl⟩ := Nat.exists_eq_succ_of_ne_zero (show n ≠ 0 by omega)
        simp only [evC, h1 k (by omega)]⟩, z1, hz1, hk⟩
    | ret => exact ⟨.ret, frV1, st1, ⟨M + 1, fun n hn => by
        obtain ⟨k, rfl⟩ := Nat.exists_eq_succ_of_ne_zero (show n ≠ 0 by omega)
        simp only [evC, h1 k (by omega)]⟩, z1, hz1, hk⟩
  | .loop b, hL, z, K, h => hL b (by simp [loopsOf]) z K h
  | .scope b, hL, z, K, h => fun frV st hz => by
    obtain ⟨e, frV1, st1, ⟨M, h1⟩, z1, hz1, hk⟩ := sC_ok hC b hL z _ h frV st hz
    have sc : ∀ n, M + 2 ≤ n → ∃ k, n = k + 2 ∧ M ≤ k := fun n hn => ⟨n - 2, by omega, by omega⟩
    cases e with
    | goto i => exact hk.elim
    | nrm => exact ⟨.nrm, frV1, st1, ⟨M + 2, fun n hn => by
        obtain ⟨k, rfl, hk⟩ := sc n hn
        rw [show evC P ov ro (k + 2) nt (.scope b) frV st = scopeGo (evC P ov ro (k + 1) nt) b (k + 1) b frV st from rfl]
        simp only [scopeGo, h1 (k + 1) (by omega)]⟩, z1, hz1, hk⟩
    | exit j => exact ⟨.exit j, frV1, st1, ⟨M + 2, fun n hn => by
        obtain ⟨k, rfl, hk⟩ := sc n hn
        rw [show evC P ov ro (k + 2) nt (.scope b) frV st = scopeGo (evC P ov ro (k + 1) nt) b (k + 1) b frV st from rfl]
        simp only [scopeGo, h1 (k + 1) (by omega)]⟩, z1, hz1, hk⟩
    | ret => exact ⟨.ret, frV1, st1, ⟨M + 2, fun n hn => by
        obtain ⟨k, rfl, hk⟩ := sc n hn
        rw [show evC P ov ro (k + 2) nt (.scope b) frV st = scopeGo (evC P ov ro (k + 1) nt) b (k + 1) b frV st from rfl]
        simp only [scopeGo, h1 (k + 1) (by omega)]⟩, z1, hz1, hk⟩
  | .rangeFunc _ _ _ _, _, _, _, h => by simp [sC] at h
  | .refuse _, _, _, _, h => by simp [sC] at h
end
end Go.Sx
