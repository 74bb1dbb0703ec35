/-
  Functions at values that are not known; calls of them. Nothing is claimed here.
-/
import Derived.Test.YtnfddmjbfkfnhaaGreatDoorSl
namespace Go.Sx
open Go.Vm

section
variable {S : Sg} (Y : Sy S) (P : Program) (G : Gl)

def frU : List (U S) → Nat → T (U S) → T (U S)
  | [], _, fr => fr
  | u :: r, i, fr => frU r (i + 1) (fr.upd i (some u))
def sRes (fr : T (U S)) (m : T (Ct S)) (r : ResultVar) (k : U S → Prop) : Prop := match r with
  | .tmp t => onO (fr.get t) k
  | .cell a t => onO (fr.get a) fun u => sLoad Y P G m t u k
def sResL (fr : T (U S)) (m : T (Ct S)) : List ResultVar → (List (U S) → Prop) → Prop
  | [], k => k []
  | r :: rs, k => sRes Y P G fr m r fun u => sResL fr m rs fun us => k (u :: us)
def oneU : List (U S) → U S
  | [u] => u
  | us => .t us

mutual
/-- What is handed back: data. -/
def expU (m : T (Ct S)) : U S → (U S → Prop) → Prop
  | .b x, k => k (.b x)
  | .kb x, k => k (.b x)
  | .i kd n, k => k (.i kd n)
  | .s l, k => k (.s l)
  | .pn, k => k .pn
  | .sn, k => k .sn
  | .fz, k => k .fz
  | .l c xs, k => k (.l c xs)
  | .e0 c, k => k (.l c [])
  | .o r, k => match m.get r with
    | some (.buf c xs) => k (.l c xs)
    | _ => False
  | .a us, k => expL m us fun us => k (.a us)
  | .t us, k => expL m us fun us => k (.t us)
  | _, _ => False
def expL (m : T (Ct S)) : List (U S) → (List (U S) → Prop) → Prop
  | [], k => k []
  | u :: us, k => expU m u fun u => expL m us fun us => k (u :: us)
end

def fin (rc : List (Option S.Cd)) (res : List ResultVar) (k : U S → Prop) (e : Ex) (z : Z S) : Prop := match e with
  | .nrm => sResL Y P G z.fr z.m res fun us => expL z.m us fun us => k (oneU (rnil rc us))
  | .ret => sResL Y P G z.fr z.m res fun us => expL z.m us fun us => k (oneU (rnil rc us))
  | _ => False
/-- A function of data. -/
def fnT (C : CallT S) (L : LoopT S) (nt : Nat) (c : Code) (rc : List (Option S.Cd)) (res : List ResultVar) (us : List (U S)) (k : U S → Prop) : Prop :=
  cond (Nat.ble us.length nt) (sC Y P G C L nt c ⟨frU us 0 .e, 0, .e, []⟩ (fin Y P G rc res k)) False

def finI (res : List ResultVar) (k : Kn S) (e : Ex) (z : Z S) : Prop := match e with
  | .nrm => sResL Y P G z.fr z.m res fun us => k (some (oneU us)) z.nx z.m z.ks [0]
  | .ret => sResL Y P G z.fr z.m res fun us => k (some (oneU us)) z.nx z.m z.ks [0]
  | _ => False
/-- A call that is followed in place. -/
def inl (C : CallT S) (L : LoopT S) (bn nt : Nat) (c : Code) (res : List ResultVar) : List (U S) → Nat → T (Ct S) → Kn S → Prop := fun us nx m k =>
  cond (Nat.ble us.length nt && Nat.ble nx bn) (sC Y P G C L nt c ⟨frU us 0 .e, nx, m, []⟩ (finI Y P G res k)) False

/-- Known truth values in a struct, as such. -/
def nb1 : U S → U S
  | .kb x => .b x
  | .e0 c => .l c []
  | u => u
def nb : U S → U S
  | .a cs => .a (cs.map nb1)
  | u => u
/-- A struct's cells, named buffers among them as data; and whether there are such. -/
def lendC (m : T (Ct S)) : List (U S) → Option (List (U S) × Bool)
  | [] => some ([], false)
  | u :: us => match u with
    | .o r => match m.get r with
      | some (.buf c xs) => match lendC m us with
        | some (us', _) => some (.l c xs :: us', true)
        | none => none
      | _ => none
    | u => cond (lowU 0 u) (match lendC m us with
      | some (us', b) => some (nb1 u :: us', b)
      | none => none) none
/-- What is handed over, as data; and whether a named buffer is lent. -/
def dataU (m : T (Ct S)) : List (U S) → (List (U S) → Bool → Prop) → Prop
  | [], k => k [] false
  | u :: us, k => match u with
    | .o r => match m.get r with
      | some (.buf c xs) => dataU m us fun us' _ => k (.l c xs :: us') true
      | _ => False
    | .vh r j => match m.get r with
      | some (.buf c xs) => dataU m us fun us' _ => k (.l c (xs.take j) :: us') true
      | _ => False
    | .vc c r n => match m.get r with
      | some (.cells vs) => cond (Nat.beq vs.length (n * Y.wid c)) (sRows Y c (Y.wid c) (nrmr (Y.lk c) (Y.wid c) n vs) (fun xs => dataU m us fun us' _ => k (.l c xs :: us') true) n) False
      | _ => False
    | .kb x => dataU m us fun us' b => k (.b x :: us') b
    | .e0 c => dataU m us fun us' b => k (.l c [] :: us') b
    | .a cs => match lendC m cs with
      | some (cs', b0) => dataU m us fun us' b => k (.a cs' :: us') (cond b0 true b)
      | none => False
    | u => cond (lowU 0 u) (dataU m us fun us' b => k (nb u :: us') b) False
def con (pc : List (Option S.Cd)) (pt : List (U S) → (U S → Prop) → Prop) : List (U S) → Nat → T (Ct S) → Kn S → Prop := fun us nx m k =>
  dataU Y m us fun us' b => pt (rnil pc us') fun u => match b with
    | false => k (some u) nx m [] []
    | true => cond (plainTU u) (k (some u) nx m [] []) False
/-- Nil in structs, where a slice is wanted. -/
def rnilA : List (List (Option S.Cd)) → List (U S) → List (U S)
  | s :: ss, .a cs :: us => .a (rnil s cs) :: rnilA ss us
  | _ :: ss, u :: us => u :: rnilA ss us
  | [], us => us
  | _ :: _, [] => []
def conA (sc : List (List (Option S.Cd))) (pc : List (Option S.Cd)) (pt : List (U S) → (U S → Prop) → Prop) : List (U S) → Nat → T (Ct S) → Kn S → Prop := fun us nx m k =>
  dataU Y m us fun us' b => pt (rnilA sc (rnil pc us')) fun u => match b with
    | false => k (some u) nx m [] []
    | true => cond (plainTU u) (k (some u) nx m [] []) False

/-- The calls that are known. -/
def tab : List (FuncId × (List (U S) → Nat → T (Ct S) → Kn S → Prop)) → CallT S
  | [], _, _, _, _, _ => False
  | (g, p) :: r, f, us, nx, m, k => cond (Nat.beq f g) (p us nx m k) (tab r f us nx m k)

variable (ov : Ov) (ro : Nat)

def GOK (G : Gl) (ro : Nat) (st : St) : Prop := ∀ g k l, G g = some (k, l) → g < ro ∧ ∃ b, st.hp.get g = some b ∧ ∀ j, j < l.length → b.get j = some (.i k (l.getD j 0))
structure Ext (st st' : St) : Prop where
  nx : st.nx ≤ st'.nx
  keep : ∀ id, id < st.nx → st'.hp.get id = st.hp.get id
  ver : ∀ j, j ≤ st.nx → j ≤ st.ver → j ≤ st'.ver

/-- A FUNCTION: what it does is told by its transformer. -/
def FnOK (f : FuncId) (pt : List (U S) → (U S → Prop) → Prop) : Prop :=
  ∀ (o0 : Nat → Prop) us k, pt us k → ∀ st vs, ro ≤ st.nx → GOK G ro st → (∀ id, o0 id → ro ≤ id ∧ id < st.nx) → RelL Y (Dat Y o0 st) [] us vs →
    ∃ v st', (∃ M, ∀ n, M ≤ n → evF P ov ro n f vs st = some (v, st')) ∧ ∃ u, RelV Y (Dat Y o0 st') [] u v ∧ Ext st st' ∧ k u
def EntOK (f : FuncId) (p : List (U S) → Nat → T (Ct S) → Kn S → Prop) : Prop :=
  ∀ (o0 : Nat → Prop) us nx m k, p us nx m k → ∀ E st vs, Inv Y G o0 ro E nx m st → RelL Y (Dat Y (ownOf o0 E m) st) E us vs → ∃ v st', (∃ M, ∀ n, M ≤ n → evF P ov ro n f vs st = some (v, st')) ∧ Done Y G o0 ro E m st k (some v) st'
def LpOK (L : LoopT S) (bn nt : Nat) (c : Code) : Prop := ∀ (o0 : Nat → Prop) (B : Bs S), B.E.length ≤ bn → ∀ b ∈ loopsOf c, ∀ z K, L b z K → Sem Y P G ov o0 ro nt B (.loop b) z K

variable {Y P G ov ro}

theorem tab_nil (o0 : Nat → Prop) : CalOK Y P G ov o0 ro (tab []) := fun _ _ _ _ _ h => h.elim
theorem tab_cons {g : FuncId} {p : List (U S) → Nat → T (Ct S) → Kn S → Prop} {r : List (FuncId × (List (U S) → Nat → T (Ct S) → Kn S → Prop))} (hp : EntOK Y P G ov ro g p) (hr : ∀ o0, CalOK Y P G ov o0 ro (tab r)) (o0 : Nat → Prop) : CalOK Y P G ov o0 ro (tab ((g, p) :: r)) := by
  intro f us nx m k h E st vs hI hv
  simp only [tab] at h
  cases hq : Nat.beq f g with
  | true => rw [hq] at h; rw [Nat.beq_eq] at hq; subst hq; exact hp o0 us nx m k h E st vs hI hv
  | false => rw [hq] at h; exact hr o0 f us nx m k h E st vs hI hv

theorem frU_rel {D : DD S} {E : En} : ∀ {us : List (U S)} {vs : List V} {i : Nat} {fr : T (U S)} {frV : T V}, RelL Y D E us vs → RelF Y D E fr frV → RelF Y D E (frU us i fr) (frameOf vs i frV)
  | [], vs, i, fr, frV, h, hf => by simp only [RelL] at h; subst h; exact hf
  | u :: us, vs, i, fr, frV, h, hf => by
    simp only [RelL] at h
    obtain ⟨v, r, rfl, h1, h2⟩ := h
    simp only [frU, frameOf, V.force_eq]
    exact frU_rel h2 (relF_upd hf h1)

theorem sRes_ok {o0 : Nat → Prop} {E : En} {nx : Nat} {m : T (Ct S)} {st : St} (hI : Inv Y G o0 ro E nx m st) {fr : T (U S)} {frV : T V} (hf : RelF Y (Dat Y (ownOf o0 E m) st) E fr frV) {r : ResultVar} {k : U S → Prop} (h : sRes Y P G fr m r k) :
    ∃ u v, resultOf P frV st r = some v ∧ RelV Y (Dat Y (ownOf o0 E m) st) E u v ∧ k u := by
  cases r with
  | tmp t =>
    obtain ⟨u, h1, h2⟩ := onO_ok h
    obtain ⟨v, h3, h4⟩ := hf t u h1
    exact ⟨u, v, h3, h4, h2⟩
  | cell a t =>
    obtain ⟨u, h1, h2⟩ := onO_ok h
    obtain ⟨v, h3, h4⟩ := hf a u h1
    obtain ⟨id, off, w, y, rfl, h5, h6, h7⟩ := sLoad_ok hI h2 h4
    exact ⟨w, y, by simp only [resultOf, h3]; exact h5, h6, h7⟩
theorem sResL_ok {o0 : Nat → Prop} {E : En} {nx : Nat} {m : T (Ct S)} {st : St} (hI : Inv Y G o0 ro E nx m st) {fr : T (U S)} {frV : T V} (hf : RelF Y (Dat Y (ownOf o0 E m) st) E fr frV) : ∀ {rs : List ResultVar} {k : List (U S) → Prop}, sResL Y P G fr m rs k →
    ∃ us vs, resultsOf P frV st rs = some vs ∧ RelL Y (Dat Y (ownOf o0 E m) st) E us vs ∧ k us
  | [], k, h => ⟨[], [], rfl, rfl, h⟩
  | r :: rs, k, h => by
    obtain ⟨u, v, h1, h2, h3⟩ := sRes_ok hI hf h
    obtain ⟨us, vs, h4, h5, h6⟩ := sResL_ok hI hf h3
    exact ⟨u :: us, v :: vs, by simp only [resultsOf, h1, h4], ⟨v, vs, rfl, h2, h5⟩, h6⟩
theorem oneU_rel {D : DD S} {E : En} {us : List (U S)} {vs : List V} (h : RelL Y D E us vs) : RelV Y D E (oneU us) (oneOf vs) := by
  cases us with
  | nil => simp only [RelL] at h; subst h; exact ⟨[], rfl, rfl⟩
  | cons u us =>
    have h' := h
    simp only [RelL] at h
    obtain ⟨v, r, rfl, h1, h2⟩ := h
    cases us with
    | nil => simp only [RelL] at h2; subst h2; exact h1
    | cons w us =>
      have h3 := h2
      simp only [RelL] at h2
      obtain ⟨x, r', rfl, h4, h5⟩ := h2
      exact ⟨_, rfl, h'⟩

/-- A named buffer, as data. -/
theorem buf_data {o0 own : Nat → Prop} {E : En} {nx : Nat} {m : T (Ct S)} {st : St} (hI : Inv Y G o0 ro E nx m st) {r : Nat} {c : S.Cd} {xs : List (S.Den c)} {v : V} (hr : m.get r = some (.buf c xs)) (hv : RelV Y (Dat Y (ownOf o0 E m) st) E (.o r) v) (h1 : ∀ id, own id → ownOf o0 E m id) (h2 : ∀ id y, E[r]? = some (some id, y) → ¬ own id) :
    Dat Y own st c xs v := by
  simp only [RelV] at hv
  obtain ⟨x, e1, _⟩ := hv
  rcases hI.ent r _ hr with ⟨v0, q1, q2, q0⟩ | ⟨id, cap, op, b, q1, q2, q3, q4, q5, q6, q7, q8, vs, q9, q10⟩
  · rw [e1] at q1; cases q1; subst q2; exact noRoom_dat q0
  · have e1' := e1
    rw [e1] at q1
    cases q1
    exact .mk vs (h2 id _ e1') q3 q4 (fun i x hx => by rw [Nat.zero_add]; exact q9 i x hx) (fun i x hx j u v hu hv => DatA.keep (Nat.le_refl _) (fun _ _ _ => rfl) (fun id _ ho => h1 id ho) (q10 i x hx j u v hu hv)) q5

/-- The first elements of a named buffer, as data. -/
theorem bufh_data {o0 : Nat → Prop} {E : En} {nx : Nat} {m : T (Ct S)} {st : St} (hI : Inv Y G o0 ro E nx m st) {r j : Nat} {c : S.Cd} {xs : List (S.Den c)} {v : V} (hr : m.get r = some (.buf c xs)) (hv : RelV Y (Dat Y (ownOf o0 E m) st) E (.vh r j) v) :
    Dat Y (fun _ => False) st c (xs.take j) v := by
  simp only [RelV] at hv
  obtain ⟨x, y, e1, hv⟩ := hv
  rcases hI.ent r _ hr with ⟨v0, q1, q2, q0⟩ | ⟨id, cap, op, b, q1, q2, q3, q4, q5, q6, q7, q8, vs, q9, q10⟩
  · rw [e1] at q1
    cases q1
    subst q2
    obtain ⟨_, rfl, rfl⟩ | ⟨_, _, _, _, q, _⟩ := hv
    · exact noRoom_dat q0
    · rw [q] at q0; cases q0
  · rw [e1] at q1
    cases q1
    obtain ⟨q, _⟩ | ⟨_, _, _, _, q, hj, rfl⟩ := hv
    · cases q
    cases q
    have hl : (xs.take j).length = j := by rw [List.length_take]; omega
    have hg : ∀ (i : Nat) x, (xs.take j)[i]? = some x → xs[i]? = some x := fun i x hx => by
      rw [List.getElem?_take] at hx
      split at hx
      · exact hx
      · cases hx
    have := Dat.mk (Y := Y) (own := fun _ => False) (st := st) (c := c) (xs := xs.take j) (off := 0) (cap := cap) (op := op) (b := b) vs (fun q => q) q3 q4 (fun i x hx => by rw [Nat.zero_add]; exact q9 i x (hg i x hx)) (fun i x hx j u v hu hv => DatA.keep (Nat.le_refl _) (fun _ _ _ => rfl) (fun id _ ho => ho.elim) (q10 i x (hg i x hx) j u v hu hv)) (by omega)
    rw [hl] at this
    exact this

/-- A named array, as data. -/
theorem cells_data {o0 : Nat → Prop} {E : En} {nx : Nat} {m : T (Ct S)} {st : St} (hI : Inv Y G o0 ro E nx m st) {r n : Nat} {c : S.Cd} {us : List (U S)} {xs : List (S.Den c)} {v : V} (hr : m.get r = some (.cells us)) (hv : RelV Y (Dat Y (ownOf o0 E m) st) E (.vc c r n) v) (hn : xs.length = n)
    (hx : ∀ (i : Nat) x, xs[i]? = some x → ∀ (j : Nat) u, (Y.cells c x)[j]? = some u → (nrmr (Y.lk c) (Y.wid c) n us)[i * Y.wid c + j]? = some u) : Dat Y (fun _ => False) st c xs v := by
  simp only [RelV] at hv
  obtain ⟨id, y, e1, rfl⟩ := hv
  subst hn
  obtain ⟨id', y', b, vs, q1, q2, q3, q4, q5, q6, q7⟩ := hI.ent r _ hr
  rw [e1] at q1
  cases q1
  have h5 := nrmr_rel (lk := Y.lk c) (n := Y.wid c) (j := xs.length) q6
  have hcel : Cel Y c xs b.get (DatA Y (fun _ => False) st) := by
    intro i x hi j u hu
    obtain ⟨w, z1, z2⟩ := h5.get (hx i x hi j u hu)
    have hlt : i * Y.wid c + j < us.length := by
      have := (List.getElem?_eq_some_iff.1 (hx i x hi j u hu)).1
      rwa [nrmr_len] at this
    exact ⟨w, by rw [q7 _ hlt]; exact z1, DatA.keep (Nat.le_refl _) (fun _ _ _ => rfl) (fun id _ ho => ho.elim) (DatA.of_rel (Y.flat c x u (List.mem_of_getElem? hu)) z2)⟩
  obtain ⟨ws, r1, r2⟩ := rows_of_cel (off := 0) (b := b) (DA := DatA Y (fun _ => False) st) (by simpa only [Nat.zero_add] using hcel)
  exact .mk ws (fun q => q) q3 q4 r1 r2 (Nat.le_refl _)

section
variable {o0 : Nat → Prop} {E : En} {nx : Nat} {m : T (Ct S)} {st : St}
mutual
theorem expU_ok (hI : Inv Y G o0 ro E nx m st) (hn : ∀ id, named E m id → ¬ o0 id) : (u : U S) → (v : V) → (k : U S → Prop) → expU m u k → RelV Y (Dat Y (ownOf o0 E m) st) E u v → ∃ w, RelV Y (Dat Y o0 st) [] w v ∧ k w
  | .b x, v, k, h, hr => ⟨.b x, hr, h⟩
  | .kb x, v, k, h, hr => ⟨.b x, hr, h⟩
  | .i kd n, v, k, h, hr => ⟨.i kd n, hr, h⟩
  | .s l, v, k, h, hr => ⟨.s l, hr, h⟩
  | .pn, v, k, h, hr => ⟨.pn, hr, h⟩
  | .sn, v, k, h, hr => ⟨.sn, hr, h⟩
  | .fz, v, k, h, hr => ⟨.fz, hr, h⟩
  | .e0 c, v, k, h, hr => ⟨.l c [], noRoom_dat hr, h⟩
  | .l c xs, v, k, h, hr => ⟨.l c xs, Dat.keep (Nat.le_refl _) (fun _ _ _ => rfl) (fun id _ ho => .inl ho) hr, h⟩
  | .o r, v, k, h, hr => by
    simp only [expU] at h
    split at h
    · rename_i c xs hm
      exact ⟨.l c xs, buf_data hI hm hr (fun id ho => .inl ho) (fun id y e => hn id ⟨r, _, y, hm, e⟩), h⟩
    · exact h.elim
  | .a us, v, k, h, hr => by
    obtain ⟨vs, rfl, hr⟩ := hr
    obtain ⟨ws, h1, h2⟩ := expL_ok hI hn us vs _ h hr
    exact ⟨.a ws, ⟨vs, rfl, h1⟩, h2⟩
  | .t us, v, k, h, hr => by
    obtain ⟨vs, rfl, hr⟩ := hr
    obtain ⟨ws, h1, h2⟩ := expL_ok hI hn us vs _ h hr
    exact ⟨.t ws, ⟨vs, rfl, h1⟩, h2⟩
  | .nz, v, k, h, hr => by simp [expU] at h
  | .dead, v, k, h, hr => by simp [expU] at h
  | .p _ _, v, k, h, hr => by simp [expU] at h
  | .g _ _, v, k, h, hr => by simp [expU] at h
  | .pe _ _ _ _, v, k, h, hr => by simp [expU] at h
  | .pd _ _ _ _, v, k, h, hr => by simp [expU] at h
  | .f _ _, v, k, h, hr => by simp [expU] at h
theorem expL_ok (hI : Inv Y G o0 ro E nx m st) (hn : ∀ id, named E m id → ¬ o0 id) : (us : List (U S)) → (vs : List V) → (k : List (U S) → Prop) → expL m us k → RelL Y (Dat Y (ownOf o0 E m) st) E us vs → ∃ ws, RelL Y (Dat Y o0 st) [] ws vs ∧ k ws
  | [], vs, k, h, hr => ⟨[], hr, h⟩
  | u :: us, vs, k, h, hr => by
    obtain ⟨v, r, rfl, h1, h2⟩ := hr
    simp only [expL] at h
    obtain ⟨w, h3, h4⟩ := expU_ok hI hn u v _ h h1
    obtain ⟨ws, h5, h6⟩ := expL_ok hI hn us r _ h4 h2
    exact ⟨w :: ws, ⟨v, r, rfl, h3, h5⟩, h6⟩
end
end

theorem call_of {f : FuncId} {fn : Func} {c : Code} {nt : Nat} {res : List ResultVar} {vs : List V} {st : St} {e : Ex} {frV' : T V} {st' : St} {ws : List V} (hov : ov f vs st = none) (hf : P.funcs[f]? = some fn) (hb : fn.body = some c) (hnt : fn.ntmps = nt) (hres : fn.results.toList = res) (hl : vs.length ≤ nt)
    (he : e = .nrm ∨ e = .ret) (h : ∃ M, ∀ n, M ≤ n → evC P ov ro n nt c (frameOf vs 0 .e) st = some (e, frV', st')) (hr : resultsOf P frV' st' res = some ws) : ∃ M, ∀ n, M ≤ n → evF P ov ro n f vs st = some (oneOf ws, st') := by
  obtain ⟨M, h⟩ := h
  subst hnt hres
  refine ⟨M, fun n hn => ?_⟩
  have hl' : Nat.ble vs.length fn.ntmps = true := by rw [Nat.ble_eq]; exact hl
  unfold evF callGo
  rcases he with rfl | rfl <;> simp only [hov, hf, hb, hl', cond_true, h n hn, hr]

theorem fn_ok {rc : List (Option S.Cd)} {f : FuncId} {fn : Func} {c : Code} {nt : Nat} {res : List ResultVar} {C : CallT S} {L : LoopT S} (hov : ∀ vs st, ov f vs st = none) (hf : P.funcs[f]? = some fn) (hb : fn.body = some c) (hnt : fn.ntmps = nt) (hres : fn.results.toList = res)
    (hC : ∀ o0, CalOK Y P G ov o0 ro C) (hL : LpOK Y P G ov ro L 0 nt c) : FnOK Y P G ov ro f (fnT Y P G C L nt c rc res) := by
  intro o0 us k h st vs h1 h2 h3 h4
  unfold fnT at h
  cases hl : Nat.ble us.length nt with
  | false => rw [hl] at h; exact h.elim
  | true =>
    rw [hl] at h
    rw [Nat.ble_eq] at hl
    have hown : ∀ id, ownOf o0 [] (T.e : T (Ct S)) id → o0 id := fun id ho => ho.elim (fun q => q) (fun ⟨r, ct, y, e, _⟩ => by rw [T.get_e] at e; cases e)
    have hI : Inv Y G o0 ro [] 0 (T.e : T (Ct S)) st := ⟨rfl, h1, fun r ct e => (by rw [T.get_e] at e; cases e), fun r ct e => (by rw [T.get_e] at e; cases e), h3, h2, fun r r' ct ct' id y y' e => (by rw [T.get_e] at e; cases e), fun id ⟨r, ct, y, e, _⟩ => (by rw [T.get_e] at e; cases e)⟩
    have hz : Zat Y G o0 ro ⟨[], .e, st⟩ (⟨frU us 0 .e, 0, .e, []⟩ : Z S) (frameOf vs 0 .e) st :=
      ⟨[], hI, (Step.refl o0 [] _ st).anyW, frU_rel (RelL.mono (fun _ _ e => e) (fun c xs v hd => Dat.keep (Nat.le_refl _) (fun _ _ _ => rfl) (fun id _ ho => hown id ho) hd) us vs h4) (fun t u hu => by rw [T.get_e] at hu; cases hu)⟩
    obtain ⟨e, frV', st', hev, z', ⟨E, hI', hS', hf'⟩, hk⟩ := sC_ok (hC o0) c (hL o0 ⟨[], .e, st⟩ (Nat.le_refl _)) _ _ h _ st hz
    have hnam : ∀ id, named E z'.m id → ¬ o0 id := fun id hn ho => by
      rcases hS'.nam id hn with ⟨r, ct, y, e, _⟩ | q
      · rw [T.get_e] at e; cases e
      · have := (h3 id ho).2; exact absurd this (Nat.not_lt.2 q)
    have fin' : (sResL Y P G z'.fr z'.m res fun us => expL z'.m us fun us => k (oneU (rnil rc us))) → (e = .nrm ∨ e = .ret) → ∃ v st', (∃ M, ∀ n, M ≤ n → evF P ov ro n f vs st = some (v, st')) ∧ ∃ u, RelV Y (Dat Y o0 st') [] u v ∧ Ext st st' ∧ k u := by
      intro hk he
      obtain ⟨us', ws, g1, g2, g3⟩ := sResL_ok hI' hf' hk
      obtain ⟨xs, g4, g5⟩ := expL_ok hI' hnam us' ws _ g3 g2
      exact ⟨oneOf ws, st', call_of (hov vs _) hf hb hnt hres (by rw [h4.length]; exact hl) he hev g1, oneU (rnil rc xs), oneU_rel (rnil_rel g4), ⟨hS'.nx, fun id hid => hS'.keep id hid (fun ⟨r, ct, y, e, _⟩ => by rw [T.get_e] at e; cases e), fun j j1 j2 => hS'.ver j j1 j2 (.inr fun id ⟨r, ct, y, e, _⟩ => (by rw [T.get_e] at e; cases e))⟩, g5⟩
    unfold fin at hk
    cases e with
    | nrm => exact fin' hk (.inl rfl)
    | ret => exact fin' hk (.inr rfl)
    | exit i => exact hk.elim
    | goto i => exact hk.elim

theorem inl_ok {f : FuncId} {fn : Func} {c : Code} {nt bn : Nat} {res : List ResultVar} {C : CallT S} {L : LoopT S} (hov : ∀ vs st, ov f vs st = none) (hf : P.funcs[f]? = some fn) (hb : fn.body = some c) (hnt : fn.ntmps = nt) (hres : fn.results.toList = res)
    (hC : ∀ o0, CalOK Y P G ov o0 ro C) (hL : LpOK Y P G ov ro L bn nt c) : EntOK Y P G ov ro f (inl Y P G C L bn nt c res) := by
  intro o0 us nx m k h E st vs hI hr
  unfold inl at h
  cases hl : (Nat.ble us.length nt && Nat.ble nx bn) with
  | false => rw [hl] at h; exact h.elim
  | true =>
    rw [hl] at h
    rw [Bool.and_eq_true, Nat.ble_eq, Nat.ble_eq] at hl
    have hz : Zat Y G o0 ro ⟨E, m, st⟩ (⟨frU us 0 .e, nx, m, []⟩ : Z S) (frameOf vs 0 .e) st :=
      ⟨E, hI, (Step.refl o0 E m st).anyW, frU_rel hr (fun t u hu => by rw [T.get_e] at hu; cases hu)⟩
    obtain ⟨e, frV', st', hev, z', ⟨E', hI', hS', hf'⟩, hk⟩ := sC_ok (hC o0) c (hL o0 ⟨E, m, st⟩ (by rw [hI.len]; exact hl.2)) _ _ h _ st hz
    have fin' : (sResL Y P G z'.fr z'.m res fun us => k (some (oneU us)) z'.nx z'.m z'.ks [0]) → (e = .nrm ∨ e = .ret) → ∃ v st', (∃ M, ∀ n, M ≤ n → evF P ov ro n f vs st = some (v, st')) ∧ Done Y G o0 ro E m st k (some v) st' := by
      intro hk he
      obtain ⟨us', ws, g1, g2, g3⟩ := sResL_ok hI' hf' hk
      exact ⟨oneOf ws, st', call_of (hov vs _) hf hb hnt hres (by rw [hr.length]; exact hl.1) he hev g1, some (oneU us'), z'.nx, z'.m, z'.ks, [0], E', hI', hS', oneU_rel g2, g3⟩
    unfold finI at hk
    cases e with
    | nrm => exact fin' hk (.inl rfl)
    | ret => exact fin' hk (.inr rfl)
    | exit i => exact hk.elim
    | goto i => exact hk.elim

theorem nb1_rel {own : Nat → Prop} {st : St} {E : En} {u : U S} {v : V} (h : RelV Y (Dat Y own st) E u v) : RelV Y (Dat Y own st) E (nb1 u) v := by
  cases u <;> first | exact h | exact noRoom_dat h | (simp only [nb1, RelV] at h ⊢; exact h)
theorem nb1_rels {own : Nat → Prop} {st : St} {E : En} : ∀ {us : List (U S)} {vs : List V}, RelL Y (Dat Y own st) E us vs → RelL Y (Dat Y own st) E (us.map nb1) vs
  | [], _, h => h
  | u :: us, _, h => by
    obtain ⟨v, r, rfl, h1, h2⟩ := h
    exact ⟨v, r, rfl, nb1_rel h1, nb1_rels h2⟩
theorem nb_rel {own : Nat → Prop} {st : St} {E : En} {u : U S} {v : V} (h : RelV Y (Dat Y own st) E u v) : RelV Y (Dat Y own st) E (nb u) v := by
  cases u <;> first
    | exact h
    | (simp only [nb, RelV] at h ⊢; obtain ⟨vs, e, h2⟩ := h; exact ⟨vs, e, nb1_rels h2⟩)

theorem lendC_ok {o0 : Nat → Prop} {E : En} {nx : Nat} {m : T (Ct S)} {st : St} (hI : Inv Y G o0 ro E nx m st) : ∀ {us : List (U S)} {vs : List V} {us' : List (U S)} {b : Bool}, lendC m us = some (us', b) → RelL Y (Dat Y (ownOf o0 E m) st) E us vs →
    RelL Y (Dat Y (fun _ => False) st) [] us' vs ∧ (b = false → RelL Y (Dat Y (ownOf o0 E m) st) [] us' vs)
  | [], vs, us', b, h, hr => by
    simp only [lendC] at h
    obtain ⟨rfl, rfl⟩ := Prod.mk.inj (Option.some.inj h)
    exact ⟨hr, fun _ => hr⟩
  | u :: us, vs, us', b, h, hr => by
    obtain ⟨v, r, rfl, h1, h2⟩ := hr
    simp only [lendC] at h
    split at h
    · rename_i r0
      split at h
      · rename_i c xs hm
        split at h
        · rename_i us2 b2 hl
          obtain ⟨rfl, rfl⟩ := Prod.mk.inj (Option.some.inj h)
          exact ⟨⟨v, r, rfl, buf_data hI hm h1 (fun _ q => q.elim) (fun _ _ _ q => q), (lendC_ok hI hl h2).1⟩, fun q => by cases q⟩
        · cases h
      · cases h
    · cases hq : lowU 0 u with
      | false => rw [hq] at h; cases h
      | true =>
        rw [hq, cond_true] at h
        split at h
        · rename_i us2 b2 hl
          obtain ⟨rfl, rfl⟩ := Prod.mk.inj (Option.some.inj h)
          have hlow := RelV.low (n := 0) u v hq h1
          rw [List.take_zero] at hlow
          obtain ⟨g2, g3⟩ := lendC_ok hI hl h2
          exact ⟨⟨v, r, rfl, nb1_rel (RelV.mono (fun _ _ e => e) (fun c xs v hd => Dat.keep (Nat.le_refl _) (fun _ _ _ => rfl) (fun _ _ q => q.elim) hd) u v hlow), g2⟩, fun q => ⟨v, r, rfl, nb1_rel hlow, g3 q⟩⟩
        · cases h

theorem dataU_ok {o0 : Nat → Prop} {E : En} {nx : Nat} {m : T (Ct S)} {st : St} (hI : Inv Y G o0 ro E nx m st) : ∀ {us : List (U S)} {vs : List V} {k : List (U S) → Bool → Prop}, dataU Y m us k → RelL Y (Dat Y (ownOf o0 E m) st) E us vs →
    ∃ us' b, k us' b ∧ RelL Y (Dat Y (fun _ => False) st) [] us' vs ∧ (b = false → RelL Y (Dat Y (ownOf o0 E m) st) [] us' vs)
  | [], vs, k, h, hr => ⟨[], false, h, hr, fun _ => hr⟩
  | u :: us, vs, k, h, hr => by
    obtain ⟨v, r, rfl, h1, h2⟩ := hr
    simp only [dataU] at h
    split at h
    · rename_i r0
      split at h
      · rename_i c xs hm
        obtain ⟨us', b, g1, g2, _⟩ := dataU_ok hI h h2
        exact ⟨.l c xs :: us', true, g1, ⟨v, r, rfl, buf_data hI hm h1 (fun _ q => q.elim) (fun _ _ _ q => q), g2⟩, fun q => by cases q⟩
      · exact h.elim
    · rename_i r0 j
      split at h
      · rename_i c xs hm
        obtain ⟨us', b, g1, g2, _⟩ := dataU_ok hI h h2
        exact ⟨.l c (xs.take j) :: us', true, g1, ⟨v, r, rfl, bufh_data hI hm h1, g2⟩, fun q => by cases q⟩
      · exact h.elim
    · rename_i c r0 n
      split at h
      · rename_i xs0 hm
        cases hc : Nat.beq xs0.length (n * Y.wid c) with
        | false => rw [hc] at h; exact h.elim
        | true =>
          rw [hc, cond_true] at h
          rw [Nat.beq_eq] at hc
          obtain ⟨xs, g0, g4, g5⟩ := sRows_ok h (by rw [nrmr_len, hc])
          obtain ⟨us', b, g1, g2, _⟩ := dataU_ok hI g4 h2
          exact ⟨.l c xs :: us', true, g1, ⟨v, r, rfl, cells_data hI hm h1 g0 g5, g2⟩, fun q => by cases q⟩
      · exact h.elim
    · rename_i x
      obtain ⟨us', b, g1, g2, g3⟩ := dataU_ok hI h h2
      exact ⟨.b x :: us', b, g1, ⟨v, r, rfl, h1, g2⟩, fun q => ⟨v, r, rfl, h1, g3 q⟩⟩
    · rename_i c
      obtain ⟨us', b, g1, g2, g3⟩ := dataU_ok hI h h2
      exact ⟨.l c [] :: us', b, g1, ⟨v, r, rfl, noRoom_dat h1, g2⟩, fun q => ⟨v, r, rfl, noRoom_dat h1, g3 q⟩⟩
    · rename_i cs
      split at h
      · rename_i cs' b0 hl
        obtain ⟨us', b, g1, g2, g3⟩ := dataU_ok hI h h2
        obtain ⟨ws, rfl, h4⟩ := h1
        obtain ⟨p1, p2⟩ := lendC_ok hI hl h4
        refine ⟨.a cs' :: us', cond b0 true b, g1, ⟨_, r, rfl, ⟨ws, rfl, p1⟩, g2⟩, fun q => ?_⟩
        cases b0 with
        | true => cases q
        | false => exact ⟨_, r, rfl, ⟨ws, rfl, p2 rfl⟩, g3 q⟩
      · exact h.elim
    · cases hq : lowU 0 u with
      | false => rw [hq] at h; exact h.elim
      | true =>
        rw [hq] at h
        obtain ⟨us', b, g1, g2, g3⟩ := dataU_ok hI h h2
        have hlow := RelV.low (n := 0) u v hq h1
        rw [List.take_zero] at hlow
        exact ⟨nb u :: us', b, g1, ⟨v, r, rfl, nb_rel (RelV.mono (fun _ _ e => e) (fun c xs v hd => Dat.keep (Nat.le_refl _) (fun _ _ _ => rfl) (fun _ _ q => q.elim) hd) u v hlow), g2⟩, fun q => ⟨v, r, rfl, nb_rel hlow, g3 q⟩⟩

theorem con_ok {pc : List (Option S.Cd)} {f : FuncId} {pt : List (U S) → (U S → Prop) → Prop} (hp : FnOK Y P G ov ro f pt) : EntOK Y P G ov ro f (con Y pc pt) := by
  intro o0 us nx m k h E st vs hI hr
  obtain ⟨us', b, g1, g2, g3⟩ := dataU_ok hI h hr
  have stp : ∀ {st' : St}, Ext st st' → Step o0 E m st E m st' [] [] := fun hx => ⟨Nat.le_refl _, fun _ _ _ => rfl, hx.nx, fun id hid _ => hx.keep id hid, fun _ h => .inl h, fun j h1 h2 _ => hx.ver j h1 h2, fun _ id hid => hx.keep id hid⟩
  have inv : ∀ {st' : St}, Ext st st' → Inv Y G o0 ro E nx m st' := fun {st'} hx => ⟨hI.len, Nat.le_trans hI.ro hx.nx, hI.lt, fun r ct e => by
    have := Ent.keep (stp hx) (hI.ent r ct e) rfl (fun id _ _ hid => hx.keep id hid)
    rwa [killCt_nil] at this, fun id ho => ⟨(hI.out id ho).1, Nat.lt_of_lt_of_le (hI.out id ho).2 hx.nx⟩, glob_keep hI (stp hx), hI.inj, hI.dis⟩
  cases b with
  | false =>
    obtain ⟨v, st', hev, u, q1, q2, q3⟩ := hp (ownOf o0 E m) (rnil pc us') _ g1 st vs hI.ro hI.glob (fun id ho => ho.elim (hI.out id) (fun ⟨r, ct, y, e1, e2⟩ => ent_id hI e1 e2)) (rnil_rel (g3 rfl))
    exact ⟨v, st', hev, some u, nx, m, [], [], E, inv q2, stp q2, RelV.mono (fun r x e => by simp at e) (fun _ _ _ hd => hd) u v q1, q3⟩
  | true =>
    obtain ⟨v, st', hev, u, q1, q2, q3⟩ := hp (fun _ => False) (rnil pc us') _ g1 st vs hI.ro hI.glob (fun _ q => q.elim) (rnil_rel g2)
    cases hpl : plainTU u with
    | false => dsimp only at q3; rw [hpl] at q3; exact q3.elim
    | true =>
      dsimp only at q3
      rw [hpl] at q3
      exact ⟨v, st', hev, some u, nx, m, [], [], E, inv q2, stp q2, (plainTU_ok hpl q1).2, q3⟩

theorem rnilA_rel {own : Nat → Prop} {st : St} {E : En} : ∀ {sc : List (List (Option S.Cd))} {us : List (U S)} {vs : List V}, RelL Y (Dat Y own st) E us vs → RelL Y (Dat Y own st) E (rnilA sc us) vs
  | [], us, vs, h => by cases us <;> exact h
  | o :: rc, [], vs, h => h
  | o :: rc, u :: us, vs, h => by
    obtain ⟨v, r, rfl, h1, h2⟩ := h
    have h3 := rnilA_rel (sc := rc) h2
    cases u <;> first
      | exact ⟨v, r, rfl, h1, h3⟩
      | (obtain ⟨ws, rfl, h4⟩ := h1; exact ⟨_, r, rfl, ⟨ws, rfl, rnil_rel h4⟩, h3⟩)
theorem conA_ok {sc : List (List (Option S.Cd))} {pc : List (Option S.Cd)} {f : FuncId} {pt : List (U S) → (U S → Prop) → Prop} (hp : FnOK Y P G ov ro f pt) : EntOK Y P G ov ro f (conA Y sc pc pt) := by
  intro o0 us nx m k h E st vs hI hr
  obtain ⟨us', b, g1, g2, g3⟩ := dataU_ok hI h hr
  have stp : ∀ {st' : St}, Ext st st' → Step o0 E m st E m st' [] [] := fun hx => ⟨Nat.le_refl _, fun _ _ _ => rfl, hx.nx, fun id hid _ => hx.keep id hid, fun _ h => .inl h, fun j h1 h2 _ => hx.ver j h1 h2, fun _ id hid => hx.keep id hid⟩
  have inv : ∀ {st' : St}, Ext st st' → Inv Y G o0 ro E nx m st' := fun {st'} hx => ⟨hI.len, Nat.le_trans hI.ro hx.nx, hI.lt, fun r ct e => by
    have := Ent.keep (stp hx) (hI.ent r ct e) rfl (fun id _ _ hid => hx.keep id hid)
    rwa [killCt_nil] at this, fun id ho => ⟨(hI.out id ho).1, Nat.lt_of_lt_of_le (hI.out id ho).2 hx.nx⟩, glob_keep hI (stp hx), hI.inj, hI.dis⟩
  cases b with
  | false =>
    obtain ⟨v, st', hev, u, q1, q2, q3⟩ := hp (ownOf o0 E m) (rnilA sc (rnil pc us')) _ g1 st vs hI.ro hI.glob (fun id ho => ho.elim (hI.out id) (fun ⟨r, ct, y, e1, e2⟩ => ent_id hI e1 e2)) (rnilA_rel (rnil_rel (g3 rfl)))
    exact ⟨v, st', hev, some u, nx, m, [], [], E, inv q2, stp q2, RelV.mono (fun r x e => by simp at e) (fun _ _ _ hd => hd) u v q1, q3⟩
  | true =>
    obtain ⟨v, st', hev, u, q1, q2, q3⟩ := hp (fun _ => False) (rnilA sc (rnil pc us')) _ g1 st vs hI.ro hI.glob (fun _ q => q.elim) (rnilA_rel (rnil_rel g2))
    cases hpl : plainTU u with
    | false => dsimp only at q3; rw [hpl] at q3; exact q3.elim
    | true =>
      dsimp only at q3
      rw [hpl] at q3
      exact ⟨v, st', hev, some u, nx, m, [], [], E, inv q2, stp q2, (plainTU_ok hpl q1).2, q3⟩

theorem lp_of {L : LoopT S} {bn nt : Nat} {c : Code} {l : List Code} (hl : loopsOf c = l) (h : LpAll Y P G ov ro L bn nt l) : LpOK Y P G ov ro L bn nt c := by
  subst hl
  exact h
/-- One loop of a function, by its function on data. -/
theorem loop_ok {A H : Type} {L : LoopT S} {C : CallT S} {bn nt : Nat} {b : Code} (hC : ∀ o0, CalOK Y P G ov o0 ro C) (hin : LpAll Y P G ov ro L bn nt (loopsOf b)) (l : LS Y A H) (hl : bn ≤ l.nx) (cz : (Ex → Z S → Prop) → Ex → Z S → Prop)
    (hcz : ∀ (o0 : Nat → Prop) (B : Bs S), B.E.length ≤ bn → ∀ K e z frV st, cz K e z → Zat Y G o0 ro B z frV st → ∃ z', Zat Y G o0 ro B z' frV st ∧ K e z') {F : Nat → A × H → (Ex → Z S → Prop) → Prop} (h0 : ∀ x K, F 0 x K → False)
    (hs : ∀ n x K, forceZ (l.put x) (fun z => sC Y P G C L nt b z (rnd l cz (fun x' => F n x' K) K)) = F (n + 1) x K)
    (hL : ∀ z K, L b z K = l.get z (fun x => ∃ n, F n x K)) : ∀ (o0 : Nat → Prop) (B : Bs S), B.E.length ≤ bn → ∀ z K, L b z K → Sem Y P G ov o0 ro nt B (.loop b) z K :=
  fun o0 B hB _ _ h => loop_sem3 l (Nat.le_trans hB hl) cz (hcz o0 B hB) h0 (fun n x K hF => sC_ok (hC o0) b (hin o0 B hB) _ _ (by have := (hs n x K).mpr hF; rwa [forceZ_eq] at this)) ((hL _ _).mp h)

/-- A transformer that asks for more. -/
theorem FnOK.weak {f : FuncId} {pt pt' : List (U S) → (U S → Prop) → Prop} (hp : FnOK Y P G ov ro f pt) (h : ∀ us k, pt' us k → pt us k) : FnOK Y P G ov ro f pt' := fun o0 us k hk => hp o0 us k (h us k hk)
end
end Go.Sx
