/-
  Rules by which the evaluator is followed at values that are not known. Nothing is claimed here.
-/
import Derived.Test.YtbpbaicbaehhjaaGreatDoorVd
namespace Go.Vm

theorem T.get_same {α : Type} {t : T α} {i : Nat} {x : Option α} : (t.upd i x).get i = x := by rw [T.get_upd, if_pos rfl]
theorem T.get_skip {α : Type} {t : T α} {i k : Nat} {x y : Option α} (h : Nat.beq k i = false) (e : t.get k = y) : (t.upd i x).get k = y := by
  rw [T.get_upd, if_neg (Nat.ne_of_beq_eq_false h)]; exact e

section
variable (P : Program) (ov : Ov) (ro : Nat)

def Ev (n : Nat) (f : FuncId) (args : List V) (st : St) (Q : V → St → Prop) : Prop := ∃ v st', evF P ov ro n f args st = some (v, st') ∧ Q v st'
def Wp (n nt : Nat) (c : Code) (fr : T V) (st : St) (Q : Ex → T V → St → Prop) : Prop := ∃ e fr' st', evC P ov ro n nt c fr st = some (e, fr', st') ∧ Q e fr' st'
def Ops (n nt : Nat) (ops : Array Oper) (l : List Oper) (fr : T V) (st : St) (K : T V → St → Prop) : Prop := ∃ fr' st', vops P ro nt (evF P ov ro n) ops l fr st = some (fr', st') ∧ K fr' st'
def OpsQ (n nt : Nat) (ops : Array Oper) (l : List Oper) (fr : T V) (st : St) (K : T V → Prop) : Prop := ∃ fr', vopsQ P ro nt (evF P ov ro n) ops l fr st = some fr' ∧ K fr'
end

section
variable {P : Program} {ov : Ov} {ro n nt : Nat}

theorem Ev.mono {f : FuncId} {args : List V} {st : St} {Q Q' : V → St → Prop} (h : Ev P ov ro n f args st Q) (hq : ∀ v st', Q v st' → Q' v st') : Ev P ov ro n f args st Q' :=
  let ⟨v, st', h1, h2⟩ := h; ⟨v, st', h1, hq _ _ h2⟩

/-- A call whose answer is known beforehand. -/
theorem Ev.known {f : FuncId} {args : List V} {st st1 : St} {v : V} (ho : ov f args st = some (v, st1)) : Ev P ov ro n f args st (fun u st' => u = v ∧ st' = st1) :=
  ⟨v, st1, by unfold evF callGo; simp only [ho], rfl, rfl⟩
theorem fnum_eq : (evF P ov ro n) = callGo P ov (evC P ov ro n) := rfl

/-- What is left of a call at the end of its body. -/
def Fin (P : Program) (fn : Func) (Q : V → St → Prop) (e : Ex) (fr : T V) (st : St) : Prop :=
  match e with
  | .nrm | .ret => ∃ vs, resultsOf P fr st fn.results.toList = some vs ∧ Q (oneOf vs) st
  | _ => False

theorem Ev.enter {f : FuncId} {fn : Func} {c : Code} {args : List V} {st : St} {Q : V → St → Prop} {nt : Nat} {fr : T V} (ho : ov f args st = none) (hf : P.funcs[f]? = some fn) (hb : fn.body = some c) (hnt : fn.ntmps = nt) (hl : Nat.ble args.length nt = true)
    (hfr : frameOf args 0 .e = fr) (h : Wp P ov ro n nt c fr st (Fin P fn Q)) : Ev P ov ro n f args st Q := by
  subst hnt hfr
  obtain ⟨e, fr', st', h1, h2⟩ := h
  have key : ∀ e, evC P ov ro n fn.ntmps c (frameOf args 0 .e) st = some (e, fr', st') → Fin P fn Q e fr' st' → Ev P ov ro n f args st Q := by
    intro e h1 h2
    cases e <;> simp only [Fin] at h2
    all_goals
      obtain ⟨vs, h3, h4⟩ := h2
      exact ⟨_, _, by unfold evF callGo; simp only [ho, hf, hb, hl, cond_true, h1, h3], h4⟩
  exact key e h1 h2

/-! ### Code -/

theorem Wp.mono {c : Code} {fr : T V} {st : St} {Q Q' : Ex → T V → St → Prop} (h : Wp P ov ro n nt c fr st Q) (hq : ∀ e fr st, Q e fr st → Q' e fr st) : Wp P ov ro n nt c fr st Q' :=
  let ⟨e, fr', st', h1, h2⟩ := h; ⟨e, fr', st', h1, hq _ _ _ h2⟩

/-- Behind the first of two: the second, if it ends there. -/
def Then (P : Program) (ov : Ov) (ro n nt : Nat) (b : Code) (Q : Ex → T V → St → Prop) : Ex → T V → St → Prop
  | .nrm, fr, st => Wp P ov ro n nt b fr st Q
  | e, fr, st => Q e fr st

theorem Wp.seq {a b : Code} {fr : T V} {st : St} {Q : Ex → T V → St → Prop} (h : Wp P ov ro n nt a fr st (Then P ov ro n nt b Q)) : Wp P ov ro (n + 1) nt (.seq a b) fr st Q := by
  obtain ⟨e, fr', st', h1, h2⟩ := h
  cases e with
  | nrm =>
    obtain ⟨e2, fr2, st2, h3, h4⟩ := h2
    exact ⟨e2, fr2, st2, by simp only [evC, h1, h3], h4⟩
  | _ => exact ⟨_, fr', st', by simp only [evC, h1], h2⟩

theorem Wp.skip {fr : T V} {st : St} {Q : Ex → T V → St → Prop} (h : Q .nrm fr st) : Wp P ov ro (n + 1) nt .skip fr st Q := ⟨_, _, _, rfl, h⟩
theorem Wp.label {l : Nat} {fr : T V} {st : St} {Q : Ex → T V → St → Prop} (h : Q .nrm fr st) : Wp P ov ro (n + 1) nt (.label l) fr st Q := ⟨_, _, _, rfl, h⟩
theorem Wp.exit {i : Nat} {fr : T V} {st : St} {Q : Ex → T V → St → Prop} (h : Q (.exit i) fr st) : Wp P ov ro (n + 1) nt (.exit i) fr st Q := ⟨_, _, _, rfl, h⟩
theorem Wp.goto {i : Nat} {fr : T V} {st : St} {Q : Ex → T V → St → Prop} (h : Q (.goto i) fr st) : Wp P ov ro (n + 1) nt (.goto i) fr st Q := ⟨_, _, _, rfl, h⟩
theorem Wp.ret {fr : T V} {st : St} {Q : Ex → T V → St → Prop} (h : Q .ret fr st) : Wp P ov ro (n + 1) nt .ret fr st Q := ⟨_, _, _, rfl, h⟩

theorem Wp.cond {c : Operand} {a b : Code} {fr : T V} {st : St} {Q : Ex → T V → St → Prop} {x : Bool} (hx : opnd fr c = some (.b x)) (ht : x = true → Wp P ov ro n nt a fr st Q) (hf : x = false → Wp P ov ro n nt b fr st Q) :
    Wp P ov ro (n + 1) nt (.cond c a b) fr st Q := by
  cases x with
  | true =>
    obtain ⟨e, fr', st', h1, h2⟩ := ht rfl
    exact ⟨e, fr', st', by simp only [evC, hx, h1], h2⟩
  | false =>
    obtain ⟨e, fr', st', h1, h2⟩ := hf rfl
    exact ⟨e, fr', st', by simp only [evC, hx, h1], h2⟩

/-- Out of a block. -/
def Out (i : Nat) (Q : Ex → T V → St → Prop) : Ex → T V → St → Prop
  | .exit j, fr, st => match Nat.beq j i with
    | true => Q .nrm fr st
    | false => Q (.exit j) fr st
  | e, fr, st => Q e fr st
theorem Wp.block {i : Nat} {b : Code} {fr : T V} {st : St} {Q : Ex → T V → St → Prop} (h : Wp P ov ro n nt b fr st (Out i Q)) : Wp P ov ro (n + 1) nt (.block i b) fr st Q := by
  obtain ⟨e, fr', st', h1, h2⟩ := h
  cases e with
  | exit j =>
    simp only [Out] at h2
    cases hj : Nat.beq j i with
    | true => simp only [hj] at h2; exact ⟨.nrm, fr', st', by simp only [evC, h1, hj, cond_true], h2⟩
    | false => simp only [hj] at h2; exact ⟨.exit j, fr', st', by simp only [evC, h1, hj, cond_false], h2⟩
  | _ => exact ⟨_, fr', st', by simp only [evC, h1], h2⟩

/-- A scope through which the run goes without a jump. -/
def Straight (Q : Ex → T V → St → Prop) : Ex → T V → St → Prop
  | .goto _, _, _ => False
  | e, fr, st => Q e fr st
theorem Wp.scope {b : Code} {fr : T V} {st : St} {Q : Ex → T V → St → Prop} (h : Wp P ov ro (n + 1) nt b fr st (Straight Q)) : Wp P ov ro (n + 2) nt (.scope b) fr st Q := by
  obtain ⟨e, fr', st', h1, h2⟩ := h
  cases e with
  | goto l => exact h2.elim
  | _ => exact ⟨_, fr', st', by rw [show evC P ov ro (n + 2) nt (.scope b) fr st = scopeGo (evC P ov ro (n + 1) nt) b (n + 1) b fr st from rfl]; simp only [scopeGo, h1], h2⟩

/-- One round, and what it leaves. -/
def Round (I : Nat → T V → St → Prop) (k : Nat) (Q : Ex → T V → St → Prop) : Ex → T V → St → Prop
  | .nrm, fr, st => ∃ k', k' < k ∧ I k' fr st
  | e, fr, st => Q e fr st

theorem Wp.loop {I : Nat → T V → St → Prop} {b : Code} {fr : T V} {st : St} {Q : Ex → T V → St → Prop} (k : Nat) (hk : k < n) (h0 : I k fr st) (step : ∀ k fr st, I k fr st → Wp P ov ro n nt b fr st (Round I k Q)) :
    Wp P ov ro (n + 1) nt (.loop b) fr st Q := by
  have key : ∀ (m k : Nat) (fr : T V) (st : St), k < m → I k fr st → ∃ e fr' st', loopGo (evC P ov ro n nt b) m fr st = some (e, fr', st') ∧ Q e fr' st' := by
    intro m
    induction m with
    | zero => intro k fr st h; omega
    | succ m ih =>
      intro k fr st hk hI
      obtain ⟨e, fr', st', h1, h2⟩ := step k fr st hI
      cases e with
      | nrm =>
        obtain ⟨k', hk', hI'⟩ := h2
        obtain ⟨e2, fr2, st2, h3, h4⟩ := ih k' fr' st' (by omega) hI'
        exact ⟨e2, fr2, st2, by simp only [loopGo, h1, h3], h4⟩
      | _ => exact ⟨_, fr', st', by simp only [loopGo, h1], h2⟩
  obtain ⟨e, fr', st', h1, h2⟩ := key n k fr st hk h0
  exact ⟨e, fr', st', by simp only [evC, h1], h2⟩

theorem Wp.region {i : Nat} {ops : Array Oper} {l : List Oper} {fr : T V} {st : St} {Q : Ex → T V → St → Prop} (hl : ops.toList = l) (h : Ops P ov ro n nt ops l fr st (fun fr st => Q .nrm fr st)) : Wp P ov ro (n + 1) nt (.region i ops false) fr st Q := by
  subst hl
  obtain ⟨fr', st', h1, h2⟩ := h
  exact ⟨.nrm, fr', st', by simp only [evC]; rw [← fnum_eq, h1], h2⟩
theorem Wp.regionQ {i : Nat} {ops : Array Oper} {l : List Oper} {fr : T V} {st : St} {Q : Ex → T V → St → Prop} (hB : lexQ1 P ops = true) (hl : ops.toList = l) (h : OpsQ P ov ro n nt ops l fr st (fun fr => Q .nrm fr st)) : Wp P ov ro (n + 1) nt (.region i ops true) fr st Q := by
  subst hl
  obtain ⟨fr', h1, h2⟩ := h
  exact ⟨.nrm, fr', st, by simp only [evC, hB]; rw [← fnum_eq, h1], h2⟩

/-! ### Operations, one behind the other -/

theorem Ops.nil {ops : Array Oper} {fr : T V} {st : St} {K : T V → St → Prop} (h : K fr st) : Ops P ov ro n nt ops [] fr st K := ⟨fr, st, rfl, h⟩
theorem OpsQ.nil {ops : Array Oper} {fr : T V} {st : St} {K : T V → Prop} (h : K fr) : OpsQ P ov ro n nt ops [] fr st K := ⟨fr, rfl, h⟩

/-- An operation that leaves the memory alone, whatever it is. -/
def Val (P : Program) (ro : Nat) (call : CallF) (fr : T V) (op : Op) (v : V) : Prop := quietOp op = true ∧ ∀ st, vop P ro call fr st op = some (some v, st)

theorem Ops.val {ops : Array Oper} {l : List Oper} {fr : T V} {st : St} {K : T V → St → Prop} {d : Nat} {op : Op} {ty : TypeId} {pos : String} {after : Array Edge} {v : V} (h : Val P ro (evF P ov ro n) fr op v) (hd : Nat.blt d nt = true)
    (k : Ops P ov ro n nt ops l (fr.upd d (some v)) st K) : Ops P ov ro n nt ops (⟨some d, op, ty, pos, after, none⟩ :: l) fr st K := by
  obtain ⟨fr', st', h1, h2⟩ := k
  exact ⟨fr', st', by simp only [vops, vwanted, h.2 st, vput, hd, cond_true, V.force_eq, h1], h2⟩
theorem OpsQ.val {ops : Array Oper} {l : List Oper} {fr : T V} {st : St} {K : T V → Prop} {d : Nat} {op : Op} {ty : TypeId} {pos : String} {after : Array Edge} {v : V} (h : Val P ro (evF P ov ro n) fr op v) (hd : Nat.blt d nt = true)
    (k : OpsQ P ov ro n nt ops l (fr.upd d (some v)) st K) : OpsQ P ov ro n nt ops (⟨some d, op, ty, pos, after, none⟩ :: l) fr st K := by
  obtain ⟨fr', h1, h2⟩ := k
  have e1 : Nat.ble st.nx st.nx = true := by rw [Nat.ble_eq]; exact Nat.le_refl _
  have e2 : Nat.beq st.nx st.nx = true := by rw [Nat.beq_eq]
  exact ⟨fr', by simp only [vopsQ, vwanted, h.1, h.2 _, e1, e2, Bool.true_or, Bool.and_true, vput, hd, cond_true, V.force_eq, h1], h2⟩

/-- A call whose result does not hang on the memory. -/
theorem Ops.call {ops : Array Oper} {l : List Oper} {fr : T V} {st : St} {K : T V → St → Prop} {d : Nat} {f : FuncId} {xs : Array Operand} {ts : Array TypeId} {ty : TypeId} {pos : String} {after : Array Edge} {args : List V} {Q : V → St → Prop}
    (ha : opnds fr xs.toList = some args) (hd : Nat.blt d nt = true) (h : Ev P ov ro n f args st Q)
    (k : ∀ v st', Q v st' → Ops P ov ro n nt ops l (fr.upd d (some v)) st' K) : Ops P ov ro n nt ops (⟨some d, .call ⟨.value (.func f), xs, ts⟩, ty, pos, after, none⟩ :: l) fr st K := by
  obtain ⟨v, st', h1, h2⟩ := h
  obtain ⟨fr', st2, h3, h4⟩ := k v st' h2
  refine ⟨fr', st2, ?_, h4⟩
  simp only [vops, vwanted, vop, ha, opnd, List.nil_append, List.append_nil, h1, vput, hd, cond_true, V.force_eq, h3]
theorem OpsQ.call {ops : Array Oper} {l : List Oper} {fr : T V} {st : St} {K : T V → Prop} {d : Nat} {f : FuncId} {xs : Array Operand} {ts : Array TypeId} {ty : TypeId} {pos : String} {after : Array Edge} {args : List V} {v : V}
    (ha : opnds fr xs.toList = some args) (hd : Nat.blt d nt = true) (h : ∀ st, Ev P ov ro n f args st (fun u st' => u = v ∧ st' = st))
    (k : OpsQ P ov ro n nt ops l (fr.upd d (some v)) st K) : OpsQ P ov ro n nt ops (⟨some d, .call ⟨.value (.func f), xs, ts⟩, ty, pos, after, none⟩ :: l) fr st K := by
  obtain ⟨u, st', h1, rfl, rfl⟩ := h ⟨st.nx, st.hp, st.nx⟩
  obtain ⟨fr', h3, h4⟩ := k
  have e1 : Nat.ble st.nx st.nx = true := by rw [Nat.ble_eq]; exact Nat.le_refl _
  have e2 : Nat.beq st.nx st.nx = true := by rw [Nat.beq_eq]
  exact ⟨fr', by simp only [vopsQ, vwanted, quietOp, vop, ha, opnd, List.nil_append, List.append_nil, h1, e1, e2, Bool.true_or, Bool.and_true, vput, hd, cond_true, V.force_eq, h3], h4⟩

/-- Operations up to some place, and those behind it. -/
theorem Ops.cut {ops : Array Oper} {l1 l2 : List Oper} {fr : T V} {st : St} {R K : T V → St → Prop} (h : Ops P ov ro n nt ops l1 fr st R) (k : ∀ fr' st', R fr' st' → Ops P ov ro n nt ops l2 fr' st' K) : Ops P ov ro n nt ops (l1 ++ l2) fr st K := by
  have key : ∀ (l1 : List Oper) (fr : T V) (st : St) (fr' : T V) (st' : St), vops P ro nt (evF P ov ro n) ops l1 fr st = some (fr', st') → vops P ro nt (evF P ov ro n) ops (l1 ++ l2) fr st = vops P ro nt (evF P ov ro n) ops l2 fr' st' := by
    intro l1
    induction l1 with
    | nil => intro fr st fr' st' h; simp only [vops, Option.some.injEq, Prod.mk.injEq] at h; obtain ⟨rfl, rfl⟩ := h; rfl
    | cons o l1 ih =>
      intro fr st fr' st' h
      simp only [List.cons_append, vops] at h ⊢
      cases hw : vwanted ops fr o with
      | none => simp [hw] at h
      | some x =>
        simp only [hw] at h ⊢
        cases x with
        | true =>
          simp only at h ⊢
          cases hv : vop P ro (evF P ov ro n) fr st o.op with
          | none => simp [hv] at h
          | some r =>
            obtain ⟨v, st1⟩ := r
            simp only [hv] at h ⊢
            cases hp : vput nt fr o.dst v with
            | none => simp [hp] at h
            | some fr1 => simp only [hp] at h ⊢; exact ih _ _ _ _ h
        | false =>
          simp only at h ⊢
          cases hp : vput nt fr o.dst none with
          | none => simp [hp] at h
          | some fr1 => simp only [hp] at h ⊢; exact ih _ _ _ _ h
  obtain ⟨fr', st', h1, h2⟩ := h
  obtain ⟨fr2, st2, h3, h4⟩ := k fr' st' h2
  exact ⟨fr2, st2, by rw [key l1 fr st fr' st' h1, h3], h4⟩
theorem OpsQ.cut {ops : Array Oper} {l1 l2 : List Oper} {fr : T V} {st : St} {R K : T V → Prop} (h : OpsQ P ov ro n nt ops l1 fr st R) (k : ∀ fr', R fr' → OpsQ P ov ro n nt ops l2 fr' st K) : OpsQ P ov ro n nt ops (l1 ++ l2) fr st K := by
  have key : ∀ (l1 : List Oper) (fr : T V) (fr' : T V), vopsQ P ro nt (evF P ov ro n) ops l1 fr st = some fr' → vopsQ P ro nt (evF P ov ro n) ops (l1 ++ l2) fr st = vopsQ P ro nt (evF P ov ro n) ops l2 fr' st := by
    intro l1
    induction l1 with
    | nil => intro fr fr' h; simp only [vopsQ, Option.some.injEq] at h; subst h; rfl
    | cons o l1 ih =>
      intro fr fr' h
      simp only [List.cons_append, vopsQ] at h ⊢
      cases hw : vwanted ops fr o with
      | none => simp [hw] at h
      | some x =>
        simp only [hw] at h ⊢
        cases x with
        | true =>
          simp only at h ⊢
          cases hq : quietOp o.op with
          | false => simp [hq] at h
          | true =>
            simp only [hq] at h ⊢
            cases hv : vop P ro (evF P ov ro n) fr ⟨st.nx, st.hp, st.nx⟩ o.op with
            | none => simp [hv] at h
            | some r =>
              obtain ⟨v, st1⟩ := r
              simp only [hv] at h ⊢
              cases hc : (Nat.ble st.nx st1.ver && (Nat.beq st1.nx st.nx || plainO v)) with
              | false => simp [hc] at h
              | true =>
                simp only [hc, cond_true] at h ⊢
                cases hp : vput nt fr o.dst v with
                | none => simp [hp] at h
                | some fr1 => simp only [hp] at h ⊢; exact ih _ _ h
        | false =>
          simp only at h ⊢
          cases hp : vput nt fr o.dst none with
          | none => simp [hp] at h
          | some fr1 => simp only [hp] at h ⊢; exact ih _ _ h
  obtain ⟨fr', h1, h2⟩ := h
  obtain ⟨fr2, h3, h4⟩ := k fr' h2
  exact ⟨fr2, by rw [key l1 fr fr' h1, h3], h4⟩

/-- A guarded operation: it is carried out. -/
theorem Ops.yes {ops : Array Oper} {l : List Oper} {fr : T V} {st : St} {K : T V → St → Prop} {dst : Option Nat} {op : Op} {ty : TypeId} {pos : String} {after : Array Edge} {j : Nat} {want : Bool} {c : Nat} {x : Bool} (hj : (ops[j]?).bind (·.dst) = some c) (hx : fr.get c = some (.b x)) (hw : x = want)
    (k : Ops P ov ro n nt ops (⟨dst, op, ty, pos, after, none⟩ :: l) fr st K) : Ops P ov ro n nt ops (⟨dst, op, ty, pos, after, some (j, want)⟩ :: l) fr st K := by
  obtain ⟨fr', st', h1, h2⟩ := k
  refine ⟨fr', st', ?_, h2⟩
  have : (x == want) = true := by rw [hw]; exact beq_self_eq_true _
  simp only [vops, vwanted, hj, hx, this] at h1 ⊢
  exact h1
theorem OpsQ.yes {ops : Array Oper} {l : List Oper} {fr : T V} {st : St} {K : T V → Prop} {dst : Option Nat} {op : Op} {ty : TypeId} {pos : String} {after : Array Edge} {j : Nat} {want : Bool} {c : Nat} {x : Bool} (hj : (ops[j]?).bind (·.dst) = some c) (hx : fr.get c = some (.b x)) (hw : x = want)
    (k : OpsQ P ov ro n nt ops (⟨dst, op, ty, pos, after, none⟩ :: l) fr st K) : OpsQ P ov ro n nt ops (⟨dst, op, ty, pos, after, some (j, want)⟩ :: l) fr st K := by
  obtain ⟨fr', h1, h2⟩ := k
  refine ⟨fr', ?_, h2⟩
  have : (x == want) = true := by rw [hw]; exact beq_self_eq_true _
  simp only [vopsQ, vwanted, hj, hx, this] at h1 ⊢
  exact h1
/-- It is not. -/
theorem Ops.no {ops : Array Oper} {l : List Oper} {fr : T V} {st : St} {K : T V → St → Prop} {d : Nat} {op : Op} {ty : TypeId} {pos : String} {after : Array Edge} {j : Nat} {want : Bool} {c : Nat} {x : Bool} (hj : (ops[j]?).bind (·.dst) = some c) (hx : fr.get c = some (.b x)) (hw : x = !want) (hd : Nat.blt d nt = true)
    (k : Ops P ov ro n nt ops l (fr.upd d (some (.t []))) st K) : Ops P ov ro n nt ops (⟨some d, op, ty, pos, after, some (j, want)⟩ :: l) fr st K := by
  obtain ⟨fr', st', h1, h2⟩ := k
  refine ⟨fr', st', ?_, h2⟩
  have : (x == want) = false := by rw [hw]; cases want <;> rfl
  simp only [vops, vwanted, hj, hx, this, vput, hd, cond_true, h1]
theorem OpsQ.no {ops : Array Oper} {l : List Oper} {fr : T V} {st : St} {K : T V → Prop} {d : Nat} {op : Op} {ty : TypeId} {pos : String} {after : Array Edge} {j : Nat} {want : Bool} {c : Nat} {x : Bool} (hj : (ops[j]?).bind (·.dst) = some c) (hx : fr.get c = some (.b x)) (hw : x = !want) (hd : Nat.blt d nt = true)
    (k : OpsQ P ov ro n nt ops l (fr.upd d (some (.t []))) st K) : OpsQ P ov ro n nt ops (⟨some d, op, ty, pos, after, some (j, want)⟩ :: l) fr st K := by
  obtain ⟨fr', h1, h2⟩ := k
  refine ⟨fr', ?_, h2⟩
  have : (x == want) = false := by rw [hw]; cases want <;> rfl
  simp only [vopsQ, vwanted, hj, hx, this, vput, hd, cond_true, h1]
/-- Nor is what is guarded by one that was not. -/
theorem Ops.off {ops : Array Oper} {l : List Oper} {fr : T V} {st : St} {K : T V → St → Prop} {d : Nat} {op : Op} {ty : TypeId} {pos : String} {after : Array Edge} {j : Nat} {want : Bool} {c : Nat} (hj : (ops[j]?).bind (·.dst) = some c) (hx : fr.get c = some (.t [])) (hd : Nat.blt d nt = true)
    (k : Ops P ov ro n nt ops l (fr.upd d (some (.t []))) st K) : Ops P ov ro n nt ops (⟨some d, op, ty, pos, after, some (j, want)⟩ :: l) fr st K := by
  obtain ⟨fr', st', h1, h2⟩ := k
  exact ⟨fr', st', by simp only [vops, vwanted, hj, hx, vput, hd, cond_true, h1], h2⟩
theorem OpsQ.off {ops : Array Oper} {l : List Oper} {fr : T V} {st : St} {K : T V → Prop} {d : Nat} {op : Op} {ty : TypeId} {pos : String} {after : Array Edge} {j : Nat} {want : Bool} {c : Nat} (hj : (ops[j]?).bind (·.dst) = some c) (hx : fr.get c = some (.t [])) (hd : Nat.blt d nt = true)
    (k : OpsQ P ov ro n nt ops l (fr.upd d (some (.t []))) st K) : OpsQ P ov ro n nt ops (⟨some d, op, ty, pos, after, some (j, want)⟩ :: l) fr st K := by
  obtain ⟨fr', h1, h2⟩ := k
  exact ⟨fr', by simp only [vopsQ, vwanted, hj, hx, vput, hd, cond_true, h1], h2⟩
end
end Go.Vm
