/-
  Code and calls: what the evaluator tells is so in the model, from whatever memory and on whatever tape. Nothing is claimed here.
-/
import Derived.Test.YtnfddmjbfkfnhaaGreatDoorVc
import Derived.Test.YtnfddmjbfkfnhaaGreatDoorVf3
namespace Go.Vm
open Go.RowKit

def Ex.real : Ex → Exit
  | .nrm => .normal
  | .exit id => .exit id
  | .goto l => .goto l
  | .ret => .ret

/-- Where the code ends, as the evaluator told. -/
def CQ (J : Inj) (ro : Nat) (B : World) (nt : Nat) (st : St) (w : World) (e : Ex) (fr' : T V) (st' : St) (e1 : Exit) (a1 : Act) (w1 : World) : Prop :=
  e1 = e.real ∧ ∃ J', Post J ro B st w J' st' w1 ∧ FR J' nt fr' a1.tmps ∧ a1.defers = []

def RunOK (P : Program) (ro : Nat) (B : World) (nt : Nat) (run : RunF) : Prop :=
  ∀ c fr st e fr' st', run c fr st = some (e, fr', st') → ∀ J w a, J.nx = st.nx → HR J ro B st.hp.get w → ro ≤ J.nx → FR J nt fr a.tmps → a.defers = [] → c.wp P (CQ J ro B nt st w e fr' st') a w

theorem CQ.trans {J J1 : Inj} {ro : Nat} {B : World} {nt : Nat} {st st1 : St} {w w1 : World} {e : Ex} {fr' : T V} {st' : St} (h : Post J ro B st w J1 st1 w1) {e1 : Exit} {a1 : Act} {w2 : World} (k : CQ J1 ro B nt st1 w1 e fr' st' e1 a1 w2) :
    CQ J ro B nt st w e fr' st' e1 a1 w2 := by
  obtain ⟨h1, J', h2, h3, h4⟩ := k
  exact ⟨h1, J', h.trans h2, h3, h4⟩

section
variable {P : Program} {ov : Ov} {ro : Nat} {B : World}

/-- A loop: its rounds, one behind the other. -/
theorem loopGo_sound {nt : Nat} {c : Code} {run : T V → St → Option (Ex × T V × St)}
    (hrun : ∀ fr st e fr' st', run fr st = some (e, fr', st') → ∀ J w a, J.nx = st.nx → HR J ro B st.hp.get w → ro ≤ J.nx → FR J nt fr a.tmps → a.defers = [] → c.wp P (CQ J ro B nt st w e fr' st') a w) :
    ∀ (n : Nat) (fr : T V) (st : St) (e : Ex) (fr' : T V) (st' : St), loopGo run n fr st = some (e, fr', st') → ∀ J w a, J.nx = st.nx → HR J ro B st.hp.get w → ro ≤ J.nx → FR J nt fr a.tmps → a.defers = [] →
      ∀ (b : Frame) (k : List Item) (cs : List Frame), ∃ e1 a1 w1, CQ J ro B nt st w e fr' st' e1 a1 w1 ∧ Arrives P (lone (b.at a (.code c :: .inLoop c :: k)) cs w) b k cs e1 a1 w1
  | 0, fr, st, e, fr', st', h => by simp [loopGo] at h
  | n + 1, fr, st, e, fr', st', h => by
    intro J w a hn hh hro hf hd b k cs
    simp only [loopGo] at h
    cases hr : run fr st with
    | none => simp [hr] at h
    | some r =>
      obtain ⟨e0, fr0, st0⟩ := r
      obtain ⟨e1, a1, w1, ⟨he, J1, hp, hf1, hd1⟩, harr⟩ := hrun fr st e0 fr0 st0 hr J w a hn hh hro hf hd b (.inLoop c :: k) cs
      cases e0 with
      | nrm =>
        simp only [hr] at h
        subst he
        obtain ⟨e2, a2, w2, hq, harr2⟩ := loopGo_sound hrun n fr0 st0 e fr' st' h J1 w1 a1 hp.nx hp.hr hp.ro hf1 hd1 b k cs
        exact ⟨e2, a2, w2, CQ.trans hp hq, .of_steps (Steps.trans harr (.one step_inLoop)) harr2⟩
      | exit id =>
        simp only [hr, Option.some.injEq, Prod.mk.injEq] at h
        obtain ⟨rfl, rfl, rfl⟩ := h
        subst he
        exact ⟨.exit id, a1, w1, ⟨rfl, J1, hp, hf1, hd1⟩, .pass (x := .inLoop c) rfl (fun _ _ => .inl (by simp)) harr⟩
      | goto l =>
        simp only [hr, Option.some.injEq, Prod.mk.injEq] at h
        obtain ⟨rfl, rfl, rfl⟩ := h
        subst he
        exact ⟨.goto l, a1, w1, ⟨rfl, J1, hp, hf1, hd1⟩, .pass (x := .inLoop c) rfl (fun _ _ => .inl (by simp)) harr⟩
      | ret =>
        simp only [hr, Option.some.injEq, Prod.mk.injEq] at h
        obtain ⟨rfl, rfl, rfl⟩ := h
        subst he
        exact ⟨.ret, a1, w1, ⟨rfl, J1, hp, hf1, hd1⟩, .pass (x := .inLoop c) rfl (fun _ _ => .inl (by simp)) harr⟩

/-- A scope, and the jumps in it. -/
theorem scopeGo_sound {nt : Nat} {body : Code} {run : RunF} (hrun : RunOK P ro B nt run) :
    ∀ (n : Nat) (c : Code) (fr : T V) (st : St) (e : Ex) (fr' : T V) (st' : St), scopeGo run body n c fr st = some (e, fr', st') → ∀ J w a, J.nx = st.nx → HR J ro B st.hp.get w → ro ≤ J.nx → FR J nt fr a.tmps → a.defers = [] →
      ∀ (b : Frame) (k : List Item) (cs : List Frame), ∃ e1 a1 w1, CQ J ro B nt st w e fr' st' e1 a1 w1 ∧ Arrives P (lone (b.at a (.code c :: .inScope body :: k)) cs w) b k cs e1 a1 w1
  | 0, c, fr, st, e, fr', st', h => by simp [scopeGo] at h
  | n + 1, c, fr, st, e, fr', st', h => by
    intro J w a hn hh hro hf hd b k cs
    simp only [scopeGo] at h
    cases hr : run c fr st with
    | none => simp [hr] at h
    | some r =>
      obtain ⟨e0, fr0, st0⟩ := r
      obtain ⟨e1, a1, w1, ⟨he, J1, hp, hf1, hd1⟩, harr⟩ := hrun c fr st e0 fr0 st0 hr J w a hn hh hro hf hd b (.inScope body :: k) cs
      cases e0 with
      | nrm =>
        simp only [hr, Option.some.injEq, Prod.mk.injEq] at h
        obtain ⟨rfl, rfl, rfl⟩ := h
        subst he
        exact ⟨.normal, a1, w1, ⟨rfl, J1, hp, hf1, hd1⟩, Steps.trans harr (.one step_inScope)⟩
      | exit id =>
        simp only [hr, Option.some.injEq, Prod.mk.injEq] at h
        obtain ⟨rfl, rfl, rfl⟩ := h
        subst he
        exact ⟨.exit id, a1, w1, ⟨rfl, J1, hp, hf1, hd1⟩, fun k' hk => harr k' (by simp [exitTo, hk])⟩
      | ret =>
        simp only [hr, Option.some.injEq, Prod.mk.injEq] at h
        obtain ⟨rfl, rfl, rfl⟩ := h
        subst he
        exact ⟨.ret, a1, w1, ⟨rfl, J1, hp, hf1, hd1⟩, harr⟩
      | goto l =>
        simp only [hr] at h
        subst he
        cases hl : findLabel body l with
        | none =>
          simp only [hl, Option.some.injEq, Prod.mk.injEq] at h
          obtain ⟨rfl, rfl, rfl⟩ := h
          exact ⟨.goto l, a1, w1, ⟨rfl, J1, hp, hf1, hd1⟩, fun k' hk => harr k' (by simp [gotoIn, hl, hk])⟩
        | some rest =>
          simp only [hl] at h
          obtain ⟨e2, a2, w2, hq, harr2⟩ := scopeGo_sound hrun n rest fr0 st0 e fr' st' h J1 w1 a1 hp.nx hp.hr hp.ro hf1 hd1 b k cs
          exact ⟨e2, a2, w2, CQ.trans hp hq, .of_steps (harr _ (by simp [gotoIn, hl])) harr2⟩

theorem frameOf_get : ∀ (l : List V) (i : Nat) (fr : T V) (t : Nat), (frameOf l i fr).get t = if i ≤ t ∧ t < i + l.length then l[t - i]? else fr.get t
  | [], i, fr, t => by rw [if_neg (by simp)]; rfl
  | v :: r, i, fr, t => by
    simp only [frameOf, V.force_eq]
    rw [frameOf_get r (i + 1), T.get_upd]
    by_cases e : t = i
    · subst e
      rw [if_neg (by omega), if_pos rfl, if_pos (by simp)]
      simp
    · by_cases e2 : i + 1 ≤ t ∧ t < i + 1 + r.length
      · rw [if_pos e2, if_pos (by simp; omega), show t - i = (t - (i + 1)) + 1 from by omega]
        simp
      · rw [if_neg e2, if_neg e, if_neg (by simp; omega)]

/-- One result's value. -/
def resS (tmps : Array Value) : ResultVar → Sem Value
  | .tmp t => pure (tmps.getD t undef)
  | .cell a t => do loadVar t (← asAddr (tmps.getD a undef))
theorem results_eq (fn : Func) (tmps : Array Value) : results fn tmps = (do
    let vs ← fn.results.mapM (resS tmps)
    pure (if h : vs.size = 1 then vs[0] else .tuple vs)) := rfl

theorem resultOf_real {J : Inj} {st : St} {w : World} {nt : Nat} {fr : T V} {tmps : Array Value} (hn : J.nx = st.nx) (hh : HR J ro B st.hp.get w) (hf : FR J nt fr tmps) {r : ResultVar} {v : V} (h : resultOf P fr st r = some v) :
    (resS tmps r).run P w = .ok (v.real J) w ∧ v.ok J.nx := by
  cases r with
  | tmp t =>
    obtain ⟨q1, q2⟩ := hf.get t v h
    exact ⟨by simp [resS, Array.getD_eq_getD_getElem?, q2], q1⟩
  | cell a t =>
    simp only [resultOf] at h
    cases hg : fr.get a with
    | none => simp [hg] at h
    | some u =>
      cases u <;> simp only [hg, reduceCtorEq] at h
      rename_i g off
      obtain ⟨q1, q2⟩ := hf.get a _ hg
      obtain ⟨r1, r2⟩ := vload_real (P := P) hn hh h
      refine ⟨?_, by rw [hn]; exact r2⟩
      simp only [V.real] at q2 r1
      simp only [resS, Array.getD_eq_getD_getElem?, q2, Option.getD_some, asAddr, Sem.run_bind, Sem.run_pure, Result.andThen_ok]
      simpa [Instr.loadAt, Instr.sureAddr] using r1

theorem results_real {J : Inj} {st : St} {w : World} {nt : Nat} {fr : T V} {tmps : Array Value} (hn : J.nx = st.nx) (hh : HR J ro B st.hp.get w) (hf : FR J nt fr tmps) {fn : Func} {vs : List V} (h : resultsOf P fr st fn.results.toList = some vs) :
    (results fn tmps).run P w = .ok ((oneOf vs).real J) w ∧ (oneOf vs).ok J.nx := by
  have key : ∀ (rs : List ResultVar) (vs : List V), resultsOf P fr st rs = some vs →
      (rs.mapM (resS tmps)).run P w = .ok (vs.map (V.real J)) w ∧ V.oks J.nx vs := by
    intro rs
    induction rs with
    | nil => intro vs h; simp only [resultsOf, Option.some.injEq] at h; subst h; simp [V.oks]
    | cons r rs ih =>
      intro vs h
      simp only [resultsOf] at h
      cases h1 : resultOf P fr st r with
      | none => simp [h1] at h
      | some v =>
        cases h2 : resultsOf P fr st rs with
        | none => simp [h1, h2] at h
        | some us =>
          simp only [h1, h2, Option.some.injEq] at h
          subst h
          obtain ⟨q1, q2⟩ := resultOf_real (tmps := tmps) hn hh hf h1
          obtain ⟨p1, p2⟩ := ih us h2
          refine ⟨?_, q2, p2⟩
          rw [List.mapM_cons, Sem.run_bind, q1]
          simp only [Result.andThen_ok, Sem.run_bind, p1, Sem.run_pure, List.map_cons]
  obtain ⟨k1, k2⟩ := key _ _ h
  rw [results_eq, Sem.run_bind, Array.mapM_eq_mapM_toList, Sem.run_map, k1]
  simp only [Result.andThen_ok, Sem.run_pure]
  cases vs with
  | nil => simp [oneOf, V.real, V.reals, V.ok, V.oks]
  | cons v r =>
    cases r with
    | nil => simp only [V.oks] at k2; simp [oneOf, k2.1]
    | cons u r => simp only [oneOf, V.ok]; exact ⟨by simp [V.real, V.reals_eq], k2⟩

/-- What is known beforehand is so, in every memory. -/
def OvR (P : Program) (ro : Nat) (B : World) (ov : Ov) : Prop := ∀ B', Old B B' → CallOK P ro B' ov
def OvOK (P : Program) (B : World) (ov : Ov) : Prop := OvR P GL B ov
/-- What is known beforehand is so: from every world, and nothing that was there is touched. -/
def Ov0OK (P : Program) (B : World) (ov : Ov0) : Prop :=
  ∀ f args v, ov f args = some v → v.plainT = true ∧ v.ok 0 ∧ (∃ fn c, P.funcs[f]? = some fn ∧ fn.body = some c) ∧
    ∀ J w, V.oks J.nx args → Old B w → Calls P f (V.reals J args).toArray w fun e w' => e = .returned (v.real J) ∧ Below w.heap.size w w'
theorem noOv_ok (P : Program) (B : World) : OvOK P B noOv := fun _ _ _ _ _ _ _ h => by cases h

theorem HR.under {J : Inj} {ro : Nat} {B : World} {h : Nat → Option Blk} {w w' : World} (hh : HR J ro B h w) (hb : Below w.heap.size w w') : HR J ro B h w' := by
  refine ⟨hh.base.below (hb.mono hh.base.size), fun g b hg => ?_, hh.inj⟩
  have h1 := hh.blk g b hg
  have h2 := hb.block _ h1.lt
  unfold BR CR MR at *
  rw [h2]
  exact h1

theorem Old.trans {A B C : World} (h : Old A B) (k : Old B C) : Old A C := ⟨Nat.le_trans h.size k.size, fun i hi => (k.block i (Nat.lt_of_lt_of_le hi h.size)).trans (h.block i hi)⟩
theorem ofOv0_ok {o : Ov0} (h : Ov0OK P B o) : OvR P ro B (ofOv0 o) := by
  intro B' hB f args st v st' h' J w hn hh hro hargs
  unfold ofOv0 at h'
  cases ho : o f args with
  | none => rw [ho] at h'; cases h'
  | some u =>
    simp only [ho, Option.some.injEq, Prod.mk.injEq] at h'
    obtain ⟨rfl, rfl⟩ := h'
    obtain ⟨h1, h2, h3, h4⟩ := h f args u ho
    refine ⟨h3, (h4 J w hargs (hB.trans hh.base)).mono ?_⟩
    rintro e w' ⟨he, hb⟩
    exact ⟨J, he, V.ok_plainT 0 J.nx u h1 h2, Inj.le.refl J, hn, hh.under hb, hb.mono hh.base.size, Ext.refl _, hro, Fr.same fun i hi => hb.block i hi⟩

theorem callGo_sound (hov : OvR P ro B ov) {run : Nat → RunF} (hrun : ∀ nt, RunOK P ro B nt (run nt)) : CallOK P ro B (callGo P ov run) := by
  intro f args st v st' h J w hn hh hro hargs
  unfold callGo at h
  cases ho : ov f args st with
  | some u =>
    obtain ⟨u, st1⟩ := u
    simp only [ho, Option.some.injEq, Prod.mk.injEq] at h
    obtain ⟨rfl, rfl⟩ := h
    exact hov B (Old.refl B) f args st u st1 ho J w hn hh hro hargs
  | none =>
  simp only [ho] at h
  cases hf : P.funcs[f]? with
  | none => simp [hf] at h
  | some fn =>
    simp only [hf] at h
    cases hb : fn.body with
    | none => simp [hb] at h
    | some c =>
      simp only [hb] at h
      refine ⟨⟨fn, c, rfl, hb⟩, ?_⟩
      cases hl : Nat.ble args.length fn.ntmps with
      | false => simp [hl] at h
      | true =>
        simp only [hl, cond_true] at h
        rw [Nat.ble_eq] at hl
        have hsz : (V.reals J args).toArray.size = args.length := by simp [V.reals_eq]
        have hframe : FR J fn.ntmps (frameOf args 0 .e) ((V.reals J args).toArray ++ Array.replicate (fn.ntmps - (V.reals J args).toArray.size) undef) := by
          refine ⟨by simp [V.reals_eq]; omega, fun t x hx => ?_⟩
          rw [frameOf_get] at hx
          by_cases e : 0 ≤ t ∧ t < 0 + args.length
          · rw [if_pos e, Nat.sub_zero] at hx
            refine ⟨(V.oks_iff _ _).1 hargs x (List.mem_of_getElem? hx), ?_⟩
            rw [Array.getElem?_append_left (by rw [hsz]; omega)]
            simp [V.reals_eq, hx]
          · rw [if_neg e] at hx; simp [T.get_e] at hx
        cases hr : run fn.ntmps c (frameOf args 0 .e) st with
        | none => simp [hr] at h
        | some r =>
          obtain ⟨e, fr1, st1⟩ := r
          have hwp := hrun fn.ntmps c _ st e fr1 st1 hr J w ⟨(V.reals J args).toArray ++ Array.replicate (fn.ntmps - (V.reals J args).toArray.size) undef, []⟩ hn hh hro hframe rfl
          have fin : (match resultsOf P fr1 st1 fn.results.toList with | some vs => some (oneOf vs, st1) | none => none) = some (v, st') → (e = .nrm ∨ e = .ret) →
              Calls P f (V.reals J args).toArray w fun e w' => ∃ J', e = .returned (v.real J') ∧ v.ok J'.nx ∧ Post J ro B st w J' st' w' := by
            intro hres he
            cases hrs : resultsOf P fr1 st1 fn.results.toList with
            | none => simp [hrs] at hres
            | some vs =>
              simp only [hrs, Option.some.injEq, Prod.mk.injEq] at hres
              obtain ⟨rfl, rfl⟩ := hres
              refine calls_of_wp hf hb (wp_mono hwp ?_)
              rintro e1 a1 w1 ⟨h1, J1, hp, hf1, hd1⟩
              obtain ⟨q1, q2⟩ := results_real (P := P) hp.nx hp.hr hf1 hrs
              rcases he with rfl | rfl <;> subst h1 <;> exact ⟨hd1, _, q1, J1, rfl, q2, hp⟩
          cases e <;> simp only [hr, reduceCtorEq] at h
          · exact fin h (.inl rfl)
          · exact fin h (.inr rfl)

/-- WHAT THE EVALUATOR TELLS OF CODE IS SO. -/
theorem evC_sound (hov : OvR P ro B ov) (hmix : P.follows .mixedOrders = true) (hname : ∀ (f : Nat) (fn : Func), P.funcs[f]? = some fn → (fn.name == "runtime.NumGoroutine") = false) : ∀ (n nt : Nat), RunOK P ro B nt (evC P ov ro n nt) := by
  intro n
  induction n with
  | zero => intro nt c fr st e fr' st' h; simp [evC] at h
  | succ n ih =>
    intro nt c fr st e fr' st' h J w a hn hh hro hf hd
    have hcall : CallOK P ro B (callGo P ov (evC P ov ro n)) := callGo_sound hov ih
    have here : ∀ (ex : Ex), CQ J ro B nt st w ex fr st ex.real a w := fun ex => ⟨rfl, J, Post.refl hn hh hro, hf, hd⟩
    cases c with
    | skip =>
      simp only [evC, Option.some.injEq, Prod.mk.injEq] at h
      obtain ⟨rfl, rfl, rfl⟩ := h
      exact wp_skip (here .nrm)
    | label l =>
      simp only [evC, Option.some.injEq, Prod.mk.injEq] at h
      obtain ⟨rfl, rfl, rfl⟩ := h
      exact wp_label (here .nrm)
    | exit id =>
      simp only [evC, Option.some.injEq, Prod.mk.injEq] at h
      obtain ⟨rfl, rfl, rfl⟩ := h
      exact wp_exit (here (.exit id))
    | goto l =>
      simp only [evC, Option.some.injEq, Prod.mk.injEq] at h
      obtain ⟨rfl, rfl, rfl⟩ := h
      exact wp_goto (here (.goto l))
    | ret =>
      simp only [evC, Option.some.injEq, Prod.mk.injEq] at h
      obtain ⟨rfl, rfl, rfl⟩ := h
      exact wp_ret (here .ret)
    | region id ops draw =>
      simp only [evC] at h
      cases draw with
      | false =>
        simp only at h
        cases hv : vops P ro nt (callGo P ov (evC P ov ro n)) ops ops.toList fr st with
        | none => simp [hv] at h
        | some r =>
          obtain ⟨fr1, st1⟩ := r
          simp only [hv, Option.some.injEq, Prod.mk.injEq] at h
          obtain ⟨rfl, rfl, rfl⟩ := h
          refine wp_region ?_
          have := vops_sound (P := P) hcall hname (Q := CQ J ro B nt st w .nrm fr1 st1) ops.toList 0 fr fr1 st st1 J w a (by simp) hv hn hh hro hf hd (fun J' a' w' hp hf' hd' => ⟨rfl, J', hp, hf', hd'⟩)
          rw [Array.length_toList, ← List.range_eq_range'] at this
          exact this
      | true =>
        simp only at h
        have quiet : ∀ fr1, lexQ ops = true → vopsQ P ro nt (callGo P ov (evC P ov ro n)) ops ops.toList fr st = some fr1 → (Code.region id ops true).wp P (CQ J ro B nt st w .nrm fr1 st) a w := by
          intro fr1 hB hv
          have hst : Still J ro B st w { w with drawn := w.drawn + 1 } := ⟨hh.congr rfl, ⟨rfl, rfl, rfl, Nat.le_refl _, fun _ _ => rfl⟩, Fr.same fun _ _ => rfl⟩
          refine wp_region_quiet hmix (by unfold lexQ at hB; rw [Bool.and_eq_true] at hB; exact hB.1) (C := Still J ro B st w) hst ?_
          refine vopsQ_sound hcall hname hn hro ⟨_, hst⟩ ops.toList fr fr1 a hv hf hd (fun a' hf' hd' w' hs => ⟨rfl, J, ⟨Inj.le.refl J, hn, hs.1, hs.2.1, Ext.refl _, hro, hs.2.2⟩, hf', hd'⟩)
        cases hB : lexQ1 P ops with
        | false =>
          cases hT : tailB ops with
          | false =>
            simp only [hB, hT] at h
            cases hpl : planOf P ops with
            | none =>
              simp only [hpl] at h
              cases hL : lexQ ops with
              | false =>
                simp only [hL] at h
                cases hpp : planPair ops with
                | none => simp [hpp] at h
                | some u =>
                  obtain ⟨l, o, q⟩ := u
                  simp only [hpp] at h
                  cases hv : runO P ro nt (callGo P ov (evC P ov ro n)) ops l [] fr st with
                  | none => simp [hv] at h
                  | some r =>
                    obtain ⟨fr1, st1⟩ := r
                    simp only [hv] at h
                    cases hr2 : runPair P ro o q fr1 st1 with
                    | none => simp [hr2] at h
                    | some st2 =>
                      simp only [hr2, Option.some.injEq, Prod.mk.injEq] at h
                      obtain ⟨rfl, rfl, rfl⟩ := h
                      exact planPair_sound hcall hname hmix (Q := CQ J ro B nt st w .nrm fr1 st2) (fun c a w q => by cases q.1) hpp hv hr2 hn hh hro hf hd (fun J' a' w' hp hf' hd' => ⟨rfl, J', hp, hf', hd'⟩)
              | true =>
                simp only [hL] at h
                cases hv : vopsQ P ro nt (callGo P ov (evC P ov ro n)) ops ops.toList fr st with
                | none => simp [hv] at h
                | some fr1 =>
                  simp only [hv, Option.some.injEq, Prod.mk.injEq] at h
                  obtain ⟨rfl, rfl, rfl⟩ := h
                  exact quiet fr1 hL hv
            | some pl =>
              simp only [hpl] at h
              cases hv : runO P ro nt (callGo P ov (evC P ov ro n)) ops pl [] fr st with
              | none => simp [hv] at h
              | some r =>
                obtain ⟨fr1, st1⟩ := r
                simp only [hv, Option.some.injEq, Prod.mk.injEq] at h
                obtain ⟨rfl, rfl, rfl⟩ := h
                exact planOf_sound hcall hname hmix (Q := CQ J ro B nt st w .nrm fr1 st1) (fun c a w q => by cases q.1) hpl hv hn hh hro hf hd (fun J' a' w' hp hf' hd' => ⟨rfl, J', hp, hf', hd'⟩)
          | true =>
            simp only [hB, hT] at h
            cases hv : vopsQ P ro nt (callGo P ov (evC P ov ro n)) ops (ops.toList.take (ops.size - 1)) fr st with
            | none => simp [hv] at h
            | some fr1 =>
              simp only [hv] at h
              cases hv2 : vops P ro nt (callGo P ov (evC P ov ro n)) ops (ops.toList.drop (ops.size - 1)) fr1 st with
              | none => simp [hv2] at h
              | some r =>
                obtain ⟨fr2, st2⟩ := r
                simp only [hv2, Option.some.injEq, Prod.mk.injEq] at h
                obtain ⟨rfl, rfl, rfl⟩ := h
                unfold tailB at hT
                simp only [Bool.and_eq_true] at hT
                have hst : Still J ro B st w { w with drawn := w.drawn + 1 } := ⟨hh.congr rfl, ⟨rfl, rfl, rfl, Nat.le_refl _, fun _ _ => rfl⟩, Fr.same fun _ _ => rfl⟩
                have e : ops = ops.toList.toArray := by simp
                rw [e]
                refine wp_region_still_tail (ops.size - 1) hmix (by rw [← e]; exact hT.1) ?_
                rw [← e]
                refine vopsS_sound hn hst.1 (ops.toList.take (ops.size - 1)) fr fr1 a hT.2.1 hv hf hd (fun a' hf' hd' => ?_)
                rw [← wpOps_eq_wpList (ops.toList.drop (ops.size - 1)) (ops.size - 1) (fun j => by simp [List.getElem?_drop])]
                have p0 : Post J ro B st w J st { w with drawn := w.drawn + 1 } := ⟨Inj.le.refl J, hn, hst.1, hst.2.1, Ext.refl _, hro, hst.2.2⟩
                exact vops_sound (P := P) hcall hname (Q := CQ J ro B nt st w .nrm fr2 st2) (ops.toList.drop (ops.size - 1)) (ops.size - 1) fr1 fr2 st st2 J _ a' (fun j => by simp [List.getElem?_drop]) hv2 hn hst.1 hro hf' hd' (fun J' a2 w' hp hf2 hd2 => ⟨rfl, J', p0.trans hp, hf2, hd2⟩)
        | true =>
          simp only [hB] at h
          cases hv : vopsQ P ro nt (callGo P ov (evC P ov ro n)) ops ops.toList fr st with
          | none => simp [hv] at h
          | some fr1 =>
            simp only [hv, Option.some.injEq, Prod.mk.injEq] at h
            obtain ⟨rfl, rfl, rfl⟩ := h
            unfold lexQ1 at hB
            rw [Bool.and_eq_true] at hB
            exact quiet fr1 hB.1 hv
    | seq x y =>
      simp only [evC] at h
      cases hfl : flagOf P nt x y with
      | some F =>
        simp only [hfl] at h
        cases hs : flagSt P ro nt (callGo P ov (evC P ov ro n)) F (eraseL [F.p, F.f] fr) ⟨st.nx + 1, st.hp, st.ver⟩ with
        | none => simp [hs] at h
        | some st1 =>
          simp only [hs, Option.some.injEq, Prod.mk.injEq] at h
          obtain ⟨rfl, rfl, rfl⟩ := h
          exact flag_sound hcall hname hmix (Q := CQ J ro B nt st w .nrm (eraseL F.dead fr) st1) (fun c a w q => by cases q.1) hfl hs hn hh hro hf hd (fun J' a' w' hp hf' hd' => ⟨rfl, J', hp, hf', hd'⟩)
      | none =>
      simp only [hfl] at h
      cases hx : evC P ov ro n nt x fr st with
      | none => simp [hx] at h
      | some r =>
        obtain ⟨e0, fr0, st0⟩ := r
        have h1 := ih nt x fr st e0 fr0 st0 hx J w a hn hh hro hf hd
        refine wp_seq (wp_mono h1 ?_)
        rintro e1 a1 w1 ⟨he, J1, hp, hf1, hd1⟩
        cases e0 with
        | nrm =>
          simp only [hx] at h
          subst he
          exact wp_mono (ih nt y fr0 st0 e fr' st' h J1 w1 a1 hp.nx hp.hr hp.ro hf1 hd1) fun _ _ _ hq => CQ.trans hp hq
        | _ =>
          simp only [hx, Option.some.injEq, Prod.mk.injEq] at h
          obtain ⟨rfl, rfl, rfl⟩ := h
          subst he
          exact ⟨rfl, J1, hp, hf1, hd1⟩
    | cond c x y =>
      simp only [evC] at h
      cases hc : opnd fr c with
      | none => simp [hc] at h
      | some u =>
        cases u <;> simp only [hc, reduceCtorEq] at h
        rename_i t
        have hev := (opnd_spec hf c _ hc).1
        simp only [V.real] at hev
        cases t with
        | true => exact wp_cond_true hev (ih nt x fr st e fr' st' h J w a hn hh hro hf hd)
        | false => exact wp_cond_false hev (ih nt y fr st e fr' st' h J w a hn hh hro hf hd)
    | block id x =>
      simp only [evC] at h
      cases hx : evC P ov ro n nt x fr st with
      | none => simp [hx] at h
      | some r =>
        obtain ⟨e0, fr0, st0⟩ := r
        have h1 := ih nt x fr st e0 fr0 st0 hx J w a hn hh hro hf hd
        refine wp_block (wp_mono h1 ?_)
        rintro e1 a1 w1 ⟨he, J1, hp, hf1, hd1⟩
        cases e0 with
        | exit id' =>
          simp only [hx] at h
          subst he
          simp only [Ex.real, Exit.inBlock]
          by_cases hid : id' = id
          · have : Nat.beq id' id = true := by rw [Nat.beq_eq]; exact hid
            simp only [this, cond_true, Option.some.injEq, Prod.mk.injEq] at h
            obtain ⟨rfl, rfl, rfl⟩ := h
            rw [if_pos hid]
            exact ⟨rfl, J1, hp, hf1, hd1⟩
          · have : Nat.beq id' id = false := by rw [Bool.eq_false_iff]; intro q; rw [Nat.beq_eq] at q; exact hid q
            simp only [this, cond_false, Option.some.injEq, Prod.mk.injEq] at h
            obtain ⟨rfl, rfl, rfl⟩ := h
            rw [if_neg hid]
            exact ⟨rfl, J1, hp, hf1, hd1⟩
        | _ =>
          simp only [hx, Option.some.injEq, Prod.mk.injEq] at h
          obtain ⟨rfl, rfl, rfl⟩ := h
          subst he
          exact ⟨rfl, J1, hp, hf1, hd1⟩
    | loop x =>
      simp only [evC] at h
      intro b k cs
      obtain ⟨e1, a1, w1, hq, harr⟩ := loopGo_sound (c := x) (fun fr st e fr' st' hx => ih nt x fr st e fr' st' hx) n fr st e fr' st' h J w a hn hh hro hf hd b k cs
      exact ⟨e1, a1, w1, hq, .of_steps (.one step_loop) harr⟩
    | scope x =>
      simp only [evC] at h
      intro b k cs
      obtain ⟨e1, a1, w1, hq, harr⟩ := scopeGo_sound (ih nt) n x fr st e fr' st' h J w a hn hh hro hf hd b k cs
      exact ⟨e1, a1, w1, hq, .of_steps (.one step_scope) harr⟩
    | rangeFunc _ _ _ _ => simp [evC] at h
    | refuse _ => simp [evC] at h

/-- A CALL, from the empty memory: it answers so in every world, and leaves what was there as it was. -/
theorem evF_sound (hov : OvR P ro B ov) (hmix : P.follows .mixedOrders = true) (hname : ∀ (f : Nat) (fn : Func), P.funcs[f]? = some fn → (fn.name == "runtime.NumGoroutine") = false) : ∀ (n : Nat), CallOK P ro B (evF P ov ro n) :=
  fun n => callGo_sound hov (evC_sound hov hmix hname n)

theorem OvOK.old {A B : World} (h : OvOK P A ov) (k : Old A B) : OvOK P B ov := fun B' hB => h B' (k.trans hB)

/-- Where the package-level variables lie. -/
def J0 : Inj := ⟨GL, fun g => (g, 0, 0), fun _ h => ⟨h, rfl⟩⟩
/-- In this world these variables hold these cells. -/
def GOn (B : World) (gs : List (Nat × List V)) : Prop :=
  ∀ x ∈ gs, x.1 < GL ∧ (∀ v ∈ x.2, v.plain = true ∧ v.ok 0) ∧ ∃ c e fz, B.heap[x.1]? = some (.cells c e fz) ∧ c.toList = x.2.map (V.real J0)
theorem GOn.old {A B : World} {gs : List (Nat × List V)} (h : GOn A gs) (k : Old A B) : GOn B gs := fun x hx => by
  obtain ⟨h1, h2, c, e, fz, h3, h4⟩ := h x hx
  refine ⟨h1, h2, c, e, fz, ?_, h4⟩
  rw [k.block x.1 ?_]; exact h3
  rcases Nat.lt_or_ge x.1 A.heap.size with h | h
  · exact h
  · rw [Array.getElem?_eq_none h] at h3; cases h3

theorem globs_get : ∀ (gs : List (Nat × List V)) (g : Nat) (b : Blk), (globs gs).get g = some b → ∃ cs, (g, cs) ∈ gs ∧ blkOf cs 1 false = some b
  | [], g, b, h => by simp [globs, T.get_e] at h
  | (k, cs) :: r, g, b, h => by
    simp only [globs] at h
    cases hb : blkOf cs 1 false with
    | none =>
      simp only [hb] at h
      obtain ⟨cs', h1, h2⟩ := globs_get r g b h
      exact ⟨cs', List.mem_cons_of_mem _ h1, h2⟩
    | some b0 =>
      simp only [hb] at h
      rw [T.get_upd] at h
      by_cases e : g = k
      · subst e
        rw [if_pos rfl] at h
        obtain rfl := Option.some.inj h
        exact ⟨cs, List.mem_cons_self .., hb⟩
      · rw [if_neg e] at h
        obtain ⟨cs', h1, h2⟩ := globs_get r g b h
        exact ⟨cs', List.mem_cons_of_mem _ h1, h2⟩

theorem HR.start {B : World} {gs : List (Nat × List V)} (h : GOn B gs) : HR J0 GL B (globs gs).get B := by
  refine ⟨Old.refl B, fun g b hg => ?_, fun g g' b b' _ _ he => he⟩
  obtain ⟨cs, hm, hb⟩ := globs_get gs g b hg
  obtain ⟨h1, h2, c, e, fz, h3, h4⟩ := h _ hm
  obtain ⟨q1, q2, q3, q4, q5, q6⟩ := blkOf_spec hb
  have hlen : c.size = cs.length := by have := congrArg List.length h4; simpa using this
  refine BR.of_cells (blkOf_mp hb) ⟨h1, c, e, fz, h3, ?_, ?_, ?_, ?_⟩
  · show 0 + b.sz ≤ c.size; omega
  · intro q; rw [q3] at q; cases q
  · intro q; dsimp only at h1; omega
  · intro o v hv
    rw [q5 o] at hv
    have hmem := List.mem_of_getElem? hv
    refine ⟨V.ok_plain 0 _ v (h2 v hmem).1 (h2 v hmem).2, q6 v hmem, ?_⟩
    show c[0 + o]? = _
    rw [Nat.zero_add, ← Array.getElem?_toList, h4, List.getElem?_map, hv]; rfl

/-- A CALL, from a world in which the variables hold these cells: it answers so, and leaves what was there as it was. -/
theorem answers_sound {B : World} {gs : List (Nat × List V)} (hG : GOn B gs) (hov : OvOK P B ov) (hmix : P.follows .mixedOrders = true) (hname : ∀ (f : Nat) (fn : Func), P.funcs[f]? = some fn → (fn.name == "runtime.NumGoroutine") = false) {n f : Nat} {args : List V} (hok : V.oks 0 args) {v : V} {st' : St}
    (h : evF P ov GL n f args (st0 gs) = some (v, st')) (w : World) (hw : Old B w) :
    Calls P f (V.reals J0 args).toArray w fun e w' => ∃ J', e = .returned (v.real J') ∧ Below w.heap.size w w' := by
  have := (evF_sound (P := P) (ro := GL) (B := w) (hov.old hw) hmix hname n f args (st0 gs) _ st' h J0 w rfl (HR.start (hG.old hw)) (Nat.le_refl _) (V.oks_le (Nat.zero_le _) args hok)).2
  refine this.mono ?_
  rintro e w' ⟨J', h1, _, h3⟩
  exact ⟨J', h1, h3.below⟩
end
end Go.Vm
