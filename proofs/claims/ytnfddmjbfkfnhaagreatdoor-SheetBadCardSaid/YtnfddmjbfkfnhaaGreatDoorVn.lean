/-
  A region whose order is open: loads, and what looks at no memory, may be taken first, as long as what is carried out meanwhile leaves alone what they read. Nothing is claimed here.
-/
import Derived.Test.YtnfddmjbfkfnhaaGreatDoorVc
import Derived.OrdersHeld
set_option linter.unusedVariables false
namespace Go

section
variable {P : Program} {ops : Array Oper} {Q : Exit → Act → World → Prop} {md : Region.Mode} {S0 : World → Prop}

/-- What is to hold as long as no operation that waits for number x has come up. -/
structure Held where
  x : Nat
  h : World → Prop

theorem Region.waitsT_spec {md : Region.Mode} {ops : Array Oper} {j i : Nat} (h : Region.waitsT md ops j i = true) : ∃ oj, ops[j]? = some oj ∧ ((∃ e ∈ oj.after, Region.binds md e = true ∧ e.on = i) ∨ ∃ d ∈ oj.after, Region.binds md d = true ∧ ∃ od, ops[d.on]? = some od ∧ ∃ e ∈ od.after, Region.binds md e = true ∧ e.on = i) := by
  unfold Region.waitsT at h
  cases hc : Region.waitsFor md ops j i with
  | true =>
    obtain ⟨oj, h1, h2⟩ := Region.waitsFor_spec hc
    exact ⟨oj, h1, .inl h2⟩
  | false =>
    rw [hc] at h
    dsimp only at h
    split at h
    · rename_i o ho
      obtain ⟨d, hd, hb⟩ := Array.any_eq_true'.1 h
      rw [Bool.and_eq_true] at hb
      obtain ⟨od, h1, h2⟩ := Region.waitsFor_spec hb.2
      exact ⟨o, ho, .inr ⟨d, hd, hb.1, od, h1, h2⟩⟩
    · cases h

/-- What an operation that has come waits for has come. -/
def Closed (md : Region.Mode) (ops : Array Oper) (listed : Array Bool) : Prop := ∀ d od, ops[d]? = some od → listed.getD d false = true → ∀ e ∈ od.after, Region.binds md e = true → listed.getD e.on false = true
theorem Closed.set {md : Region.Mode} {ops : Array Oper} {listed : Array Bool} (h : Closed md ops listed) {i : Nat} (hi : i ∈ Region.ready md ops listed) : Closed md ops (listed.setIfInBounds i true) := by
  intro d od hd hl e he hb
  refine getD_set_true ?_
  by_cases q : i = d
  · subst q
    obtain ⟨_, o, ho, hall⟩ := mem_ready.1 hi
    rw [hd] at ho
    cases ho
    exact hall e he hb
  · rw [getD_set_ne false q] at hl
    exact h d od hd hl e he hb

/-- Whatever order is picked from here on, and what is held holds behind every operation that does not wait for it. -/
def wpAnyE (P : Program) (md : Region.Mode) (ops : Array Oper) (Q : Exit → Act → World → Prop) (S0 : World → Prop) : Nat → Array Bool → List Held → Act → World → Prop
  | 0, listed, _, a, w => Region.ready md ops listed = [] ∧ Q .normal a w
  | fuel + 1, listed, E, a, w => Closed md ops listed → (Region.ready md ops listed = [] → Q .normal a w) ∧
    ∀ i ∈ Region.ready md ops listed, wpOp P ops Q i (fun a' w' => ∃ E', (∀ e ∈ E, Region.waitsT md ops i e.x = false → e ∈ E') ∧ (S0 w' ∧ ∀ e ∈ E', e.h w') ∧ wpAnyE P md ops Q S0 fuel (listed.setIfInBounds i true) E' a' w') a w

theorem wpAny_of_E : ∀ (fuel : Nat) (listed : Array Bool) (E : List Held) (a : Act) (w : World), Closed md ops listed → wpAnyE P md ops Q S0 fuel listed E a w → wpAny P md ops Q fuel listed a w
  | 0, _, _, _, _, _, h => h
  | fuel + 1, _, _, _, _, hc, h => ⟨(h hc).1, fun i hi => wpOp_mono (fun a' w' ⟨E', _, _, h'⟩ => wpAny_of_E fuel _ E' a' w' (hc.set hi) h') ((h hc).2 i hi)⟩

theorem wpAnyE_less {E1 E2 : List Held} (hE : ∀ e ∈ E1, e ∈ E2) : ∀ {fuel : Nat} {listed : Array Bool} {a : Act} {w : World}, wpAnyE P md ops Q S0 fuel listed E2 a w → wpAnyE P md ops Q S0 fuel listed E1 a w
  | 0, _, _, _, h => h
  | _ + 1, _, _, _, h => fun hc => ⟨(h hc).1, fun i hi => wpOp_mono (fun _ _ ⟨E', h1, h2, h3⟩ => ⟨E', fun e he hw => h1 e (hE e he) hw, h2, h3⟩) ((h hc).2 i hi)⟩

theorem wpAnyE_first {oi : Oper} {v : Value} (e : Held) (hi : ops[e.x]? = some oi) (hsel : ∀ (j : Nat) (o : Oper) cs b, ops[j]? = some o → o.op ≠ .select cs b)
    (hQ : ∀ c a w, Q (.panic c) (a.put oi.dst v) w → Q (.panic c) a w) :
    ∀ (fuel : Nat) (listed : Array Bool) (E : List Held) (a : Act) (w : World),
      (∀ j oj, ops[j]? = some oj → j ≠ e.x → listed.getD j true = false → (∀ d ∈ oj.after, Region.binds md d = true → d.on ≠ e.x) → oi.apart ops oj = true) →
      e.x ∈ Region.ready md ops listed → YieldsIf P ops (fun w => S0 w ∧ e.h w) oi v a → S0 w → e.h w → (∀ e' ∈ E, e'.h w) →
      wpAnyE P md ops Q S0 fuel (listed.setIfInBounds e.x true) (e :: E) (a.put oi.dst v) w → wpAnyE P md ops Q S0 (fuel + 1) listed E a w := by
  intro fuel
  induction fuel with
  | zero =>
    intro listed E a w _ hr hy hS he hE H hcl
    refine ⟨fun h => (by rw [h] at hr; cases hr), fun j hj => ?_⟩
    by_cases hji : j = e.x
    · subst hji
      exact hy.wpOp hi ⟨hS, he⟩ ⟨e :: E, fun e' he' _ => List.mem_cons_of_mem _ he', ⟨hS, fun e' he' => (List.mem_cons.1 he').elim (fun q => q ▸ he) (hE e')⟩, H⟩
    · have := ready_mono hj hji
      rw [H.1] at this
      cases this
  | succ fuel ih =>
    intro listed E a w hfree hr hy hS he hE H hcl
    refine ⟨fun h => (by rw [h] at hr; cases hr), fun j hj => ?_⟩
    by_cases hji : j = e.x
    · subst hji
      exact hy.wpOp hi ⟨hS, he⟩ ⟨e :: E, fun e' he' _ => List.mem_cons_of_mem _ he', ⟨hS, fun e' he' => (List.mem_cons.1 he').elim (fun q => q ▸ he) (hE e')⟩, H⟩
    · have h1 := (H (hcl.set hr)).2 j (ready_mono hj hji)
      obtain ⟨hjun, oj, hoj, hall⟩ := mem_ready.1 hj
      have hnot : ∀ d ∈ oj.after, Region.binds md d = true → d.on ≠ e.x := fun d hd hb heq => by
        have h1 := hall d hd hb
        have h0 := (mem_ready.1 hr).1
        rw [heq, getD_both h0] at h1
        cases h1
      have hw : Region.waitsT md ops j e.x = false := by
        cases hc : Region.waitsT md ops j e.x with
        | false => rfl
        | true =>
          obtain ⟨o2, ho2, ⟨d, hd, hb, hon⟩ | ⟨d, hd, hb, od, hod, d2, hd2, hb2, hon⟩⟩ := Region.waitsT_spec hc
          · rw [hoj] at ho2
            cases ho2
            exact absurd hon (hnot d hd hb)
          · rw [hoj] at ho2
            cases ho2
            have q := hcl _ _ hod (hall d hd hb) d2 hd2 hb2
            rw [hon, getD_both (mem_ready.1 hr).1] at q
            cases q
      have h2 := wpOp_putIf hoj (hfree j oj hoj hji hjun hnot) (fun cs b => hsel e.x oi cs b hi) (fun cs b => hsel j oj cs b hoj) hQ hy h1
      have hfree' : ∀ k ok, ops[k]? = some ok → k ≠ e.x → (listed.setIfInBounds j true).getD k true = false →
          (∀ d ∈ ok.after, Region.binds md d = true → d.on ≠ e.x) → oi.apart ops ok = true := fun k ok hk hki hun hno => by
        refine hfree k ok hk hki ?_ hno
        by_cases hjk : j = k
        · subst hjk; exact hjun
        · rw [getD_set_ne true hjk] at hun; exact hun
      refine wpOp_mono (fun a' w' h3 => ?_) h2
      obtain ⟨hy', E', hk, ⟨hs0, hh⟩, hrec⟩ := h3
      have hmem : e ∈ E' := hk e (List.mem_cons_self ..) hw
      refine ⟨E', fun e2 he2 hw2 => hk e2 (List.mem_cons_of_mem _ he2) hw2, ⟨hs0, hh⟩, ih (listed.setIfInBounds j true) E' a' w' hfree' (ready_mono hr (Ne.symm hji)) hy' hs0 (hh e hmem) hh ?_⟩
      rw [Array.setIfInBounds_comm _ _ hji]
      exact wpAnyE_less (fun x hx => (List.mem_cons.1 hx).elim (fun q => q ▸ hmem) id) hrec
end
end Go

namespace Go.Vm

theorem same1_eq {x y : V} (h : same1 x y = true) : x = y := by
  unfold same1 at h
  split at h <;> first
    | rfl
    | (simp only [Bool.and_eq_true, Nat.beq_eq, decide_eq_true_eq] at h; simp_all; done)
    | (rename_i a b; cases a <;> cases b <;> simp_all; done)
    | (rename_i a b c d op a' b' c' d' op'; simp only [Bool.and_eq_true, Nat.beq_eq] at h; cases op <;> cases op' <;> simp_all; done)
    | cases h
theorem sameL_eq : ∀ {xs ys : List V}, sameL xs ys = true → xs = ys
  | [], [], _ => rfl
  | x :: xs, y :: ys, h => by
    simp only [sameL, Bool.and_eq_true] at h
    rw [same1_eq h.1, sameL_eq h.2]
  | [], _ :: _, h => by cases h
  | _ :: _, [], h => by cases h
theorem sameV_eq {x y : V} (h : sameV x y = true) : x = y := by
  unfold sameV at h
  split at h
  · rw [sameL_eq h]
  · exact same1_eq h

theorem opCls_quiet {op : Op} (h : opCls op = 0 ∨ opCls op = 1) : quietOp op = true ∧ notCall op = true := by
  cases op <;> simp only [opCls, quietOp, notCall, cond_true, cond_false, and_true, true_and] at h ⊢ <;> first
    | omega
    | trivial
    | (rename_i c; obtain ⟨callee, xs, ts⟩ := c; cases callee <;> simp_all; rename_i b; cases b <;> simp_all)

section
variable {P : Program} {ro : Nat} {B : World}

/-- An entry of the evaluator, and what it says of the world. -/
def EntOK (P : Program) (ro : Nat) (B : World) (J : Inj) (c : Ent) (e : Held) : Prop :=
  e.x = c.x ∧ ∀ J' st' w', J.le J' → J'.nx = st'.nx → HR J' ro B st'.hp.get w' → vload P st' c.t c.id c.off = some c.v → e.h w'
def EntsOK (P : Program) (ro : Nat) (B : World) (J : Inj) (es : List Ent) (E : List Held) : Prop := ∀ e ∈ E, (∀ w, e.h w) ∨ ∃ c ∈ es, EntOK P ro B J c e

theorem EntsOK.mono {J J' : Inj} (hle : J.le J') {es : List Ent} {E : List Held} (h : EntsOK P ro B J es E) : EntsOK P ro B J' es E := fun e he =>
  (h e he).imp id fun ⟨c, hc, h1, h2⟩ => ⟨c, hc, h1, fun J2 st2 w2 hl => h2 J2 st2 w2 (hle.trans hl)⟩

theorem mem_aliveE {ops : Array Oper} {i : Nat} {c : Ent} : ∀ {es : List Ent}, c ∈ es → Region.waitsT .any ops i c.x = false → c ∈ aliveE ops i es
  | [], h, _ => by cases h
  | e :: r, h, hw => by
    simp only [aliveE]
    rcases List.mem_cons.1 h with rfl | q
    · rw [hw]; exact List.mem_cons_self ..
    · cases Region.waitsT .any ops i e.x with
      | true => exact mem_aliveE q hw
      | false => exact List.mem_cons_of_mem _ (mem_aliveE q hw)
theorem mem_aliveE' {ops : Array Oper} {i : Nat} {c : Ent} : ∀ {es : List Ent}, c ∈ aliveE ops i es → c ∈ es
  | [], h => by cases h
  | e :: r, h => by
    simp only [aliveE] at h
    cases hw : Region.waitsT .any ops i e.x with
    | true => rw [hw] at h; exact List.mem_cons_of_mem _ (mem_aliveE' h)
    | false =>
      rw [hw] at h
      rcases List.mem_cons.1 h with rfl | q
      · exact List.mem_cons_self ..
      · exact List.mem_cons_of_mem _ (mem_aliveE' q)
theorem keepB_mem {st : St} {c : Ent} : ∀ {es : List Ent}, keepB P st es = true → c ∈ es → vload P st c.t c.id c.off = some c.v
  | [], _, h => by cases h
  | e :: r, hk, h => by
    simp only [keepB] at hk
    cases hv : vload P st e.t e.id e.off with
    | none => rw [hv] at hk; cases hk
    | some v =>
      rw [hv] at hk
      dsimp only at hk
      cases hs : sameV v e.v with
      | false => rw [hs] at hk; cases hk
      | true =>
        rw [hs] at hk
        rcases List.mem_cons.1 h with rfl | q
        · rw [hv, sameV_eq hs]
        · exact keepB_mem hk q

theorem HR.empty {J : Inj} {w : World} (h : Old B w) : HR J ro B (T.e : T Blk).get w := ⟨h, fun g b hg => (by rw [T.get_e] at hg; cases hg), fun g g' b b' hg => (by rw [T.get_e] at hg; cases hg)⟩

theorem runO_sound {nt : Nat} {call : CallF} (hcall : CallOK P ro B call) (hname : ∀ (f : Nat) (fn : Func), P.funcs[f]? = some fn → (fn.name == "runtime.NumGoroutine") = false) {ops : Array Oper} {Q : Exit → Act → World → Prop}
    (hsel : Region.noSelect ops = true) (hQp : ∀ c a w, ¬ Q (.panic c) a w) :
    ∀ (fuel : Nat) (listed : Array Bool) (l : List (Nat × Oper)) (es : List Ent) (E : List Held) (fr fr' : T V) (st st' : St) (J : Inj) (w : World) (a : Act),
      planGo ops fuel listed = some l → runO P ro nt call ops l es fr st = some (fr', st') → J.nx = st.nx → HR J ro B st.hp.get w → ro ≤ J.nx → FR J nt fr a.tmps → a.defers = [] →
      EntsOK P ro B J es E → (∀ e ∈ E, e.h w) → (∀ c ∈ es, vload P st c.t c.id c.off = some c.v) → (∀ J' a' w', Post J ro B st w J' st' w' → FR J' nt fr' a'.tmps → a'.defers = [] → Q .normal a' w') → wpAnyE P .any ops Q (Old B) fuel listed E a w := by
  intro fuel
  induction fuel with
  | zero =>
    intro listed l es E fr fr' st st' J w a hp h hn hh hro hf hd hes hE hvl hQ
    simp only [planGo] at hp
    split at hp
    · rename_i hr
      cases hp
      simp only [runO, Option.some.injEq, Prod.mk.injEq] at h
      obtain ⟨rfl, rfl⟩ := h
      exact ⟨hr, hQ J a w (Post.refl hn hh hro) hf hd⟩
    · cases hp
  | succ fuel ih =>
    intro listed l es E fr fr' st st' J w a hp h hn hh hro hf hd hes hE hvl hQ
    have hsel' := Region.noSelect_spec hsel
    simp only [planGo] at hp
    split at hp
    · -- one that may come first
      rename_i i hfind
      split at hp
      · rename_i o hfree hi
        split at hp
        · rename_i l' hp'
          cases hp
          have hmem : i ∈ Region.ready .any ops listed := List.mem_of_find?_eq_some hfind
          have hcls : Nat.ble (opCls o.op) 1 = true := by
            have := List.find?_some hfind
            simpa only [clsAt, hi] using this
          rw [Nat.ble_eq] at hcls
          have go : ∀ (v : Value) (e : Held) (es' : List Ent) (fr1 : T V), e.x = i → YieldsIf P ops (fun w => Old B w ∧ e.h w) o v a → e.h w → EntsOK P ro B J es' (e :: E) → (∀ c ∈ es', vload P st c.t c.id c.off = some c.v) → FR J nt fr1 (a.put o.dst v).tmps →
              runO P ro nt call ops l' es' fr1 st = some (fr', st') → wpAnyE P .any ops Q (Old B) (fuel + 1) listed E a w := by
            intro v e es' fr1 hx hy he hes' hvl' hf1 hrun
            subst hx
            exact wpAnyE_first e hi hsel' (fun c a w q => (hQp _ _ _ q).elim) fuel listed E a w (Region.free_spec hi hfree) hmem hy hh.base he hE
              (ih (listed.setIfInBounds e.x true) l' es' (e :: E) fr1 fr' st st' J w _ hp' hrun hn hh hro hf1 (by rw [put_defers]; exact hd) hes' (fun e' he' => (List.mem_cons.1 he').elim (fun q => q ▸ he) (hE e')) hvl' hQ)
          have triv : EntsOK P ro B J es (⟨i, fun _ => True⟩ :: E) := fun e he => (List.mem_cons.1 he).elim (fun q => .inl (by subst q; intro _; trivial)) (hes e)
          simp only [runO] at h
          cases hw : vwanted ops fr o with
          | none => simp [hw] at h
          | some x =>
            cases x with
            | false =>
              simp only [hw] at h
              cases hpt : vput nt fr o.dst none with
              | none => simp [hpt] at h
              | some fr1 =>
                simp only [hpt] at h
                exact go undef ⟨i, fun _ => True⟩ es fr1 rfl (.inr ⟨vwanted_spec hf hw, rfl⟩) trivial triv hvl (hf.put (.inr ⟨rfl, rfl⟩) hpt) h
            | true =>
              simp only [hw] at h
              split at h
              · rename_i hc
                obtain ⟨q1, q2⟩ := opCls_quiet (.inl hc)
                cases hv : vop P ro call fr ⟨st.nx, .e, 0⟩ o.op with
                | none => simp [hv] at h
                | some r =>
                  obtain ⟨v, st1⟩ := r
                  simp only [hv] at h
                  cases hpt : vput nt fr o.dst v with
                  | none => simp [hpt] at h
                  | some fr1 =>
                    simp only [hpt] at h
                    obtain ⟨_, x, rfl, _, hok⟩ := vop_quiet (w := w) (st := ⟨st.nx, .e, 0⟩) hn (HR.empty hh.base) hf q1 q2 hv
                    refine go (x.real J) ⟨i, fun _ => True⟩ es fr1 rfl (.inl ⟨vwanted_spec hf hw, fun w2 hw2 => ?_⟩) trivial triv hvl (hf.put (.inl ⟨x, rfl, rfl, hok⟩) hpt) h
                    obtain ⟨_, x', hx', hr, _⟩ := vop_quiet (w := w2) (st := ⟨st.nx, .e, 0⟩) hn (HR.empty hw2.1) hf q1 q2 hv
                    cases hx'
                    exact hr
              · rename_i hc
                obtain ⟨q1, q2⟩ := opCls_quiet (.inr hc)
                split at h
                · rename_i t x hop
                  split at h
                  · rename_i id off hx
                    cases hv : vload P st t id off with
                    | none => simp [hv] at h
                    | some v =>
                      simp only [hv] at h
                      cases hpt : vput nt fr o.dst (some v) with
                      | none => simp [hpt] at h
                      | some fr1 =>
                        simp only [hpt] at h
                        have vl : ∀ st2 : St, vload P st2 t id off = some v → vop P ro call fr st2 o.op = some (some v, st2) := fun st2 h2 => by rw [hop]; simp only [vop, hx, h2]
                        have yields : ∀ (J2 : Inj) (st2 : St) (w2 : World), J.le J2 → J2.nx = st2.nx → HR J2 ro B st2.hp.get w2 → vload P st2 t id off = some v → (execOp a.eval o).run P w2 = .ok (.value (v.real J)) w2 ∧ v.ok J2.nx := by
                          intro J2 st2 w2 hl hn2 hh2 hv2
                          obtain ⟨_, x', hx', hr, hok⟩ := vop_quiet (w := w2) (st := st2) hn2 hh2 (hf.mono hl) q1 q2 (vl st2 hv2)
                          cases hx'
                          obtain ⟨_, x'', hx'', _, hok0⟩ := vop_quiet (w := w) (st := st) hn hh hf q1 q2 (vl st hv)
                          cases hx''
                          exact ⟨by rw [hr, V.real_le hl _ hok0], hok⟩
                        have here := yields J st w (Inj.le.refl J) hn hh hv
                        refine go (v.real J) ⟨i, fun w2 => (execOp a.eval o).run P w2 = .ok (.value (v.real J)) w2⟩ (⟨i, t, id, off, v⟩ :: es) fr1 rfl (.inl ⟨vwanted_spec hf hw, fun w2 hw2 => hw2.2⟩) here.1 ?_ (fun c hc => (List.mem_cons.1 hc).elim (fun q => by subst q; exact hv) (hvl c)) (hf.put (.inl ⟨v, rfl, rfl, by rw [hn] at *; exact here.2⟩) hpt) h
                        intro e he
                        rcases List.mem_cons.1 he with rfl | q
                        · exact .inr ⟨_, List.mem_cons_self .., rfl, fun J2 st2 w2 hl hn2 hh2 hv2 => (yields J2 st2 w2 hl hn2 hh2 hv2).1⟩
                        · exact (hes e q).imp (fun q => q) fun ⟨c, hc, hok⟩ => ⟨c, List.mem_cons_of_mem _ hc, hok⟩
                  · cases h
                · cases h
              · rename_i h0 h1
                exfalso
                rcases Nat.le_one_iff_eq_zero_or_eq_one.1 hcls with q | q
                · exact h0 q
                · exact h1 q
        · cases hp
      · cases hp
    · -- the only one that may come
      rename_i hfind
      split at hp
      · rename_i i hr
        split at hp
        · rename_i o hi
          split at hp
          · rename_i l' hp'
            cases hp
            have hcls : ¬ opCls o.op ≤ 1 := by
              have := List.find?_eq_none.1 hfind i (by rw [hr]; exact List.mem_singleton.2 rfl)
              simpa only [clsAt, hi, Nat.ble_eq] using this
            intro hcl0
            refine ⟨fun h0 => (by rw [hr] at h0; cases h0), fun j hj => ?_⟩
            rw [hr] at hj
            obtain rfl : j = i := List.mem_singleton.1 hj
            unfold wpOp
            simp only [hi]
            simp only [runO] at h
            cases hw : vwanted ops fr o with
            | none => simp [hw] at h
            | some x =>
              rw [vwanted_spec hf hw]
              cases x with
              | false =>
                simp only [hw] at h
                cases hpt : vput nt fr o.dst none with
                | none => simp [hpt] at h
                | some fr1 =>
                  simp only [hpt] at h
                  simp only [Bool.false_eq_true, if_false]
                  exact ⟨E, fun e he _ => he, ⟨hh.base, hE⟩, ih _ l' es E fr1 fr' st st' J w _ hp' h hn hh hro (hf.put (.inr ⟨rfl, rfl⟩) hpt) (by rw [put_defers]; exact hd) hes hE hvl hQ⟩
              | true =>
                simp only [hw] at h
                split at h
                · omega
                · omega
                · cases hv : vop P ro call fr ⟨st.nx, st.hp, st.nx⟩ o.op with
                  | none => simp [hv] at h
                  | some r =>
                    obtain ⟨v, st1⟩ := r
                    simp only [hv] at h
                    generalize hk : (Nat.ble st.nx st1.ver || keepB P st1 (aliveE ops j es)) = kk at h
                    cases kk with
                    | false => simp at h
                    | true =>
                      simp only at h
                      cases hpt : vput nt fr o.dst v with
                      | none => simp [hpt] at h
                      | some fr1 =>
                        simp only [hpt, natF_eq] at h
                        simp only [if_true]
                        refine .inl (wp_of_done (vop_sound (st := ⟨st.nx, st.hp, st.nx⟩) hcall hname hn hh hro hf hv) fun J1 w1 u hpost0 hu => ?_)
                        have hpost : Post J ro B st w J1 ⟨st1.nx, st1.hp, low st.ver st1.ver⟩ w1 := ⟨hpost0.le, hpost0.nx, hpost0.hr, hpost0.below, ⟨hpost0.ext.nx, low_left _ _, fun g b hg he => hpost0.ext.hp g b hg (Nat.lt_of_lt_of_le he (low_right _ _))⟩, hpost0.ro, hpost0.fr⟩
                        have hkeep : ∀ c ∈ aliveE ops j es, vload P st1 c.t c.id c.off = some c.v := by
                          intro c hc
                          rw [Bool.or_eq_true] at hk
                          rcases hk with q | q
                          · rw [Nat.ble_eq] at q
                            have h0 := hvl c (mem_aliveE' hc)
                            have hb : ∃ b, st.hp.get c.id = some b := by
                              unfold vload at h0
                              cases hg : st.hp.get c.id with
                              | none => simp [hg] at h0
                              | some b => exact ⟨b, rfl⟩
                            obtain ⟨b, hb⟩ := hb
                            have hlt := (hh.blk c.id b hb).1
                            have h1 := hpost0.ext.hp c.id b hb (by omega)
                            unfold vload at h0 ⊢
                            rw [h1]
                            rw [hb] at h0
                            exact h0
                          · exact keepB_mem q hc
                        have hE' : EntsOK P ro B J1 (aliveE ops j es) (E.filter fun e => !Region.waitsT .any ops j e.x) := by
                          intro e he
                          obtain ⟨he1, he2⟩ := List.mem_filter.1 he
                          refine ((hes.mono hpost.le) e he1).imp id ?_
                          rintro ⟨c, hc, h1, h2⟩
                          exact ⟨c, mem_aliveE hc (by rw [← h1]; simpa using he2), h1, h2⟩
                        have hold : ∀ e ∈ E.filter fun e => !Region.waitsT .any ops j e.x, e.h w1 := by
                          intro e he
                          rcases hE' e he with q | ⟨c, hc, h1, h2⟩
                          · exact q w1
                          · exact h2 J1 st1 w1 (Inj.le.refl _) hpost0.nx hpost0.hr (hkeep c hc)
                        exact ⟨E.filter fun e => !Region.waitsT .any ops j e.x, fun e he hwt => List.mem_filter.2 ⟨he, by simpa using hwt⟩, ⟨hpost.hr.base, hold⟩,
                          ih _ l' _ _ fr1 fr' _ st' J1 w1 _ hp' h hpost.nx hpost.hr hpost.ro ((hf.mono hpost.le).put hu hpt) (by rw [put_defers]; exact hd) hE' hold hkeep (fun J2 a2 w2 p2 f2 d2 => hQ J2 a2 w2 (hpost.trans p2) f2 d2)⟩
          · cases hp
        · cases hp
      · cases hp

/-! ### Rows of constants whose turn may come early -/
open Go.RowKit

/-- What names it: a row of some elements, or a variable. -/
def mkA : Option Nat → Nat → V
  | some n, g => .sl g 0 n n false
  | none, g => .p g 0
def rkA : Option Nat → Nat → Value
  | some n, x => .slice (some ⟨x, 0, none⟩) n n
  | none, x => .pointer (some ⟨x, 0, none⟩)
theorem mkA_real (J : Inj) (n : Option Nat) (x : Nat) : (mkA n J.nx).real (J.push (x, 0, 0)) = rkA n x := by
  cases n <;> simp [mkA, rkA, V.real, Inj.push_self]
theorem mkA_ok (n : Option Nat) (g m : Nat) (h : g < m) : (mkA n g).ok m := by
  cases n <;> simp [mkA, V.ok, h]

/-- What is known of a row of constants that is laid anew. -/
structure AL (P : Program) (o : Oper) (d : Nat) (n : Option Nat) (cs : List V) (e : TypeId) (b : Blk) : Prop where
  dst : o.dst = some d
  grd : o.guard = none
  cls : ¬ opCls o.op ≤ 1
  sz : b.sz = cs.length
  op : b.op = false
  mp : b.mp = none
  get : ∀ k : Nat, b.get k = cs[k]?
  ok : ∀ J : Inj, ∀ u ∈ cs, u.ok J.nx
  atom : ∀ u ∈ cs, u.atom = true
  run : ∀ (J : Inj) (w : World) (a : Act), (execOp a.eval o).run P w = .ok (.value (rkA n w.heap.size)) (w.alloc (.cells (cs.map (V.real J)).toArray e))
  vop : ∀ (ro : Nat) (call : CallF) (fr : T V) (st : St), vop P ro call fr st o.op = some (some (mkA n st.nx), st.alloc b)

theorem opnd_e {x : Operand} {v : V} {fr : T V} (h : opnd .e x = some v) : opnd fr x = some v := by
  cases x with
  | tmp t => simp only [opnd, T.get_e] at h; cases h
  | _ => exact h
theorem partsOf_e {fr : T V} : ∀ {ps : List (Nat × Operand)} {r : List (Nat × V)}, partsOf .e ps = some r → partsOf fr ps = some r
  | [], r, h => h
  | (i, o) :: ps, r, h => by
    simp only [partsOf] at h ⊢
    cases h1 : opnd .e o with
    | none => simp [h1] at h
    | some v =>
      simp only [h1] at h
      cases h2 : partsOf .e ps with
      | none => simp [h2] at h
      | some vs =>
        simp only [h2] at h
        simp only [opnd_e h1, partsOf_e h2]
        exact h

theorem AL.of {o : Oper} (h : allocB P o = true) : ∃ d n cs e b, AL P o d n cs e b := by
  obtain ⟨dst, op, ty, pos, after, guard⟩ := o
  unfold allocB at h
  split at h
  · rename_i d t n ps h1 h2 h3
    dsimp only at h1 h2 h3
    subst h1
    subst h2
    subst h3
    split at h
    · rename_i pv hps
      cases hb : vbuildSlice P ⟨0, .e, 0⟩ t n pv with
      | none => rw [hb] at h; cases h
      | some u =>
        obtain ⟨v, st'⟩ := u
        obtain ⟨e, es, cs, b, q1, q2, q3⟩ := vbuildSlice_fine hb
        obtain ⟨b1, b2, b3, b4, b5, b6⟩ := blkOf_spec q1
        have hp : ∀ (J : Inj) (a : Act), pv.map (fun x => (x.1, x.2.real J)) = ps.toList.map (fun p => (p.1, a.eval p.2)) ∧ ∀ x ∈ pv, x.2.ok J.nx := by
          intro J a
          have hf : FR J 0 (.e : T V) a.tmps := ⟨Nat.zero_le _, fun t v ht => by rw [T.get_e] at ht; cases ht⟩
          obtain ⟨p1, p2⟩ := partsOf_spec (J := J) (f := a.eval) (fun x v hx => opnd_spec hf x v hx) _ _ hps
          exact ⟨p1.symm, p2⟩
        refine ⟨d, some n, cs, e, b, rfl, rfl, ?_, b1, b3, blkOf_mp q1, b5, fun J => ?_, b6, fun J w a => ?_, fun ro call fr st => ?_⟩
        · simp [opCls, quietOp]
        · exact (q3 J (hp J ⟨#[], []⟩).2).1
        · have hm : (ps.map fun p => (p.1, a.eval p.2)) = (pv.map fun x => (x.1, x.2.real J)).toArray := by
            apply Array.ext'; simpa using (hp J a).1.symm
          have he : execOp a.eval ⟨some d, .buildSlice t n ps, ty, pos, after, none⟩ = (do pure (.value (← Instr.buildSlice t n (ps.map fun p => (p.1, a.eval p.2)))) : Sem Next) := rfl
          rw [he, hm]
          simp only [Sem.run_bind, (q3 J (hp J a).2).2 w, Result.andThen_ok, Sem.run_pure, rkA]
        · simp only [Go.Vm.vop, partsOf_e hps, q2 st, mkA]
    · cases h
  · rename_i d t h1 h2 h3
    dsimp only at h1 h2 h3
    subst h1
    subst h2
    subst h3
    cases hz : zeroOf P t with
    | none => simp [hz] at h
    | some z =>
      cases hs : sizeB P t with
      | none => simp [hz, hs] at h
      | some n =>
        simp only [hz, hs] at h
        unfold valloc at h
        cases hb : blkOf z.cells n false with
        | none => simp [hb] at h
        | some b =>
          obtain ⟨b1, b2, b3, b4, b5, b6⟩ := blkOf_spec hb
          refine ⟨d, none, z.cells, t, b, rfl, rfl, ?_, b1, b3, blkOf_mp hb, b5, fun J => ?_, b6, fun J w a => ?_, fun ro call fr st => ?_⟩
          · simp [opCls, quietOp]
          · obtain ⟨_, _, _, zok⟩ := zeroOf_real J J.nx hz
            exact V.ok_cells zok
          · have he : execOp a.eval ⟨some d, .alloc t, ty, pos, after, none⟩ = (do pure (.value (← Instr.alloc t true (.tuple #[]))) : Sem Next) := rfl
            rw [he]
            simp [Instr.alloc, zeroOf_run J hz, newVar, newRow, V.cells_real, rkA]
          · simp only [Go.Vm.vop, hz, hs, valloc, hb, natF_eq, mkA]
  · cases h

/-- Two states of the temporaries that differ at what is pending alone. -/
structure Ax (ops : Array Oper) (pens : List (Nat × Nat)) (a0 a : Act) : Prop where
  df : a.defers = a0.defers
  sz : a.tmps.size = a0.tmps.size
  get : ∀ t, (∀ q ∈ pens, ∀ o, ops[q.1]? = some o → o.dst ≠ some t) → a.tmps[t]? = a0.tmps[t]?

theorem Ax.put {ops : Array Oper} {pens : List (Nat × Nat)} {a0 a : Act} (h : Ax ops pens a0 a) (dst : Option Nat) (u : Value) : Ax ops pens (a0.put dst u) (a.put dst u) := by
  cases dst with
  | none => exact h
  | some d =>
    refine ⟨h.df, by simp [Act.put, h.sz], fun t ht => ?_⟩
    simp only [Act.put]
    rw [Array.getElem?_setIfInBounds, Array.getElem?_setIfInBounds, h.sz, h.get t ht]

theorem Ax.op {ops : Array Oper} {pens : List (Nat × Nat)} {a0 a : Act} (h : Ax ops pens a0 a) (hsel : Region.noSelect ops = true) {i : Nat} {o : Oper} (hi : ops[i]? = some o)
    (hap : ∀ q ∈ pens, ∀ oq, ops[q.1]? = some oq → oq.apart ops o = true) : execOp a.eval o = execOp a0.eval o ∧ Region.wanted o (yielded ops a.tmps) = Region.wanted o (yielded ops a0.tmps) := by
  have hl : ∀ t, t ∈ o.looksAt ops → a.tmps[t]? = a0.tmps[t]? := fun t ht => h.get t fun q hq oq hoq hd => (Oper.apart_spec (hap q hq oq hoq)).1 t hd ht
  refine ⟨execOp_congr o (fun cs b => Region.noSelect_spec hsel i o cs b hi) fun x hx => ?_, ?_⟩
  · cases x with
    | tmp t =>
      have := hl t (by
        unfold Oper.looksAt
        refine List.mem_append_left _ (List.mem_filterMap.2 ⟨.tmp t, by simpa using hx, rfl⟩))
      simp [Act.eval, Array.getD_eq_getD_getElem?, this]
    | _ => rfl
  · unfold Region.wanted
    cases hg : o.guard with
    | none => rfl
    | some jw =>
      obtain ⟨j, want⟩ := jw
      simp only [yielded]
      cases hd : (ops[j]?).bind (·.dst) with
      | none => rfl
      | some d =>
        have := hl d (by
          unfold Oper.looksAt
          refine List.mem_append_right _ ?_
          simp [hg, hd])
        simp only [Option.bind_some, this]

/-- How many have not come up. -/
def cntL (ops : Array Oper) (listed : Array Bool) : Nat := (List.range ops.size).countP fun j => !listed.getD j true

theorem cnt_set {listed : Array Bool} {i : Nat} (h : listed.getD i true = false) : ∀ n, i < n → (List.range n).countP (fun j => !(listed.setIfInBounds i true).getD j true) + 1 = (List.range n).countP fun j => !listed.getD j true := by
  have hi : (listed.setIfInBounds i true).getD i true = true := by
    rcases Nat.lt_or_ge i listed.size with q | q
    · simp [q]
    · simp [q]
  have hlow : ∀ n, n ≤ i → (List.range n).countP (fun j => !(listed.setIfInBounds i true).getD j true) = (List.range n).countP fun j => !listed.getD j true := by
    intro n hn
    refine List.countP_congr fun j hj => ?_
    rw [List.mem_range] at hj
    rw [getD_set_ne true (by omega)]
  intro n
  induction n with
  | zero => intro q; omega
  | succ n ih =>
    intro hn
    rw [List.range_succ, List.countP_append, List.countP_append]
    simp only [List.countP_cons, List.countP_nil]
    by_cases e : i = n
    · subst e
      rw [hlow i (Nat.le_refl _), hi, h]
      simp
    · rw [getD_set_ne true e]
      have := ih (by omega)
      omega

theorem cnt_pos {listed : Array Bool} {i n : Nat} (h : listed.getD i true = false) (hi : i < n) : 0 < (List.range n).countP fun j => !listed.getD j true := by
  rw [List.countP_pos_iff]
  exact ⟨i, List.mem_range.2 hi, by simp [h]⟩

/-- What came up before its turn: where it lies. -/
def Pen (P : Program) (ops : Array Oper) (N0 : Nat) (J : Inj) (st : St) (w : World) (a : Act) (q : Nat × Nat) : Prop :=
  ∃ o d n cs e b, ops[q.1]? = some o ∧ AL P o d n cs e b ∧ (d < a.tmps.size → a.tmps[d]? = some (rkA n q.2)) ∧ N0 ≤ q.2 ∧ q.2 < w.heap.size ∧ Free J st.hp.get q.2 ∧ w.heap[q.2]? = some (.cells (cs.map (V.real J)).toArray e)

structure PInv (P : Program) (ro : Nat) (B : World) (nt : Nat) (ops : Array Oper) (J0 : Inj) (st0 : St) (w0 : World) (lA : Array Bool) (es : List Ent) (fr : T V) (st : St) (F : Nat) (J : Inj) (w : World) (a0 a : Act) (listed : Array Bool) (pens : List (Nat × Nat)) (E : List Held) : Prop where
  acc : Post J0 ro B st0 w0 J st w
  fr : FR J nt fr a0.tmps
  df : a0.defers = []
  ls : listed.size = ops.size
  la : lA.size = ops.size
  lr : ∀ j, j < ops.size → listed.getD j true = (lA.getD j true || pens.any fun q => q.1 == j)
  cnt : cntL ops listed ≤ F
  ax : Ax ops pens a0 a
  pn : ∀ q ∈ pens, lA.getD q.1 true = false ∧ Pen P ops w0.heap.size J st w a q
  al : ∀ q ∈ pens, allocAt P ops q.1 = true
  clo : ∀ q ∈ pens, ∀ x, listed.getD x true = false → Region.waitsT .any ops q.1 x = false
  rr : pens.Pairwise fun p q => p.1 ≠ q.1 ∧ p.2 ≠ q.2
  hes : EntsOK P ro B J es E
  hE : ∀ e ∈ E, e.h w
  hw : ∀ e ∈ E, ∀ q ∈ pens, Region.waitsT .any ops q.1 e.x = false
  hvl : ∀ c ∈ es, vload P st c.t c.id c.off = some c.v

theorem getD_lt {l : Array Bool} {i : Nat} (h : l.getD i true = false) : i < l.size := by
  rcases Nat.lt_or_ge i l.size with q | q
  · exact q
  · simp [q] at h
theorem getD_tf {l : Array Bool} {i : Nat} (h : i < l.size) : l.getD i true = l.getD i false := by simp [h]

theorem Pen.keep {ops : Array Oper} {N0 : Nat} {J J1 : Inj} {st st1 : St} {w w1 : World} {a : Act} {q : Nat × Nat} (h : Pen P ops N0 J st w a q) (hle : J.le J1) (hs : w.heap.size ≤ w1.heap.size)
    (hk : w1.heap[q.2]? = w.heap[q.2]? ∧ Free J1 st1.hp.get q.2) {dst : Option Nat} {u : Value} (hd : ∀ o, ops[q.1]? = some o → o.dst = none ∨ o.dst ≠ dst) : Pen P ops N0 J1 st1 w1 (a.put dst u) q := by
  obtain ⟨o, d, n, cs, e, b, h1, h2, h3, h4, h5, h6, h7⟩ := h
  refine ⟨o, d, n, cs, e, b, h1, h2, fun hlt => ?_, h4, by omega, hk.2, ?_⟩
  · have hne : dst ≠ some d := by
      rcases hd o h1 with q | q
      · rw [h2.dst] at q; cases q
      · rw [h2.dst] at q; exact fun z => q z.symm
    cases dst with
    | none => exact h3 hlt
    | some d' =>
      have : d' ≠ d := fun z => hne (by rw [z])
      simp only [Act.put, Array.size_setIfInBounds] at hlt ⊢
      rw [Array.getElem?_setIfInBounds_ne this]
      exact h3 hlt
  · rw [hk.1, h7]
    congr 3
    exact List.map_congr_left fun u hu => (V.real_le hle u (h2.ok J u hu)).symm

/-- What may come up in truth is i, or a row of constants. -/
theorem may_ready {ops : Array Oper} {lA listed : Array Bool} {pens : List (Nat × Nat)} {i j : Nat} (ls : listed.size = ops.size) (lr : ∀ j, j < ops.size → listed.getD j true = (lA.getD j true || pens.any fun q => q.1 == j))
    (al : ∀ q ∈ pens, allocAt P ops q.1 = true) (hip : ∀ q ∈ pens, q.1 ≠ i) (hall : (Region.ready .any ops (mayL P ops lA i)).all (fun j => Nat.beq j i || allocAt P ops j) = true) (hj : j ∈ Region.ready .any ops listed) : j = i ∨ allocAt P ops j = true := by
  by_cases e : j = i
  · exact .inl e
  · cases ha : allocAt P ops j with
    | true => exact .inr rfl
    | false =>
      exfalso
      obtain ⟨h0, o, ho, hdep⟩ := mem_ready.1 hj
      have hjl : j < ops.size := by
        rcases Nat.lt_or_ge j ops.size with q | q
        · exact q
        · rw [Array.getElem?_eq_none q] at ho; cases ho
      have hmay : ∀ k d, k < ops.size → (mayL P ops lA i).getD k d = (lA.getD k true || (allocAt P ops k && !(Nat.beq k i))) := by
        intro k d hk
        unfold mayL
        simp [Array.getD_eq_getD_getElem?, hk]
      have hm : j ∈ Region.ready .any ops (mayL P ops lA i) := by
        refine mem_ready.2 ⟨?_, o, ho, fun e' he' hb => ?_⟩
        · rw [hmay j true hjl, ha]
          have := lr j hjl
          rw [h0] at this
          simp only [Bool.false_and, Bool.or_false]
          cases hq : lA.getD j true with
          | false => rfl
          | true => rw [hq] at this; simp at this
        · have h1 := hdep e' he' hb
          have hlt : e'.on < ops.size := by
            rcases Nat.lt_or_ge e'.on ops.size with q | q
            · exact q
            · rw [← ls] at q; simp [q] at h1
          rw [hmay _ false hlt]
          have h2 := lr e'.on hlt
          rw [getD_tf (by rw [ls]; exact hlt), h1] at h2
          cases hq : lA.getD e'.on true with
          | true => rfl
          | false =>
            rw [hq, Bool.false_or] at h2
            obtain ⟨q, hq1, hq2⟩ := List.any_eq_true.1 h2.symm
            rw [beq_iff_eq] at hq2
            have := al q hq1
            rw [hq2] at this
            have hne : Nat.beq e'.on i = false := by
              cases hz : Nat.beq e'.on i with
              | false => rfl
              | true => rw [Nat.beq_eq] at hz; exact absurd (hq2.trans hz) (hip q hq1)
            rw [this, hne]; rfl
      have := List.all_eq_true.1 hall j hm
      rw [ha, Bool.or_false, Nat.beq_eq] at this
      exact e this

theorem Pen.free {ops : Array Oper} {N0 : Nat} {J : Inj} {st : St} {w : World} {a : Act} {q : Nat × Nat} (h : Pen P ops N0 J st w a q) : N0 ≤ q.2 ∧ q.2 < w.heap.size ∧ Free J st.hp.get q.2 := by
  obtain ⟨o, d, n, cs, e, b, h1, h2, h3, h4, h5, h6, h7⟩ := h
  exact ⟨h4, h5, h6⟩

theorem pen_spec {ops : Array Oper} (h : penOK P ops = true) {p j : Nat} {x y : Oper} (hp : ops[p]? = some x) (hj : ops[j]? = some y) (ha : allocAt P ops p = true) (hne : j ≠ p) :
    (Region.waitsFor .any ops j p = true ∨ x.apart ops y = true) ∧ (allocAt P ops j = true → x.dst ≠ y.dst) := by
  have lt : ∀ {k : Nat} {o : Oper}, ops[k]? = some o → k < ops.size := fun {k o} hk => by
    rcases Nat.lt_or_ge k ops.size with q | q
    · exact q
    · rw [Array.getElem?_eq_none q] at hk; cases hk
  unfold penOK at h
  have h1 := List.all_eq_true.1 h p (List.mem_range.2 (lt hp))
  rw [ha, Bool.not_true, Bool.false_or] at h1
  have h2 := List.all_eq_true.1 h1 j (List.mem_range.2 (lt hj))
  have hb : Nat.beq j p = false := by
    cases hz : Nat.beq j p with
    | false => rfl
    | true => rw [Nat.beq_eq] at hz; exact absurd hz hne
  rw [hb, Bool.false_or, hp, hj] at h2
  simp only [Bool.and_eq_true, Bool.or_eq_true, Bool.not_eq_true', decide_eq_true_eq] at h2
  refine ⟨h2.1, fun q => ?_⟩
  rcases h2.2 with z | z
  · rw [q] at z; cases z
  · exact z

theorem getD_set_self {l : Array Bool} (i : Nat) : (l.setIfInBounds i true).getD i true = true := by
  rcases Nat.lt_or_ge i l.size with q | q
  · simp [q]
  · simp [q]
theorem pw_of {α : Type} {R : α → α → Prop} (hs : ∀ a b, R a b → R b a) : ∀ {l : List α}, l.Pairwise R → ∀ a ∈ l, ∀ b ∈ l, a ≠ b → R a b
  | [], _, a, ha, _, _, _ => by cases ha
  | x :: l, h, a, ha, b, hb, hne => by
    obtain ⟨h1, h2⟩ := List.pairwise_cons.1 h
    rcases List.mem_cons.1 ha with e1 | ha1
    · rcases List.mem_cons.1 hb with e2 | hb1
      · exact absurd (e1.trans e2.symm) hne
      · rw [e1]; exact h1 b hb1
    · rcases List.mem_cons.1 hb with e2 | hb1
      · rw [e2]; exact hs _ _ (h1 a ha1)
      · exact pw_of hs h2 a ha1 b hb1 hne

theorem HR.under0 {J : Inj} {B : World} {h : Nat → Option Blk} {w w' : World} (hh : HR J ro B h w) (hb : Below w.heap.size w w') : HR J ro B h w' := by
  refine ⟨hh.base.below (hb.mono hh.base.size), fun g b hg => ?_, hh.inj⟩
  have h1 := hh.blk g b hg
  have h2 := hb.block _ h1.lt
  unfold BR CR MR at *
  rw [h2]
  exact h1
theorem HR.more {J : Inj} {st : St} {w : World} (hh : HR J ro B st.hp.get w) (o : Obj) : HR J ro B st.hp.get (w.alloc o) := hh.under0 ((Below.refl _ w).alloc (Nat.le_refl _) o)
theorem Post.more {J : Inj} {st : St} {w : World} (hn : J.nx = st.nx) (hh : HR J ro B st.hp.get w) (hro : ro ≤ J.nx) (o : Obj) : Post J ro B st w J st (w.alloc o) :=
  ⟨Inj.le.refl J, hn, hh.more o, (Below.refl _ w).alloc hh.base.size o, Ext.refl _, hro, Fr.same fun i hi => Below.heap_alloc w o i hi⟩

/-- A region whose order is open, where rows of constants may be laid before their turn. -/
theorem runP_sound {nt : Nat} {call : CallF} (hcall : CallOK P ro B call) (hname : ∀ (f : Nat) (fn : Func), P.funcs[f]? = some fn → (fn.name == "runtime.NumGoroutine") = false) {ops : Array Oper} {Q : Exit → Act → World → Prop}
    (hsel : Region.noSelect ops = true) (hQp : ∀ c a w, ¬ Q (.panic c) a w) (hpen : penOK P ops = true) {J0 : Inj} {st0 : St} {w0 : World} {fr' : T V} {st' : St} (hB0 : B.heap.size ≤ w0.heap.size)
    (hQ : ∀ J' a' w', Post J0 ro B st0 w0 J' st' w' → FR J' nt fr' a'.tmps → a'.defers = [] → Q .normal a' w') :
    ∀ (fuel : Nat) (lA : Array Bool) (l : List (Nat × Oper)) (es : List Ent) (fr : T V) (st : St), planP P ops fuel lA = some l → runO P ro nt call ops l es fr st = some (fr', st') →
      ∀ (F : Nat) (J : Inj) (w : World) (a0 a : Act) (listed : Array Bool) (pens : List (Nat × Nat)) (E : List Held), PInv P ro B nt ops J0 st0 w0 lA es fr st F J w a0 a listed pens E → wpAnyE P .any ops Q (Old B) F listed E a w := by
  have lt : ∀ {k : Nat} {o : Oper}, ops[k]? = some o → k < ops.size := fun {k o} hk => by
    rcases Nat.lt_or_ge k ops.size with q | q
    · exact q
    · rw [Array.getElem?_eq_none q] at hk; cases hk
  have hsel' := Region.noSelect_spec hsel
  intro fuel
  induction fuel with
  | zero =>
    intro lA l es fr st hp h F J w a0 a listed pens E I
    simp only [planP] at hp
    split at hp
    · rename_i hall
      cases hp
      simp only [runO, Option.some.injEq, Prod.mk.injEq] at h
      obtain ⟨rfl, rfl⟩ := h
      have hl : ∀ j, j < ops.size → lA.getD j true = true := fun j hj => by
        rw [getD_tf (by rw [I.la]; exact hj)]
        exact List.all_eq_true.1 hall j (List.mem_range.2 hj)
      have hpe : pens = [] := by
        cases pens with
        | nil => rfl
        | cons q r =>
          obtain ⟨h1, o, d, n, cs, e, b, h2, _⟩ := I.pn q (List.mem_cons_self ..)
          rw [hl q.1 (lt h2)] at h1
          cases h1
      subst hpe
      have hr : Region.ready .any ops listed = [] := by
        refine List.eq_nil_iff_forall_not_mem.2 fun j hj => ?_
        obtain ⟨h0, o, ho, _⟩ := mem_ready.1 hj
        rw [I.lr j (lt ho), hl j (lt ho)] at h0
        cases h0
      have hf : FR J nt fr a.tmps := ⟨by rw [I.ax.sz]; exact I.fr.size, fun t v ht => by rw [I.ax.get t (fun q hq => by cases hq)]; exact I.fr.get t v ht⟩
      have q := hQ J a w I.acc hf (I.ax.df.trans I.df)
      cases F with
      | zero => exact ⟨hr, q⟩
      | succ F => exact fun _ => ⟨fun _ => q, fun i hi => by rw [hr] at hi; cases hi⟩
    · cases hp
  | succ fuel ih =>
    intro lA l es fr st hp h
    -- whatever comes next, and has not come up
    have common : ∀ {i : Nat} {o : Oper}, ops[i]? = some o → i ∈ Region.ready .any ops lA → ∀ {F : Nat} {J : Inj} {w : World} {a0 a : Act} {listed : Array Bool} {pens : List (Nat × Nat)} {E : List Held},
        PInv P ro B nt ops J0 st0 w0 lA es fr st F J w a0 a listed pens E → (∀ q ∈ pens, q.1 ≠ i) →
        listed.getD i true = false ∧ i ∈ Region.ready .any ops listed ∧ (∀ q ∈ pens, ∀ oq, ops[q.1]? = some oq → oq.apart ops o = true) ∧ (∀ q ∈ pens, ∀ oq d, ops[q.1]? = some oq → oq.dst = some d → o.dst ≠ some d) ∧ cntL ops (listed.setIfInBounds i true) + 1 ≤ F ∧
        (∀ j, j < ops.size → (listed.setIfInBounds i true).getD j true = ((lA.setIfInBounds i true).getD j true || pens.any fun q => q.1 == j)) ∧ (∀ q ∈ pens, ∀ x, (listed.setIfInBounds i true).getD x true = false → Region.waitsT .any ops q.1 x = false) := by
      intro i o hi hiA F J w a0 a listed pens E I hnp
      obtain ⟨hi0, o2, ho2, hdep⟩ := mem_ready.1 hiA
      rw [hi] at ho2
      cases ho2
      have hil := lt hi
      have hl0 : listed.getD i true = false := by
        rw [I.lr i hil, hi0, Bool.false_or]
        refine List.any_eq_false.2 fun q hq => ?_
        rw [beq_iff_eq]
        exact hnp q hq
      have hap : ∀ q ∈ pens, ∀ oq, ops[q.1]? = some oq → oq.apart ops o = true := by
        intro q hq oq hoq
        rcases (pen_spec hpen hoq hi (I.al q hq) (fun z => hnp q hq z.symm)).1 with z | z
        · obtain ⟨oj, hoj, e, he, hb, hon⟩ := Region.waitsFor_spec z
          rw [hi] at hoj
          cases hoj
          have h1 := hdep e he hb
          rw [hon, getD_both (I.pn q hq).1] at h1
          cases h1
        · exact z
      refine ⟨hl0, mem_ready.2 ⟨hl0, o, hi, fun e he hb => ?_⟩, hap, fun q hq oq d hoq hd => (Oper.apart_spec (hap q hq oq hoq)).2.1 d hd, ?_, fun j hj => ?_, fun q hq x hx => ?_⟩
      · have h1 := hdep e he hb
        have hlt : e.on < ops.size := by
          rcases Nat.lt_or_ge e.on ops.size with q | q
          · exact q
          · rw [← I.la] at q; simp [q] at h1
        rw [← getD_tf (by rw [I.ls]; exact hlt), I.lr _ hlt, getD_tf (by rw [I.la]; exact hlt), h1]
        rfl
      · have := cnt_set hl0 ops.size hil
        have h2 := I.cnt
        unfold cntL at h2 ⊢
        omega
      · by_cases e : i = j
        · subst e
          rw [getD_set_self, getD_set_self]
          rfl
        · rw [getD_set_ne true e, getD_set_ne true e]
          exact I.lr j hj
      · by_cases e : i = x
        · subst e
          rw [getD_set_self] at hx
          cases hx
        · rw [getD_set_ne true e] at hx
          exact I.clo q hq x hx
    have pens1 : ∀ {i : Nat} {J J1 : Inj} {st1 : St} {w w1 : World} {a0 a : Act} {F : Nat} {listed : Array Bool} {pens : List (Nat × Nat)} {E : List Held} {dst : Option Nat} {u : Value}, PInv P ro B nt ops J0 st0 w0 lA es fr st F J w a0 a listed pens E → (∀ q ∈ pens, q.1 ≠ i) →
        J.le J1 → w.heap.size ≤ w1.heap.size → Fr J st.hp.get w J1 st1.hp.get w1 → (∀ q ∈ pens, ∀ oq d, ops[q.1]? = some oq → oq.dst = some d → dst ≠ some d) →
        ∀ q ∈ pens, (lA.setIfInBounds i true).getD q.1 true = false ∧ Pen P ops w0.heap.size J1 st1 w1 (a.put dst u) q := by
      intro i J J1 st1 w w1 a0 a F listed pens E dst u I hnp hle hs hfr hd q hq
      obtain ⟨p1, p2⟩ := I.pn q hq
      obtain ⟨f1, f2, f3⟩ := p2.free
      exact ⟨by rw [getD_set_ne true (fun z => hnp q hq z.symm)]; exact p1, p2.keep hle hs (hfr q.2 f2 f3) (fun o ho => by
        cases hod : o.dst with
        | none => exact .inl rfl
        | some d => exact .inr fun z => hd q hq o d ho hod z.symm)⟩
    simp only [planP] at hp
    split at hp
    · -- one that may come first
      rename_i i hfind
      split at hp
      · rename_i o hfree hi
        split at hp
        · rename_i l' hp'
          cases hp
          intro F J w a0 a listed pens E I
          have hiA := List.mem_of_find?_eq_some hfind
          have hcls : Nat.ble (opCls o.op) 1 = true := by
            have := List.find?_some hfind
            simpa only [clsAt, hi] using this
          rw [Nat.ble_eq] at hcls
          have hnp : ∀ q ∈ pens, q.1 ≠ i := by
            intro q hq e
            obtain ⟨_, o', d, n, cs, e', b, h1, h2, _⟩ := I.pn q hq
            rw [e, hi] at h1
            cases h1
            exact h2.cls hcls
          obtain ⟨hl0, hready, hap, hdq, hcn, hlr, hclo⟩ := common hi hiA I hnp
          obtain ⟨hex, hwt⟩ := I.ax.op hsel hi hap
          have hn := I.acc.nx
          have hh := I.acc.hr
          have hf := I.fr
          have hvl := I.hvl
          cases F with
          | zero => omega
          | succ F =>
          have go : ∀ (v : Value) (e : Held) (es' : List Ent) (fr1 : T V), e.x = i → YieldsIf P ops (fun w => Old B w ∧ e.h w) o v a → e.h w → EntsOK P ro B J es' (e :: E) → (∀ c ∈ es', vload P st c.t c.id c.off = some c.v) → FR J nt fr1 (a0.put o.dst v).tmps →
              runO P ro nt call ops l' es' fr1 st = some (fr', st') → wpAnyE P .any ops Q (Old B) (F + 1) listed E a w := by
            intro v e es' fr1 hx hy he hes' hvl' hf1 hrun
            subst hx
            refine wpAnyE_first e hi hsel' (fun c a w q => (hQp _ _ _ q).elim) F listed E a w (fun j oj hj hji hun hno => Region.free_spec hi hfree j oj hj hji ?_ hno) hready hy hh.base he I.hE ?_
            · have := I.lr j (lt hj)
              rw [hun] at this
              cases hq : lA.getD j true with
              | false => rfl
              | true => rw [hq] at this; cases this
            · exact ih (lA.setIfInBounds e.x true) l' es' fr1 st hp' hrun F J w (a0.put o.dst v) (a.put o.dst v) (listed.setIfInBounds e.x true) pens (e :: E)
                { acc := I.acc, fr := hf1, df := by rw [put_defers]; exact I.df, ls := by rw [Array.size_setIfInBounds]; exact I.ls, la := by rw [Array.size_setIfInBounds]; exact I.la,
                  lr := hlr, cnt := by omega, ax := I.ax.put _ _, pn := pens1 I hnp (Inj.le.refl J) (Nat.le_refl _) (Fr.same fun _ _ => rfl) hdq, al := I.al, clo := hclo, rr := I.rr, hes := hes',
                  hE := fun e' he' => (List.mem_cons.1 he').elim (fun q => q ▸ he) (I.hE e'), hw := fun e' he' q hq => (List.mem_cons.1 he').elim (fun z => by rw [z]; exact I.clo q hq _ hl0) (fun z => I.hw e' z q hq), hvl := hvl' }
          have triv : EntsOK P ro B J es (⟨i, fun _ => True⟩ :: E) := fun e he => (List.mem_cons.1 he).elim (fun q => .inl (by subst q; intro _; trivial)) (I.hes e)
          simp only [runO] at h
          cases hw : vwanted ops fr o with
          | none => simp [hw] at h
          | some x =>
            have hwa := hwt.trans (vwanted_spec hf hw)
            cases x with
            | false =>
              simp only [hw] at h
              cases hpt : vput nt fr o.dst none with
              | none => simp [hpt] at h
              | some fr1 =>
                simp only [hpt] at h
                exact go undef ⟨i, fun _ => True⟩ es fr1 rfl (.inr ⟨hwa, rfl⟩) trivial triv hvl (hf.put (.inr ⟨rfl, rfl⟩) hpt) h
            | true =>
              simp only [hw] at h
              split at h
              · rename_i hc
                obtain ⟨q1, q2⟩ := opCls_quiet (.inl hc)
                cases hv : vop P ro call fr ⟨st.nx, .e, 0⟩ o.op with
                | none => simp [hv] at h
                | some r =>
                  obtain ⟨v, st1⟩ := r
                  simp only [hv] at h
                  cases hpt : vput nt fr o.dst v with
                  | none => simp [hpt] at h
                  | some fr1 =>
                    simp only [hpt] at h
                    obtain ⟨_, x, rfl, _, hok⟩ := vop_quiet (w := w) (st := ⟨st.nx, .e, 0⟩) hn (HR.empty hh.base) hf q1 q2 hv
                    refine go (x.real J) ⟨i, fun _ => True⟩ es fr1 rfl (.inl ⟨hwa, fun w2 hw2 => ?_⟩) trivial triv hvl (hf.put (.inl ⟨x, rfl, rfl, hok⟩) hpt) h
                    obtain ⟨_, x', hx', hr, _⟩ := vop_quiet (w := w2) (st := ⟨st.nx, .e, 0⟩) hn (HR.empty hw2.1) hf q1 q2 hv
                    cases hx'
                    rw [hex]
                    exact hr
              · rename_i hc
                obtain ⟨q1, q2⟩ := opCls_quiet (.inr hc)
                split at h
                · rename_i t x hop
                  split at h
                  · rename_i id off hx
                    cases hv : vload P st t id off with
                    | none => simp [hv] at h
                    | some v =>
                      simp only [hv] at h
                      cases hpt : vput nt fr o.dst (some v) with
                      | none => simp [hpt] at h
                      | some fr1 =>
                        simp only [hpt] at h
                        have vl : ∀ st2 : St, vload P st2 t id off = some v → vop P ro call fr st2 o.op = some (some v, st2) := fun st2 h2 => by rw [hop]; simp only [vop, hx, h2]
                        have yields : ∀ (J2 : Inj) (st2 : St) (w2 : World), J.le J2 → J2.nx = st2.nx → HR J2 ro B st2.hp.get w2 → vload P st2 t id off = some v → (execOp a.eval o).run P w2 = .ok (.value (v.real J)) w2 ∧ v.ok J2.nx := by
                          intro J2 st2 w2 hl hn2 hh2 hv2
                          obtain ⟨_, x', hx', hr, hok⟩ := vop_quiet (w := w2) (st := st2) hn2 hh2 (hf.mono hl) q1 q2 (vl st2 hv2)
                          cases hx'
                          obtain ⟨_, x'', hx'', _, hok0⟩ := vop_quiet (w := w) (st := st) hn hh hf q1 q2 (vl st hv)
                          cases hx''
                          rw [hex]
                          exact ⟨by rw [hr, V.real_le hl _ hok0], hok⟩
                        have here := yields J st w (Inj.le.refl J) hn hh hv
                        refine go (v.real J) ⟨i, fun w2 => (execOp a.eval o).run P w2 = .ok (.value (v.real J)) w2⟩ (⟨i, t, id, off, v⟩ :: es) fr1 rfl (.inl ⟨hwa, fun w2 hw2 => hw2.2⟩) here.1 ?_ (fun c hc => (List.mem_cons.1 hc).elim (fun q => by subst q; exact hv) (hvl c)) (hf.put (.inl ⟨v, rfl, rfl, by rw [hn] at *; exact here.2⟩) hpt) h
                        intro e he
                        rcases List.mem_cons.1 he with rfl | q
                        · exact .inr ⟨_, List.mem_cons_self .., rfl, fun J2 st2 w2 hl hn2 hh2 hv2 => (yields J2 st2 w2 hl hn2 hh2 hv2).1⟩
                        · exact (I.hes e q).imp (fun q => q) fun ⟨c, hc, hok⟩ => ⟨c, List.mem_cons_of_mem _ hc, hok⟩
                  · cases h
                · cases h
              · rename_i h0 h1
                exfalso
                rcases Nat.le_one_iff_eq_zero_or_eq_one.1 hcls with q | q
                · exact h0 q
                · exact h1 q
        · cases hp
      · cases hp
    · rename_i hfind
      split at hp
      · rename_i i hpick
        split at hp
        · rename_i o hc hi
          split at hp
          · rename_i l' hp'
            cases hp
            rw [Bool.and_eq_true] at hc
            obtain ⟨hc1, hall⟩ := hc
            have hiA : i ∈ Region.ready .any ops lA := by simpa using hc1
            have hcls : ¬ opCls o.op ≤ 1 := by
              have := List.find?_eq_none.1 hfind i hiA
              simpa only [clsAt, hi, Nat.ble_eq] using this
            simp only [runO] at h
            -- it has come up already
            have early : ∀ {F : Nat} {J : Inj} {w : World} {a0 a : Act} {listed : Array Bool} {pens : List (Nat × Nat)} {E : List Held}, PInv P ro B nt ops J0 st0 w0 lA es fr st F J w a0 a listed pens E → (∃ q ∈ pens, q.1 = i) → wpAnyE P .any ops Q (Old B) F listed E a w := by
              intro F J w a0 a listed pens E I ⟨q, hq, hqi⟩
              subst hqi
              obtain ⟨h0, o', d, n, cs, e, b, h1, hAL, h3, h4, h5, h6, h7⟩ := I.pn q hq
              rw [hi] at h1
              cases h1
              have hw : vwanted ops fr o = some true := by unfold vwanted; rw [hAL.grd]
              simp only [hw] at h
              split at h
              · omega
              · omega
              · simp only [hAL.vop] at h
                generalize hk : (Nat.ble st.nx (St.alloc ⟨st.nx, st.hp, st.nx⟩ b).ver || keepB P (St.alloc ⟨st.nx, st.hp, st.nx⟩ b) (aliveE ops q.1 es)) = kk at h
                cases kk with
                | false => simp at h
                | true =>
                simp only at h
                cases hpt : vput nt fr o.dst (some (mkA n st.nx)) with
                | none => simp [hpt] at h
                | some fr1 =>
                simp only [hpt, natF_eq] at h
                have hn := I.acc.nx
                have hpush := I.acc.hr.push (w' := w) (b := b) (r := q.2) (d := 0) (x := 0) (c := (cs.map (V.real J)).toArray) (hm0 := hAL.mp) (e := e) (fz := (0, 0)) (fun _ _ _ => rfl) I.acc.hr.base h7 (by omega) h6 (by simp [hAL.sz])
                  (fun k => by rw [hAL.op] at k; cases k) (fun o _ => by simp) (fun k v hv => by
                    rw [hAL.get k] at hv
                    have hm := List.mem_of_getElem? hv
                    exact ⟨hAL.ok J v hm, hAL.atom v hm, by simp [hv]⟩)
                have hget : ∀ g, (St.alloc ⟨st.nx, st.hp, st.nx⟩ b).hp.get g = if g = J.nx then some b else st.hp.get g := fun g => by
                  show (st.hp.upd st.nx (some b)).get g = _
                  rw [T.get_upd, hn]
                have hold : ∀ g bg, st.hp.get g = some bg → g ≠ J.nx := fun g bg hg => by have := (I.acc.hr.blk g bg hg).1; omega
                have hpw := pw_of (R := fun p q : Nat × Nat => p.1 ≠ q.1 ∧ p.2 ≠ q.2) (fun a b h => ⟨h.1.symm, h.2.symm⟩) I.rr
                have hle := J.le_push (q.2, 0, 0)
                have hfrr : ∀ r, r ≠ q.2 → Free J st.hp.get r → Free (J.push (q.2, 0, 0)) (St.alloc ⟨st.nx, st.hp, st.nx⟩ b).hp.get r := by
                  intro r hr hfree g bg hg
                  rw [hget] at hg
                  by_cases e1 : g = J.nx
                  · rw [e1, Inj.push_self]; exact fun z => hr z.symm
                  · rw [if_neg e1] at hg
                    rw [hle.m g (I.acc.hr.blk g bg hg).1]
                    exact hfree g bg hg
                have hsub : ∀ p ∈ pens.filter (fun p => !(p.1 == q.1)), p ∈ pens ∧ p.1 ≠ q.1 := fun p hp => by
                  obtain ⟨p1, p2⟩ := List.mem_filter.1 hp
                  exact ⟨p1, by simpa using p2⟩
                have hreal : (mkA n st.nx).real (J.push (q.2, 0, 0)) = rkA n q.2 := by
                  rw [← hn]; exact mkA_real J n q.2
                refine ih (lA.setIfInBounds q.1 true) l' (aliveE ops q.1 es) fr1 _ hp' h F (J.push (q.2, 0, 0)) w (a0.put o.dst (rkA n q.2)) a listed (pens.filter fun p => !(p.1 == q.1)) E
                  { acc := ?acc, fr := ?fr, df := by rw [put_defers]; exact I.df, ls := I.ls, la := by rw [Array.size_setIfInBounds]; exact I.la,
                    lr := ?lr, cnt := I.cnt, ax := ?ax, pn := ?pn, al := fun p hp => I.al p (hsub p hp).1, clo := fun p hp => I.clo p (hsub p hp).1, rr := I.rr.filter _, hes := ?hes,
                    hE := I.hE, hw := fun e he p hp => I.hw e he p (hsub p hp).1, hvl := ?hvl }
                case acc =>
                  refine ⟨I.acc.le.trans hle, by show J.nx + 1 = st.nx + 1; omega, ?_, I.acc.below, I.acc.ext.trans ⟨Nat.le_succ _, low_left _ _, fun g bg hg he => ?_⟩, Nat.le_succ_of_le I.acc.ro, fun r hr hfree => ?_⟩
                  · rw [show (⟨(St.alloc ⟨st.nx, st.hp, st.nx⟩ b).nx, (St.alloc ⟨st.nx, st.hp, st.nx⟩ b).hp, low st.ver (St.alloc ⟨st.nx, st.hp, st.nx⟩ b).ver⟩ : St).hp.get = fun g => if g = J.nx then some b else st.hp.get g from funext hget]
                    exact hpush
                  · show (St.alloc ⟨st.nx, st.hp, st.nx⟩ b).hp.get g = _
                    rw [hget, if_neg (hold g bg hg)]
                    exact hg
                  · obtain ⟨p1, p2⟩ := I.acc.fr r hr hfree
                    exact ⟨p1, hfrr r (by omega) p2⟩
                case fr => exact (I.fr.mono hle).put (.inl ⟨mkA n st.nx, rfl, hreal.symm, mkA_ok _ _ _ (by simp only [Inj.push]; omega)⟩) hpt
                case lr =>
                  intro j hj
                  rw [I.lr j hj]
                  by_cases e1 : q.1 = j
                  · have h1 : (pens.any fun p => p.1 == j) = true := List.any_eq_true.2 ⟨q, hq, by simpa using e1⟩
                    rw [h1, ← e1, getD_set_self]
                    simp
                  · rw [getD_set_ne true e1]
                    congr 1
                    rw [Bool.eq_iff_iff, List.any_eq_true, List.any_eq_true]
                    constructor
                    · rintro ⟨p, hp, hpj⟩
                      exact ⟨p, List.mem_filter.2 ⟨hp, by
                        have hpj' : p.1 = j := by simpa using hpj
                        have : p.1 ≠ q.1 := fun z => e1 (z.symm.trans hpj')
                        simpa using this⟩, hpj⟩
                    · rintro ⟨p, hp, hpj⟩
                      exact ⟨p, (hsub p hp).1, hpj⟩
                case ax =>
                  refine ⟨by rw [put_defers]; exact I.ax.df, ?_, fun t ht => ?_⟩
                  · rw [hAL.dst]; simp [Act.put, I.ax.sz]
                  · rw [hAL.dst]
                    simp only [Act.put]
                    by_cases e1 : d = t
                    · subst e1
                      rcases Nat.lt_or_ge d a.tmps.size with z | z
                      · rw [h3 z, Array.getElem?_setIfInBounds_self_of_lt (by rw [← I.ax.sz]; exact z)]
                      · rw [Array.getElem?_eq_none z, Array.getElem?_eq_none (by rw [Array.size_setIfInBounds, ← I.ax.sz]; exact z)]
                    · rw [Array.getElem?_setIfInBounds_ne e1]
                      refine I.ax.get t fun p hp op hop hd => ?_
                      by_cases e2 : p.1 = q.1
                      · rw [e2, hi] at hop
                        cases hop
                        rw [hAL.dst] at hd
                        exact e1 (Option.some.inj hd)
                      · exact ht p (List.mem_filter.2 ⟨hp, by simpa using e2⟩) op hop hd
                case pn =>
                  intro p hp
                  obtain ⟨p1, p2⟩ := hsub p hp
                  obtain ⟨f1, f2, f3⟩ := (I.pn p p1).2.free
                  refine ⟨by rw [getD_set_ne true (fun z => p2 z.symm)]; exact (I.pn p p1).1, ?_⟩
                  have := (I.pn p p1).2.keep (st1 := ⟨(St.alloc ⟨st.nx, st.hp, st.nx⟩ b).nx, (St.alloc ⟨st.nx, st.hp, st.nx⟩ b).hp, low st.ver (St.alloc ⟨st.nx, st.hp, st.nx⟩ b).ver⟩) (w1 := w) (dst := none) (u := undef) hle (Nat.le_refl _)
                    ⟨rfl, hfrr p.2 (hpw p p1 q hq (fun z => p2 (by rw [z]))).2 f3⟩ (fun o2 _ => by cases o2.dst <;> simp)
                  exact this
                case hes =>
                  intro e' he'
                  refine ((I.hes.mono hle) e' he').imp id ?_
                  rintro ⟨c, hc, k1, k2⟩
                  exact ⟨c, mem_aliveE hc (by rw [← k1]; exact I.hw e' he' q hq), k1, k2⟩
                case hvl =>
                  intro c hc
                  have k0 := I.hvl c (mem_aliveE' hc)
                  cases hg : st.hp.get c.id with
                  | none => simp [vload, hg] at k0
                  | some bg =>
                    have e1 : (St.alloc ⟨st.nx, st.hp, st.nx⟩ b).hp.get c.id = some bg := by
                      rw [hget, if_neg (hold _ bg hg)]
                      exact hg
                    unfold vload at k0 ⊢
                    rw [hg] at k0
                    dsimp only
                    rw [e1]
                    exact k0
            intro F
            induction F with
            | zero =>
              intro J w a0 a listed pens E I
              by_cases hmem : ∃ q ∈ pens, q.1 = i
              · exact early I hmem
              · have := (common hi hiA I (fun q hq z => hmem ⟨q, hq, z⟩)).2.2.2.2.1
                omega
            | succ F ihF =>
              intro J w a0 a listed pens E I
              by_cases hmem : ∃ q ∈ pens, q.1 = i
              · exact early I hmem
              have hnp : ∀ q ∈ pens, q.1 ≠ i := fun q hq z => hmem ⟨q, hq, z⟩
              obtain ⟨hl0, hready, hap, hdq, hcn, hlr, hclo⟩ := common hi hiA I hnp
              obtain ⟨hex, hwt⟩ := I.ax.op hsel hi hap
              have hn := I.acc.nx
              have hh := I.acc.hr
              have hf := I.fr
              have hro := I.acc.ro
              intro hcl0
              refine ⟨fun h0 => (by rw [h0] at hready; cases hready), fun j hj => ?_⟩
              by_cases hji : j = i
              · subst hji
                unfold wpOp
                simp only [hi]
                cases hw : vwanted ops fr o with
                | none => simp [hw] at h
                | some x =>
                  rw [hwt, vwanted_spec hf hw]
                  cases x with
                  | false =>
                    simp only [hw] at h
                    cases hpt : vput nt fr o.dst none with
                    | none => simp [hpt] at h
                    | some fr1 =>
                      simp only [hpt] at h
                      simp only [Bool.false_eq_true, if_false]
                      exact ⟨E, fun e he _ => he, ⟨hh.base, I.hE⟩, ih _ l' es fr1 st hp' h F J w (a0.put o.dst undef) (a.put o.dst undef) (listed.setIfInBounds j true) pens E
                        { acc := I.acc, fr := hf.put (.inr ⟨rfl, rfl⟩) hpt, df := by rw [put_defers]; exact I.df, ls := by rw [Array.size_setIfInBounds]; exact I.ls, la := by rw [Array.size_setIfInBounds]; exact I.la,
                          lr := hlr, cnt := by omega, ax := I.ax.put _ _, pn := pens1 I hnp (Inj.le.refl J) (Nat.le_refl _) (Fr.same fun _ _ => rfl) hdq, al := I.al, clo := hclo, rr := I.rr, hes := I.hes, hE := I.hE, hw := I.hw, hvl := I.hvl }⟩
                  | true =>
                    simp only [hw] at h
                    split at h
                    · omega
                    · omega
                    · cases hv : vop P ro call fr ⟨st.nx, st.hp, st.nx⟩ o.op with
                      | none => simp [hv] at h
                      | some r =>
                        obtain ⟨v, st1⟩ := r
                        simp only [hv] at h
                        generalize hk : (Nat.ble st.nx st1.ver || keepB P st1 (aliveE ops j es)) = kk at h
                        cases kk with
                        | false => simp at h
                        | true =>
                          simp only at h
                          cases hpt : vput nt fr o.dst v with
                          | none => simp [hpt] at h
                          | some fr1 =>
                            simp only [hpt, natF_eq] at h
                            simp only [if_true]
                            have hdone := vop_sound (st := ⟨st.nx, st.hp, st.nx⟩) hcall hname hn hh hro hf hv
                            rw [← hex] at hdone
                            refine .inl (wp_of_done hdone fun J1 w1 u hpost0 hu => ?_)
                            have hpost : Post J ro B st w J1 ⟨st1.nx, st1.hp, low st.ver st1.ver⟩ w1 := ⟨hpost0.le, hpost0.nx, hpost0.hr, hpost0.below, ⟨hpost0.ext.nx, low_left _ _, fun g b hg he => hpost0.ext.hp g b hg (Nat.lt_of_lt_of_le he (low_right _ _))⟩, hpost0.ro, hpost0.fr⟩
                            have hkeep : ∀ c ∈ aliveE ops j es, vload P st1 c.t c.id c.off = some c.v := by
                              intro c hc
                              rw [Bool.or_eq_true] at hk
                              rcases hk with q | q
                              · rw [Nat.ble_eq] at q
                                have h0 := I.hvl c (mem_aliveE' hc)
                                have hb : ∃ b, st.hp.get c.id = some b := by
                                  unfold vload at h0
                                  cases hg : st.hp.get c.id with
                                  | none => simp [hg] at h0
                                  | some b => exact ⟨b, rfl⟩
                                obtain ⟨b, hb⟩ := hb
                                have hlt := (hh.blk c.id b hb).1
                                have h1 := hpost0.ext.hp c.id b hb (by omega)
                                unfold vload at h0 ⊢
                                rw [h1]
                                rw [hb] at h0
                                exact h0
                              · exact keepB_mem q hc
                            have hE' : EntsOK P ro B J1 (aliveE ops j es) (E.filter fun e => !Region.waitsT .any ops j e.x) := by
                              intro e he
                              obtain ⟨he1, he2⟩ := List.mem_filter.1 he
                              refine ((I.hes.mono hpost.le) e he1).imp id ?_
                              rintro ⟨c, hc, h1, h2⟩
                              exact ⟨c, mem_aliveE hc (by rw [← h1]; simpa using he2), h1, h2⟩
                            have hold : ∀ e ∈ E.filter fun e => !Region.waitsT .any ops j e.x, e.h w1 := by
                              intro e he
                              rcases hE' e he with q | ⟨c, hc, h1, h2⟩
                              · exact q w1
                              · exact h2 J1 st1 w1 (Inj.le.refl _) hpost0.nx hpost0.hr (hkeep c hc)
                            exact ⟨E.filter fun e => !Region.waitsT .any ops j e.x, fun e he hwt => List.mem_filter.2 ⟨he, by simpa using hwt⟩, ⟨hpost.hr.base, hold⟩,
                              ih _ l' _ fr1 _ hp' h F J1 w1 (a0.put o.dst u) (a.put o.dst u) (listed.setIfInBounds j true) pens _
                                { acc := I.acc.trans hpost, fr := (hf.mono hpost.le).put hu hpt, df := by rw [put_defers]; exact I.df, ls := by rw [Array.size_setIfInBounds]; exact I.ls, la := by rw [Array.size_setIfInBounds]; exact I.la,
                                  lr := hlr, cnt := by omega, ax := I.ax.put _ _, pn := pens1 I hnp hpost.le hpost.below.size hpost.fr hdq, al := I.al, clo := hclo, rr := I.rr, hes := hE', hE := hold, hw := fun e he => I.hw e (List.mem_filter.1 he).1, hvl := hkeep }⟩
              · -- a row of constants, before its turn
                have haj : allocAt P ops j = true := by
                  rcases may_ready I.ls I.lr I.al hnp hall hj with q | q
                  · exact absurd q hji
                  · exact q
                obtain ⟨hj0, oj, hoj, hdep⟩ := mem_ready.1 hj
                have hjl := lt hoj
                have hob : allocB P oj = true := by
                  unfold allocAt at haj
                  rw [hoj] at haj
                  exact haj
                obtain ⟨d, n, cs, e, b, hAL⟩ := AL.of hob
                have hlAj : lA.getD j true = false := by
                  have := I.lr j hjl
                  rw [hj0] at this
                  cases hq : lA.getD j true with
                  | false => rfl
                  | true => rw [hq] at this; cases this
                have hjp : ∀ q ∈ pens, q.1 ≠ j := by
                  intro q hq z
                  have := I.lr j hjl
                  rw [hj0, hlAj, Bool.false_or] at this
                  have h1 := List.any_eq_false.1 this.symm q hq
                  rw [beq_iff_eq] at h1
                  exact h1 z
                unfold wpOp
                simp only [hoj]
                have hwj : Region.wanted oj (yielded ops a.tmps) = true := by unfold Region.wanted; rw [hAL.grd]
                rw [hwj]
                simp only [if_true]
                refine .inl ?_
                unfold Oper.wp
                rw [hAL.run J w a]
                show ∃ E', _
                have hm := hh.more (Obj.cells (cs.map (V.real J)).toArray e)
                have hsz : (w.alloc (Obj.cells (cs.map (V.real J)).toArray e)).heap.size = w.heap.size + 1 := by show (w.heap.push _).size = _; simp
                have hold : ∀ e' ∈ E.filter fun e => !Region.waitsT .any ops j e.x, e'.h (w.alloc (Obj.cells (cs.map (V.real J)).toArray e)) := by
                  intro e' he'
                  rcases I.hes e' (List.mem_filter.1 he').1 with q | ⟨c, hc, h1, h2⟩
                  · exact q _
                  · exact h2 J st _ (Inj.le.refl _) hn hm (I.hvl c hc)
                refine ⟨E.filter fun e => !Region.waitsT .any ops j e.x, fun e he hwt => List.mem_filter.2 ⟨he, by simpa using hwt⟩, ⟨hm.base, hold⟩,
                  ihF J (w.alloc (Obj.cells (cs.map (V.real J)).toArray e)) a0 (a.put oj.dst (rkA n w.heap.size)) (listed.setIfInBounds j true) ((j, w.heap.size) :: pens) (E.filter fun e => !Region.waitsT .any ops j e.x)
                    { acc := I.acc.trans (Post.more hn hh hro _), fr := hf, df := I.df, ls := by rw [Array.size_setIfInBounds]; exact I.ls, la := I.la,
                      lr := ?lr, cnt := ?cnt, ax := ?ax, pn := ?pn, al := ?al, clo := ?clo, rr := ?rr, hes := fun e' he' => I.hes e' (List.mem_filter.1 he').1, hE := hold, hw := ?hw, hvl := I.hvl }⟩
                case lr =>
                  intro k hk
                  rw [List.any_cons]
                  by_cases e1 : j = k
                  · subst e1
                    rw [getD_set_self]
                    simp
                  · rw [getD_set_ne true e1, I.lr k hk]
                    have : (j == k) = false := by simpa using e1
                    dsimp only
                    rw [this, Bool.false_or]
                case cnt =>
                  have h1 := cnt_set hj0 ops.size hjl
                  have h2 := I.cnt
                  unfold cntL at h2 ⊢
                  omega
                case ax =>
                  refine ⟨by rw [put_defers]; exact I.ax.df, by rw [hAL.dst]; simp [Act.put, I.ax.sz], fun t ht => ?_⟩
                  have h1 := ht (j, w.heap.size) (List.mem_cons_self ..) oj hoj
                  rw [hAL.dst] at h1 ⊢
                  have h2 : d ≠ t := fun z => h1 (by rw [z])
                  simp only [Act.put]
                  rw [Array.getElem?_setIfInBounds_ne h2]
                  exact I.ax.get t fun p hp => ht p (List.mem_cons_of_mem _ hp)
                case pn =>
                  intro q hq
                  rcases List.mem_cons.1 hq with rfl | hq
                  · refine ⟨hlAj, oj, d, n, cs, e, b, hoj, hAL, fun hlt => ?_, I.acc.below.size, by rw [hsz]; exact Nat.lt_succ_self _, fun g bg hg z => ?_, ?_⟩
                    · rw [hAL.dst] at hlt ⊢
                      simp only [Act.put, Array.size_setIfInBounds] at hlt ⊢
                      rw [Array.getElem?_setIfInBounds_self_of_lt hlt]
                    · have := (hh.blk g bg hg).lt
                      dsimp only at z
                      omega
                    · show (w.heap.push _)[w.heap.size]? = _
                      simp
                  · obtain ⟨f1, f2, f3⟩ := (I.pn q hq).2.free
                    exact ⟨(I.pn q hq).1, (I.pn q hq).2.keep (Inj.le.refl J) (by rw [hsz]; exact Nat.le_succ _) ⟨Below.heap_alloc w _ _ f2, f3⟩ (fun oq hoq => by
                      have := (pen_spec hpen hoq hoj (I.al q hq) (fun z => hjp q hq z.symm)).2 haj
                      exact .inr this)⟩
                case al =>
                  intro q hq
                  rcases List.mem_cons.1 hq with rfl | hq
                  · exact haj
                  · exact I.al q hq
                case clo =>
                  intro q hq x hx
                  have hxj : j ≠ x := by
                    intro z
                    subst z
                    rw [getD_set_self] at hx
                    cases hx
                  rw [getD_set_ne true hxj] at hx
                  rcases List.mem_cons.1 hq with rfl | hq
                  · cases hz : Region.waitsT .any ops j x with
                    | false => rfl
                    | true =>
                      obtain ⟨o2, ho2, ⟨e', he', hb, hon⟩ | ⟨d, hd2, hb, od, hod, e2, he2, hb2, hon⟩⟩ := Region.waitsT_spec hz
                      · rw [hoj] at ho2
                        cases ho2
                        have := hdep e' he' hb
                        rw [hon, getD_both hx] at this
                        cases this
                      · rw [hoj] at ho2
                        cases ho2
                        have := hcl0 _ _ hod (hdep d hd2 hb) e2 he2 hb2
                        rw [hon, getD_both hx] at this
                        cases this
                  · exact I.clo q hq x hx
                case rr =>
                  refine List.pairwise_cons.2 ⟨fun q hq => ⟨fun z => hjp q hq z.symm, fun z => ?_⟩, I.rr⟩
                  have := (I.pn q hq).2.free.2.1
                  dsimp only at z
                  omega
                case hw =>
                  intro e' he' q hq
                  obtain ⟨k1, k2⟩ := List.mem_filter.1 he'
                  rcases List.mem_cons.1 hq with rfl | hq
                  · simpa using k2
                  · exact I.hw e' k1 q hq
          · cases hp
        · cases hp
      · cases hp

/-- A REGION WHOSE ORDER IS OPEN. -/
theorem planOf_sound {nt : Nat} {call : CallF} (hcall : CallOK P ro B call) (hname : ∀ (f : Nat) (fn : Func), P.funcs[f]? = some fn → (fn.name == "runtime.NumGoroutine") = false) (hmix : P.follows .mixedOrders = true) {ops : Array Oper} {Q : Exit → Act → World → Prop}
    (hQp : ∀ c a w, ¬ Q (.panic c) a w) {id : Nat} {l : List (Nat × Oper)} {fr fr' : T V} {st st' : St} {J : Inj} {w : World} {a : Act} (hp : planOf P ops = some l) (h : runO P ro nt call ops l [] fr st = some (fr', st'))
    (hn : J.nx = st.nx) (hh : HR J ro B st.hp.get w) (hro : ro ≤ J.nx) (hf : FR J nt fr a.tmps) (hd : a.defers = []) (hQ : ∀ J' a' w', Post J ro B st w J' st' w' → FR J' nt fr' a'.tmps → a'.defers = [] → Q .normal a' w') : (Code.region id ops true).wp P Q a w := by
  unfold planOf at hp
  split at hp
  · rename_i hsel
    refine wp_region_any hmix (wpAny_of_E (S0 := Old B) _ _ [] _ _ (fun d od _ hl => by
      have z : (Array.replicate ops.size false)[d]?.getD false = false := by rw [Array.getElem?_replicate]; split <;> rfl
      simp only [Array.getD_eq_getD_getElem?] at hl
      rw [z] at hl
      cases hl) ?_)
    have p0 : Post J ro B st w J st { w with drawn := w.drawn + 1 } := ⟨Inj.le.refl J, hn, hh.congr rfl, ⟨rfl, rfl, rfl, Nat.le_refl _, fun _ _ => rfl⟩, Ext.refl _, hro, Fr.same fun _ _ => rfl⟩
    split at hp
    · rename_i l0 hp0
      cases hp
      exact runO_sound hcall hname hsel hQp ops.size _ l [] [] fr fr' st st' J _ a hp0 h hn p0.hr hro hf hd (fun _ h => by cases h) (fun _ h => by cases h) (fun _ h => by cases h) (fun J' a' w' hp' => hQ J' a' w' (p0.trans hp'))
    · cases hpen : penOK P ops with
      | false => rw [hpen] at hp; cases hp
      | true =>
        rw [hpen, cond_true] at hp
        exact runP_sound hcall hname hsel hQp hpen p0.hr.base.size (fun J' a' w' hp' => hQ J' a' w' (p0.trans hp')) ops.size _ l [] fr st hp h ops.size J _ a a (Array.replicate ops.size false) [] []
          { acc := Post.refl hn p0.hr hro, fr := hf, df := hd, ls := by simp, la := by simp, lr := fun j hj => by simp, cnt := by unfold cntL; exact Nat.le_trans (List.countP_le_length) (by simp), ax := ⟨rfl, rfl, fun _ _ => rfl⟩, pn := fun _ h => (List.not_mem_nil h).elim,
            al := fun _ h => (List.not_mem_nil h).elim, clo := fun _ h => (List.not_mem_nil h).elim, rr := List.Pairwise.nil, hes := fun _ h => (List.not_mem_nil h).elim, hE := fun _ h => (List.not_mem_nil h).elim, hw := fun _ h => (List.not_mem_nil h).elim, hvl := fun _ h => (List.not_mem_nil h).elim }
  · cases hp
end
end Go.Vm
