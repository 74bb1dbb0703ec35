/-
  A region that ends in two stores of open order; a region of which all orders are gone through. Nothing is claimed here.
-/
import Derived.Test.YtnfddmjbfkfnhaaGreatDoorVn
namespace Go.Vm
open Go.RowKit

section
variable {P : Program} {ro : Nat} {B : World}

/-- The plan as far as it goes. -/
theorem runO_stop {nt : Nat} {call : CallF} (hcall : CallOK P ro B call) (hname : ∀ (f : Nat) (fn : Func), P.funcs[f]? = some fn → (fn.name == "runtime.NumGoroutine") = false) {ops : Array Oper} {Q : Exit → Act → World → Prop}
    (hsel : Region.noSelect ops = true) (hQp : ∀ c a w, ¬ Q (.panic c) a w) :
    ∀ (fuel : Nat) (listed : Array Bool) (f' : Nat) (listed' : Array Bool) (l : List (Nat × Oper)) (es : List Ent) (E : List Held) (fr fr' : T V) (st st' : St) (J : Inj) (w : World) (a : Act),
      planStop ops fuel listed = some (l, f', listed') → runO P ro nt call ops l es fr st = some (fr', st') → J.nx = st.nx → HR J ro B st.hp.get w → ro ≤ J.nx → FR J nt fr a.tmps → a.defers = [] →
      EntsOK P ro B J es E → (∀ e ∈ E, e.h w) → (∀ c ∈ es, vload P st c.t c.id c.off = some c.v) → (∀ c ∈ es, ∃ o, ops[c.x]? = some o ∧ opCls o.op = 1) →
      (∀ J' a' w' es' E', Post J ro B st w J' st' w' → FR J' nt fr' a'.tmps → a'.defers = [] → EntsOK P ro B J' es' E' → (∀ e ∈ E', e.h w') → (∀ c ∈ es', ∃ o, ops[c.x]? = some o ∧ opCls o.op = 1) → wpAnyE P .any ops Q (Old B) f' listed' E' a' w') → wpAnyE P .any ops Q (Old B) fuel listed E a w := by
  intro fuel
  induction fuel with
  | zero =>
    intro listed f' listed' l es E fr fr' st st' J w a hp h hn hh hro hf hd hes hE hvl hcl hQ
    simp only [planStop, Option.some.injEq, Prod.mk.injEq] at hp
    obtain ⟨rfl, rfl, rfl⟩ := hp
    simp only [runO, Option.some.injEq, Prod.mk.injEq] at h
    obtain ⟨rfl, rfl⟩ := h
    exact hQ J a w es E (Post.refl hn hh hro) hf hd hes hE hcl
  | succ fuel ih =>
    intro listed f' listed' l es E fr fr' st st' J w a hp h hn hh hro hf hd hes hE hvl hcl hQ
    have hsel' := Region.noSelect_spec hsel
    simp only [planStop] at hp
    split at hp
    · -- one that may come first
      rename_i i hfind
      split at hp
      · rename_i o hfree hi
        split at hp
        · rename_i l' r' hp'
          obtain ⟨f1, ls1⟩ := r'
          simp only [Option.some.injEq, Prod.mk.injEq] at hp
          obtain ⟨rfl, rfl, rfl⟩ := hp
          have hmem : i ∈ Region.ready .any ops listed := List.mem_of_find?_eq_some hfind
          have hcls : Nat.ble (opCls o.op) 1 = true := by
            have := List.find?_some hfind
            simpa only [clsAt, hi] using this
          rw [Nat.ble_eq] at hcls
          have go : ∀ (v : Value) (e : Held) (es' : List Ent) (fr1 : T V), e.x = i → YieldsIf P ops (fun w => Old B w ∧ e.h w) o v a → e.h w → EntsOK P ro B J es' (e :: E) → (∀ c ∈ es', vload P st c.t c.id c.off = some c.v) → (∀ c ∈ es', ∃ o, ops[c.x]? = some o ∧ opCls o.op = 1) → FR J nt fr1 (a.put o.dst v).tmps →
              runO P ro nt call ops l' es' fr1 st = some (fr', st') → wpAnyE P .any ops Q (Old B) (fuel + 1) listed E a w := by
            intro v e es' fr1 hx hy he hes' hvl' hcl' hf1 hrun
            subst hx
            exact wpAnyE_first e hi hsel' (fun c a w q => (hQp _ _ _ q).elim) fuel listed E a w (Region.free_spec hi hfree) hmem hy hh.base he hE
              (ih (listed.setIfInBounds e.x true) _ _ l' es' (e :: E) fr1 fr' st st' J w _ hp' hrun hn hh hro hf1 (by rw [put_defers]; exact hd) hes' (fun e' he' => (List.mem_cons.1 he').elim (fun q => q ▸ he) (hE e')) hvl' hcl' hQ)
          have triv : EntsOK P ro B J es (⟨i, fun _ => True⟩ :: E) := fun e he => (List.mem_cons.1 he).elim (fun q => .inl (by subst q; intro _; trivial)) (hes e)
          simp only [runO] at h
          cases hw : vwanted ops fr o with
          | none => simp [hw] at h
          | some x =>
            cases x with
            | false =>
              simp only [hw] at h
              cases hpt : vput nt fr o.dst none with
              | none => simp [hpt] at h
              | some fr1 =>
                simp only [hpt] at h
                exact go undef ⟨i, fun _ => True⟩ es fr1 rfl (.inr ⟨vwanted_spec hf hw, rfl⟩) trivial triv hvl hcl (hf.put (.inr ⟨rfl, rfl⟩) hpt) h
            | true =>
              simp only [hw] at h
              split at h
              · rename_i hc
                obtain ⟨q1, q2⟩ := opCls_quiet (.inl hc)
                cases hv : vop P ro call fr ⟨st.nx, .e, 0⟩ o.op with
                | none => simp [hv] at h
                | some r =>
                  obtain ⟨v, st1⟩ := r
                  simp only [hv] at h
                  cases hpt : vput nt fr o.dst v with
                  | none => simp [hpt] at h
                  | some fr1 =>
                    simp only [hpt] at h
                    obtain ⟨_, x, rfl, _, hok⟩ := vop_quiet (w := w) (st := ⟨st.nx, .e, 0⟩) hn (HR.empty hh.base) hf q1 q2 hv
                    refine go (x.real J) ⟨i, fun _ => True⟩ es fr1 rfl (.inl ⟨vwanted_spec hf hw, fun w2 hw2 => ?_⟩) trivial triv hvl hcl (hf.put (.inl ⟨x, rfl, rfl, hok⟩) hpt) h
                    obtain ⟨_, x', hx', hr, _⟩ := vop_quiet (w := w2) (st := ⟨st.nx, .e, 0⟩) hn (HR.empty hw2.1) hf q1 q2 hv
                    cases hx'
                    exact hr
              · rename_i hc
                obtain ⟨q1, q2⟩ := opCls_quiet (.inr hc)
                split at h
                · rename_i t x hop
                  split at h
                  · rename_i id off hx
                    cases hv : vload P st t id off with
                    | none => simp [hv] at h
                    | some v =>
                      simp only [hv] at h
                      cases hpt : vput nt fr o.dst (some v) with
                      | none => simp [hpt] at h
                      | some fr1 =>
                        simp only [hpt] at h
                        have vl : ∀ st2 : St, vload P st2 t id off = some v → vop P ro call fr st2 o.op = some (some v, st2) := fun st2 h2 => by rw [hop]; simp only [vop, hx, h2]
                        have yields : ∀ (J2 : Inj) (st2 : St) (w2 : World), J.le J2 → J2.nx = st2.nx → HR J2 ro B st2.hp.get w2 → vload P st2 t id off = some v → (execOp a.eval o).run P w2 = .ok (.value (v.real J)) w2 ∧ v.ok J2.nx := by
                          intro J2 st2 w2 hl hn2 hh2 hv2
                          obtain ⟨_, x', hx', hr, hok⟩ := vop_quiet (w := w2) (st := st2) hn2 hh2 (hf.mono hl) q1 q2 (vl st2 hv2)
                          cases hx'
                          obtain ⟨_, x'', hx'', _, hok0⟩ := vop_quiet (w := w) (st := st) hn hh hf q1 q2 (vl st hv)
                          cases hx''
                          exact ⟨by rw [hr, V.real_le hl _ hok0], hok⟩
                        have here := yields J st w (Inj.le.refl J) hn hh hv
                        refine go (v.real J) ⟨i, fun w2 => (execOp a.eval o).run P w2 = .ok (.value (v.real J)) w2⟩ (⟨i, t, id, off, v⟩ :: es) fr1 rfl (.inl ⟨vwanted_spec hf hw, fun w2 hw2 => hw2.2⟩) here.1 ?_ (fun c hc => (List.mem_cons.1 hc).elim (fun q => by subst q; exact hv) (hvl c)) (fun c hc' => (List.mem_cons.1 hc').elim (fun q => by subst q; exact ⟨o, hi, hc⟩) (hcl c)) (hf.put (.inl ⟨v, rfl, rfl, by rw [hn] at *; exact here.2⟩) hpt) h
                        intro e he
                        rcases List.mem_cons.1 he with rfl | q
                        · exact .inr ⟨_, List.mem_cons_self .., rfl, fun J2 st2 w2 hl hn2 hh2 hv2 => (yields J2 st2 w2 hl hn2 hh2 hv2).1⟩
                        · exact (hes e q).imp (fun q => q) fun ⟨c, hc, hok⟩ => ⟨c, List.mem_cons_of_mem _ hc, hok⟩
                  · cases h
                · cases h
              · rename_i h0 h1
                exfalso
                rcases Nat.le_one_iff_eq_zero_or_eq_one.1 hcls with q | q
                · exact h0 q
                · exact h1 q
        · cases hp
      · cases hp
    · -- the only one that may come
      rename_i hfind
      split at hp
      · rename_i i hr
        split at hp
        · rename_i o hi
          split at hp
          · rename_i l' r' hp'
            obtain ⟨f1, ls1⟩ := r'
            simp only [Option.some.injEq, Prod.mk.injEq] at hp
            obtain ⟨rfl, rfl, rfl⟩ := hp
            have hcls : ¬ opCls o.op ≤ 1 := by
              have := List.find?_eq_none.1 hfind i (by rw [hr]; exact List.mem_singleton.2 rfl)
              simpa only [clsAt, hi, Nat.ble_eq] using this
            intro hcl0
            refine ⟨fun h0 => (by rw [hr] at h0; cases h0), fun j hj => ?_⟩
            rw [hr] at hj
            obtain rfl : j = i := List.mem_singleton.1 hj
            unfold wpOp
            simp only [hi]
            simp only [runO] at h
            cases hw : vwanted ops fr o with
            | none => simp [hw] at h
            | some x =>
              rw [vwanted_spec hf hw]
              cases x with
              | false =>
                simp only [hw] at h
                cases hpt : vput nt fr o.dst none with
                | none => simp [hpt] at h
                | some fr1 =>
                  simp only [hpt] at h
                  simp only [Bool.false_eq_true, if_false]
                  exact ⟨E, fun e he _ => he, ⟨hh.base, hE⟩, ih _ _ _ l' es E fr1 fr' st st' J w _ hp' h hn hh hro (hf.put (.inr ⟨rfl, rfl⟩) hpt) (by rw [put_defers]; exact hd) hes hE hvl hcl hQ⟩
              | true =>
                simp only [hw] at h
                split at h
                · omega
                · omega
                · cases hv : vop P ro call fr ⟨st.nx, st.hp, st.nx⟩ o.op with
                  | none => simp [hv] at h
                  | some r =>
                    obtain ⟨v, st1⟩ := r
                    simp only [hv] at h
                    generalize hk : (Nat.ble st.nx st1.ver || keepB P st1 (aliveE ops j es)) = kk at h
                    cases kk with
                    | false => simp at h
                    | true =>
                      simp only at h
                      cases hpt : vput nt fr o.dst v with
                      | none => simp [hpt] at h
                      | some fr1 =>
                        simp only [hpt, natF_eq] at h
                        simp only [if_true]
                        refine .inl (wp_of_done (vop_sound (st := ⟨st.nx, st.hp, st.nx⟩) hcall hname hn hh hro hf hv) fun J1 w1 u hpost0 hu => ?_)
                        have hpost : Post J ro B st w J1 ⟨st1.nx, st1.hp, low st.ver st1.ver⟩ w1 := ⟨hpost0.le, hpost0.nx, hpost0.hr, hpost0.below, ⟨hpost0.ext.nx, low_left _ _, fun g b hg he => hpost0.ext.hp g b hg (Nat.lt_of_lt_of_le he (low_right _ _))⟩, hpost0.ro, hpost0.fr⟩
                        have hkeep : ∀ c ∈ aliveE ops j es, vload P st1 c.t c.id c.off = some c.v := by
                          intro c hc
                          rw [Bool.or_eq_true] at hk
                          rcases hk with q | q
                          · rw [Nat.ble_eq] at q
                            have h0 := hvl c (mem_aliveE' hc)
                            have hb : ∃ b, st.hp.get c.id = some b := by
                              unfold vload at h0
                              cases hg : st.hp.get c.id with
                              | none => simp [hg] at h0
                              | some b => exact ⟨b, rfl⟩
                            obtain ⟨b, hb⟩ := hb
                            have hlt := (hh.blk c.id b hb).1
                            have h1 := hpost0.ext.hp c.id b hb (by omega)
                            unfold vload at h0 ⊢
                            rw [h1]
                            rw [hb] at h0
                            exact h0
                          · exact keepB_mem q hc
                        have hE' : EntsOK P ro B J1 (aliveE ops j es) (E.filter fun e => !Region.waitsT .any ops j e.x) := by
                          intro e he
                          obtain ⟨he1, he2⟩ := List.mem_filter.1 he
                          refine ((hes.mono hpost.le) e he1).imp id ?_
                          rintro ⟨c, hc, h1, h2⟩
                          exact ⟨c, mem_aliveE hc (by rw [← h1]; simpa using he2), h1, h2⟩
                        have hold : ∀ e ∈ E.filter fun e => !Region.waitsT .any ops j e.x, e.h w1 := by
                          intro e he
                          rcases hE' e he with q | ⟨c, hc, h1, h2⟩
                          · exact q w1
                          · exact h2 J1 st1 w1 (Inj.le.refl _) hpost0.nx hpost0.hr (hkeep c hc)
                        exact ⟨E.filter fun e => !Region.waitsT .any ops j e.x, fun e he hwt => List.mem_filter.2 ⟨he, by simpa using hwt⟩, ⟨hpost.hr.base, hold⟩,
                          ih _ _ _ l' _ _ fr1 fr' _ st' J1 w1 _ hp' h hpost.nx hpost.hr hpost.ro ((hf.mono hpost.le).put hu hpt) (by rw [put_defers]; exact hd) hE' hold hkeep (fun c hc => hcl c (mem_aliveE' hc)) (fun J2 a2 w2 es2 E2 p2 f2 d2 => hQ J2 a2 w2 es2 E2 (hpost.trans p2) f2 d2)⟩
          · cases hp
        · cases hp
      · simp only [Option.some.injEq, Prod.mk.injEq] at hp
        obtain ⟨rfl, rfl, rfl⟩ := hp
        simp only [runO, Option.some.injEq, Prod.mk.injEq] at h
        obtain ⟨rfl, rfl⟩ := h
        exact hQ J a w es E (Post.refl hn hh hro) hf hd hes hE hcl


theorem nilB_eq {α : Type} {l : List α} (h : nilB l = true) : l = [] := by cases l with | nil => rfl | cons => cases h
theorem sameN_eq : ∀ {l m : List Nat}, sameN l m = true → l = m
  | [], [], _ => rfl
  | [], _ :: _, h => by cases h
  | _ :: _, [], h => by cases h
  | x :: r, y :: s, h => by
    simp only [sameN, Bool.and_eq_true, Nat.beq_eq] at h
    rw [h.1, sameN_eq h.2]
theorem isStoreB_spec {o : Oper} (h : isStoreB o = true) : o.guard = none ∧ o.dst = none ∧ ∃ t x v, o.op = .store t x v := by
  unfold isStoreB at h
  split at h
  · rename_i t x v h1 h2 h3
    exact ⟨h1, h2, t, x, v, h3⟩
  · cases h

/-- Memories that are the same at every block (blocks, in turn, at every cell). -/
structure BE (b c : Blk) : Prop where
  sz : c.sz = b.sz
  es : c.es = b.es
  op : c.op = b.op
  zero : c.zero = [] ↔ b.zero = []
  mp : c.mp = b.mp
  get : ∀ k, c.get k = b.get k
theorem BE.refl (b : Blk) : BE b b := ⟨rfl, rfl, rfl, Iff.rfl, rfl, fun _ => rfl⟩
theorem BR.be {J : Inj} {g : Nat} {b c : Blk} {w : World} (h : BR J ro B g b w) (e : BE b c) : BR J ro B g c w := by
  have hf : c.full = b.full := by unfold Blk.full; rw [e.op, e.es]
  cases hq : b.mp with
  | none =>
    have hq' : c.mp = none := by rw [e.mp]; exact hq
    obtain ⟨k0, c0, e0, f0, k1, k2, k3, k4, k5⟩ := h.cells hq
    exact BR.of_cells hq' ⟨k0, c0, e0, f0, k1, by rw [e.sz]; exact k2, fun z => by rw [e.op] at z; rw [e.sz, e.es, e.zero]; exact k3 z, fun z => by rw [hf]; exact k4 z, fun o v hv => k5 o v (by rw [← e.get o]; exact hv)⟩
  | some l =>
    have hq' : c.mp = some l := by rw [e.mp]; exact hq
    unfold BR at h ⊢
    rw [hq] at h
    rw [hq']
    unfold MR at h ⊢
    rw [e.sz]
    exact h
theorem HR.be {J : Inj} {h h' : Nat → Option Blk} {w : World} (hh : HR J ro B h w) (e : ∀ g c, h' g = some c → ∃ b, h g = some b ∧ BE b c) : HR J ro B h' w :=
  ⟨hh.base, fun g c hg => by
    obtain ⟨b, hb, hbe⟩ := e g c hg
    exact (hh.blk g b hb).be hbe, fun g g' c c' hg hg' => by
    obtain ⟨b, hb, _⟩ := e g c hg
    obtain ⟨b', hb', _⟩ := e g' c' hg'
    exact hh.inj g g' b b' hb hb'⟩
/-- What is known of a memory is known of one that says less, or the same in other words. -/
theorem Post.be {J J' : Inj} {st s1 s2 : St} {w w1 : World} (h : Post J ro B st w J' s1 w1) (hn : s2.nx = s1.nx) (hx : Ext st s2) (e : ∀ g c, s2.hp.get g = some c → ∃ b, s1.hp.get g = some b ∧ BE b c) : Post J ro B st w J' s2 w1 :=
  ⟨h.le, h.nx.trans hn.symm, h.hr.be e, h.below, hx, h.ro, fun i hi hf => by
    obtain ⟨p1, p2⟩ := h.fr i hi hf
    exact ⟨p1, fun g c hg => by
      obtain ⟨b, hb, _⟩ := e g c hg
      exact p2 g b hb⟩⟩

theorem vstore_inv {st st' : St} {t : TypeId} {g o : Nat} {v : V} (h : vstore P ro st t g o v = some st') : ∃ b b', st.hp.get g = some b ∧ ro ≤ g ∧ b.put v.cells o = some b' ∧ st' = st.write g b' ∧ ∀ s2 : St, s2.hp.get g = some b → vstore P ro s2 t g o v = some (s2.write g b') := by
  unfold vstore at h
  split at h
  · rename_i b ti hb hi
    cases hc : (Nat.ble ro g && Nat.beq v.cells.length ti.size) with
    | false => simp [hc] at h
    | true =>
      simp only [hc, cond_true] at h
      have hc' := hc
      simp only [Bool.and_eq_true, Nat.ble_eq] at hc
      cases hp : b.put v.cells o with
      | none => simp [hp] at h
      | some b' =>
        simp only [hp, Option.some.injEq] at h
        exact ⟨b, b', hb, hc.1, hp, h.symm, fun s2 h2 => by simp only [vstore, h2, hi, hc', cond_true, hp]⟩
  · cases h

/-- A REGION THAT ENDS IN TWO STORES, at different blocks. -/
theorem planPair_sound {nt : Nat} {call : CallF} (hcall : CallOK P ro B call) (hname : ∀ (f : Nat) (fn : Func), P.funcs[f]? = some fn → (fn.name == "runtime.NumGoroutine") = false) (hmix : P.follows .mixedOrders = true) {ops : Array Oper} {Q : Exit → Act → World → Prop}
    (hQp : ∀ c a w, ¬ Q (.panic c) a w) {id : Nat} {l : List (Nat × Oper)} {x y : Oper} {fr fr' : T V} {st st1 st' : St} {J : Inj} {w : World} {a : Act} (hp : planPair ops = some (l, x, y)) (h : runO P ro nt call ops l [] fr st = some (fr', st1)) (h2 : runPair P ro x y fr' st1 = some st')
    (hn : J.nx = st.nx) (hh : HR J ro B st.hp.get w) (hro : ro ≤ J.nx) (hf : FR J nt fr a.tmps) (hd : a.defers = []) (hQ : ∀ J' a' w', Post J ro B st w J' st' w' → FR J' nt fr' a'.tmps → a'.defers = [] → Q .normal a' w') : (Code.region id ops true).wp P Q a w := by
  unfold planPair at hp
  split at hp
  · rename_i hsel
    split at hp
    · rename_i l0 f0 ls0 hps
      split at hp
      · rename_i i j hrd
        split at hp
        · rename_i o q hi hj
          cases hc : (isStoreB o && isStoreB q && endB ops ls0 i j) with
          | false => simp [hc] at hp
          | true =>
            simp only [hc, cond_true, Option.some.injEq, Prod.mk.injEq] at hp
            obtain ⟨rfl, rfl, rfl⟩ := hp
            simp only [Bool.and_eq_true] at hc
            obtain ⟨⟨s1, s2⟩, s3⟩ := hc
            unfold endB at s3
            simp only [Bool.and_eq_true] at s3
            obtain ⟨⟨⟨⟨⟨e1, e2⟩, e3⟩, e4⟩, e5⟩, e6⟩ := s3
            have e1 := sameN_eq e1
            have e2 := sameN_eq e2
            have e3 := nilB_eq e3
            have e4 := nilB_eq e4
            obtain ⟨g1, d1, t1, x1, v1, o1⟩ := isStoreB_spec s1
            obtain ⟨g2, d2, t2, x2, v2, o2⟩ := isStoreB_spec s2
            unfold runPair at h2
            rw [o1, o2] at h2
            dsimp only at h2
            split at h2
            · rename_i ga oa va gb ob vb hx1 hv1 hx2 hv2
              cases hg : Nat.beq ga gb with
              | true => simp [hg] at h2
              | false =>
                simp only [hg, cond_false] at h2
                have hgne : ga ≠ gb := fun z => by rw [z] at hg; rw [show Nat.beq gb gb = true from by rw [Nat.beq_eq]] at hg; cases hg
                cases hs1 : vstore P ro st1 t1 ga oa va with
                | none => simp [hs1] at h2
                | some sm =>
                  simp only [hs1] at h2
                  obtain ⟨b1, c1, p1, p2, p3, p4, p5⟩ := vstore_inv hs1
                  obtain ⟨b2, c2, q1, q2, q3, q4, q5⟩ := vstore_inv h2
                  rw [p4, St.write_eq] at q1
                  dsimp only at q1
                  rw [T.get_upd, if_neg (fun z => hgne z.symm)] at q1
                  have nowait : ∀ (k : Nat) (es' : List Ent) (E' : List Held), waitsAll ops k = true → (∀ c ∈ es', ∃ o, ops[c.x]? = some o ∧ opCls o.op = 1) → ∀ J1, EntsOK P ro B J1 es' E' → ∀ e ∈ E', Region.waitsT .any ops k e.x = false → ∀ w, e.h w := by
                    intro k es' E' hw hcl J1 hes e he hwt
                    rcases hes e he with z | ⟨c, hc, z1, z2⟩
                    · exact z
                    · exfalso
                      obtain ⟨oc, ho, hcl1⟩ := hcl c hc
                      have hlt : c.x < ops.size := by
                        rcases Nat.lt_or_ge c.x ops.size with q | q
                        · exact q
                        · rw [Array.getElem?_eq_none q] at ho; cases ho
                      have := List.all_eq_true.1 hw c.x (List.mem_range.2 hlt)
                      rw [ho] at this
                      dsimp only at this
                      rw [hcl1, show c.x = e.x from (by first | exact z1 | exact z1.symm), hwt] at this
                      simp at this
                  -- one store, then the other
                  have step : ∀ (i j : Nat) (o q : Oper) (t t' : TypeId) (x v x' v' : Operand) (g of g' of' : Nat) (u u' : V) (b c b' c' : Blk),
                      ops[i]? = some o → ops[j]? = some q → o.guard = none → o.dst = none → o.op = .store t x v → q.guard = none → q.dst = none → q.op = .store t' x' v' →
                      opnd fr' x = some (.p g of) → opnd fr' v = some u → opnd fr' x' = some (.p g' of') → opnd fr' v' = some u' → g ≠ g' →
                      st1.hp.get g = some b → st1.hp.get g' = some b' → (∀ s2 : St, s2.hp.get g = some b → vstore P ro s2 t g of u = some (s2.write g c)) → (∀ s2 : St, s2.hp.get g' = some b' → vstore P ro s2 t' g' of' u' = some (s2.write g' c')) →
                      (∀ k, ((st1.write g c).write g' c').hp.get k = st'.hp.get k) → st'.nx = st1.nx → st'.ver = low (low st1.ver ga) gb →
                      low (low st1.ver g) g' = low (low st1.ver ga) gb → Region.ready .any ops (ls0.setIfInBounds i true) = [j] → Region.ready .any ops ((ls0.setIfInBounds i true).setIfInBounds j true) = [] → waitsAll ops i = true → waitsAll ops j = true →
                      ∀ (J1 : Inj) (a1 : Act) (w1 : World) (es' : List Ent) (E' : List Held), Post J ro B st { w with drawn := w.drawn + 1 } J1 st1 w1 → FR J1 nt fr' a1.tmps → a1.defers = [] → EntsOK P ro B J1 es' E' → (∀ e ∈ E', e.h w1) → (∀ c ∈ es', ∃ o, ops[c.x]? = some o ∧ opCls o.op = 1) →
                      wpOp P ops Q i (fun a' w' => ∃ E2, (∀ e ∈ E', Region.waitsT .any ops i e.x = false → e ∈ E2) ∧ (Old B w' ∧ ∀ e ∈ E2, e.h w') ∧ wpAnyE P .any ops Q (Old B) (f0 + 1) (ls0.setIfInBounds i true) E2 a' w') a1 w1 := by
                    intro i j o q t t' x v x' v' g of g' of' u u' b c b' c' hi hj og od oo qg qd qo hx hv hx' hv' hne hb hb' hst hst' hget hnx hver hlow r1 r2 w1i w1j J1 a1 w1 es' E' hpo hf1 hd1 hes hE hcl
                    unfold wpOp
                    simp only [hi]
                    have hwi : Region.wanted o (yielded ops a1.tmps) = true := by unfold Region.wanted; rw [og]
                    rw [hwi, if_pos rfl]
                    have hvop : vop P ro call fr' st1 o.op = some (none, st1.write g c) := by rw [oo]; simp only [vop, hx, hv, hst st1 hb]
                    refine .inl (wp_of_done (vop_sound hcall hname hpo.nx hpo.hr hpo.ro hf1 hvop) fun J2 w2 uu hp2 hu => ?_)
                    have hpo2 := hpo.trans hp2
                    refine ⟨E'.filter fun e => !Region.waitsT .any ops i e.x, fun e he hwt => List.mem_filter.2 ⟨he, by simpa using hwt⟩, ⟨hpo2.hr.base, fun e he => ?_⟩, fun _ => ⟨fun z => (by rw [r1] at z; cases z), fun j2 hj2 => ?_⟩⟩
                    · obtain ⟨he1, he2⟩ := List.mem_filter.1 he
                      exact nowait i es' E' w1i hcl J1 hes e he1 (by simpa using he2) w2
                    · rw [r1] at hj2
                      obtain rfl : j2 = j := List.mem_singleton.1 hj2
                      unfold wpOp
                      simp only [hj]
                      have hput : ∀ (ax : Act) (z : Value), ax.put none z = ax := fun _ _ => rfl
                      rw [od, hput]
                      have hwj : Region.wanted q (yielded ops a1.tmps) = true := by unfold Region.wanted; rw [qg]
                      rw [hwj, if_pos rfl]
                      have hb2 : (st1.write g c).hp.get g' = some b' := by rw [St.write_eq]; dsimp only; rw [T.get_upd, if_neg (fun z => hne z.symm)]; exact hb'
                      have hvop2 : vop P ro call fr' (st1.write g c) q.op = some (none, (st1.write g c).write g' c') := by rw [qo]; simp only [vop, hx', hv', hst' _ hb2]
                      refine .inl (wp_of_done (vop_sound hcall hname hpo2.nx hpo2.hr hpo2.ro (hf1.mono hp2.le) hvop2) fun J3 w3 uu3 hp3 hu3 => ?_)
                      rw [qd, hput]
                      have hpo3 := hpo2.trans hp3
                      have hfin : Post J ro B st { w with drawn := w.drawn + 1 } J3 st' w3 := by
                        refine hpo3.be (by rw [hnx, St.write_eq, St.write_eq]) ?_ (fun k cc hk => ⟨cc, by rw [hget]; exact hk, BE.refl _⟩)
                        refine ⟨by have := hpo3.ext.nx; rw [St.write_eq, St.write_eq] at this; rw [hnx]; exact this, by have := hpo3.ext.ver; rw [St.write_eq, St.write_eq] at this; dsimp only at this; rw [hver, ← hlow]; exact this, fun k bk hk hkl => ?_⟩
                        rw [← hget]
                        exact hpo3.ext.hp k bk hk (by rw [St.write_eq, St.write_eq]; dsimp only; rw [hlow, ← hver]; exact hkl)
                      have p0 : Post J ro B st w J st { w with drawn := w.drawn + 1 } := ⟨Inj.le.refl J, hn, hh.congr rfl, ⟨rfl, rfl, rfl, Nat.le_refl _, fun _ _ => rfl⟩, Ext.refl _, hro, Fr.same fun _ _ => rfl⟩
                      have hq := hQ J3 a1 w3 (p0.trans hfin) ((hf1.mono hp2.le).mono hp3.le) hd1
                      refine ⟨(E'.filter fun e => !Region.waitsT .any ops i e.x).filter fun e => !Region.waitsT .any ops j2 e.x, fun e he hwt => List.mem_filter.2 ⟨he, by simpa using hwt⟩, ⟨hfin.hr.base, fun e he => ?_⟩, ?_⟩
                      · obtain ⟨he1, he2⟩ := List.mem_filter.1 he
                        exact nowait j2 es' E' w1j hcl J1 hes e (List.mem_filter.1 he1).1 (by simpa using he2) w3
                      · cases f0 with
                        | zero => exact ⟨r2, hq⟩
                        | succ f0 => exact fun _ => ⟨fun _ => hq, fun k hk => (by rw [r2] at hk; cases hk)⟩
                  have p0 : Post J ro B st w J st { w with drawn := w.drawn + 1 } := ⟨Inj.le.refl J, hn, hh.congr rfl, ⟨rfl, rfl, rfl, Nat.le_refl _, fun _ _ => rfl⟩, Ext.refl _, hro, Fr.same fun _ _ => rfl⟩
                  refine wp_region_any hmix (wpAny_of_E (S0 := Old B) _ _ [] _ _ (fun d od _ hl => by
                    have z : (Array.replicate ops.size false)[d]?.getD false = false := by rw [Array.getElem?_replicate]; split <;> rfl
                    simp only [Array.getD_eq_getD_getElem?] at hl
                    rw [z] at hl
                    cases hl) ?_)
                  have hst' : st' = (st1.write ga c1).write gb c2 := by rw [q4, p4]
                  have hnx' : st'.nx = st1.nx := by rw [hst', St.write_eq, St.write_eq]
                  have hver' : st'.ver = low (low st1.ver ga) gb := by rw [hst', St.write_eq, St.write_eq]
                  refine runO_stop hcall hname hsel hQp ops.size _ _ _ _ [] [] fr fr' st st1 J _ a hps h hn p0.hr hro hf hd (fun _ h => by cases h) (fun _ h => by cases h) (fun _ h => by cases h) (fun _ h => by cases h) (fun J1 a1 w1 es' E' hpo hf1 hd1 hes hE hcl => ?_)
                  refine fun _ => ⟨fun z => (by rw [hrd] at z; cases z), fun k hk => ?_⟩
                  rw [hrd] at hk
                  rcases List.mem_cons.1 hk with rfl | hk
                  · exact step k j o q t1 t2 x1 v1 x2 v2 ga oa gb ob va vb b1 c1 b2 c2 hi hj g1 d1 o1 g2 d2 o2 hx1 hv1 hx2 hv2 hgne p1 q1 p5 q5 (fun m => by rw [hst']) hnx' hver' rfl e1 e3 e5 e6 J1 a1 w1 es' E' hpo hf1 hd1 hes hE hcl
                  · obtain rfl : k = j := List.mem_singleton.1 hk
                    refine step k i q o t2 t1 x2 v2 x1 v1 gb ob ga oa vb va b2 c2 b1 c1 hj hi g2 d2 o2 g1 d1 o1 hx2 hv2 hx1 hv1 (fun z => hgne z.symm) q1 p1 q5 p5 (fun m => ?_) hnx' hver' ?_ e2 e4 e6 e5 J1 a1 w1 es' E' hpo hf1 hd1 hes hE hcl
                    · rw [hst']
                      simp only [St.write_eq, T.get_upd]
                      by_cases z1 : m = ga
                      · subst z1; rw [if_pos rfl, if_neg hgne, if_pos rfl]
                      · rw [if_neg z1, if_neg z1]
                    · have lc : ∀ a b c : Nat, low (low a b) c = low (low a c) b := by
                        intro a b c
                        have L : ∀ x y : Nat, low x y = min x y := by
                          intro x y
                          unfold low
                          cases e : Nat.ble x y with
                          | true => rw [Nat.ble_eq] at e; simp; omega
                          | false =>
                            have : ¬ x ≤ y := by intro q; rw [← Nat.ble_eq] at q; rw [q] at e; cases e
                            simp; omega
                        rw [L, L, L, L]; omega
                      exact lc _ _ _
            · cases h2
        · cases hp
      · cases hp
    · cases hp
  · cases hp

/-- One step of a region of open order: each one that may come does what the evaluator tells. -/
theorem any_step {nt : Nat} {call : CallF} (hcall : CallOK P ro B call) (hname : ∀ (f : Nat) (fn : Func), P.funcs[f]? = some fn → (fn.name == "runtime.NumGoroutine") = false) {ops : Array Oper} {Q : Exit → Act → World → Prop} {fuel : Nat} {listed : Array Bool} {r : List Nat} (hr : Region.ready .any ops listed = r) (hne : r ≠ [])
    {J0 J : Inj} {st0 st : St} {w0 w : World} {fr : T V} {a : Act} (hpo : Post J0 ro B st0 w0 J st w) (hf : FR J nt fr a.tmps) (hd : a.defers = [])
    (h : ∀ i ∈ r, ∃ o v st1 fr1, ops[i]? = some o ∧ o.guard = none ∧ vop P ro call fr st o.op = some (v, st1) ∧ vput nt fr o.dst v = some fr1 ∧
      ∀ J1 a1 w1, Post J0 ro B st0 w0 J1 st1 w1 → FR J1 nt fr1 a1.tmps → a1.defers = [] → wpAny P .any ops Q fuel (listed.setIfInBounds i true) a1 w1) : wpAny P .any ops Q (fuel + 1) listed a w := by
  refine ⟨fun z => (hne (hr.symm.trans z)).elim, fun i hi => ?_⟩
  rw [hr] at hi
  obtain ⟨o, v, st1, fr1, h1, h2, h3, h4, h5⟩ := h i hi
  unfold wpOp
  simp only [h1]
  have hwi : Region.wanted o (yielded ops a.tmps) = true := by unfold Region.wanted; rw [h2]
  rw [hwi, if_pos rfl]
  refine .inl (wp_of_done (vop_sound hcall hname hpo.nx hpo.hr hpo.ro hf h3) fun J2 w2 uu hp2 hu => ?_)
  exact h5 J2 _ w2 (hpo.trans hp2) ((hf.mono hp2.le).put hu h4) (by rw [put_defers]; exact hd)

theorem eraseL_get : ∀ (l : List Nat) (fr : T V) (t : Nat), (eraseL l fr).get t = if t ∈ l then none else fr.get t
  | [], fr, t => by simp [eraseL]
  | x :: l, fr, t => by
    rw [eraseL, eraseL_get l, T.get_upd]
    by_cases h1 : t ∈ l
    · simp [h1]
    · by_cases h2 : t = x
      · subst h2; simp
      · simp [h1, h2]
theorem FR.less {J : Inj} {nt : Nat} {fr fr' : T V} {tmps : Array Value} (h : FR J nt fr tmps) (e : ∀ t v, fr'.get t = some v → fr.get t = some v) : FR J nt fr' tmps := ⟨h.1, fun t v hv => h.2 t v (e t v hv)⟩

theorem vput_some {nt d : Nat} (h : Nat.blt d nt = true) (fr : T V) (v : V) : vput nt fr (some d) (some v) = some (fr.upd d (some v)) := by
  simp only [vput, h, cond_true, V.force_eq]
theorem vput_no {nt : Nat} (fr : T V) (v : Option V) : vput nt fr none v = some fr := rfl

/-- A CHOICE IN MEMORY: either way, and nothing that is seen behind it is changed. -/
theorem flagR_sound {nt : Nat} {call : CallF} (hcall : CallOK P ro B call) (hname : ∀ (f : Nat) (fn : Func), P.funcs[f]? = some fn → (fn.name == "runtime.NumGoroutine") = false) (hmix : P.follows .mixedOrders = true) {ops : Array Oper} {Q : Exit → Act → World → Prop} {p f : Nat} (h : flagR P nt ops = some (p, f))
    {id : Nat} {fr : T V} {st : St} {J : Inj} {w : World} {a : Act} (hn : J.nx = st.nx) (hh : HR J ro B st.hp.get w) (hro : ro ≤ J.nx) (hf : FR J nt fr a.tmps) (hd : a.defers = [])
    (hQ : ∀ x J' a' w', Post J ro B st w J' ⟨st.nx + 1, st.hp, st.ver⟩ w' → FR J' nt (eraseL [p, f] fr) a'.tmps → a'.defers = [] → a'.eval (.tmp f) = .bool x → Q .normal a' w') : (Code.region id ops true).wp P Q a w := by
  unfold flagR at h
  split at h
  · rename_i o1 o2 o3 o4 hl
    split at h
    · rename_i p' t1 t2 p2 t3 p3 f' t4 p4 g1 d1 q1 g2 d2 q2 g3 d3 q3 g4 d4 q4
      generalize hc : ((decide (t2 = t1) && decide (t3 = t1) && decide (t4 = t1)) && (Nat.beq p2 p' && Nat.beq p3 p' && Nat.beq p4 p' && !(Nat.beq p' f')) && boolTy P t1 && orders4 ops && Nat.blt p' nt && Nat.blt f' nt) = cc at h
      cases cc with
      | false => cases h
      | true =>
        simp only [cond_true, Option.some.injEq, Prod.mk.injEq] at h
        obtain ⟨rfl, rfl⟩ := h
        simp only [Bool.and_eq_true, decide_eq_true_eq, Nat.beq_eq, Bool.not_eq_true'] at hc
        obtain ⟨⟨⟨⟨⟨⟨⟨rfl, rfl⟩, rfl⟩, ⟨⟨rfl, rfl⟩, rfl⟩, hpf⟩, hbt⟩, hor⟩, hp⟩, hfl⟩ := hc
        have hpf : p4 ≠ f' := fun z => by rw [z, show Nat.beq f' f' = true from by rw [Nat.beq_eq]] at hpf; cases hpf
        unfold orders4 at hor
        simp only [Bool.and_eq_true] at hor
        obtain ⟨⟨⟨⟨⟨⟨⟨r0, r1⟩, r2⟩, r3⟩, r4⟩, r5⟩, r6⟩, r7⟩ := hor
        have r0 := sameN_eq r0
        have r1 := sameN_eq r1
        have r2 := sameN_eq r2
        have r3 := sameN_eq r3
        have r4 := sameN_eq r4
        have r5 := sameN_eq r5
        have r6 := sameN_eq r6
        have r7 := sameN_eq r7
        have hops : ops = #[o1, o2, o3, o4] := by apply Array.ext'; simpa using hl
        have n1 : ops[0]? = some o1 := by rw [hops]; rfl
        have n2 : ops[1]? = some o2 := by rw [hops]; rfl
        have n3 : ops[2]? = some o3 := by rw [hops]; rfl
        have n4 : ops[3]? = some o4 := by rw [hops]; rfl
        have hsz : ops.size = 4 := by rw [hops]; rfl
        rw [hsz] at r0 r1 r2 r3 r4 r5 r6 r7
        unfold boolTy at hbt
        split at hbt
        · rename_i ti hu hz hi
          rw [Nat.beq_eq] at hbt
          have hs : sizeB P t4 = some 1 := by unfold sizeB; rw [hi]; simp [hbt]
          obtain ⟨bf, hbf⟩ : ∃ b, b = (Blk.mk (T.n .e (some (.b false)) .e) [] 1 1 false none) := ⟨_, rfl⟩
          obtain ⟨bt, hbt'⟩ : ∃ b, b = (Blk.mk (T.n .e (some (.b true)) .e) [] 1 1 false none) := ⟨_, rfl⟩
          have va : ∀ s : St, vop P ro call fr s o1.op = some (some (.p s.nx 0), s.alloc bf) := fun s => by
            rw [q1]; simp only [vop, hz, hs, valloc]; subst hbf; rw [show blkOf (V.b false).cells 1 false = some ⟨T.n .e (some (.b false)) .e, [], 1, 1, false, none⟩ from rfl]; simp only [natF_eq]
          have vs : ∀ (s : St) (g : T V) (b : Blk) (x : Bool), g.get p4 = some (.p s.nx 0) → ro ≤ s.nx → ∀ s2 : St, s2.hp.get s.nx = some b → (b = bf ∨ b = bt) → vop P ro call g s2 (.store t4 (.tmp p4) (.const (.bool x))) = some (none, s2.write s.nx (cond x bt bf)) := fun s g b x hg hle s2 h2 hb => by
            have hro' : Nat.ble ro s.nx = true := by rw [Nat.ble_eq]; exact hle
            simp only [vop, opnd, hg, ofV, vstore, h2, hi, hro', V.cells, List.length_singleton, hbt]
            rcases hb with rfl | rfl <;> subst hbf <;> subst hbt' <;> cases x <;> rfl
          have vl : ∀ (s : St) (g : T V) (x : Bool), g.get p4 = some (.p s.nx 0) → ∀ s2 : St, s2.hp.get s.nx = some (cond x bt bf) → vop P ro call g s2 o4.op = some (some (.b x), s2) := fun s g x hg s2 h2 => by
            rw [q4]
            simp only [vop, opnd, hg, vload, h2, hi, hu, isAggB]
            subst hbf; subst hbt'; cases x <;> rfl
          have ga : ∀ s : St, (s.alloc bf).hp.get s.nx = some bf := fun s => by show (s.hp.upd s.nx (some bf)).get s.nx = _; rw [T.get_upd, if_pos rfl]
          have gw : ∀ (s2 : St) (k : Nat) (b : Blk), (s2.write k b).hp.get k = some b := fun s2 k b => by rw [St.write_eq]; dsimp only; rw [T.get_upd, if_pos rfl]
          have p0 : Post J ro B st w J st { w with drawn := w.drawn + 1 } := ⟨Inj.le.refl J, hn, hh.congr rfl, ⟨rfl, rfl, rfl, Nat.le_refl _, fun _ _ => rfl⟩, Ext.refl _, hro, Fr.same fun _ _ => rfl⟩
          have hle : ro ≤ st.nx := by omega
          have fp : ∀ (fr0 : T V), (fr0.upd p4 (some (.p st.nx 0))).get p4 = some (.p st.nx 0) := fun fr0 => by rw [T.get_upd, if_pos rfl]
          have cb : ∀ x, cond x bt bf = bf ∨ cond x bt bf = bt := fun x => by cases x <;> simp
          have hlow : ∀ x y : Nat, x ≤ y → low x y = x := fun x y hxy => by unfold low; rw [show Nat.ble x y = true from by rw [Nat.ble_eq]; exact hxy]; rfl
          -- the end of either way
          have fin : ∀ (x y : Bool) J' a' w', Post J ro B st w J' (((st.alloc bf).write st.nx (cond x bt bf)).write st.nx (cond y bt bf)) w' → FR J' nt ((fr.upd p4 (some (.p st.nx 0))).upd f' (some (.b y))) a'.tmps → a'.defers = [] → Q .normal a' w' := by
            intro x y J' a' w' hpo hfr hdf
            refine hQ y J' a' w' (hpo.be ?_ ⟨Nat.le_succ _, Nat.le_refl _, fun _ _ hk _ => hk⟩ fun g c hg => ⟨c, ?_, BE.refl c⟩) (hfr.less fun t v ht => ?_) hdf ?_
            · rw [St.write_eq, St.write_eq]; rfl
            · have hg : st.hp.get g = some c := hg
              have : g < st.nx := by rw [← hn]; exact (hh.blk g c hg).1
              have e1 : (st.alloc bf).hp.get g = some c := by show (st.hp.upd st.nx (some bf)).get g = _; rw [T.get_upd, if_neg (by omega)]; exact hg
              rw [St.write_eq, St.write_eq]
              dsimp only
              rw [T.get_upd, if_neg (by omega), T.get_upd, if_neg (by omega)]
              exact e1
            · rw [eraseL_get] at ht
              split at ht
              · cases ht
              · rename_i hm
                simp only [List.mem_cons, List.not_mem_nil, or_false, not_or] at hm
                rw [T.get_upd, if_neg hm.2, T.get_upd, if_neg hm.1]
                exact ht
            · have := (opnd_spec hfr (.tmp f') (.b y) (by simp only [opnd]; rw [T.get_upd, if_pos rfl])).1
              rw [this]; rfl
          refine wp_region_any hmix ?_
          rw [hsz]
          have hfm := hf
          refine any_step (fuel := 3) hcall hname r0 (by simp) p0 hf hd fun i hi => ?_
          obtain rfl : i = 0 := by simpa using hi
          refine ⟨o1, _, _, _, n1, g1, va st, by rw [d1]; exact vput_some hp _ _, fun J1 a1 w1 hp1 hf1 hd1 => ?_⟩
          refine any_step (fuel := 2) hcall hname r1 (by simp) hp1 hf1 hd1 fun i hi => ?_
          rcases List.mem_cons.1 hi with rfl | hi
          · refine ⟨o2, _, _, _, n2, g2, by rw [q2]; exact vs st _ bf true (fp fr) hle _ (ga st) (.inl rfl), by rw [d2]; exact vput_no _ _, fun J2 a2 w2 hp2 hf2 hd2 => ?_⟩
            refine any_step (fuel := 1) hcall hname r2 (by simp) hp2 hf2 hd2 fun i hi => ?_
            obtain rfl : i = 2 := by simpa using hi
            refine ⟨o3, _, _, _, n3, g3, by rw [q3]; exact vs st _ _ false (fp fr) hle _ (gw _ _ _) (cb true), by rw [d3]; exact vput_no _ _, fun J3 a3 w3 hp3 hf3 hd3 => ?_⟩
            refine any_step (fuel := 0) hcall hname r4 (by simp) hp3 hf3 hd3 fun i hi => ?_
            obtain rfl : i = 3 := by simpa using hi
            refine ⟨o4, _, _, _, n4, g4, vl st _ false (fp fr) _ (gw _ _ _), by rw [d4]; exact vput_some hfl _ _, fun J4 a4 w4 hp4 hf4 hd4 => ?_⟩
            exact ⟨r6, fin true false J4 a4 w4 hp4 hf4 hd4⟩
          · obtain rfl : i = 2 := by simpa using hi
            refine ⟨o3, _, _, _, n3, g3, by rw [q3]; exact vs st _ bf false (fp fr) hle _ (ga st) (.inl rfl), by rw [d3]; exact vput_no _ _, fun J2 a2 w2 hp2 hf2 hd2 => ?_⟩
            refine any_step (fuel := 1) hcall hname r3 (by simp) hp2 hf2 hd2 fun i hi => ?_
            obtain rfl : i = 1 := by simpa using hi
            refine ⟨o2, _, _, _, n2, g2, by rw [q2]; exact vs st _ _ true (fp fr) hle _ (gw _ _ _) (cb false), by rw [d2]; exact vput_no _ _, fun J3 a3 w3 hp3 hf3 hd3 => ?_⟩
            refine any_step (fuel := 0) hcall hname r5 (by simp) hp3 hf3 hd3 fun i hi => ?_
            obtain rfl : i = 3 := by simpa using hi
            refine ⟨o4, _, _, _, n4, g4, vl st _ true (fp fr) _ (gw _ _ _), by rw [d4]; exact vput_some hfl _ _, fun J4 a4 w4 hp4 hf4 hd4 => ?_⟩
            exact ⟨r7, fin false true J4 a4 w4 hp4 hf4 hd4⟩
        · cases hbt
    · cases h
  · cases h
end
end Go.Vm
