/-
  A region that ends in two stores of open order; a region of which all orders are gone through. Nothing is claimed here.
-/
import Derived.Test.YtajmjilckaifoaaGreatDoorJa1
import Derived.WalkKit
import Derived.ProofKit
import Derived.OpenShut
import Derived.ReadAgain
namespace Go.Vm
open Go.RowKit

section
variable {P : Program} {ro : Nat} {B : World}

/-- The plan as far as it goes. -/
theorem runO_stop {nt : Nat} {call : CallF} (hcall : CallOK P ro B call) (hname : ∀ (f : Nat) (fn : Func), P.funcs[f]? = some fn → (fn.name == "runtime.NumGoroutine") = false) {ops : Array Oper} {Q : Exit → Act → World → Prop}
    (hsel : Region.noSelect ops = true) (hQp : ∀ c a w, ¬ Q (.panic c) a w) :
    ∀ (fuel : Nat) (listed : Array Bool) (f' : Nat) (listed' : Array Bool) (l : List (Nat × Oper)) (es : List Ent) (E : List Held) (fr fr' : T V) (st st' : St) (J : Inj) (w : World) (a : Act),
      planStop ops fuel listed = some (l, f', listed') → runO P ro nt call ops l es fr st = some (fr', st') → J.nx = st.nx → HR J ro B st.hp.get w → ro ≤ J.nx → FR J nt fr a.tmps → a.defers = [] →
      EntsOK P ro B J es E → (∀ e ∈ E, e.h w) → (∀ c ∈ es, vload P st c.t c.id c.off = some c.v) → (∀ c ∈ es, ∃ o, ops[c.x]? = some o ∧ opCls o.op = 1) →
      (∀ J' a' w' es' E', Post J ro B st w J' st' w' → FR J' nt fr' a'.tmps → a'.defers = [] → EntsOK P ro B J' es' E' → (∀ e ∈ E', e.h w') → (∀ c ∈ es', ∃ o, ops[c.x]? = some o ∧ opCls o.op = 1) → wpAnyE P .any ops Q (Old B) f' listed' E' a' w') → wpAnyE P .any ops Q (Old B) fuel listed E a w := by
  intro fuel
  induction fuel with
  | zero =>
    intro listed f' listed' l es E fr fr' st st' J w a hp h hn hh hro hf hd hes hE hvl hcl hQ
    simp only [planStop, Option.some.injEq, Prod.mk.injEq] at hp
    obtain ⟨rfl, rfl, rfl⟩ := hp
    simp only [runO, Option.some.injEq, Prod.mk.injEq] at h
    obtain ⟨rfl, rfl⟩ := h
    exact hQ J a w es E (Post.refl hn hh hro) hf hd hes hE hcl
  | succ fuel ih =>
    intro listed f' listed' l es E fr fr' st st' J w a hp h hn hh hro hf hd hes hE hvl hcl hQ
    have hsel' := Region.noSelect_spec hsel
    simp only [planStop] at hp
    split at hp
    · -- one that may come first
      rename_i i hfind
      split at hp
      · rename_i o hfree hi
        split at hp
        · rename_i l' r' hp'
          obtain ⟨f1, ls1⟩ := r'
          simp only [Option.some.injEq, Prod.mk.injEq] at hp
          obtain ⟨rfl, rfl, rfl⟩ := hp
          have hmem : i ∈ Region.ready .any ops listed := List.mem_of_find?_eq_some hfind
          have hcls : Nat.ble (opCls o.op) 1 = true := by
            have := List.find?_some hfind
            simpa only [clsAt, hi] using this
          rw [Nat.ble_eq] at hcls
          have go : ∀ (v : Value) (e : Held) (es' : List Ent) (fr1 : T V), e.x = i → YieldsIf P ops (fun w => Old B w ∧ e.h w) o v a → e.h w → EntsOK P ro B J es' (e :: E) → (∀ c ∈ es', vload P st c.t c.id c.off = some c.v) → (∀ c ∈ es', ∃ o, ops[c.x]? = some o ∧ opCls o.op = 1) → FR J nt fr1 (a.put o.dst v).tmps →
              runO P ro nt call ops l' es' fr1 st = some (fr', st') → wpAnyE P .any ops Q (Old B) (fuel + 1) listed E a w := by
            intro v e es' fr1 hx hy he hes' hvl' hcl' hf1 hrun
            subst hx
            exact wpAnyE_first e hi hsel' (fun c a w q => (hQp _ _ _ q).elim) fuel listed E a w (Region.free_spec hi hfree) hmem hy hh.base he hE
              (ih (listed.setIfInBounds e.x true) _ _ l' es' (e :: E) fr1 fr' st st' J w _ hp' hrun hn hh hro hf1 (by rw [put_defers]; exact hd) hes' (fun e' he' => (List.mem_cons.1 he').elim (fun q => q ▸ he) (hE e')) hvl' hcl' hQ)
          have triv : EntsOK P ro B J es (⟨i, fun _ => True⟩ :: E) := fun e he => (List.mem_cons.1 he).elim (fun q => .inl (by subst q; intro _; trivial)) (hes e)
          simp only [runO] at h
          cases hw : vwanted ops fr o with
          | none => simp [hw] at h
          | some x =>
            cases x with
            | false =>
              simp only [hw] at h
              cases hpt : vput nt fr o.dst none with
              | none => simp [hpt] at h
              | some fr1 =>
                simp only [hpt] at h
                exact go undef ⟨i, fun _ => True⟩ es fr1 rfl (.inr ⟨vwanted_spec hf hw, rfl⟩) trivial triv hvl hcl (hf.put (.inr ⟨rfl, rfl⟩) hpt) h
            | true =>
              simp only [hw] at h
              split at h
              · rename_i hc
                obtain ⟨q1, q2⟩ := opCls_quiet (.inl hc)
                cases hv : vop P ro call fr ⟨st.nx, .e, 0⟩ o.op with
                | none => simp [hv] at h
                | some r =>
                  obtain ⟨v, st1⟩ := r
                  simp only [hv] at h
                  cases hpt : vput nt fr o.dst v with
                  | none => simp [hpt] at h
                  | some fr1 =>
                    simp only [hpt] at h
                    obtain ⟨_, x, rfl, _, hok⟩ := vop_quiet (w := w) (st := ⟨st.nx, .e, 0⟩) hn (HR.empty hh.base) hf q1 q2 hv
                    refine go (x.real J) ⟨i, fun _ => True⟩ es fr1 rfl (.inl ⟨vwanted_spec hf hw, fun w2 hw2 => ?_⟩) trivial triv hvl hcl (hf.put (.inl ⟨x, rfl, rfl, hok⟩) hpt) h
                    obtain ⟨_, x', hx', hr, _⟩ := vop_quiet (w := w2) (st := ⟨st.nx, .e, 0⟩) hn (HR.empty hw2.1) hf q1 q2 hv
                    cases hx'
                    exact hr
              · rename_i hc
                obtain ⟨q1, q2⟩ := opCls_quiet (.inr hc)
                split at h
                · rename_i t x hop
                  split at h
                  · rename_i id off hx
                    cases hv : vload P st t id off with
                    | none => simp [hv] at h
                    | some v =>
                      simp only [hv] at h
                      cases hpt : vput nt fr o.dst (some v) with
                      | none => simp [hpt] at h
                      | some fr1 =>
                        simp only [hpt] at h
                        have vl : ∀ st2 : St, vload P st2 t id off = some v → vop P ro call fr st2 o.op = some (some v, st2) := fun st2 h2 => by rw [hop]; simp only [vop, hx, h2]
                        have yields : ∀ (J2 : Inj) (st2 : St) (w2 : World), J.le J2 → J2.nx = st2.nx → HR J2 ro B st2.hp.get w2 → vload P st2 t id off = some v → (execOp a.eval o).run P w2 = .ok (.value (v.real J)) w2 ∧ v.ok J2.nx := by
                          intro J2 st2 w2 hl hn2 hh2 hv2
                          obtain ⟨_, x', hx', hr, hok⟩ := vop_quiet (w := w2) (st := st2) hn2 hh2 (hf.mono hl) q1 q2 (vl st2 hv2)
                          cases hx'
                          obtain ⟨_, x'', hx'', _, hok0⟩ := vop_quiet (w := w) (st := st) hn hh hf q1 q2 (vl st hv)
                          cases hx''
                          exact ⟨by rw [hr, V.real_le hl _ hok0], hok⟩
                        have here := yields J st w (Inj.le.refl J) hn hh hv
                        refine go (v.real J) ⟨i, fun w2 => (execOp a.eval o).run P w2 = .ok (.value (v.real J)) w2⟩ (⟨i, t, id, off, v⟩ :: es) fr1 rfl (.inl ⟨vwanted_spec hf hw, fun w2 hw2 => hw2.2⟩) here.1 ?_ (fun c hc => (List.mem_cons.1 hc).elim (fun q => by subst q; exact hv) (hvl c)) (fun c hc' => (List.mem_cons.1 hc').elim (fun q => by subst q; exact ⟨o, hi, hc⟩) (hcl c)) (hf.put (.inl ⟨v, rfl, rfl, by rw [hn] at *; exact here.2⟩) hpt) h
                        intro e he
                        rcases List.mem_cons.1 he with rfl | q
                        · exact .inr ⟨_, List.mem_cons_self .., rfl, fun J2 st2 w2 hl hn2 hh2 hv2 => (yields J2 st2 w2 hl hn2 hh2 hv2).1⟩
                        · exact (hes e q).imp (fun q => q) fun ⟨c, hc, hok⟩ => ⟨c, List.mem_cons_of_mem _ hc, hok⟩
                  · cases h
                · cases h
              · rename_i h0 h1
                exfalso
                rcases Nat.le_one_iff_eq_zero_or_eq_one.1 hcls with q | q
                · exact h0 q
                · exact h1 q
        · cases hp
      · cases hp
    · -- the only one that may come
      rename_i hfind
      split at hp
      · rename_i i hr
        split at hp
        · rename_i o hi
          split at hp
          · rename_i l' r' hp'
            obtain ⟨f1, ls1⟩ := r'
            simp only [Option.some.injEq, Prod.mk.injEq] at hp
            obtain ⟨rfl, rfl, rfl⟩ := hp
            have hcls : ¬ opCls o.op ≤ 1 := by
              have := List.find?_eq_none.1 hfind i (by rw [hr]; exact List.mem_singleton.2 rfl)
              simpa only [clsAt, hi, Nat.ble_eq] using this
            intro hcl0
            refine ⟨fun h0 => (by rw [hr] at h0; cases h0), fun j hj => ?_⟩
            rw [hr] at hj
            obtain rfl : j = i := List.mem_singleton.1 hj
            unfold wpOp
            simp only [hi]
            simp only [runO] at h
            cases hw : vwanted ops fr o with
            | none => simp [hw] at h
            | some x =>
              rw [vwanted_spec hf hw]
              cases x with
              | false =>
                simp only [hw] at h
                cases hpt : vput nt fr o.dst none with
                | none => simp [hpt] at h
                | some fr1 =>
                  simp only [hpt] at h
                  simp only [Bool.false_eq_true, if_false]
                  exact ⟨E, fun e he _ => he, ⟨hh.base, hE⟩, ih _ _ _ l' es E fr1 fr' st st' J w _ hp' h hn hh hro (hf.put (.inr ⟨rfl, rfl⟩) hpt) (by rw [put_defers]; exact hd) hes hE hvl hcl hQ⟩
              | true =>
                simp only [hw] at h
                split at h
                · omega
                · omega
                · cases hv : vop P ro call fr ⟨st.nx, st.hp, st.nx⟩ o.op with
                  | none => simp [hv] at h
                  | some r =>
                    obtain ⟨v, st1⟩ := r
                    simp only [hv] at h
                    generalize hk : (Nat.ble st.nx st1.ver || keepB P st1 (aliveE ops j es)) = kk at h
                    cases kk with
                    | false => simp at h
                    | true =>
                      simp only at h
                      cases hpt : vput nt fr o.dst v with
                      | none => simp [hpt] at h
                      | some fr1 =>
                        simp only [hpt, natF_eq] at h
                        simp only [if_true]
                        refine .inl (wp_of_done (vop_sound (st := ⟨st.nx, st.hp, st.nx⟩) hcall hname hn hh hro hf hv) fun J1 w1 u hpost0 hu => ?_)
                        have hpost : Post J ro B st w J1 ⟨st1.nx, st1.hp, low st.ver st1.ver⟩ w1 := ⟨hpost0.le, hpost0.nx, hpost0.hr, hpost0.below, ⟨hpost0.ext.nx, low_left _ _, fun g b hg he => hpost0.ext.hp g b hg (Nat.lt_of_lt_of_le he (low_right _ _))⟩, hpost0.ro, hpost0.fr⟩
                        have hkeep : ∀ c ∈ aliveE ops j es, vload P st1 c.t c.id c.off = some c.v := by
                          intro c hc
                          rw [Bool.or_eq_true] at hk
                          rcases hk with q | q
                          · rw [Nat.ble_eq] at q
                            have h0 := hvl c (mem_aliveE' hc)
                            have hb : ∃ b, st.hp.get c.id = some b := by
                              unfold vload at h0
                              cases hg : st.hp.get c.id with
                              | none => simp [hg] at h0
                              | some b => exact ⟨b, rfl⟩
                            obtain ⟨b, hb⟩ := hb
                            have hlt := (hh.blk c.id b hb).1
                            have h1 := hpost0.ext.hp c.id b hb (by omega)
                            unfold vload at h0 ⊢
                            rw [h1]
                            rw [hb] at h0
                            exact h0
                          · exact keepB_mem q hc
                        have hE' : EntsOK P ro B J1 (aliveE ops j es) (E.filter fun e => !Region.waitsT .any ops j e.x) := by
                          intro e he
                          obtain ⟨he1, he2⟩ := List.mem_filter.1 he
                          refine ((hes.mono hpost.le) e he1).imp id ?_
                          rintro ⟨c, hc, h1, h2⟩
                          exact ⟨c, mem_aliveE hc (by rw [← h1]; simpa using he2), h1, h2⟩
                        have hold : ∀ e ∈ E.filter fun e => !Region.waitsT .any ops j e.x, e.h w1 := by
                          intro e he
                          rcases hE' e he with q | ⟨c, hc, h1, h2⟩
                          · exact q w1
                          · exact h2 J1 st1 w1 (Inj.le.refl _) hpost0.nx hpost0.hr (hkeep c hc)
                        exact ⟨E.filter fun e => !Region.waitsT .any ops j e.x, fun e he hwt => List.mem_filter.2 ⟨he, by simpa using hwt⟩, ⟨hpost.hr.base, hold⟩,
                          ih _ _ _ l' _ _ fr1 fr' _ st' J1 w1 _ hp' h hpost.nx hpost.hr hpost.ro ((hf.mono hpost.le).put hu hpt) (by rw [put_defers]; exact hd) hE' hold hkeep (fun c hc => hcl c (mem_aliveE' hc)) (fun J2 a2 w2 es2 E2 p2 f2 d2 => hQ J2 a2 w2 es2 E2 (hpost.trans p2) f2 d2)⟩
          · cases hp
        · cases hp
      · simp only [Option.some.injEq, Prod.mk.injEq] at hp
        obtain ⟨rfl, rfl, rfl⟩ := hp
        simp only [runO, Option.some.injEq, Prod.mk.injEq] at h
        obtain ⟨rfl, rfl⟩ := h
        exact hQ J a w es E (Post.refl hn hh hro) hf hd hes hE hcl


theorem nilB_eq {α : Type} {l : List α} (h : nilB l = true) : l = [] := by cases l with | nil => rfl | cons => cases h
theorem sameN_eq : ∀ {l m : List Nat}, sameN l m = true → l = m
  | [], [], _ => rfl
  | [], _ :: _, h => by cases h
  | _ :: _, [], h => by cases h
  | x :: r, y :: s, h => by
    simp only [sameN, Bool.and_eq_true, Nat.beq_eq] at h
    rw [h.1, sameN_eq h.2]
theorem isStoreB_spec {o : Oper} (h : isStoreB o = true) : o.guard = none ∧ o.dst = none ∧ ∃ t x v, o.op = .store t x v := by
  unfold isStoreB at h
  split at h
  · rename_i t x v h1 h2 h3
    exact ⟨h1, h2, t, x, v, h3⟩
  · cases h

/-- Memories that are the same at every block (blocks, in turn, at every cell). -/
structure BE (b c : Blk) : Prop where
  sz : c.sz = b.sz
  es : c.es = b.es
  op : c.op = b.op
  zero : c.zero = [] ↔ b.zero = []
  mp : c.mp = b.mp
  get : ∀ k, c.get k = b.get k
theorem BE.refl (b : Blk) : BE b b := ⟨rfl, rfl, rfl, Iff.rfl, rfl, fun _ => rfl⟩
theorem BR.be {J : Inj} {g : Nat} {b c : Blk} {w : World} (h : BR J ro B g b w) (e : BE b c) : BR J ro B g c w := by
  have hf : c.full = b.full := by unfold Blk.full; rw [e.op, e.es]
  cases hq : b.mp with
  | none =>
    have hq' : c.mp = none := by rw [e.mp]; exact hq
    obtain ⟨k0, c0, e0, f0, k1, k2, k3, k4, k5⟩ := h.cells hq
    exact BR.of_cells hq' ⟨k0, c0, e0, f0, k1, by rw [e.sz]; exact k2, fun z => by rw [e.op] at z; rw [e.sz, e.es, e.zero]; exact k3 z, fun z => by rw [hf]; exact k4 z, fun o v hv => k5 o v (by rw [← e.get o]; exact hv)⟩
  | some l =>
    have hq' : c.mp = some l := by rw [e.mp]; exact hq
    unfold BR at h ⊢
    rw [hq] at h
    rw [hq']
    unfold MR at h ⊢
    rw [e.sz]
    exact h
theorem HR.be {J : Inj} {h h' : Nat → Option Blk} {w : World} (hh : HR J ro B h w) (e : ∀ g c, h' g = some c → ∃ b, h g = some b ∧ BE b c) : HR J ro B h' w :=
  ⟨hh.base, fun g c hg => by
    obtain ⟨b, hb, hbe⟩ := e g c hg
    exact (hh.blk g b hb).be hbe, fun g g' c c' hg hg' => by
    obtain ⟨b, hb, _⟩ := e g c hg
    obtain ⟨b', hb', _⟩ := e g' c' hg'
    exact hh.inj g g' b b' hb hb'⟩
/-- What is known of a memory is known of one that says less, or the same in other words. -/
theorem Post.be {J J' : Inj} {st s1 s2 : St} {w w1 : World} (h : Post J ro B st w J' s1 w1) (hn : s2.nx = s1.nx) (hx : Ext st s2) (e : ∀ g c, s2.hp.get g = some c → ∃ b, s1.hp.get g = some b ∧ BE b c) : Post J ro B st w J' s2 w1 :=
  ⟨h.le, h.nx.trans hn.symm, h.hr.be e, h.below, hx, h.ro, fun i hi hf => by
    obtain ⟨p1, p2⟩ := h.fr i hi hf
    exact ⟨p1, fun g c hg => by
      obtain ⟨b, hb, _⟩ := e g c hg
      exact p2 g b hb⟩⟩

theorem vstore_inv {st st' : St} {t : TypeId} {g o : Nat} {v : V} (h : vstore P ro st t g o v = some st') : ∃ b b', st.hp.get g = some b ∧ ro ≤ g ∧ b.put v.cells o = some b' ∧ st' = st.write g b' ∧ ∀ s2 : St, s2.hp.get g = some b → vstore P ro s2 t g o v = some (s2.write g b') := by
  unfold vstore at h
  split at h
  · rename_i b ti hb hi
    cases hc : (Nat.ble ro g && Nat.beq v.cells.length ti.size) with
    | false => simp [hc] at h
    | true =>
      simp only [hc, cond_true] at h
      have hc' := hc
      simp only [Bool.and_eq_true, Nat.ble_eq] at hc
      cases hp : b.put v.cells o with
      | none => simp [hp] at h
      | some b' =>
        simp only [hp, Option.some.injEq] at h
        exact ⟨b, b', hb, hc.1, hp, h.symm, fun s2 h2 => by simp only [vstore, h2, hi, hc', cond_true, hp]⟩
  · cases h

/-- A REGION THAT ENDS IN TWO STORES, at different blocks. -/
theorem planPair_sound {nt : Nat} {call : CallF} (hcall : CallOK P ro B call) (hname : ∀ (f : Nat) (fn : Func), P.funcs[f]? = some fn → (fn.name == "runtime.NumGoroutine") = false) (hmix : P.follows .mixedOrders = true) {ops : Array Oper} {Q : Exit → Act → World → Prop}
    (hQp : ∀ c a w, ¬ Q (.panic c) a w) {id : Nat} {l : List (Nat × Oper)} {x y : Oper} {fr fr' : T V} {st st1 st' : St} {J : Inj} {w : World} {a : Act} (hp : planPair ops = some (l, x, y)) (h : runO P ro nt call ops l [] fr st = some (fr', st1)) (h2 : runPair P ro x y fr' st1 = some st')
    (hn : J.nx = st.nx) (hh : HR J ro B st.hp.get w) (hro : ro ≤ J.nx) (hf : FR J nt fr a.tmps) (hd : a.defers = []) (hQ : ∀ J' a' w', Post J ro B st w J' st' w' → FR J' nt fr' a'.tmps → a'.defers = [] → Q .normal a' w') : (Code.region id ops true).wp P Q a w := by
  unfold planPair at hp
  split at hp
  · rename_i hsel
    split at hp
    · rename_i l0 f0 ls0 hps
      split at hp
      · rename_i i j hrd
        split at hp
        · rename_i o q hi hj
          cases hc : (isStoreB o && isStoreB q && endB ops ls0 i j) with
          | false => simp [hc] at hp
          | true =>
            simp only [hc, cond_true, Option.some.injEq, Prod.mk.injEq] at hp
            obtain ⟨rfl, rfl, rfl⟩ := hp
            simp only [Bool.and_eq_true] at hc
            obtain ⟨⟨s1, s2⟩, s3⟩ := hc
            unfold endB at s3
            simp only [Bool.and_eq_true] at s3
            obtain ⟨⟨⟨⟨⟨e1, e2⟩, e3⟩, e4⟩, e5⟩, e6⟩ := s3
            have e1 := sameN_eq e1
            have e2 := sameN_eq e2
            have e3 := nilB_eq e3
            have e4 := nilB_eq e4
            obtain ⟨g1, d1, t1, x1, v1, o1⟩ := isStoreB_spec s1
            obtain ⟨g2, d2, t2, x2, v2, o2⟩ := isStoreB_spec s2
            unfold runPair at h2
            rw [o1, o2] at h2
            dsimp only at h2
            split at h2
            · rename_i ga oa va gb ob vb hx1 hv1 hx2 hv2
              cases hg : Nat.beq ga gb with
              | true => simp [hg] at h2
              | false =>
                simp only [hg, cond_false] at h2
                have hgne : ga ≠ gb := fun z => by rw [z] at hg; rw [show Nat.beq gb gb = true from by rw [Nat.beq_eq]] at hg; cases hg
                cases hs1 : vstore P ro st1 t1 ga oa va with
                | none => simp [hs1] at h2
                | some sm =>
                  simp only [hs1] at h2
                  obtain ⟨b1, c1, p1, p2, p3, p4, p5⟩ := vstore_inv hs1
                  obtain ⟨b2, c2, q1, q2, q3, q4, q5⟩ := vstore_inv h2
                  rw [p4, St.write_eq] at q1
                  dsimp only at q1
                  rw [T.get_upd, if_neg (fun z => hgne z.symm)] at q1
                  have nowait : ∀ (k : Nat) (es' : List Ent) (E' : List Held), waitsAll ops k = true → (∀ c ∈ es', ∃ o, ops[c.x]? = some o ∧ opCls o.op = 1) → ∀ J1, EntsOK P ro B J1 es' E' → ∀ e ∈ E', Region.waitsT .any ops k e.x = false → ∀ w, e.h w := by
                    intro k es' E' hw hcl J1 hes e he hwt
                    rcases hes e he with z | ⟨c, hc, z1, z2⟩
                    · exact z
                    · exfalso
                      obtain ⟨oc, ho, hcl1⟩ := hcl c hc
                      have hlt : c.x < ops.size := by
                        rcases Nat.lt_or_ge c.x ops.size with q | q
                        · exact q
                        · rw [Array.getElem?_eq_none q] at ho; cases ho
                      have := List.all_eq_true.1 hw c.x (List.mem_range.2 hlt)
                      rw [ho] at this
                      dsimp only at this
                      rw [hcl1, show c.x = e.x from (by first | exact z1 | exact z1.symm), hwt] at this
                      simp at this
                  -- one store, then the other
                  have step : ∀ (i j : Nat) (o q : Oper) (t t' : TypeId) (x v x' v' : Operand) (g of g' of' : Nat) (u u' : V) (b c b' c' : Blk),
                      ops[i]? = some o → ops[j]? = some q → o.guard = none → o.dst = none → o.op = .store t x v → q.guard = none → q.dst = none → q.op = .store t' x' v' →
                      opnd fr' x = some (.p g of) → opnd fr' v = some u → opnd fr' x' = some (.p g' of') → opnd fr' v' = some u' → g ≠ g' →
                      st1.hp.get g = some b → st1.hp.get g' = some b' → (∀ s2 : St, s2.hp.get g = some b → vstore P ro s2 t g of u = some (s2.write g c)) → (∀ s2 : St, s2.hp.get g' = some b' → vstore P ro s2 t' g' of' u' = some (s2.write g' c')) →
                      (∀ k, ((st1.write g c).write g' c').hp.get k = st'.hp.get k) → st'.nx = st1.nx → st'.ver = low (low st1.ver ga) gb →
                      low (low st1.ver g) g' = low (low st1.ver ga) gb → Region.ready .any ops (ls0.setIfInBounds i true) = [j] → Region.ready .any ops ((ls0.setIfInBounds i true).setIfInBounds j true) = [] → waitsAll ops i = true → waitsAll ops j = true →
                      ∀ (J1 : Inj) (a1 : Act) (w1 : World) (es' : List Ent) (E' : List Held), Post J ro B st { w with drawn := w.drawn + 1 } J1 st1 w1 → FR J1 nt fr' a1.tmps → a1.defers = [] → EntsOK P ro B J1 es' E' → (∀ e ∈ E', e.h w1) → (∀ c ∈ es', ∃ o, ops[c.x]? = some o ∧ opCls o.op = 1) →
                      wpOp P ops Q i (fun a' w' => ∃ E2, (∀ e ∈ E', Region.waitsT .any ops i e.x = false → e ∈ E2) ∧ (Old B w' ∧ ∀ e ∈ E2, e.h w') ∧ wpAnyE P .any ops Q (Old B) (f0 + 1) (ls0.setIfInBounds i true) E2 a' w') a1 w1 := by
                    intro i j o q t t' x v x' v' g of g' of' u u' b c b' c' hi hj og od oo qg qd qo hx hv hx' hv' hne hb hb' hst hst' hget hnx hver hlow r1 r2 w1i w1j J1 a1 w1 es' E' hpo hf1 hd1 hes hE hcl
                    unfold wpOp
                    simp only [hi]
                    have hwi : Region.wanted o (yielded ops a1.tmps) = true := by unfold Region.wanted; rw [og]
                    rw [hwi, if_pos rfl]
                    have hvop : vop P ro call fr' st1 o.op = some (none, st1.write g c) := by rw [oo]; simp only [vop, hx, hv, hst st1 hb]
                    refine .inl (wp_of_done (vop_sound hcall hname hpo.nx hpo.hr hpo.ro hf1 hvop) fun J2 w2 uu hp2 hu => ?_)
                    have hpo2 := hpo.trans hp2
                    refine ⟨E'.filter fun e => !Region.waitsT .any ops i e.x, fun e he hwt => List.mem_filter.2 ⟨he, by simpa using hwt⟩, ⟨hpo2.hr.base, fun e he => ?_⟩, fun _ => ⟨fun z => (by rw [r1] at z; cases z), fun j2 hj2 => ?_⟩⟩
                    · obtain ⟨he1, he2⟩ := List.mem_filter.1 he
                      exact nowait i es' E' w1i hcl J1 hes e he1 (by simpa using he2) w2
                    · rw [r1] at hj2
                      obtain rfl : j2 = j := List.mem_singleton.1 hj2
                      unfold wpOp
                      simp only [hj]
                      have hput : ∀ (ax : Act) (z : Value), ax.put none z = ax := fun _ _ => rfl
                      rw [od, hput]
                      have hwj : Region.wanted q (yielded ops a1.tmps) = true := by unfold Region.wanted; rw [qg]
                      rw [hwj, if_pos rfl]
                      have hb2 : (st1.write g c).hp.get g' = some b' := by rw [St.write_eq]; dsimp only; rw [T.get_upd, if_neg (fun z => hne z.symm)]; exact hb'
                      have hvop2 : vop P ro call fr' (st1.write g c) q.op = some (none, (st1.write g c).write g' c') := by rw [qo]; simp only [vop, hx', hv', hst' _ hb2]
                      refine .inl (wp_of_done (vop_sound hcall hname hpo2.nx hpo2.hr hpo2.ro (hf1.mono hp2.le) hvop2) fun J3 w3 uu3 hp3 hu3 => ?_)
                      rw [qd, hput]
                      have hpo3 := hpo2.trans hp3
                      have hfin : Post J ro B st { w with drawn := w.drawn + 1 } J3 st' w3 := by
                        refine hpo3.be (by rw [hnx, St.write_eq, St.write_eq]) ?_ (fun k cc hk => ⟨cc, by rw [hget]; exact hk, BE.refl _⟩)
                        refine ⟨by have := hpo3.ext.nx; rw [St.write_eq, St.write_eq] at this; rw [hnx]; exact this, by have := hpo3.ext.ver; rw [St.write_eq, St.write_eq] at this; dsimp only at this; rw [hver, ← hlow]; exact this, fun k bk hk hkl => ?_⟩
                        rw [← hget]
                        exact hpo3.ext.hp k bk hk (by rw [St.write_eq, St.write_eq]; dsimp only; rw [hlow, ← hver]; exact hkl)
                      have p0 : Post J ro B st w J st { w with drawn := w.drawn + 1 } := ⟨Inj.le.refl J, hn, hh.congr rfl, ⟨rfl, rfl, rfl, Nat.le_refl _, fun _ _ => rfl⟩, Ext.refl _, hro, Fr.same fun _ _ => rfl⟩
                      have hq := hQ J3 a1 w3 (p0.trans hfin) ((hf1.mono hp2.le).mono hp3.le) hd1
                      refine ⟨(E'.filter fun e => !Region.waitsT .any ops i e.x).filter fun e => !Region.waitsT .any ops j2 e.x, fun e he hwt => List.mem_filter.2 ⟨he, by simpa using hwt⟩, ⟨hfin.hr.base, fun e he => ?_⟩, ?_⟩
                      · obtain ⟨he1, he2⟩ := List.mem_filter.1 he
                        exact nowait j2 es' E' w1j hcl J1 hes e (List.mem_filter.1 he1).1 (by simpa using he2) w3
                      · cases f0 with
                        | zero => exact ⟨r2, hq⟩
                        | succ f0 => exact fun _ => ⟨fun _ => hq, fun k hk => (by rw [r2] at hk; cases hk)⟩
                  have p0 : Post J ro B st w J st { w with drawn := w.drawn + 1 } := ⟨Inj.le.refl J, hn, hh.congr rfl, ⟨rfl, rfl, rfl, Nat.le_refl _, fun _ _ => rfl⟩, Ext.refl _, hro, Fr.same fun _ _ => rfl⟩
                  refine wp_region_any hmix (wpAny_of_E (S0 := Old B) _ _ [] _ _ (fun d od _ hl => by
                    have z : (Array.replicate ops.size false)[d]?.getD false = false := by rw [Array.getElem?_replicate]; split <;> rfl
                    simp only [Array.getD_eq_getD_getElem?] at hl
                    rw [z] at hl
                    cases hl) ?_)
                  have hst' : st' = (st1.write ga c1).write gb c2 := by rw [q4, p4]
                  have hnx' : st'.nx = st1.nx := by rw [hst', St.write_eq, St.write_eq]
                  have hver' : st'.ver = low (low st1.ver ga) gb := by rw [hst', St.write_eq, St.write_eq]
                  refine runO_stop hcall hname hsel hQp ops.size _ _ _ _ [] [] fr fr' st st1 J _ a hps h hn p0.hr hro hf hd (fun _ h => by cases h) (fun _ h => by cases h) (fun _ h => by cases h) (fun _ h => by cases h) (fun J1 a1 w1 es' E' hpo hf1 hd1 hes hE hcl => ?_)
                  refine fun _ => ⟨fun z => (by rw [hrd] at z; cases z), fun k hk => ?_⟩
                  rw [hrd] at hk
                  rcases List.mem_cons.1 hk with rfl | hk
                  · exact step k j o q t1 t2 x1 v1 x2 v2 ga oa gb ob va vb b1 c1 b2 c2 hi hj g1 d1 o1 g2 d2 o2 hx1 hv1 hx2 hv2 hgne p1 q1 p5 q5 (fun m => by rw [hst']) hnx' hver' rfl e1 e3 e5 e6 J1 a1 w1 es' E' hpo hf1 hd1 hes hE hcl
                  · obtain rfl : k = j := List.mem_singleton.1 hk
                    refine step k i q o t2 t1 x2 v2 x1 v1 gb ob ga oa vb va b2 c2 b1 c1 hj hi g2 d2 o2 g1 d1 o1 hx2 hv2 hx1 hv1 (fun z => hgne z.symm) q1 p1 q5 p5 (fun m => ?_) hnx' hver' ?_ e2 e4 e6 e5 J1 a1 w1 es' E' hpo hf1 hd1 hes hE hcl
                    · rw [hst']
                      simp only [St.write_eq, T.get_upd]
                      by_cases z1 : m = ga
                      · subst z1; rw [if_pos rfl, if_neg hgne, if_pos rfl]
                      · rw [if_neg z1, if_neg z1]
                    · have lc : ∀ a b c : Nat, low (low a b) c = low (low a c) b := by
                        intro a b c
                        have L : ∀ x y : Nat, low x y = min x y := by
                          intro x y
                          unfold low
                          cases e : Nat.ble x y with
                          | true => rw [Nat.ble_eq] at e; simp; omega
                          | false =>
                            have : ¬ x ≤ y := by intro q; rw [← Nat.ble_eq] at q; rw [q] at e; cases e
                            simp; omega
                        rw [L, L, L, L]; omega
                      exact lc _ _ _
            · cases h2
        · cases hp
      · cases hp
    · cases hp
  · cases hp

/-- One step of a region of open order: each one that may come does what the evaluator tells. -/
theorem any_step {nt : Nat} {call : CallF} (hcall : CallOK P ro B call) (hname : ∀ (f : Nat) (fn : Func), P.funcs[f]? = some fn → (fn.name == "runtime.NumGoroutine") = false) {ops : Array Oper} {Q : Exit → Act → World → Prop} {fuel : Nat} {listed : Array Bool} {r : List Nat} (hr : Region.ready .any ops listed = r) (hne : r ≠ [])
    {J0 J : Inj} {st0 st : St} {w0 w : World} {fr : T V} {a : Act} (hpo : Post J0 ro B st0 w0 J st w) (hf : FR J nt fr a.tmps) (hd : a.defers = [])
    (h : ∀ i ∈ r, ∃ o v st1 fr1, ops[i]? = some o ∧ o.guard = none ∧ vop P ro call fr st o.op = some (v, st1) ∧ vput nt fr o.dst v = some fr1 ∧
      ∀ J1 a1 w1, Post J0 ro B st0 w0 J1 st1 w1 → FR J1 nt fr1 a1.tmps → a1.defers = [] → wpAny P .any ops Q fuel (listed.setIfInBounds i true) a1 w1) : wpAny P .any ops Q (fuel + 1) listed a w := by
  refine ⟨fun z => (hne (hr.symm.trans z)).elim, fun i hi => ?_⟩
  rw [hr] at hi
  obtain ⟨o, v, st1, fr1, h1, h2, h3, h4, h5⟩ := h i hi
  unfold wpOp
  simp only [h1]
  have hwi : Region.wanted o (yielded ops a.tmps) = true := by unfold Region.wanted; rw [h2]
  rw [hwi, if_pos rfl]
  refine .inl (wp_of_done (vop_sound hcall hname hpo.nx hpo.hr hpo.ro hf h3) fun J2 w2 uu hp2 hu => ?_)
  exact h5 J2 _ w2 (hpo.trans hp2) ((hf.mono hp2.le).put hu h4) (by rw [put_defers]; exact hd)

theorem eraseL_get : ∀ (l : List Nat) (fr : T V) (t : Nat), (eraseL l fr).get t = if t ∈ l then none else fr.get t
  | [], fr, t => by simp [eraseL]
  | x :: l, fr, t => by
    rw [eraseL, eraseL_get l, T.get_upd]
    by_cases h1 : t ∈ l
    · simp [h1]
    · by_cases h2 : t = x
      · subst h2; simp
      · simp [h1, h2]
theorem FR.less {J : Inj} {nt : Nat} {fr fr' : T V} {tmps : Array Value} (h : FR J nt fr tmps) (e : ∀ t v, fr'.get t = some v → fr.get t = some v) : FR J nt fr' tmps := ⟨h.1, fun t v hv => h.2 t v (e t v hv)⟩

theorem vput_some {nt d : Nat} (h : Nat.blt d nt = true) (fr : T V) (v : V) : vput nt fr (some d) (some v) = some (fr.upd d (some v)) := by
  simp only [vput, h, cond_true, V.force_eq]
theorem vput_no {nt : Nat} (fr : T V) (v : Option V) : vput nt fr none v = some fr := rfl

/-- A CHOICE IN MEMORY: either way, and nothing that is seen behind it is changed. -/
theorem flagR_sound {nt : Nat} {call : CallF} (hcall : CallOK P ro B call) (hname : ∀ (f : Nat) (fn : Func), P.funcs[f]? = some fn → (fn.name == "runtime.NumGoroutine") = false) (hmix : P.follows .mixedOrders = true) {ops : Array Oper} {Q : Exit → Act → World → Prop} {p f : Nat} (h : flagR P nt ops = some (p, f))
    {id : Nat} {fr : T V} {st : St} {J : Inj} {w : World} {a : Act} (hn : J.nx = st.nx) (hh : HR J ro B st.hp.get w) (hro : ro ≤ J.nx) (hf : FR J nt fr a.tmps) (hd : a.defers = [])
    (hQ : ∀ x J' a' w', Post J ro B st w J' ⟨st.nx + 1, st.hp, st.ver⟩ w' → FR J' nt (eraseL [p, f] fr) a'.tmps → a'.defers = [] → a'.eval (.tmp f) = .bool x → Q .normal a' w') : (Code.region id ops true).wp P Q a w := by
  unfold flagR at h
  split at h
  · rename_i o1 o2 o3 o4 hl
    split at h
    · rename_i p' t1 t2 p2 t3 p3 f' t4 p4 g1 d1 q1 g2 d2 q2 g3 d3 q3 g4 d4 q4
      generalize hc : ((decide (t2 = t1) && decide (t3 = t1) && decide (t4 = t1)) && (Nat.beq p2 p' && Nat.beq p3 p' && Nat.beq p4 p' && !(Nat.beq p' f')) && boolTy P t1 && orders4 ops && Nat.blt p' nt && Nat.blt f' nt) = cc at h
      cases cc with
      | false => cases h
      | true =>
        simp only [cond_true, Option.some.injEq, Prod.mk.injEq] at h
        obtain ⟨rfl, rfl⟩ := h
        simp only [Bool.and_eq_true, decide_eq_true_eq, Nat.beq_eq, Bool.not_eq_true'] at hc
        obtain ⟨⟨⟨⟨⟨⟨⟨rfl, rfl⟩, rfl⟩, ⟨⟨rfl, rfl⟩, rfl⟩, hpf⟩, hbt⟩, hor⟩, hp⟩, hfl⟩ := hc
        have hpf : p4 ≠ f' := fun z => by rw [z, show Nat.beq f' f' = true from by rw [Nat.beq_eq]] at hpf; cases hpf
        unfold orders4 at hor
        simp only [Bool.and_eq_true] at hor
        obtain ⟨⟨⟨⟨⟨⟨⟨r0, r1⟩, r2⟩, r3⟩, r4⟩, r5⟩, r6⟩, r7⟩ := hor
        have r0 := sameN_eq r0
        have r1 := sameN_eq r1
        have r2 := sameN_eq r2
        have r3 := sameN_eq r3
        have r4 := sameN_eq r4
        have r5 := sameN_eq r5
        have r6 := sameN_eq r6
        have r7 := sameN_eq r7
        have hops : ops = #[o1, o2, o3, o4] := by apply Array.ext'; simpa using hl
        have n1 : ops[0]? = some o1 := by rw [hops]; rfl
        have n2 : ops[1]? = some o2 := by rw [hops]; rfl
        have n3 : ops[2]? = some o3 := by rw [hops]; rfl
        have n4 : ops[3]? = some o4 := by rw [hops]; rfl
        have hsz : ops.size = 4 := by rw [hops]; rfl
        rw [hsz] at r0 r1 r2 r3 r4 r5 r6 r7
        unfold boolTy at hbt
        split at hbt
        · rename_i ti hu hz hi
          rw [Nat.beq_eq] at hbt
          have hs : sizeB P t4 = some 1 := by unfold sizeB; rw [hi]; simp [hbt]
          obtain ⟨bf, hbf⟩ : ∃ b, b = (Blk.mk (T.n .e (some (.b false)) .e) [] 1 1 false none) := ⟨_, rfl⟩
          obtain ⟨bt, hbt'⟩ : ∃ b, b = (Blk.mk (T.n .e (some (.b true)) .e) [] 1 1 false none) := ⟨_, rfl⟩
          have va : ∀ s : St, vop P ro call fr s o1.op = some (some (.p s.nx 0), s.alloc bf) := fun s => by
            rw [q1]; simp only [vop, hz, hs, valloc]; subst hbf; rw [show blkOf (V.b false).cells 1 false = some ⟨T.n .e (some (.b false)) .e, [], 1, 1, false, none⟩ from rfl]; simp only [natF_eq]
          have vs : ∀ (s : St) (g : T V) (b : Blk) (x : Bool), g.get p4 = some (.p s.nx 0) → ro ≤ s.nx → ∀ s2 : St, s2.hp.get s.nx = some b → (b = bf ∨ b = bt) → vop P ro call g s2 (.store t4 (.tmp p4) (.const (.bool x))) = some (none, s2.write s.nx (cond x bt bf)) := fun s g b x hg hle s2 h2 hb => by
            have hro' : Nat.ble ro s.nx = true := by rw [Nat.ble_eq]; exact hle
            simp only [vop, opnd, hg, ofV, vstore, h2, hi, hro', V.cells, List.length_singleton, hbt]
            rcases hb with rfl | rfl <;> subst hbf <;> subst hbt' <;> cases x <;> rfl
          have vl : ∀ (s : St) (g : T V) (x : Bool), g.get p4 = some (.p s.nx 0) → ∀ s2 : St, s2.hp.get s.nx = some (cond x bt bf) → vop P ro call g s2 o4.op = some (some (.b x), s2) := fun s g x hg s2 h2 => by
            rw [q4]
            simp only [vop, opnd, hg, vload, h2, hi, hu, isAggB]
            subst hbf; subst hbt'; cases x <;> rfl
          have ga : ∀ s : St, (s.alloc bf).hp.get s.nx = some bf := fun s => by show (s.hp.upd s.nx (some bf)).get s.nx = _; rw [T.get_upd, if_pos rfl]
          have gw : ∀ (s2 : St) (k : Nat) (b : Blk), (s2.write k b).hp.get k = some b := fun s2 k b => by rw [St.write_eq]; dsimp only; rw [T.get_upd, if_pos rfl]
          have p0 : Post J ro B st w J st { w with drawn := w.drawn + 1 } := ⟨Inj.le.refl J, hn, hh.congr rfl, ⟨rfl, rfl, rfl, Nat.le_refl _, fun _ _ => rfl⟩, Ext.refl _, hro, Fr.same fun _ _ => rfl⟩
          have hle : ro ≤ st.nx := by omega
          have fp : ∀ (fr0 : T V), (fr0.upd p4 (some (.p st.nx 0))).get p4 = some (.p st.nx 0) := fun fr0 => by rw [T.get_upd, if_pos rfl]
          have cb : ∀ x, cond x bt bf = bf ∨ cond x bt bf = bt := fun x => by cases x <;> simp
          have hlow : ∀ x y : Nat, x ≤ y → low x y = x := fun x y hxy => by unfold low; rw [show Nat.ble x y = true from by rw [Nat.ble_eq]; exact hxy]; rfl
          -- the end of either way
          have fin : ∀ (x y : Bool) J' a' w', Post J ro B st w J' (((st.alloc bf).write st.nx (cond x bt bf)).write st.nx (cond y bt bf)) w' → FR J' nt ((fr.upd p4 (some (.p st.nx 0))).upd f' (some (.b y))) a'.tmps → a'.defers = [] → Q .normal a' w' := by
            intro x y J' a' w' hpo hfr hdf
            refine hQ y J' a' w' (hpo.be ?_ ⟨Nat.le_succ _, Nat.le_refl _, fun _ _ hk _ => hk⟩ fun g c hg => ⟨c, ?_, BE.refl c⟩) (hfr.less fun t v ht => ?_) hdf ?_
            · rw [St.write_eq, St.write_eq]; rfl
            · have hg : st.hp.get g = some c := hg
              have : g < st.nx := by rw [← hn]; exact (hh.blk g c hg).1
              have e1 : (st.alloc bf).hp.get g = some c := by show (st.hp.upd st.nx (some bf)).get g = _; rw [T.get_upd, if_neg (by omega)]; exact hg
              rw [St.write_eq, St.write_eq]
              dsimp only
              rw [T.get_upd, if_neg (by omega), T.get_upd, if_neg (by omega)]
              exact e1
            · rw [eraseL_get] at ht
              split at ht
              · cases ht
              · rename_i hm
                simp only [List.mem_cons, List.not_mem_nil, or_false, not_or] at hm
                rw [T.get_upd, if_neg hm.2, T.get_upd, if_neg hm.1]
                exact ht
            · have := (opnd_spec hfr (.tmp f') (.b y) (by simp only [opnd]; rw [T.get_upd, if_pos rfl])).1
              rw [this]; rfl
          refine wp_region_any hmix ?_
          rw [hsz]
          have hfm := hf
          refine any_step (fuel := 3) hcall hname r0 (by simp) p0 hf hd fun i hi => ?_
          obtain rfl : i = 0 := by simpa using hi
          refine ⟨o1, _, _, _, n1, g1, va st, by rw [d1]; exact vput_some hp _ _, fun J1 a1 w1 hp1 hf1 hd1 => ?_⟩
          refine any_step (fuel := 2) hcall hname r1 (by simp) hp1 hf1 hd1 fun i hi => ?_
          rcases List.mem_cons.1 hi with rfl | hi
          · refine ⟨o2, _, _, _, n2, g2, by rw [q2]; exact vs st _ bf true (fp fr) hle _ (ga st) (.inl rfl), by rw [d2]; exact vput_no _ _, fun J2 a2 w2 hp2 hf2 hd2 => ?_⟩
            refine any_step (fuel := 1) hcall hname r2 (by simp) hp2 hf2 hd2 fun i hi => ?_
            obtain rfl : i = 2 := by simpa using hi
            refine ⟨o3, _, _, _, n3, g3, by rw [q3]; exact vs st _ _ false (fp fr) hle _ (gw _ _ _) (cb true), by rw [d3]; exact vput_no _ _, fun J3 a3 w3 hp3 hf3 hd3 => ?_⟩
            refine any_step (fuel := 0) hcall hname r4 (by simp) hp3 hf3 hd3 fun i hi => ?_
            obtain rfl : i = 3 := by simpa using hi
            refine ⟨o4, _, _, _, n4, g4, vl st _ false (fp fr) _ (gw _ _ _), by rw [d4]; exact vput_some hfl _ _, fun J4 a4 w4 hp4 hf4 hd4 => ?_⟩
            exact ⟨r6, fin true false J4 a4 w4 hp4 hf4 hd4⟩
          · obtain rfl : i = 2 := by simpa using hi
            refine ⟨o3, _, _, _, n3, g3, by rw [q3]; exact vs st _ bf false (fp fr) hle _ (ga st) (.inl rfl), by rw [d3]; exact vput_no _ _, fun J2 a2 w2 hp2 hf2 hd2 => ?_⟩
            refine any_step (fuel := 1) hcall hname r3 (by simp) hp2 hf2 hd2 fun i hi => ?_
            obtain rfl : i = 1 := by simpa using hi
            refine ⟨o2, _, _, _, n2, g2, by rw [q2]; exact vs st _ _ true (fp fr) hle _ (gw _ _ _) (cb false), by rw [d2]; exact vput_no _ _, fun J3 a3 w3 hp3 hf3 hd3 => ?_⟩
            refine any_step (fuel := 0) hcall hname r5 (by simp) hp3 hf3 hd3 fun i hi => ?_
            obtain rfl : i = 3 := by simpa using hi
            refine ⟨o4, _, _, _, n4, g4, vl st _ true (fp fr) _ (gw _ _ _), by rw [d4]; exact vput_some hfl _ _, fun J4 a4 w4 hp4 hf4 hd4 => ?_⟩
            exact ⟨r7, fin false true J4 a4 w4 hp4 hf4 hd4⟩
        · cases hbt
    · cases h
  · cases h
end
end Go.Vm
namespace Go.Vm
open Go.RowKit

section
variable {P : Program} {ro nt : Nat} {call : CallF} {ops : Array Oper}

/-- One operation of a plan. -/
def stepO (P : Program) (ro nt : Nat) (call : CallF) (ops : Array Oper) (i : Nat) (o : Oper) (es : List Ent) (fr : T V) (st : St) : Option (List Ent × T V × St) :=
  match vwanted ops fr o with
  | some true => match opCls o.op with
    | 0 => match vop P ro call fr ⟨st.nx, .e, 0⟩ o.op with
      | some (v, _) => match vput nt fr o.dst v with
        | some fr => some (es, fr, st)
        | none => none
      | none => none
    | 1 => match o.op with
      | .load t x => match opnd fr x with
        | some (.p id off) => match vload P st t id off with
          | some v => match vput nt fr o.dst (some v) with
            | some fr => some (⟨i, t, id, off, v⟩ :: es, fr, st)
            | none => none
          | none => none
        | _ => none
      | _ => none
    | _ => match vop P ro call fr ⟨st.nx, st.hp, st.nx⟩ o.op with
      | some (v, st') => match Nat.ble st.nx st'.ver || keepB P st' (aliveE ops i es) with
        | true => match vput nt fr o.dst v with
          | some fr => some (aliveE ops i es, fr, ⟨st'.nx, st'.hp, low st.ver st'.ver⟩)
          | none => none
        | false => none
      | none => none
  | some false => match vput nt fr o.dst none with
    | some fr => some (es, fr, st)
    | none => none
  | none => none

theorem runO_cons {i : Nat} {o : Oper} {r : List (Nat × Oper)} {es : List Ent} {fr : T V} {st : St} : runO P ro nt call ops ((i, o) :: r) es fr st = match stepO P ro nt call ops i o es fr st with
    | some (es, fr, st) => runO P ro nt call ops r es fr st
    | none => none := by
  simp only [runO, stepO, natF_eq]
  cases hw : vwanted ops fr o with
  | none => rfl
  | some x =>
    cases x with
    | false => cases vput nt fr o.dst none <;> rfl
    | true =>
      dsimp only
      rcases hc : opCls o.op with _ | _ | k
      · cases vop P ro call fr ⟨st.nx, .e, 0⟩ o.op with
        | none => rfl
        | some q => obtain ⟨v, s⟩ := q; dsimp only; cases vput nt fr o.dst v <;> rfl
      · simp only [Nat.zero_add]
        cases o.op with
        | load t x =>
          dsimp only
          cases opnd fr x with
          | none => rfl
          | some u =>
            cases u with
            | p id off =>
              dsimp only
              cases vload P st t id off with
              | none => rfl
              | some v => dsimp only; cases vput nt fr o.dst (some v) <;> rfl
            | _ => rfl
        | _ => rfl
      · cases vop P ro call fr ⟨st.nx, st.hp, st.nx⟩ o.op with
        | none => rfl
        | some q =>
          obtain ⟨v, s⟩ := q
          dsimp only
          cases (Nat.ble st.nx s.ver || keepB P s (aliveE ops i es)) with
          | false => rfl
          | true => dsimp only; cases vput nt fr o.dst v <;> rfl

theorem runO_split : ∀ {l1 l2 : List (Nat × Oper)} {es : List Ent} {fr : T V} {st : St} {R : T V × St}, runO P ro nt call ops (l1 ++ l2) es fr st = some R → ∃ es1 fr1 st1, runO P ro nt call ops l1 es fr st = some (fr1, st1) ∧ runO P ro nt call ops l2 es1 fr1 st1 = some R
  | [], l2, es, fr, st, R, h => ⟨es, fr, st, rfl, h⟩
  | (i, o) :: l1, l2, es, fr, st, R, h => by
    rw [List.cons_append, runO_cons] at h
    rw [runO_cons]
    cases hs : stepO P ro nt call ops i o es fr st with
    | none => rw [hs] at h; cases h
    | some q =>
      obtain ⟨es0, fr0, st0⟩ := q
      rw [hs] at h
      exact runO_split h

theorem vput_get {fr fr' : T V} {dst : Option Nat} {v : Option V} {t : Nat} (h : vput nt fr dst v = some fr') (ht : dst ≠ some t) : fr'.get t = fr.get t := by
  cases dst with
  | none => simp only [vput, Option.some.injEq] at h; rw [h]
  | some d =>
    have hne : t ≠ d := fun z => ht (by rw [z])
    simp only [vput] at h
    cases hb : Nat.blt d nt with
    | false => simp [hb] at h
    | true =>
      simp only [hb, cond_true] at h
      cases v with
      | none => simp only [Option.some.injEq] at h; rw [← h, T.get_upd, if_neg hne]
      | some v => simp only [V.force_eq, Option.some.injEq] at h; rw [← h, T.get_upd, if_neg hne]
theorem vput_self {fr fr' : T V} {d : Nat} {v : V} (h : vput nt fr (some d) (some v) = some fr') : fr'.get d = some v := by
  simp only [vput] at h
  cases hb : Nat.blt d nt with
  | false => simp [hb] at h
  | true => simp only [hb, cond_true, V.force_eq, Option.some.injEq] at h; rw [← h, T.get_upd, if_pos rfl]

theorem stepO_get {i : Nat} {o : Oper} {es es' : List Ent} {fr fr' : T V} {st st' : St} {t : Nat} (h : stepO P ro nt call ops i o es fr st = some (es', fr', st')) (ht : o.dst ≠ some t) : fr'.get t = fr.get t := by
  unfold stepO at h
  repeat' (split at h)
  all_goals first
    | (cases h; done)
    | (rename_i hp; simp only [Option.some.injEq, Prod.mk.injEq] at h; obtain ⟨_, rfl, _⟩ := h; exact vput_get hp ht)
theorem stepO_cls {i : Nat} {o : Oper} {es es' : List Ent} {fr fr' : T V} {st st' : St} (h : stepO P ro nt call ops i o es fr st = some (es', fr', st')) (hc : opCls o.op ≤ 1) : st' = st := by
  unfold stepO at h
  rcases hk : opCls o.op with _ | _ | k
  · simp only [hk] at h
    repeat' (split at h)
    all_goals first
      | (cases h; done)
      | (simp only [Option.some.injEq, Prod.mk.injEq] at h; exact h.2.2.symm)
  · simp only [hk] at h
    repeat' (split at h)
    all_goals first
      | (cases h; done)
      | (simp only [Option.some.injEq, Prod.mk.injEq] at h; exact h.2.2.symm)
  · omega
theorem runO_get {t : Nat} : ∀ {l : List (Nat × Oper)} {es : List Ent} {fr fr' : T V} {st st' : St}, runO P ro nt call ops l es fr st = some (fr', st') → (∀ x ∈ l, x.2.dst ≠ some t) → fr'.get t = fr.get t
  | [], es, fr, fr', st, st', h, _ => by simp only [runO, Option.some.injEq, Prod.mk.injEq] at h; rw [h.1]
  | (i, o) :: l, es, fr, fr', st, st', h, ht => by
    rw [runO_cons] at h
    cases hs : stepO P ro nt call ops i o es fr st with
    | none => rw [hs] at h; cases h
    | some q =>
      obtain ⟨es0, fr0, st0⟩ := q
      rw [hs] at h
      exact (runO_get h fun x hx => ht x (List.mem_cons_of_mem _ hx)).trans (stepO_get hs (ht _ (List.mem_cons_self ..)))
theorem runO_cls : ∀ {l : List (Nat × Oper)} {es : List Ent} {fr fr' : T V} {st st' : St}, runO P ro nt call ops l es fr st = some (fr', st') → (∀ x ∈ l, opCls x.2.op ≤ 1) → st' = st
  | [], es, fr, fr', st, st', h, _ => by simp only [runO, Option.some.injEq, Prod.mk.injEq] at h; exact h.2.symm
  | (i, o) :: l, es, fr, fr', st, st', h, ht => by
    rw [runO_cons] at h
    cases hs : stepO P ro nt call ops i o es fr st with
    | none => rw [hs] at h; cases h
    | some q =>
      obtain ⟨es0, fr0, st0⟩ := q
      rw [hs] at h
      exact (runO_cls h fun x hx => ht x (List.mem_cons_of_mem _ hx)).trans (stepO_cls hs (ht _ (List.mem_cons_self ..)))
theorem vops_get {t : Nat} : ∀ {l : List Oper} {fr fr' : T V} {st st' : St}, vops P ro nt call ops l fr st = some (fr', st') → (∀ x ∈ l, x.dst ≠ some t) → fr'.get t = fr.get t
  | [], fr, fr', st, st', h, _ => by simp only [vops, Option.some.injEq, Prod.mk.injEq] at h; rw [h.1]
  | o :: l, fr, fr', st, st', h, ht => by
    have hl : ∀ x ∈ l, x.dst ≠ some t := fun x hx => ht x (List.mem_cons_of_mem _ hx)
    have ho := ht o (List.mem_cons_self ..)
    simp only [vops] at h
    repeat' (split at h)
    all_goals first
      | (cases h; done)
      | (rename_i hp; exact (vops_get h hl).trans (vput_get hp ho))

theorem mem_tw {α : Type} {p : α → Bool} {x : α} : ∀ {l : List α}, x ∈ l.takeWhile p → p x = true
  | [], h => by cases h
  | a :: l, h => by
    rw [List.takeWhile_cons] at h
    split at h
    · rename_i hp
      rcases List.mem_cons.1 h with rfl | h
      · exact hp
      · exact mem_tw h
    · cases h
theorem tailOf_spec {l : List (Nat × Oper)} {q : TailI} (h : tailOf l = some q) : l = q.pre ++ (q.i1, q.o1) :: (q.i2, q.o2) :: (q.ad ++ [(q.i3, q.o3)]) ∧ (∀ x ∈ q.pre, opCls x.2.op ≤ 1) ∧ (∀ x ∈ q.ad, opCls x.2.op = 0 ∧ x.2.dst ≠ some q.r) ∧
    q.o1.guard = none ∧ q.o1.dst = some q.z ∧ q.o1.op = .buildSlice q.tl 1 q.ps ∧ q.o2.guard = none ∧ q.o2.dst = some q.r ∧ (∃ args tys, q.o2.op = .call ⟨.builtin .append, args, tys⟩ ∧ args.toList = [q.cur, .tmp q.z] ∧ tys.toList = [q.tl, q.tl]) ∧
    q.o3.guard = none ∧ q.o3.dst = none ∧ q.o3.op = .store q.t q.x (.tmp q.r) := by
  unfold tailOf at h
  split at h
  · rename_i i1 o1 i2 o2 rest hdw
    split at h
    · rename_i i3 o3 hlast
      split at h
      · rename_i z tl ps r args tys t x r' e1 e2 e3 e4 e5 e6 e7 e8 e9
        split at h
        · rename_i cur z' u1 u2 ha ht
          cases hc : (Nat.beq z z' && Nat.beq r r' && decide (u1 = tl) && decide (u2 = tl) && rest.dropLast.all (cls0 r)) with
          | false => simp [hc] at h
          | true =>
            simp only [hc, cond_true, Option.some.injEq] at h
            subst h
            simp only [Bool.and_eq_true, Nat.beq_eq, decide_eq_true_eq] at hc
            obtain ⟨⟨⟨⟨rfl, rfl⟩, rfl⟩, rfl⟩, hall⟩ := hc
            have hrest : rest = rest.dropLast ++ [(i3, o3)] := by
              have hne : rest ≠ [] := fun z => by rw [z] at hlast; cases hlast
              have h1 := List.dropLast_concat_getLast hne
              have h2 : rest.getLast hne = (i3, o3) := by
                have := List.getLast?_eq_some_getLast hne
                rw [this] at hlast
                exact Option.some.inj hlast
              rw [h2] at h1
              exact h1.symm
            refine ⟨?_, ?_, ?_, e1, e2, e3, e4, e5, ⟨args, tys, e6, ha, ht⟩, e7, e8, e9⟩
            · dsimp only
              rw [← hrest, ← hdw, List.takeWhile_append_dropWhile]
            · intro y hy
              have hp := mem_tw hy
              unfold clsL at hp
              rw [Nat.ble_eq] at hp
              exact hp
            · intro y hy
              have hp := List.all_eq_true.1 hall y hy
              unfold cls0 at hp
              simp only [Bool.and_eq_true, Nat.beq_eq] at hp
              refine ⟨hp.1, fun z => ?_⟩
              have := hp.2
              rw [z] at this
              simp at this
        · cases h
      · cases h
    · cases h
  · cases h

theorem stepO_two {i : Nat} {o : Oper} {es es' : List Ent} {fr fr' : T V} {st st' : St} (h : stepO P ro nt call ops i o es fr st = some (es', fr', st')) (hg : o.guard = none) (hc : 2 ≤ opCls o.op) :
    ∃ v s, vop P ro call fr ⟨st.nx, st.hp, st.nx⟩ o.op = some (v, s) ∧ vput nt fr o.dst v = some fr' ∧ st' = ⟨s.nx, s.hp, low st.ver s.ver⟩ := by
  unfold stepO at h
  have hw : vwanted ops fr o = some true := by unfold vwanted; rw [hg]
  rw [hw] at h
  rcases hk : opCls o.op with _ | _ | k
  · omega
  · omega
  · simp only [hk] at h
    cases hv : vop P ro call fr ⟨st.nx, st.hp, st.nx⟩ o.op with
    | none => simp [hv] at h
    | some q =>
      obtain ⟨v, s⟩ := q
      simp only [hv] at h
      cases hb : (Nat.ble st.nx s.ver || keepB P s (aliveE ops i es)) with
      | false => simp [hb] at h
      | true =>
        simp only [hb] at h
        cases hp : vput nt fr o.dst v with
        | none => simp [hp] at h
        | some f =>
          simp only [hp, Option.some.injEq, Prod.mk.injEq] at h
          obtain ⟨_, rfl, rfl⟩ := h
          exact ⟨v, s, rfl, hp, rfl⟩

/-- What such an end does: a row of one, append, a store. -/
theorem tail_inv {l : List (Nat × Oper)} {q : TailI} (hq : tailOf l = some q) {fr fr' : T V} {st st' : St} (h : runO P ro nt call ops l [] fr st = some (fr', st')) :
    ∃ fr1 st1 b c rv s2 g o s3, runO P ro nt call ops (q.pre ++ [(q.i1, q.o1)]) [] fr st = some (fr1, st1) ∧ st1.hp = st.hp.upd st.nx (some b) ∧ opnd fr1 q.cur = some c ∧ st1.nx = st.nx + 1 ∧ b.mp = none ∧
      vappend P ro ⟨st.nx + 1, st.hp.upd st.nx (some b), st.nx + 1⟩ q.tl c (.sl st.nx 0 1 1 false) = some (rv, s2) ∧ fr'.get q.r = some rv ∧ opnd fr' q.x = some (.p g o) ∧
      vstore P ro ⟨s2.nx, s2.hp, s2.nx⟩ q.t g o rv = some s3 ∧ st'.nx = s3.nx ∧ st'.hp = s3.hp := by
  obtain ⟨hl, hpre, had, g1, d1, o1, g2, d2, ⟨args, tys, o2, ha, ht⟩, g3, d3, o3⟩ := tailOf_spec hq
  rw [hl] at h
  have h' : runO P ro nt call ops ((q.pre ++ [(q.i1, q.o1)]) ++ ((q.i2, q.o2) :: (q.ad ++ [(q.i3, q.o3)]))) [] fr st = some (fr', st') := by
    rw [List.append_assoc]; exact h
  obtain ⟨es1, fr1, st1, r1, r2⟩ := runO_split h'
  obtain ⟨es0, fr0, st0, r3, r4⟩ := runO_split r1
  have e0 : st0 = st := runO_cls r3 hpre
  subst e0
  rw [runO_cons] at r4
  cases hs : stepO P ro nt call ops q.i1 q.o1 es0 fr0 st0 with
  | none => rw [hs] at r4; cases r4
  | some u =>
    obtain ⟨es1', fr1', st1'⟩ := u
    rw [hs] at r4
    simp only [runO, Option.some.injEq, Prod.mk.injEq] at r4
    obtain ⟨rfl, rfl⟩ := r4
    obtain ⟨v, s, v1, v2, v3⟩ := stepO_two hs g1 (by rw [o1]; simp [opCls, quietOp])
    rw [o1] at v1
    simp only [vop] at v1
    cases hps : partsOf fr0 q.ps.toList with
    | none => simp [hps] at v1
    | some pv =>
      simp only [hps] at v1
      cases hvb : vbuildSlice P ⟨st0.nx, st0.hp, st0.nx⟩ q.tl 1 pv with
      | none => simp [hvb] at v1
      | some u =>
        obtain ⟨x, sx⟩ := u
        simp only [hvb, Option.some.injEq, Prod.mk.injEq] at v1
        obtain ⟨rfl, rfl⟩ := v1
        obtain ⟨e, n, cs, b, b1, b2, b3⟩ := vbuildSlice_fine hvb
        rw [b2] at hvb
        simp only [Option.some.injEq, Prod.mk.injEq] at hvb
        obtain ⟨rfl, rfl⟩ := hvb
        rw [d1] at v2
        rw [runO_cons] at r2
        cases hs2 : stepO P ro nt call ops q.i2 q.o2 es1 fr1' st1' with
        | none => rw [hs2] at r2; cases r2
        | some u2 =>
          obtain ⟨es2, fr2, st2⟩ := u2
          rw [hs2] at r2
          obtain ⟨v', s', w1, w2, w3⟩ := stepO_two hs2 g2 (by rw [o2]; simp [opCls, quietOp])
          rw [o2] at w1
          simp only [vop, ha] at w1
          cases hops : opnds fr1' [q.cur, .tmp q.z] with
          | none => simp [hops] at w1
          | some vs =>
            simp only [opnds] at hops
            cases hc : opnd fr1' q.cur with
            | none => simp [hc] at hops
            | some c =>
              have hz : opnd fr1' (.tmp q.z) = some (.sl st0.nx 0 1 1 false) := vput_self v2
              simp only [hc, hz, Option.some.injEq] at hops
              subst hops
              simp only [opnds, hc, hz, vbuiltin, ht] at w1
              cases hu : P.underlying q.tl with
              | none => simp [hu] at w1
              | some und =>
                have w1' : (match vappend P ro ⟨st1'.nx, st1'.hp, st1'.nx⟩ q.tl c (.sl st0.nx 0 1 1 false) with | some (v, st) => some (some v, st) | none => none) = some (v', s') := by
                  cases und <;> simp only [hu, reduceCtorEq] at w1 <;> exact w1
                have hst1 : (⟨st1'.nx, st1'.hp, st1'.nx⟩ : St) = ⟨st0.nx + 1, st0.hp.upd st0.nx (some b), st0.nx + 1⟩ := by rw [v3]; rfl
                rw [hst1] at w1'
                cases hap : vappend P ro ⟨st0.nx + 1, st0.hp.upd st0.nx (some b), st0.nx + 1⟩ q.tl c (.sl st0.nx 0 1 1 false) with
                | none => simp [hap] at w1'
                | some ra =>
                  obtain ⟨rv, s2⟩ := ra
                  simp only [hap, Option.some.injEq, Prod.mk.injEq] at w1'
                  obtain ⟨rfl, rfl⟩ := w1'
                  rw [d2] at w2
                  obtain ⟨es3, fr3, st3, r5, r6⟩ := runO_split r2
                  have e3 : st3 = st2 := runO_cls r5 fun y hy => by rw [(had y hy).1]; exact Nat.zero_le _
                  subst e3
                  have hr3 : fr3.get q.r = some rv := (runO_get r5 fun y hy => (had y hy).2).trans (vput_self w2)
                  rw [runO_cons] at r6
                  cases hs3 : stepO P ro nt call ops q.i3 q.o3 es3 fr3 st3 with
                  | none => rw [hs3] at r6; cases r6
                  | some u3 =>
                    obtain ⟨es4, fr4, st4⟩ := u3
                    rw [hs3] at r6
                    simp only [runO, Option.some.injEq, Prod.mk.injEq] at r6
                    obtain ⟨rfl, rfl⟩ := r6
                    obtain ⟨v5, s5, x1, x2, x3⟩ := stepO_two hs3 g3 (by rw [o3]; simp [opCls, quietOp])
                    rw [d3] at x2
                    simp only [vput, Option.some.injEq] at x2
                    subst x2
                    rw [o3] at x1
                    simp only [vop, opnd, hr3] at x1
                    split at x1
                    · rename_i g o vv hx hvv
                      cases hvv
                      cases hvs : vstore P ro ⟨st3.nx, st3.hp, st3.nx⟩ q.t g o rv with
                      | none => simp [hvs] at x1
                      | some s6 =>
                        simp only [hvs, Option.some.injEq, Prod.mk.injEq] at x1
                        obtain ⟨rfl, rfl⟩ := x1
                        have hst3 : (⟨st3.nx, st3.hp, st3.nx⟩ : St) = ⟨s2.nx, s2.hp, s2.nx⟩ := by rw [w3]
                        rw [hst3] at hvs
                        exact ⟨fr1', st1', b, c, rv, s2, g, o, s6, r1, by rw [v3]; rfl, hc, by rw [v3]; rfl, blkOf_mp b1, hap, hr3, hx, hvs, by rw [x3], by rw [x3]⟩
                    · cases x1

theorem low_min (x y : Nat) : low x y = min x y := by
  unfold low
  cases e : Nat.ble x y with
  | true => rw [Nat.ble_eq] at e; simp; omega
  | false =>
    have : ¬ x ≤ y := by intro q; rw [← Nat.ble_eq] at q; rw [q] at e; cases e
    simp; omega

/-- A block in which some cells were written, and the same block in which others were. -/
structure Two (pos n : Nat) (nA nB : List V) (cA cB : Blk) : Prop where
  sz : cA.sz = cB.sz
  es : cA.es = cB.es
  op : cA.op = cB.op
  zero : cA.zero = [] ↔ cB.zero = []
  mp : cA.mp = cB.mp
  len : nB.length = n
  get : ∀ k, cA.get k = if pos ≤ k ∧ k < pos + n then nA[k - pos]? else cB.get k
  self : ∀ k, pos ≤ k ∧ k < pos + n → cB.get k = nB[k - pos]?
theorem Two.put {pos n : Nat} {nA nB : List V} {b cA cB : Blk} (hA : b.put nA pos = some cA) (hB : b.put nB pos = some cB) (lA : nA.length = n) (lB : nB.length = n) : Two pos n nA nB cA cB := by
  obtain ⟨a1, a2, a3, a4, a5, a6, a7⟩ := Blk.put_spec _ _ _ _ hA
  obtain ⟨b1, b2, b3, b4, b5, b6, b7⟩ := Blk.put_spec _ _ _ _ hB
  refine ⟨a1.trans b1.symm, a2.trans b2.symm, a3.trans b3.symm, by rw [a4, b4], (Blk.put_mp _ _ _ _ hA).trans (Blk.put_mp _ _ _ _ hB).symm, lB, fun k => ?_, fun k hk => ?_⟩
  · rw [a5 k, b5 k, lA, lB]
    by_cases h : pos ≤ k ∧ k < pos + n
    · simp only [if_pos h]
    · simp only [if_neg h]
  · rw [b5 k, lB, if_pos hk]
theorem Two.blk {es n : Nat} {op : Bool} {old nA nB : List V} {cA cB : Blk} (hA : blkOf (old ++ nA) es op = some cA) (hB : blkOf (old ++ nB) es op = some cB) (lA : nA.length = n) (lB : nB.length = n) : Two old.length n nA nB cA cB := by
  obtain ⟨a1, a2, a3, a4, a5, a6⟩ := blkOf_spec hA
  obtain ⟨b1, b2, b3, b4, b5, b6⟩ := blkOf_spec hB
  refine ⟨by rw [a1, b1]; simp [lA, lB], a2.trans b2.symm, a3.trans b3.symm, by rw [a4, b4], (blkOf_mp hA).trans (blkOf_mp hB).symm, lB, fun k => ?_, fun k hk => ?_⟩
  · rw [a5 k, b5 k]
    by_cases h : old.length ≤ k ∧ k < old.length + n
    · rw [if_pos h, List.getElem?_append_right h.1]
    · rw [if_neg h]
      rcases Nat.lt_or_ge k old.length with q | q
      · rw [List.getElem?_append_left q, List.getElem?_append_left q]
      · rw [List.getElem?_eq_none (by simp; omega), List.getElem?_eq_none (by simp; omega)]
  · rw [b5 k, List.getElem?_append_right hk.1]

theorem row_len {b : Blk} : ∀ {n o : Nat} {cs : List V}, b.row n o = some cs → cs.length = n
  | 0, o, cs, h => by simp only [Blk.row, Option.some.injEq] at h; rw [← h]; rfl
  | n + 1, o, cs, h => by
    simp only [Blk.row] at h
    cases hg : b.get o with
    | none => simp [hg] at h
    | some v =>
      simp only [hg] at h
      cases hr : b.row n (o + 1) with
      | none => simp [hr] at h
      | some r =>
        simp only [hr, Option.some.injEq] at h
        rw [← h, List.length_cons, row_len hr]

def curOK (N : Nat) : V → Prop
  | .sl id _ _ _ _ => id < N
  | _ => True

/-- Two appends of one element each, at the same slice: they part at the element alone. -/
theorem vappend_two {N : Nat} {hp : T Blk} {bA bB : Blk} {tl : TypeId} {c rA rB : V} {sA sB : St}
    (hA : vappend P ro ⟨N + 1, hp.upd N (some bA), N + 1⟩ tl c (.sl N 0 1 1 false) = some (rA, sA)) (hB : vappend P ro ⟨N + 1, hp.upd N (some bB), N + 1⟩ tl c (.sl N 0 1 1 false) = some (rB, sB)) (hc : curOK N c) :
    ∃ e n gr off len cap op nA nB cA cB, P.underlying tl = some (.slice e) ∧ sizeB P e = some n ∧ vlen c = some len ∧ rA = .sl gr off (len + 1) cap op ∧ rB = .sl gr off (len + 1) cap op ∧ sA.nx = sB.nx ∧ sA.ver = sB.ver ∧
      bA.row n 0 = some nA ∧ bB.row n 0 = some nB ∧ sA.hp.get gr = some cA ∧ sB.hp.get gr = some cB ∧ Two (off + len * n) n nA nB cA cB ∧ ∀ k, k ≠ N → k ≠ gr → sA.hp.get k = sB.hp.get k := by
  unfold vappend at hA hB
  cases hu : P.underlying tl with
  | none => simp [hu] at hA
  | some und =>
    cases und <;> simp only [hu, reduceCtorEq] at hA hB
    rename_i e
    cases hi : P.info? e with
    | none => simp [hi] at hA
    | some ti =>
      simp only [hi, vlen, vfirst, T.get_upd, if_true, Nat.one_mul] at hA hB
      cases hrA : bA.row ti.size 0 with
      | none => simp [hrA] at hA
      | some nA =>
        cases hrB : bB.row ti.size 0 with
        | none => simp [hrB] at hB
        | some nB =>
          simp only [hrA] at hA
          simp only [hrB] at hB
          have lA := row_len hrA
          have lB := row_len hrB
          cases h0 : (Nat.blt 0 ti.size && Nat.blt 0 ti.bytes && zeroFits P e ti.size) with
          | false => simp [h0] at hA
          | true =>
            simp only [h0, cond_true] at hA hB
            have hs : sizeB P e = some ti.size := by unfold sizeB; rw [hi]
            cases c with
            | sn =>
              simp only at hA hB
              cases h1 : Nat.ble ti.bytes 1099511627776 with
              | false => simp [h1] at hA
              | true =>
                have h2 : Nat.beq 1 0 = false := rfl
                simp only [h1, h2, cond_true, cond_false] at hA hB
                cases hbA : blkOf nA ti.size true with
                | none => simp [hbA] at hA
                | some cA =>
                  cases hbB : blkOf nB ti.size true with
                  | none => simp [hbB] at hB
                  | some cB =>
                    simp only [hbA, natF_eq, Option.some.injEq, Prod.mk.injEq] at hA
                    simp only [hbB, natF_eq, Option.some.injEq, Prod.mk.injEq] at hB
                    obtain ⟨rfl, rfl⟩ := hA
                    obtain ⟨rfl, rfl⟩ := hB
                    refine ⟨e, ti.size, N + 1, 0, 0, 1, true, nA, nB, cA, cB, rfl, hs, rfl, rfl, rfl, rfl, rfl, hrA, hrB, ?_, ?_, ?_, fun k h1 h2 => ?_⟩
                    · show ((hp.upd N (some bA)).upd (N + 1) (some cA)).get (N + 1) = _; rw [T.get_upd, if_pos rfl]
                    · show ((hp.upd N (some bB)).upd (N + 1) (some cB)).get (N + 1) = _; rw [T.get_upd, if_pos rfl]
                    · have := Two.blk (old := []) hbA hbB lA lB
                      simpa using this
                    · show ((hp.upd N (some bA)).upd (N + 1) (some cA)).get k = ((hp.upd N (some bB)).upd (N + 1) (some cB)).get k
                      rw [T.get_upd, if_neg h2, T.get_upd, if_neg h1, T.get_upd, if_neg h2, T.get_upd, if_neg h1]
            | sl id off len cap op =>
              have hid : id ≠ N := Nat.ne_of_lt hc
              simp only [T.get_upd, if_neg hid] at hA hB
              cases hg : hp.get id with
              | none => simp [hg] at hA
              | some b =>
                simp only [hg] at hA hB
                cases h1 : Nat.ble ((len + 1) * ti.bytes) 1099511627776 with
                | false => simp [h1] at hA
                | true =>
                  simp only [h1, cond_true] at hA hB
                  cases h2 : Nat.ble (len + 1) cap with
                  | true =>
                    simp only [h2, cond_true] at hA hB
                    cases h3 : Nat.ble ro id with
                    | false => simp [h3] at hA
                    | true =>
                      simp only [h3, cond_true] at hA hB
                      cases hbA : b.put nA (off + len * ti.size) with
                      | none => simp [hbA] at hA
                      | some cA =>
                        cases hbB : b.put nB (off + len * ti.size) with
                        | none => simp [hbB] at hB
                        | some cB =>
                          simp only [hbA, natF_eq, Option.some.injEq, Prod.mk.injEq] at hA
                          simp only [hbB, natF_eq, Option.some.injEq, Prod.mk.injEq] at hB
                          obtain ⟨rfl, rfl⟩ := hA
                          obtain ⟨rfl, rfl⟩ := hB
                          refine ⟨e, ti.size, id, off, len, cap, op, nA, nB, cA, cB, rfl, hs, rfl, rfl, rfl, by rw [St.write_eq, St.write_eq], by rw [St.write_eq, St.write_eq], hrA, hrB, ?_, ?_, Two.put hbA hbB lA lB, fun k h1 h2 => ?_⟩
                          · rw [St.write_eq]; dsimp only; rw [T.get_upd, if_pos rfl]
                          · rw [St.write_eq]; dsimp only; rw [T.get_upd, if_pos rfl]
                          · rw [St.write_eq, St.write_eq]; dsimp only; rw [T.get_upd, if_neg h2, T.get_upd, if_neg h1, T.get_upd, if_neg h2, T.get_upd, if_neg h1]
                  | false =>
                    simp only [h2, cond_false] at hA hB
                    have grown : ∀ cA cB, vgrown b off len ti.size nA = some cA → vgrown b off len ti.size nB = some cB → Two (0 + len * ti.size) ti.size nA nB cA cB := by
                      intro cA cB h3 h4
                      unfold vgrown at h3 h4
                      cases hm : b.mp with
                      | some _ => simp [hm] at h3
                      | none =>
                        simp only [hm] at h3 h4
                        cases h5 : (b.op && Nat.beq off 0 && Nat.beq (len * ti.size) b.sz && Nat.beq b.es ti.size) with
                        | true =>
                          simp only [h5, cond_true, Blk.grow, lA, lB] at h3 h4
                          simp only [Bool.and_eq_true, Nat.beq_eq] at h5
                          have := Two.put h3 h4 lA lB
                          rw [← h5.1.2] at this
                          rw [Nat.zero_add]; exact this
                        | false =>
                          simp only [h5, cond_false] at h3 h4
                          cases hr : b.row (len * ti.size) off with
                          | none => simp [hr] at h3
                          | some old =>
                            simp only [hr] at h3 h4
                            have := Two.blk h3 h4 lA lB
                            rw [row_len hr] at this
                            rw [Nat.zero_add]; exact this
                    cases hbA : vgrown b off len ti.size nA with
                    | none => simp [hbA] at hA
                    | some cA =>
                      cases hbB : vgrown b off len ti.size nB with
                      | none => simp [hbB] at hB
                      | some cB =>
                        simp only [hbA] at hA
                        simp only [hbB] at hB
                        have tw := grown cA cB hbA hbB
                        cases op with
                        | true =>
                          simp only [cond_true] at hA hB
                          cases h6 : (Nat.ble ro id && b.op && Nat.beq b.es ti.size && Nat.beq (off + cap * ti.size) b.sz) with
                          | false => simp [h6] at hA
                          | true =>
                            simp only [h6, cond_true, natF_eq, Option.some.injEq, Prod.mk.injEq] at hA hB
                            obtain ⟨rfl, rfl⟩ := hA
                            obtain ⟨rfl, rfl⟩ := hB
                            refine ⟨e, ti.size, N + 1, 0, len, len + 1, true, nA, nB, cA, cB, rfl, hs, rfl, rfl, rfl, rfl, by rw [St.kill_eq, St.kill_eq]; rfl, hrA, hrB, ?_, ?_, tw, fun k h1 h2 => ?_⟩
                            · rw [St.kill_eq]; show (T.upd _ (N + 1) (some cA)).get (N + 1) = _; rw [T.get_upd, if_pos rfl]
                            · rw [St.kill_eq]; show (T.upd _ (N + 1) (some cB)).get (N + 1) = _; rw [T.get_upd, if_pos rfl]
                            · rw [St.kill_eq, St.kill_eq]
                              show (T.upd (T.upd (T.upd hp N (some bA)) id none) (N + 1) (some cA)).get k = (T.upd (T.upd (T.upd hp N (some bB)) id none) (N + 1) (some cB)).get k
                              rw [T.get_upd, if_neg h2, T.get_upd, T.get_upd, if_neg h1, T.get_upd, if_neg h2, T.get_upd, T.get_upd, if_neg h1]
                        | false =>
                          simp only [cond_false, natF_eq, Option.some.injEq, Prod.mk.injEq] at hA hB
                          obtain ⟨rfl, rfl⟩ := hA
                          obtain ⟨rfl, rfl⟩ := hB
                          refine ⟨e, ti.size, N + 1, 0, len, len + 1, true, nA, nB, cA, cB, rfl, hs, rfl, rfl, rfl, rfl, rfl, hrA, hrB, ?_, ?_, tw, fun k h1 h2 => ?_⟩
                          · show (T.upd _ (N + 1) (some cA)).get (N + 1) = _; rw [T.get_upd, if_pos rfl]
                          · show (T.upd _ (N + 1) (some cB)).get (N + 1) = _; rw [T.get_upd, if_pos rfl]
                          · show (T.upd (T.upd hp N (some bA)) (N + 1) (some cA)).get k = (T.upd (T.upd hp N (some bB)) (N + 1) (some cB)).get k
                            rw [T.get_upd, if_neg h2, T.get_upd, if_neg h1, T.get_upd, if_neg h2, T.get_upd, if_neg h1]
            | sy g o q =>
              simp only at hA hB
              cases h1 : Nat.ble ti.bytes 1099511627776 with
              | false => simp [h1] at hA
              | true =>
                have h2 : Nat.beq 1 0 = false := rfl
                simp only [h1, h2, cond_true, cond_false] at hA hB
                cases hbA : blkOf nA ti.size true with
                | none => simp [hbA] at hA
                | some cA =>
                  cases hbB : blkOf nB ti.size true with
                  | none => simp [hbB] at hB
                  | some cB =>
                    simp only [hbA, natF_eq, Option.some.injEq, Prod.mk.injEq] at hA
                    simp only [hbB, natF_eq, Option.some.injEq, Prod.mk.injEq] at hB
                    obtain ⟨rfl, rfl⟩ := hA
                    obtain ⟨rfl, rfl⟩ := hB
                    refine ⟨e, ti.size, N + 1, 0, 0, 1, true, nA, nB, cA, cB, rfl, hs, rfl, rfl, rfl, rfl, rfl, hrA, hrB, ?_, ?_, ?_, fun k h1 h2 => ?_⟩
                    · show ((hp.upd N (some bA)).upd (N + 1) (some cA)).get (N + 1) = _; rw [T.get_upd, if_pos rfl]
                    · show ((hp.upd N (some bB)).upd (N + 1) (some cB)).get (N + 1) = _; rw [T.get_upd, if_pos rfl]
                    · have := Two.blk (old := []) hbA hbB lA lB
                      simpa using this
                    · show ((hp.upd N (some bA)).upd (N + 1) (some cA)).get k = ((hp.upd N (some bB)).upd (N + 1) (some cB)).get k
                      rw [T.get_upd, if_neg h2, T.get_upd, if_neg h1, T.get_upd, if_neg h2, T.get_upd, if_neg h1]
            | ze a0 =>
              simp only at hA hB
              cases h1 : Nat.ble ti.bytes 1099511627776 with
              | false => simp [h1] at hA
              | true =>
                have h2 : Nat.beq 1 0 = false := rfl
                simp only [h1, h2, cond_true, cond_false] at hA hB
                cases hbA : blkOf nA ti.size true with
                | none => simp [hbA] at hA
                | some cA =>
                  cases hbB : blkOf nB ti.size true with
                  | none => simp [hbB] at hB
                  | some cB =>
                    simp only [hbA, natF_eq, Option.some.injEq, Prod.mk.injEq] at hA
                    simp only [hbB, natF_eq, Option.some.injEq, Prod.mk.injEq] at hB
                    obtain ⟨rfl, rfl⟩ := hA
                    obtain ⟨rfl, rfl⟩ := hB
                    refine ⟨e, ti.size, N + 1, 0, 0, 1, true, nA, nB, cA, cB, rfl, hs, rfl, rfl, rfl, rfl, rfl, hrA, hrB, ?_, ?_, ?_, fun k h1 h2 => ?_⟩
                    · show ((hp.upd N (some bA)).upd (N + 1) (some cA)).get (N + 1) = _; rw [T.get_upd, if_pos rfl]
                    · show ((hp.upd N (some bB)).upd (N + 1) (some cB)).get (N + 1) = _; rw [T.get_upd, if_pos rfl]
                    · have := Two.blk (old := []) hbA hbB lA lB
                      simpa using this
                    · show ((hp.upd N (some bA)).upd (N + 1) (some cA)).get k = ((hp.upd N (some bB)).upd (N + 1) (some cB)).get k
                      rw [T.get_upd, if_neg h2, T.get_upd, if_neg h1, T.get_upd, if_neg h2, T.get_upd, if_neg h1]
            | _ => simp at hA

theorem elem_inv {q : ElemI} (hq : elemOf ops = some q) {fr fr' : T V} {st st' : St} (h : vops P ro nt call ops ops.toList fr st = some (fr', st')) {e n gr off len cap m : Nat} {op : Bool} {kd : IntKind} {v : V}
    (hu : P.underlying q.tl = some (.slice e)) (hs : sizeB P e = some n) (hr : fr.get q.r = some (.sl gr off len cap op)) (hix : opnd fr q.ix = some (.i kd (.ofNat m))) (hv : opnd fr q.v = some v) :
    ∃ b b', st.hp.get gr = some b ∧ b.put v.cells (off + m * n) = some b' ∧ st' = st.write gr b' := by
  unfold elemOf at hq
  split at hq
  · rename_i o1 o2 hl
    split at hq
    · rename_i e1 tl r ix te e2 v1 g1 d1 q1 g2 d2 q2
      cases hc : (Nat.beq e1 e2 && notTmp e1 v1) with
      | false => simp [hc] at hq
      | true =>
        simp only [hc, cond_true, Option.some.injEq] at hq
        subst hq
        simp only [Bool.and_eq_true, Nat.beq_eq] at hc
        obtain ⟨rfl, hne⟩ := hc
        dsimp only at hu hr hix hv
        rw [hl] at h
        have w1 : vwanted ops fr o1 = some true := by unfold vwanted; rw [g1]
        have hr' : opnd fr (.tmp r) = some (.sl gr off len cap op) := hr
        simp only [vops, w1, q1, vop, hr', hix, vindexAddr, hu, hs] at h
        cases hb : (ile 0 (.ofNat m) && ilt (.ofNat m) (len : Int)) with
        | false => simp only [hb, cond_false, reduceCtorEq] at h
        | true =>
          simp only [hb, cond_true, d1] at h
          cases hp : vput nt fr (some e1) (some (.p gr (off + (Int.ofNat m).toNat * n))) with
          | none => simp only [hp, reduceCtorEq] at h
          | some fr1 =>
            simp only [hp] at h
            have w2 : vwanted ops fr1 o2 = some true := by unfold vwanted; rw [g2]
            have he : opnd fr1 (.tmp e1) = some (.p gr (off + (Int.ofNat m).toNat * n)) := vput_self hp
            have hv' : opnd fr1 v1 = some v := by
              cases v1 with
              | tmp t =>
                have hne : t ≠ e1 := fun z => by
                  subst z
                  have : Nat.beq t t = true := by rw [Nat.beq_eq]
                  simp only [notTmp, this] at hne
                  cases hne
                have := vput_get (t := t) hp (fun z => hne (Option.some.inj z).symm)
                show fr1.get t = some v
                rw [this]
                exact hv
              | _ => exact hv
            simp only [w2, q2, vop, he, hv'] at h
            cases hvs : vstore P ro st te gr (off + (Int.ofNat m).toNat * n) v with
            | none => simp only [hvs, reduceCtorEq] at h
            | some s1 =>
              simp only [hvs, d2, vput, Option.some.injEq, Prod.mk.injEq] at h
              obtain ⟨_, rfl⟩ := h
              obtain ⟨b, b', p1, p2, p3, p4, _⟩ := vstore_inv hvs
              exact ⟨b, b', p1, p3, p4⟩
    · cases hq
  · cases hq

/-- The same memory, in other words, behind either way. -/
theorem flag_rel {F : FlagI} {fr frA frB frE : T V} {st stA stB stE : St} (tA : tailOf F.lA = some F.tA) (tB : tailOf F.lB = some F.tB) (hE : elemOf F.opsE = some F.eI) (htl : F.tA.tl = F.tB.tl) (ht : F.tA.t = F.tB.t) (hetl : F.eI.tl = F.tA.tl) (her : F.eI.r = F.tA.r)
    (rA : runO P ro nt call F.opsA F.lA [] fr st = some (frA, stA)) (rB : runO P ro nt call F.opsB F.lB [] fr st = some (frB, stB)) (rE : vops P ro nt call F.opsE F.opsE.toList frA stA = some (frE, stE)) (hk : flagChk P ro nt call F fr st frA frB = true) :
    ∃ gr, gr ≠ st.nx ∧ stE.ver ≤ gr ∧ ∀ k, k ≠ st.nx → (k ≠ gr → stE.hp.get k = stB.hp.get k) ∧ ∀ c, stB.hp.get k = some c → ∃ b, stE.hp.get k = some b ∧ BE b c := by
  obtain ⟨fA1, sA1, bA, cA, vA, s2A, gA, oA, s3A, a1, a2, a3, a4, a5, a6, a7, a8, a9, a10, a11⟩ := tail_inv tA rA
  obtain ⟨fB1, sB1, bB, cB, vB, s2B, gB, oB, s3B, b1, b2, b3, b4, b5, b6, b7, b8, b9, b10, b11⟩ := tail_inv tB rB
  unfold flagChk at hk
  rw [a1, b1] at hk
  simp only [a3, b3, a8, b8, sameO, show opnd frB (.tmp F.tB.r) = some vB from b7] at hk
  simp only [Bool.and_eq_true] at hk
  obtain ⟨⟨k1, k2⟩, k3⟩ := hk
  have hcc := same1_eq k1
  have haa := same1_eq k2
  subst hcc
  simp only [V.p.injEq] at haa
  obtain ⟨rfl, rfl⟩ := haa
  rw [htl] at a6
  cases hix : opnd frA F.eI.ix with
  | none => simp [hix] at k3
  | some ixv =>
    cases hv : opnd frA F.eI.v with
    | none => cases ixv <;> simp [hix, hv] at k3
    | some v =>
      cases ixv <;> simp only [hix, hv, Bool.false_eq_true] at k3
      rename_i kd nn
      cases vB <;> simp only [Bool.false_eq_true] at k3
      rename_i gr off len1 cap1 op1
      simp only [Bool.and_eq_true, Bool.not_eq_true'] at k3
      obtain ⟨⟨⟨⟨k4, k5⟩, k6⟩, k7⟩, k8⟩ := k3
      have nb : ∀ {x y : Nat}, Nat.beq x y = false → x ≠ y := fun {x y} h z => by subst z; rw [show Nat.beq x x = true from by rw [Nat.beq_eq]] at h; cases h
      have k6 := nb k6
      have k7 := nb k7
      have k8 := nb k8
      have hcur : curOK st.nx cA := by
        cases cA with
        | sl id _ _ _ _ => simp only [Nat.blt_eq] at k5; exact k5
        | _ => trivial
      obtain ⟨e, n, gr', off', len, cap', op', nA, nB, xA, xB, u1, u2, u3, u4, u5, u6, u7, u8, u9, u10, u11, tw, u12⟩ := vappend_two a6 b6 hcur
      simp only [V.sl.injEq] at u5
      obtain ⟨rfl, rfl, rfl, rfl, rfl⟩ := u5
      simp only [u3] at k4
      rw [b2, T.get_upd, if_pos rfl] at k4
      simp only [Bool.and_eq_true, decide_eq_true_eq] at k4
      obtain ⟨k9, k10⟩ := k4
      subst k9
      have hes : elemSz P F.tB.tl = n := by unfold elemSz; rw [u1]; simp only [u2]
      rw [hes, u9] at k10
      have hcells := sameL_eq k10
      obtain ⟨yA, yA', e1, e2, e3⟩ := elem_inv hE rE (by rw [hetl, htl]; exact u1) u2 (by rw [her]; rw [u4] at a7; exact a7) hix hv
      -- the store of the header
      rw [ht] at a9
      obtain ⟨hbA, hbA', p1, p2, p3, p4, p5⟩ := vstore_inv a9
      obtain ⟨hbB, hbB', q1, q2, q3, q4, q5⟩ := vstore_inv b9
      dsimp only at p1 q1
      have hgg : s2A.hp.get gA = s2B.hp.get gA := u12 gA k7 k6
      rw [p1, q1] at hgg
      obtain rfl := Option.some.inj hgg
      rw [u4] at p3
      rw [p3] at q3
      obtain rfl := Option.some.inj q3
      have hA3 : stA.hp = s2A.hp.upd gA (some hbA') := by rw [a11, p4, St.write_eq]
      have hB3 : stB.hp = s2B.hp.upd gA (some hbA') := by rw [b11, q4, St.write_eq]
      have hgr : gr ≠ gA := fun z => k6 z.symm
      rw [hA3, T.get_upd, if_neg hgr, u10] at e1
      obtain rfl := Option.some.inj e1
      have hlen : v.cells.length = n := by rw [← hcells]; exact tw.len
      obtain ⟨w1, w2, w3, w4, w5, w6, w7⟩ := Blk.put_spec _ _ _ _ e2
      have hbe : BE yA' xB := by
        refine ⟨by rw [w1]; exact tw.sz.symm, by rw [w2]; exact tw.es.symm, by rw [w3]; exact tw.op.symm, by rw [w4]; exact tw.zero.symm, by rw [Blk.put_mp _ _ _ _ e2]; exact tw.mp.symm, fun k => ?_⟩
        rw [w5 k, hlen]
        by_cases hk : off + len * n ≤ k ∧ k < off + len * n + n
        · rw [if_pos hk, tw.self k hk, hcells]
        · rw [if_neg hk, tw.get k, if_neg hk]
      have hEhp : stE.hp = stA.hp.upd gr (some yA') := by rw [e3, St.write_eq]
      refine ⟨gr, k8, by rw [e3, St.write_eq]; exact low_right _ _, fun k hk1 => ⟨fun hk2 => ?_, fun c hc => ?_⟩⟩
      · rw [hEhp, T.get_upd, if_neg hk2, hA3, hB3, T.get_upd, T.get_upd]
        by_cases hk3 : k = gA
        · rw [if_pos hk3, if_pos hk3]
        · rw [if_neg hk3, if_neg hk3]; exact u12 k hk1 hk2
      · by_cases hk2 : k = gr
        · subst hk2
          rw [hB3, T.get_upd, if_neg hgr, u11] at hc
          obtain rfl := Option.some.inj hc
          exact ⟨yA', by rw [hEhp, T.get_upd, if_pos rfl], hbe⟩
        · refine ⟨c, ?_, BE.refl c⟩
          rw [← hc, hEhp, T.get_upd, if_neg hk2, hA3, hB3, T.get_upd, T.get_upd]
          by_cases hk3 : k = gA
          · rw [if_pos hk3, if_pos hk3]
          · rw [if_neg hk3, if_neg hk3]; exact u12 k hk1 hk2
end
end Go.Vm
namespace Go.Vm
open Go.RowKit

section
variable {P : Program} {ro : Nat} {B : World} {nt : Nat} {call : CallF}

theorem flagOf_spec {a b : Code} {F : FlagI} (h : flagOf P nt a b = some F) : ∃ id1 ops1 iA iE iB lA' lB', a = .region id1 ops1 true ∧ b = .cond (.tmp F.f) (.seq (.region iA F.opsA true) (.region iE F.opsE false)) (.region iB F.opsB true) ∧
    flagR P nt ops1 = some (F.p, F.f) ∧ planOf P F.opsA = some lA' ∧ lA' = F.lA ∧ planOf P F.opsB = some lB' ∧ lB' = F.lB ∧ elemOf F.opsE = some F.eI ∧ tailOf F.lA = some F.tA ∧ tailOf F.lB = some F.tB ∧ F.tA.tl = F.tB.tl ∧ F.tA.t = F.tB.t ∧ F.eI.tl = F.tA.tl ∧ F.eI.r = F.tA.r ∧
    F.dead = F.p :: F.f :: ((F.lA.filterMap fun x => x.2.dst) ++ dstsOf F.opsE ++ F.lB.filterMap fun x => x.2.dst) := by
  unfold flagOf at h
  split at h
  · rename_i id1 ops1 f iA opsA iE opsE iB opsB
    split at h
    · rename_i p f' lA lB eI h1 h2 h3 h4
      split at h
      · rename_i tA tB h5 h6
        cases hc : (Nat.beq f f' && decide (tA.tl = tB.tl) && decide (tA.t = tB.t) && decide (eI.tl = tA.tl) && Nat.beq eI.r tA.r) with
        | false => simp [hc] at h
        | true =>
          simp only [hc, cond_true, Option.some.injEq] at h
          subst h
          simp only [Bool.and_eq_true, Nat.beq_eq, decide_eq_true_eq] at hc
          obtain ⟨⟨⟨⟨rfl, c1⟩, c2⟩, c3⟩, c4⟩ := hc
          exact ⟨id1, ops1, iA, iE, iB, lA, lB, rfl, rfl, h1, h2, rfl, h3, rfl, h4, h5, h6, c1, c2, c3, c4, rfl⟩
      · cases h
    · cases h
  · cases h

/-- x.F = append(x.F, v). -/
theorem flag_sound (hcall : CallOK P ro B call) (hname : ∀ (f : Nat) (fn : Func), P.funcs[f]? = some fn → (fn.name == "runtime.NumGoroutine") = false) (hmix : P.follows .mixedOrders = true) {Q : Exit → Act → World → Prop} (hQp : ∀ c a w, ¬ Q (.panic c) a w)
    {x y : Code} {F : FlagI} {fr : T V} {st st' : St} {J : Inj} {w : World} {a : Act} (h1 : flagOf P nt x y = some F) (h2 : flagSt P ro nt call F (eraseL [F.p, F.f] fr) ⟨st.nx + 1, st.hp, st.ver⟩ = some st')
    (hn : J.nx = st.nx) (hh : HR J ro B st.hp.get w) (hro : ro ≤ J.nx) (hf : FR J nt fr a.tmps) (hd : a.defers = [])
    (hQ : ∀ J' a' w', Post J ro B st w J' st' w' → FR J' nt (eraseL F.dead fr) a'.tmps → a'.defers = [] → Q .normal a' w') : (Code.seq x y).wp P Q a w := by
  obtain ⟨id1, ops1, iA, iE, iB, lA', lB', rfl, rfl, hfl, hpA, rfl, hpB, rfl, hE, tA, tB, c1, c2, c3, c4, hdead⟩ := flagOf_spec h1
  unfold flagSt at h2
  cases rA : runO P ro nt call F.opsA F.lA [] (eraseL [F.p, F.f] fr) ⟨st.nx + 1, st.hp, st.ver⟩ with
  | none => simp [rA] at h2
  | some qA =>
    obtain ⟨frA, stA⟩ := qA
    cases rB : runO P ro nt call F.opsB F.lB [] (eraseL [F.p, F.f] fr) ⟨st.nx + 1, st.hp, st.ver⟩ with
    | none => simp [rA, rB] at h2
    | some qB =>
      obtain ⟨frB, stB⟩ := qB
      simp only [rA, rB] at h2
      cases rE : vops P ro nt call F.opsE F.opsE.toList frA stA with
      | none => simp [rE] at h2
      | some qE =>
        obtain ⟨frE, stE⟩ := qE
        simp only [rE] at h2
        cases hk : (flagChk P ro nt call F (eraseL [F.p, F.f] fr) ⟨st.nx + 1, st.hp, st.ver⟩ frA frB && Nat.beq stE.nx stB.nx) with
        | false => simp [hk] at h2
        | true =>
          simp only [hk, cond_true, Option.some.injEq] at h2
          subst h2
          simp only [Bool.and_eq_true, Nat.beq_eq] at hk
          obtain ⟨gr, hg1, hg2, hrel⟩ := flag_rel tA tB hE c1 c2 c3 c4 rA rB rE hk.1
          dsimp only at hg1 hrel
          have hget : ∀ k, ((stB.hp.upd (st.nx + 1) none)).get k = if k = st.nx + 1 then none else stB.hp.get k := fun k => by rw [T.get_upd]
          have less : ∀ {t v}, (eraseL F.dead fr).get t = some v → t ∉ F.dead ∧ (eraseL [F.p, F.f] fr).get t = some v := by
            intro t v ht
            rw [eraseL_get] at ht
            split at ht
            · cases ht
            · rename_i hm
              refine ⟨hm, ?_⟩
              rw [eraseL_get, if_neg]
              · exact ht
              · intro z
                apply hm
                rw [hdead]
                simp only [List.mem_cons, List.not_mem_nil, or_false] at z
                rcases z with rfl | rfl <;> simp
          refine wp_seq (flagR_sound hcall hname hmix hfl hn hh hro hf hd fun b J1 a1 w1 hp1 hf1 hd1 hev => ?_)
          have hx0 : ∀ s2 : St, Ext ⟨st.nx + 1, st.hp, st.ver⟩ s2 → Ext st s2 := fun s2 e => ⟨Nat.le_trans (Nat.le_succ _) e.nx, e.ver, e.hp⟩
          cases b with
          | false =>
            refine wp_cond_false hev (planOf_sound hcall hname hmix hQp hpB rB hp1.nx hp1.hr hp1.ro hf1 hd1 fun J2 a2 w2 hp2 hf2 hd2 => ?_)
            have hpo := hp1.trans hp2
            refine hQ J2 a2 w2 (hpo.be rfl ⟨hpo.ext.nx, ?_, fun g c hg hlt => ?_⟩ fun g c hg => ⟨c, ?_, BE.refl c⟩) (hf2.less fun t v ht => ?_) hd2
            · show low (low stB.ver stE.ver) (st.nx + 1) ≤ st.ver
              have := hpo.ext.ver
              rw [low_min, low_min]; omega
            · have hlt : g < low (low stB.ver stE.ver) (st.nx + 1) := hlt
              rw [low_min, low_min] at hlt
              show (stB.hp.upd (st.nx + 1) none).get g = some c
              rw [hget, if_neg (by omega)]
              exact hpo.ext.hp g c hg (by omega)
            · have hg : (stB.hp.upd (st.nx + 1) none).get g = some c := hg
              rw [hget] at hg
              split at hg
              · cases hg
              · exact hg
            · obtain ⟨z1, z2⟩ := less ht
              rw [← z2]
              refine runO_get rB fun y hy hyd => z1 ?_
              rw [hdead]
              simp only [List.mem_cons, List.mem_append, List.mem_filterMap]
              exact .inr (.inr (.inr ⟨y, hy, hyd⟩))
          | true =>
            refine wp_cond_true hev (wp_seq (planOf_sound (Q := fun e a w => _) hcall hname hmix ?_ hpA rA hp1.nx hp1.hr hp1.ro hf1 hd1 fun J2 a2 w2 hp2 hf2 hd2 => ?_))
            · intro c a w q
              exact hQp c a w q
            have hpo := hp1.trans hp2
            refine wp_region ?_
            have hfin := vops_sound (P := P) (ro := ro) (B := B) (Q := Q) hcall hname F.opsE.toList 0 frA frE stA stE J2 w2 a2 (by simp) rE hp2.nx hp2.hr hp2.ro hf2 hd2 (fun J3 a3 w3 hp3 hf3 hd3 => ?_)
            · rw [Array.length_toList, ← List.range_eq_range'] at hfin
              exact hfin
            have hpo3 := hpo.trans hp3
            refine hQ J3 a3 w3 (hpo3.be hk.2.symm ⟨?_, ?_, fun g c hg hlt => ?_⟩ fun g c hg => ?_) (hf3.less fun t v ht => ?_) hd3
            · show st.nx ≤ stB.nx
              have := hpo3.ext.nx
              omega
            · show low (low stB.ver stE.ver) (st.nx + 1) ≤ st.ver
              have := hpo3.ext.ver
              rw [low_min, low_min]; omega
            · have hlt : g < low (low stB.ver stE.ver) (st.nx + 1) := hlt
              rw [low_min, low_min] at hlt
              show (stB.hp.upd (st.nx + 1) none).get g = some c
              rw [hget, if_neg (by omega), ← (hrel g (by omega)).1 (by omega)]
              exact hpo3.ext.hp g c hg (by omega)
            · have hg : (stB.hp.upd (st.nx + 1) none).get g = some c := hg
              rw [hget] at hg
              split at hg
              · cases hg
              · rename_i hne
                exact (hrel g hne).2 c hg
            · obtain ⟨z1, z2⟩ := less ht
              rw [← z2, vops_get rE fun y hy hyd => z1 ?_]
              · refine runO_get rA fun y hy hyd => z1 ?_
                rw [hdead]
                simp only [List.mem_cons, List.mem_append, List.mem_filterMap]
                exact .inr (.inr (.inl (.inl ⟨y, hy, hyd⟩)))
              · rw [hdead]
                simp only [List.mem_cons, List.mem_append, dstsOf, List.mem_filterMap]
                exact .inr (.inr (.inl (.inr ⟨y, hy, hyd⟩)))
end
end Go.Vm
namespace Go.Vm
open Go.RowKit

def Ex.real : Ex → Exit
  | .nrm => .normal
  | .exit id => .exit id
  | .goto l => .goto l
  | .ret => .ret

/-- Where the code ends, as the evaluator told. -/
def CQ (J : Inj) (ro : Nat) (B : World) (nt : Nat) (st : St) (w : World) (e : Ex) (fr' : T V) (st' : St) (e1 : Exit) (a1 : Act) (w1 : World) : Prop :=
  e1 = e.real ∧ ∃ J', Post J ro B st w J' st' w1 ∧ FR J' nt fr' a1.tmps ∧ a1.defers = []

def RunOK (P : Program) (ro : Nat) (B : World) (nt : Nat) (run : RunF) : Prop :=
  ∀ c fr st e fr' st', run c fr st = some (e, fr', st') → ∀ J w a, J.nx = st.nx → HR J ro B st.hp.get w → ro ≤ J.nx → FR J nt fr a.tmps → a.defers = [] → c.wp P (CQ J ro B nt st w e fr' st') a w

theorem CQ.trans {J J1 : Inj} {ro : Nat} {B : World} {nt : Nat} {st st1 : St} {w w1 : World} {e : Ex} {fr' : T V} {st' : St} (h : Post J ro B st w J1 st1 w1) {e1 : Exit} {a1 : Act} {w2 : World} (k : CQ J1 ro B nt st1 w1 e fr' st' e1 a1 w2) :
    CQ J ro B nt st w e fr' st' e1 a1 w2 := by
  obtain ⟨h1, J', h2, h3, h4⟩ := k
  exact ⟨h1, J', h.trans h2, h3, h4⟩

section
variable {P : Program} {ov : Ov} {ro : Nat} {B : World}

/-- A loop: its rounds, one behind the other. -/
theorem loopGo_sound {nt : Nat} {c : Code} {run : T V → St → Option (Ex × T V × St)}
    (hrun : ∀ fr st e fr' st', run fr st = some (e, fr', st') → ∀ J w a, J.nx = st.nx → HR J ro B st.hp.get w → ro ≤ J.nx → FR J nt fr a.tmps → a.defers = [] → c.wp P (CQ J ro B nt st w e fr' st') a w) :
    ∀ (n : Nat) (fr : T V) (st : St) (e : Ex) (fr' : T V) (st' : St), loopGo run n fr st = some (e, fr', st') → ∀ J w a, J.nx = st.nx → HR J ro B st.hp.get w → ro ≤ J.nx → FR J nt fr a.tmps → a.defers = [] →
      ∀ (b : Frame) (k : List Item) (cs : List Frame), ∃ e1 a1 w1, CQ J ro B nt st w e fr' st' e1 a1 w1 ∧ Arrives P (lone (b.at a (.code c :: .inLoop c :: k)) cs w) b k cs e1 a1 w1
  | 0, fr, st, e, fr', st', h => by simp [loopGo] at h
  | n + 1, fr, st, e, fr', st', h => by
    intro J w a hn hh hro hf hd b k cs
    simp only [loopGo] at h
    cases hr : run fr st with
    | none => simp [hr] at h
    | some r =>
      obtain ⟨e0, fr0, st0⟩ := r
      obtain ⟨e1, a1, w1, ⟨he, J1, hp, hf1, hd1⟩, harr⟩ := hrun fr st e0 fr0 st0 hr J w a hn hh hro hf hd b (.inLoop c :: k) cs
      cases e0 with
      | nrm =>
        simp only [hr] at h
        subst he
        obtain ⟨e2, a2, w2, hq, harr2⟩ := loopGo_sound hrun n fr0 st0 e fr' st' h J1 w1 a1 hp.nx hp.hr hp.ro hf1 hd1 b k cs
        exact ⟨e2, a2, w2, CQ.trans hp hq, .of_steps (Steps.trans harr (.one step_inLoop)) harr2⟩
      | exit id =>
        simp only [hr, Option.some.injEq, Prod.mk.injEq] at h
        obtain ⟨rfl, rfl, rfl⟩ := h
        subst he
        exact ⟨.exit id, a1, w1, ⟨rfl, J1, hp, hf1, hd1⟩, .pass (x := .inLoop c) rfl (fun _ _ => .inl (by simp)) harr⟩
      | goto l =>
        simp only [hr, Option.some.injEq, Prod.mk.injEq] at h
        obtain ⟨rfl, rfl, rfl⟩ := h
        subst he
        exact ⟨.goto l, a1, w1, ⟨rfl, J1, hp, hf1, hd1⟩, .pass (x := .inLoop c) rfl (fun _ _ => .inl (by simp)) harr⟩
      | ret =>
        simp only [hr, Option.some.injEq, Prod.mk.injEq] at h
        obtain ⟨rfl, rfl, rfl⟩ := h
        subst he
        exact ⟨.ret, a1, w1, ⟨rfl, J1, hp, hf1, hd1⟩, .pass (x := .inLoop c) rfl (fun _ _ => .inl (by simp)) harr⟩

/-- A scope, and the jumps in it. -/
theorem scopeGo_sound {nt : Nat} {body : Code} {run : RunF} (hrun : RunOK P ro B nt run) :
    ∀ (n : Nat) (c : Code) (fr : T V) (st : St) (e : Ex) (fr' : T V) (st' : St), scopeGo run body n c fr st = some (e, fr', st') → ∀ J w a, J.nx = st.nx → HR J ro B st.hp.get w → ro ≤ J.nx → FR J nt fr a.tmps → a.defers = [] →
      ∀ (b : Frame) (k : List Item) (cs : List Frame), ∃ e1 a1 w1, CQ J ro B nt st w e fr' st' e1 a1 w1 ∧ Arrives P (lone (b.at a (.code c :: .inScope body :: k)) cs w) b k cs e1 a1 w1
  | 0, c, fr, st, e, fr', st', h => by simp [scopeGo] at h
  | n + 1, c, fr, st, e, fr', st', h => by
    intro J w a hn hh hro hf hd b k cs
    simp only [scopeGo] at h
    cases hr : run c fr st with
    | none => simp [hr] at h
    | some r =>
      obtain ⟨e0, fr0, st0⟩ := r
      obtain ⟨e1, a1, w1, ⟨he, J1, hp, hf1, hd1⟩, harr⟩ := hrun c fr st e0 fr0 st0 hr J w a hn hh hro hf hd b (.inScope body :: k) cs
      cases e0 with
      | nrm =>
        simp only [hr, Option.some.injEq, Prod.mk.injEq] at h
        obtain ⟨rfl, rfl, rfl⟩ := h
        subst he
        exact ⟨.normal, a1, w1, ⟨rfl, J1, hp, hf1, hd1⟩, Steps.trans harr (.one step_inScope)⟩
      | exit id =>
        simp only [hr, Option.some.injEq, Prod.mk.injEq] at h
        obtain ⟨rfl, rfl, rfl⟩ := h
        subst he
        exact ⟨.exit id, a1, w1, ⟨rfl, J1, hp, hf1, hd1⟩, fun k' hk => harr k' (by simp [exitTo, hk])⟩
      | ret =>
        simp only [hr, Option.some.injEq, Prod.mk.injEq] at h
        obtain ⟨rfl, rfl, rfl⟩ := h
        subst he
        exact ⟨.ret, a1, w1, ⟨rfl, J1, hp, hf1, hd1⟩, harr⟩
      | goto l =>
        simp only [hr] at h
        subst he
        cases hl : findLabel body l with
        | none =>
          simp only [hl, Option.some.injEq, Prod.mk.injEq] at h
          obtain ⟨rfl, rfl, rfl⟩ := h
          exact ⟨.goto l, a1, w1, ⟨rfl, J1, hp, hf1, hd1⟩, fun k' hk => harr k' (by simp [gotoIn, hl, hk])⟩
        | some rest =>
          simp only [hl] at h
          obtain ⟨e2, a2, w2, hq, harr2⟩ := scopeGo_sound hrun n rest fr0 st0 e fr' st' h J1 w1 a1 hp.nx hp.hr hp.ro hf1 hd1 b k cs
          exact ⟨e2, a2, w2, CQ.trans hp hq, .of_steps (harr _ (by simp [gotoIn, hl])) harr2⟩

theorem frameOf_get : ∀ (l : List V) (i : Nat) (fr : T V) (t : Nat), (frameOf l i fr).get t = if i ≤ t ∧ t < i + l.length then l[t - i]? else fr.get t
  | [], i, fr, t => by rw [if_neg (by simp)]; rfl
  | v :: r, i, fr, t => by
    simp only [frameOf, V.force_eq]
    rw [frameOf_get r (i + 1), T.get_upd]
    by_cases e : t = i
    · subst e
      rw [if_neg (by omega), if_pos rfl, if_pos (by simp)]
      simp
    · by_cases e2 : i + 1 ≤ t ∧ t < i + 1 + r.length
      · rw [if_pos e2, if_pos (by simp; omega), show t - i = (t - (i + 1)) + 1 from by omega]
        simp
      · rw [if_neg e2, if_neg e, if_neg (by simp; omega)]

/-- One result's value. -/
def resS (tmps : Array Value) : ResultVar → Sem Value
  | .tmp t => pure (tmps.getD t undef)
  | .cell a t => do loadVar t (← asAddr (tmps.getD a undef))
theorem results_eq (fn : Func) (tmps : Array Value) : results fn tmps = (do
    let vs ← fn.results.mapM (resS tmps)
    pure (if h : vs.size = 1 then vs[0] else .tuple vs)) := rfl

theorem resultOf_real {J : Inj} {st : St} {w : World} {nt : Nat} {fr : T V} {tmps : Array Value} (hn : J.nx = st.nx) (hh : HR J ro B st.hp.get w) (hf : FR J nt fr tmps) {r : ResultVar} {v : V} (h : resultOf P fr st r = some v) :
    (resS tmps r).run P w = .ok (v.real J) w ∧ v.ok J.nx := by
  cases r with
  | tmp t =>
    obtain ⟨q1, q2⟩ := hf.get t v h
    exact ⟨by simp [resS, Array.getD_eq_getD_getElem?, q2], q1⟩
  | cell a t =>
    simp only [resultOf] at h
    cases hg : fr.get a with
    | none => simp [hg] at h
    | some u =>
      cases u <;> simp only [hg, reduceCtorEq] at h
      rename_i g off
      obtain ⟨q1, q2⟩ := hf.get a _ hg
      obtain ⟨r1, r2⟩ := vload_real (P := P) hn hh h
      refine ⟨?_, by rw [hn]; exact r2⟩
      simp only [V.real] at q2 r1
      simp only [resS, Array.getD_eq_getD_getElem?, q2, Option.getD_some, asAddr, Sem.run_bind, Sem.run_pure, Result.andThen_ok]
      simpa [Instr.loadAt, Instr.sureAddr] using r1

theorem results_real {J : Inj} {st : St} {w : World} {nt : Nat} {fr : T V} {tmps : Array Value} (hn : J.nx = st.nx) (hh : HR J ro B st.hp.get w) (hf : FR J nt fr tmps) {fn : Func} {vs : List V} (h : resultsOf P fr st fn.results.toList = some vs) :
    (results fn tmps).run P w = .ok ((oneOf vs).real J) w ∧ (oneOf vs).ok J.nx := by
  have key : ∀ (rs : List ResultVar) (vs : List V), resultsOf P fr st rs = some vs →
      (rs.mapM (resS tmps)).run P w = .ok (vs.map (V.real J)) w ∧ V.oks J.nx vs := by
    intro rs
    induction rs with
    | nil => intro vs h; simp only [resultsOf, Option.some.injEq] at h; subst h; simp [V.oks]
    | cons r rs ih =>
      intro vs h
      simp only [resultsOf] at h
      cases h1 : resultOf P fr st r with
      | none => simp [h1] at h
      | some v =>
        cases h2 : resultsOf P fr st rs with
        | none => simp [h1, h2] at h
        | some us =>
          simp only [h1, h2, Option.some.injEq] at h
          subst h
          obtain ⟨q1, q2⟩ := resultOf_real (tmps := tmps) hn hh hf h1
          obtain ⟨p1, p2⟩ := ih us h2
          refine ⟨?_, q2, p2⟩
          rw [List.mapM_cons, Sem.run_bind, q1]
          simp only [Result.andThen_ok, Sem.run_bind, p1, Sem.run_pure, List.map_cons]
  obtain ⟨k1, k2⟩ := key _ _ h
  rw [results_eq, Sem.run_bind, Array.mapM_eq_mapM_toList, Sem.run_map, k1]
  simp only [Result.andThen_ok, Sem.run_pure]
  cases vs with
  | nil => simp [oneOf, V.real, V.reals, V.ok, V.oks]
  | cons v r =>
    cases r with
    | nil => simp only [V.oks] at k2; simp [oneOf, k2.1]
    | cons u r => simp only [oneOf, V.ok]; exact ⟨by simp [V.real, V.reals_eq], k2⟩

/-- What is known beforehand is so, in every memory. -/
def OvR (P : Program) (ro : Nat) (B : World) (ov : Ov) : Prop := ∀ B', Old B B' → CallOK P ro B' ov
def OvOK (P : Program) (B : World) (ov : Ov) : Prop := OvR P GL B ov
/-- What is known beforehand is so: from every world, and nothing that was there is touched. -/
def Ov0OK (P : Program) (B : World) (ov : Ov0) : Prop :=
  ∀ f args v, ov f args = some v → v.plainT = true ∧ v.ok 0 ∧ (∃ fn c, P.funcs[f]? = some fn ∧ fn.body = some c) ∧
    ∀ J w, V.oks J.nx args → Old B w → Calls P f (V.reals J args).toArray w fun e w' => e = .returned (v.real J) ∧ Below w.heap.size w w'
theorem noOv_ok (P : Program) (B : World) : OvOK P B noOv := fun _ _ _ _ _ _ _ h => by cases h

theorem HR.under {J : Inj} {ro : Nat} {B : World} {h : Nat → Option Blk} {w w' : World} (hh : HR J ro B h w) (hb : Below w.heap.size w w') : HR J ro B h w' := by
  refine ⟨hh.base.below (hb.mono hh.base.size), fun g b hg => ?_, hh.inj⟩
  have h1 := hh.blk g b hg
  have h2 := hb.block _ h1.lt
  unfold BR CR MR at *
  rw [h2]
  exact h1

theorem Old.trans {A B C : World} (h : Old A B) (k : Old B C) : Old A C := ⟨Nat.le_trans h.size k.size, fun i hi => (k.block i (Nat.lt_of_lt_of_le hi h.size)).trans (h.block i hi)⟩
theorem ofOv0_ok {o : Ov0} (h : Ov0OK P B o) : OvR P ro B (ofOv0 o) := by
  intro B' hB f args st v st' h' J w hn hh hro hargs
  unfold ofOv0 at h'
  cases ho : o f args with
  | none => rw [ho] at h'; cases h'
  | some u =>
    simp only [ho, Option.some.injEq, Prod.mk.injEq] at h'
    obtain ⟨rfl, rfl⟩ := h'
    obtain ⟨h1, h2, h3, h4⟩ := h f args u ho
    refine ⟨h3, (h4 J w hargs (hB.trans hh.base)).mono ?_⟩
    rintro e w' ⟨he, hb⟩
    exact ⟨J, he, V.ok_plainT 0 J.nx u h1 h2, Inj.le.refl J, hn, hh.under hb, hb.mono hh.base.size, Ext.refl _, hro, Fr.same fun i hi => hb.block i hi⟩

theorem callGo_sound (hov : OvR P ro B ov) {run : Nat → RunF} (hrun : ∀ nt, RunOK P ro B nt (run nt)) : CallOK P ro B (callGo P ov run) := by
  intro f args st v st' h J w hn hh hro hargs
  unfold callGo at h
  cases ho : ov f args st with
  | some u =>
    obtain ⟨u, st1⟩ := u
    simp only [ho, Option.some.injEq, Prod.mk.injEq] at h
    obtain ⟨rfl, rfl⟩ := h
    exact hov B (Old.refl B) f args st u st1 ho J w hn hh hro hargs
  | none =>
  simp only [ho] at h
  cases hf : P.funcs[f]? with
  | none => simp [hf] at h
  | some fn =>
    simp only [hf] at h
    cases hb : fn.body with
    | none => simp [hb] at h
    | some c =>
      simp only [hb] at h
      refine ⟨⟨fn, c, rfl, hb⟩, ?_⟩
      cases hl : Nat.ble args.length fn.ntmps with
      | false => simp [hl] at h
      | true =>
        simp only [hl, cond_true] at h
        rw [Nat.ble_eq] at hl
        have hsz : (V.reals J args).toArray.size = args.length := by simp [V.reals_eq]
        have hframe : FR J fn.ntmps (frameOf args 0 .e) ((V.reals J args).toArray ++ Array.replicate (fn.ntmps - (V.reals J args).toArray.size) undef) := by
          refine ⟨by simp [V.reals_eq]; omega, fun t x hx => ?_⟩
          rw [frameOf_get] at hx
          by_cases e : 0 ≤ t ∧ t < 0 + args.length
          · rw [if_pos e, Nat.sub_zero] at hx
            refine ⟨(V.oks_iff _ _).1 hargs x (List.mem_of_getElem? hx), ?_⟩
            rw [Array.getElem?_append_left (by rw [hsz]; omega)]
            simp [V.reals_eq, hx]
          · rw [if_neg e] at hx; simp [T.get_e] at hx
        cases hr : run fn.ntmps c (frameOf args 0 .e) st with
        | none => simp [hr] at h
        | some r =>
          obtain ⟨e, fr1, st1⟩ := r
          have hwp := hrun fn.ntmps c _ st e fr1 st1 hr J w ⟨(V.reals J args).toArray ++ Array.replicate (fn.ntmps - (V.reals J args).toArray.size) undef, []⟩ hn hh hro hframe rfl
          have fin : (match resultsOf P fr1 st1 fn.results.toList with | some vs => some (oneOf vs, st1) | none => none) = some (v, st') → (e = .nrm ∨ e = .ret) →
              Calls P f (V.reals J args).toArray w fun e w' => ∃ J', e = .returned (v.real J') ∧ v.ok J'.nx ∧ Post J ro B st w J' st' w' := by
            intro hres he
            cases hrs : resultsOf P fr1 st1 fn.results.toList with
            | none => simp [hrs] at hres
            | some vs =>
              simp only [hrs, Option.some.injEq, Prod.mk.injEq] at hres
              obtain ⟨rfl, rfl⟩ := hres
              refine calls_of_wp hf hb (wp_mono hwp ?_)
              rintro e1 a1 w1 ⟨h1, J1, hp, hf1, hd1⟩
              obtain ⟨q1, q2⟩ := results_real (P := P) hp.nx hp.hr hf1 hrs
              rcases he with rfl | rfl <;> subst h1 <;> exact ⟨hd1, _, q1, J1, rfl, q2, hp⟩
          cases e <;> simp only [hr, reduceCtorEq] at h
          · exact fin h (.inl rfl)
          · exact fin h (.inr rfl)

/-- WHAT THE EVALUATOR TELLS OF CODE IS SO. -/
theorem evC_sound (hov : OvR P ro B ov) (hmix : P.follows .mixedOrders = true) (hname : ∀ (f : Nat) (fn : Func), P.funcs[f]? = some fn → (fn.name == "runtime.NumGoroutine") = false) : ∀ (n nt : Nat), RunOK P ro B nt (evC P ov ro n nt) := by
  intro n
  induction n with
  | zero => intro nt c fr st e fr' st' h; simp [evC] at h
  | succ n ih =>
    intro nt c fr st e fr' st' h J w a hn hh hro hf hd
    have hcall : CallOK P ro B (callGo P ov (evC P ov ro n)) := callGo_sound hov ih
    have here : ∀ (ex : Ex), CQ J ro B nt st w ex fr st ex.real a w := fun ex => ⟨rfl, J, Post.refl hn hh hro, hf, hd⟩
    cases c with
    | skip =>
      simp only [evC, Option.some.injEq, Prod.mk.injEq] at h
      obtain ⟨rfl, rfl, rfl⟩ := h
      exact wp_skip (here .nrm)
    | label l =>
      simp only [evC, Option.some.injEq, Prod.mk.injEq] at h
      obtain ⟨rfl, rfl, rfl⟩ := h
      exact wp_label (here .nrm)
    | exit id =>
      simp only [evC, Option.some.injEq, Prod.mk.injEq] at h
      obtain ⟨rfl, rfl, rfl⟩ := h
      exact wp_exit (here (.exit id))
    | goto l =>
      simp only [evC, Option.some.injEq, Prod.mk.injEq] at h
      obtain ⟨rfl, rfl, rfl⟩ := h
      exact wp_goto (here (.goto l))
    | ret =>
      simp only [evC, Option.some.injEq, Prod.mk.injEq] at h
      obtain ⟨rfl, rfl, rfl⟩ := h
      exact wp_ret (here .ret)
    | region id ops draw =>
      simp only [evC] at h
      cases draw with
      | false =>
        simp only at h
        cases hv : vops P ro nt (callGo P ov (evC P ov ro n)) ops ops.toList fr st with
        | none => simp [hv] at h
        | some r =>
          obtain ⟨fr1, st1⟩ := r
          simp only [hv, Option.some.injEq, Prod.mk.injEq] at h
          obtain ⟨rfl, rfl, rfl⟩ := h
          refine wp_region ?_
          have := vops_sound (P := P) hcall hname (Q := CQ J ro B nt st w .nrm fr1 st1) ops.toList 0 fr fr1 st st1 J w a (by simp) hv hn hh hro hf hd (fun J' a' w' hp hf' hd' => ⟨rfl, J', hp, hf', hd'⟩)
          rw [Array.length_toList, ← List.range_eq_range'] at this
          exact this
      | true =>
        simp only at h
        have quiet : ∀ fr1, lexQ ops = true → vopsQ P ro nt (callGo P ov (evC P ov ro n)) ops ops.toList fr st = some fr1 → (Code.region id ops true).wp P (CQ J ro B nt st w .nrm fr1 st) a w := by
          intro fr1 hB hv
          have hst : Still J ro B st w { w with drawn := w.drawn + 1 } := ⟨hh.congr rfl, ⟨rfl, rfl, rfl, Nat.le_refl _, fun _ _ => rfl⟩, Fr.same fun _ _ => rfl⟩
          refine wp_region_quiet hmix (by unfold lexQ at hB; rw [Bool.and_eq_true] at hB; exact hB.1) (C := Still J ro B st w) hst ?_
          refine vopsQ_sound hcall hname hn hro ⟨_, hst⟩ ops.toList fr fr1 a hv hf hd (fun a' hf' hd' w' hs => ⟨rfl, J, ⟨Inj.le.refl J, hn, hs.1, hs.2.1, Ext.refl _, hro, hs.2.2⟩, hf', hd'⟩)
        cases hB : lexQ1 P ops with
        | false =>
          cases hT : tailB ops with
          | false =>
            simp only [hB, hT] at h
            cases hpl : planOf P ops with
            | none =>
              simp only [hpl] at h
              cases hL : lexQ ops with
              | false =>
                simp only [hL] at h
                cases hpp : planPair ops with
                | none => simp [hpp] at h
                | some u =>
                  obtain ⟨l, o, q⟩ := u
                  simp only [hpp] at h
                  cases hv : runO P ro nt (callGo P ov (evC P ov ro n)) ops l [] fr st with
                  | none => simp [hv] at h
                  | some r =>
                    obtain ⟨fr1, st1⟩ := r
                    simp only [hv] at h
                    cases hr2 : runPair P ro o q fr1 st1 with
                    | none => simp [hr2] at h
                    | some st2 =>
                      simp only [hr2, Option.some.injEq, Prod.mk.injEq] at h
                      obtain ⟨rfl, rfl, rfl⟩ := h
                      exact planPair_sound hcall hname hmix (Q := CQ J ro B nt st w .nrm fr1 st2) (fun c a w q => by cases q.1) hpp hv hr2 hn hh hro hf hd (fun J' a' w' hp hf' hd' => ⟨rfl, J', hp, hf', hd'⟩)
              | true =>
                simp only [hL] at h
                cases hv : vopsQ P ro nt (callGo P ov (evC P ov ro n)) ops ops.toList fr st with
                | none => simp [hv] at h
                | some fr1 =>
                  simp only [hv, Option.some.injEq, Prod.mk.injEq] at h
                  obtain ⟨rfl, rfl, rfl⟩ := h
                  exact quiet fr1 hL hv
            | some pl =>
              simp only [hpl] at h
              cases hv : runO P ro nt (callGo P ov (evC P ov ro n)) ops pl [] fr st with
              | none => simp [hv] at h
              | some r =>
                obtain ⟨fr1, st1⟩ := r
                simp only [hv, Option.some.injEq, Prod.mk.injEq] at h
                obtain ⟨rfl, rfl, rfl⟩ := h
                exact planOf_sound hcall hname hmix (Q := CQ J ro B nt st w .nrm fr1 st1) (fun c a w q => by cases q.1) hpl hv hn hh hro hf hd (fun J' a' w' hp hf' hd' => ⟨rfl, J', hp, hf', hd'⟩)
          | true =>
            simp only [hB, hT] at h
            cases hv : vopsQ P ro nt (callGo P ov (evC P ov ro n)) ops (ops.toList.take (ops.size - 1)) fr st with
            | none => simp [hv] at h
            | some fr1 =>
              simp only [hv] at h
              cases hv2 : vops P ro nt (callGo P ov (evC P ov ro n)) ops (ops.toList.drop (ops.size - 1)) fr1 st with
              | none => simp [hv2] at h
              | some r =>
                obtain ⟨fr2, st2⟩ := r
                simp only [hv2, Option.some.injEq, Prod.mk.injEq] at h
                obtain ⟨rfl, rfl, rfl⟩ := h
                unfold tailB at hT
                simp only [Bool.and_eq_true] at hT
                have hst : Still J ro B st w { w with drawn := w.drawn + 1 } := ⟨hh.congr rfl, ⟨rfl, rfl, rfl, Nat.le_refl _, fun _ _ => rfl⟩, Fr.same fun _ _ => rfl⟩
                have e : ops = ops.toList.toArray := by simp
                rw [e]
                refine wp_region_still_tail (ops.size - 1) hmix (by rw [← e]; exact hT.1) ?_
                rw [← e]
                refine vopsS_sound hn hst.1 (ops.toList.take (ops.size - 1)) fr fr1 a hT.2.1 hv hf hd (fun a' hf' hd' => ?_)
                rw [← wpOps_eq_wpList (ops.toList.drop (ops.size - 1)) (ops.size - 1) (fun j => by simp [List.getElem?_drop])]
                have p0 : Post J ro B st w J st { w with drawn := w.drawn + 1 } := ⟨Inj.le.refl J, hn, hst.1, hst.2.1, Ext.refl _, hro, hst.2.2⟩
                exact vops_sound (P := P) hcall hname (Q := CQ J ro B nt st w .nrm fr2 st2) (ops.toList.drop (ops.size - 1)) (ops.size - 1) fr1 fr2 st st2 J _ a' (fun j => by simp [List.getElem?_drop]) hv2 hn hst.1 hro hf' hd' (fun J' a2 w' hp hf2 hd2 => ⟨rfl, J', p0.trans hp, hf2, hd2⟩)
        | true =>
          simp only [hB] at h
          cases hv : vopsQ P ro nt (callGo P ov (evC P ov ro n)) ops ops.toList fr st with
          | none => simp [hv] at h
          | some fr1 =>
            simp only [hv, Option.some.injEq, Prod.mk.injEq] at h
            obtain ⟨rfl, rfl, rfl⟩ := h
            unfold lexQ1 at hB
            rw [Bool.and_eq_true] at hB
            exact quiet fr1 hB.1 hv
    | seq x y =>
      simp only [evC] at h
      cases hfl : flagOf P nt x y with
      | some F =>
        simp only [hfl] at h
        cases hs : flagSt P ro nt (callGo P ov (evC P ov ro n)) F (eraseL [F.p, F.f] fr) ⟨st.nx + 1, st.hp, st.ver⟩ with
        | none => simp [hs] at h
        | some st1 =>
          simp only [hs, Option.some.injEq, Prod.mk.injEq] at h
          obtain ⟨rfl, rfl, rfl⟩ := h
          exact flag_sound hcall hname hmix (Q := CQ J ro B nt st w .nrm (eraseL F.dead fr) st1) (fun c a w q => by cases q.1) hfl hs hn hh hro hf hd (fun J' a' w' hp hf' hd' => ⟨rfl, J', hp, hf', hd'⟩)
      | none =>
      simp only [hfl] at h
      cases hx : evC P ov ro n nt x fr st with
      | none => simp [hx] at h
      | some r =>
        obtain ⟨e0, fr0, st0⟩ := r
        have h1 := ih nt x fr st e0 fr0 st0 hx J w a hn hh hro hf hd
        refine wp_seq (wp_mono h1 ?_)
        rintro e1 a1 w1 ⟨he, J1, hp, hf1, hd1⟩
        cases e0 with
        | nrm =>
          simp only [hx] at h
          subst he
          exact wp_mono (ih nt y fr0 st0 e fr' st' h J1 w1 a1 hp.nx hp.hr hp.ro hf1 hd1) fun _ _ _ hq => CQ.trans hp hq
        | _ =>
          simp only [hx, Option.some.injEq, Prod.mk.injEq] at h
          obtain ⟨rfl, rfl, rfl⟩ := h
          subst he
          exact ⟨rfl, J1, hp, hf1, hd1⟩
    | cond c x y =>
      simp only [evC] at h
      cases hc : opnd fr c with
      | none => simp [hc] at h
      | some u =>
        cases u <;> simp only [hc, reduceCtorEq] at h
        rename_i t
        have hev := (opnd_spec hf c _ hc).1
        simp only [V.real] at hev
        cases t with
        | true => exact wp_cond_true hev (ih nt x fr st e fr' st' h J w a hn hh hro hf hd)
        | false => exact wp_cond_false hev (ih nt y fr st e fr' st' h J w a hn hh hro hf hd)
    | block id x =>
      simp only [evC] at h
      cases hx : evC P ov ro n nt x fr st with
      | none => simp [hx] at h
      | some r =>
        obtain ⟨e0, fr0, st0⟩ := r
        have h1 := ih nt x fr st e0 fr0 st0 hx J w a hn hh hro hf hd
        refine wp_block (wp_mono h1 ?_)
        rintro e1 a1 w1 ⟨he, J1, hp, hf1, hd1⟩
        cases e0 with
        | exit id' =>
          simp only [hx] at h
          subst he
          simp only [Ex.real, Exit.inBlock]
          by_cases hid : id' = id
          · have : Nat.beq id' id = true := by rw [Nat.beq_eq]; exact hid
            simp only [this, cond_true, Option.some.injEq, Prod.mk.injEq] at h
            obtain ⟨rfl, rfl, rfl⟩ := h
            rw [if_pos hid]
            exact ⟨rfl, J1, hp, hf1, hd1⟩
          · have : Nat.beq id' id = false := by rw [Bool.eq_false_iff]; intro q; rw [Nat.beq_eq] at q; exact hid q
            simp only [this, cond_false, Option.some.injEq, Prod.mk.injEq] at h
            obtain ⟨rfl, rfl, rfl⟩ := h
            rw [if_neg hid]
            exact ⟨rfl, J1, hp, hf1, hd1⟩
        | _ =>
          simp only [hx, Option.some.injEq, Prod.mk.injEq] at h
          obtain ⟨rfl, rfl, rfl⟩ := h
          subst he
          exact ⟨rfl, J1, hp, hf1, hd1⟩
    | loop x =>
      simp only [evC] at h
      intro b k cs
      obtain ⟨e1, a1, w1, hq, harr⟩ := loopGo_sound (c := x) (fun fr st e fr' st' hx => ih nt x fr st e fr' st' hx) n fr st e fr' st' h J w a hn hh hro hf hd b k cs
      exact ⟨e1, a1, w1, hq, .of_steps (.one step_loop) harr⟩
    | scope x =>
      simp only [evC] at h
      intro b k cs
      obtain ⟨e1, a1, w1, hq, harr⟩ := scopeGo_sound (ih nt) n x fr st e fr' st' h J w a hn hh hro hf hd b k cs
      exact ⟨e1, a1, w1, hq, .of_steps (.one step_scope) harr⟩
    | rangeFunc _ _ _ _ => simp [evC] at h
    | refuse _ => simp [evC] at h

/-- A CALL, from the empty memory: it answers so in every world, and leaves what was there as it was. -/
theorem evF_sound (hov : OvR P ro B ov) (hmix : P.follows .mixedOrders = true) (hname : ∀ (f : Nat) (fn : Func), P.funcs[f]? = some fn → (fn.name == "runtime.NumGoroutine") = false) : ∀ (n : Nat), CallOK P ro B (evF P ov ro n) :=
  fun n => callGo_sound hov (evC_sound hov hmix hname n)

theorem OvOK.old {A B : World} (h : OvOK P A ov) (k : Old A B) : OvOK P B ov := fun B' hB => h B' (k.trans hB)

/-- Where the package-level variables lie. -/
def J0 : Inj := ⟨GL, fun g => (g, 0, 0), fun _ h => ⟨h, rfl⟩⟩
/-- In this world these variables hold these cells. -/
def GOn (B : World) (gs : List (Nat × List V)) : Prop :=
  ∀ x ∈ gs, x.1 < GL ∧ (∀ v ∈ x.2, v.plain = true ∧ v.ok 0) ∧ ∃ c e fz, B.heap[x.1]? = some (.cells c e fz) ∧ c.toList = x.2.map (V.real J0)
theorem GOn.old {A B : World} {gs : List (Nat × List V)} (h : GOn A gs) (k : Old A B) : GOn B gs := fun x hx => by
  obtain ⟨h1, h2, c, e, fz, h3, h4⟩ := h x hx
  refine ⟨h1, h2, c, e, fz, ?_, h4⟩
  rw [k.block x.1 ?_]; exact h3
  rcases Nat.lt_or_ge x.1 A.heap.size with h | h
  · exact h
  · rw [Array.getElem?_eq_none h] at h3; cases h3

theorem globs_get : ∀ (gs : List (Nat × List V)) (g : Nat) (b : Blk), (globs gs).get g = some b → ∃ cs, (g, cs) ∈ gs ∧ blkOf cs 1 false = some b
  | [], g, b, h => by simp [globs, T.get_e] at h
  | (k, cs) :: r, g, b, h => by
    simp only [globs] at h
    cases hb : blkOf cs 1 false with
    | none =>
      simp only [hb] at h
      obtain ⟨cs', h1, h2⟩ := globs_get r g b h
      exact ⟨cs', List.mem_cons_of_mem _ h1, h2⟩
    | some b0 =>
      simp only [hb] at h
      rw [T.get_upd] at h
      by_cases e : g = k
      · subst e
        rw [if_pos rfl] at h
        obtain rfl := Option.some.inj h
        exact ⟨cs, List.mem_cons_self .., hb⟩
      · rw [if_neg e] at h
        obtain ⟨cs', h1, h2⟩ := globs_get r g b h
        exact ⟨cs', List.mem_cons_of_mem _ h1, h2⟩

theorem HR.start {B : World} {gs : List (Nat × List V)} (h : GOn B gs) : HR J0 GL B (globs gs).get B := by
  refine ⟨Old.refl B, fun g b hg => ?_, fun g g' b b' _ _ he => he⟩
  obtain ⟨cs, hm, hb⟩ := globs_get gs g b hg
  obtain ⟨h1, h2, c, e, fz, h3, h4⟩ := h _ hm
  obtain ⟨q1, q2, q3, q4, q5, q6⟩ := blkOf_spec hb
  have hlen : c.size = cs.length := by have := congrArg List.length h4; simpa using this
  refine BR.of_cells (blkOf_mp hb) ⟨h1, c, e, fz, h3, ?_, ?_, ?_, ?_⟩
  · show 0 + b.sz ≤ c.size; omega
  · intro q; rw [q3] at q; cases q
  · intro q; dsimp only at h1; omega
  · intro o v hv
    rw [q5 o] at hv
    have hmem := List.mem_of_getElem? hv
    refine ⟨V.ok_plain 0 _ v (h2 v hmem).1 (h2 v hmem).2, q6 v hmem, ?_⟩
    show c[0 + o]? = _
    rw [Nat.zero_add, ← Array.getElem?_toList, h4, List.getElem?_map, hv]; rfl

/-- A CALL, from a world in which the variables hold these cells: it answers so, and leaves what was there as it was. -/
theorem answers_sound {B : World} {gs : List (Nat × List V)} (hG : GOn B gs) (hov : OvOK P B ov) (hmix : P.follows .mixedOrders = true) (hname : ∀ (f : Nat) (fn : Func), P.funcs[f]? = some fn → (fn.name == "runtime.NumGoroutine") = false) {n f : Nat} {args : List V} (hok : V.oks 0 args) {v : V} {st' : St}
    (h : evF P ov GL n f args (st0 gs) = some (v, st')) (w : World) (hw : Old B w) :
    Calls P f (V.reals J0 args).toArray w fun e w' => ∃ J', e = .returned (v.real J') ∧ Below w.heap.size w w' := by
  have := (evF_sound (P := P) (ro := GL) (B := w) (hov.old hw) hmix hname n f args (st0 gs) _ st' h J0 w rfl (HR.start (hG.old hw)) (Nat.le_refl _) (V.oks_le (Nat.zero_le _) args hok)).2
  refine this.mono ?_
  rintro e w' ⟨J', h1, _, h3⟩
  exact ⟨J', h1, h3.below⟩
end
end Go.Vm
namespace Go.Vm
open Go.RowKit Go.ChangeShapes Go.WideShapes Go.ChangeAt
open Go.ChangeMaps (open_string shut_string)

/-- A law that answers true, and leaves all old memory alone. -/
theorem law_post {H : Type} {enc : TypeId × Value → H} {P : Program} {f : Func} {s : ChangeSpec} {W W' : World} {args : Array Value} {ds : List (DataW H)} {pa : List MemPlace} {tb : TypeId}
    (hv : s.vars = []) (hW : DataW.Whole enc P f.params.toList s.vars false W args.toList ds [] pa) (hfn : s.fn H (ds ++ []) = { results := [.lit (.bool true)], args := ds })
    (hrt : f.resultTypes = #[tb]) (ht : P.underlying tb = some .bool) (hargs : DataW.TrodAll enc P W' 0 (fun b => decide (b < W.heap.size)) true f.params.toList args.toList ds pa) (hb : Below W.heap.size W W') :
    s.post enc P f false true false false W args (.bool true) W' := by
  refine ⟨ds, [], pa, [], pa, [], hW, ?_, ?_, ?_, ?_, fun q => by cases q⟩
  · rw [hfn, hrt]
    exact trodAll_cons_mk (shut_bool ht true) trodAll_mk0
  · rw [hfn]; exact hargs
  · rw [hfn, hv]; rfl
  · exact hb.frame _

/-- A string that came in. -/
theorem str_in (J : Inj) (s : ByteArray) : (V.str s.data.toList).real J = .string s := by rw [V.str_real]

/-- What the evaluator tells of a call with such arguments. -/
theorem law_calls {P : Program} {ov : Ov} {B : World} {gs : List (Nat × List V)} (hG : GOn B gs) (hov : OvOK P B ov) (hmix : P.follows .mixedOrders = true) (hname : ∀ (f : Nat) (fn : Func), P.funcs[f]? = some fn → (fn.name == "runtime.NumGoroutine") = false) {f : FuncId} {args : List V} (hok : V.oks 0 args)
    (h : ∃ n st', evF P ov GL n f args (st0 gs) = some (.b true, st')) (rargs : Array Value) (hr : ∀ J, (V.reals J args).toArray = rargs) :
    Calls P f rargs B fun e w' => e = .returned (.bool true) ∧ Below B.heap.size B w' := by
  obtain ⟨n, st', h⟩ := h
  have := answers_sound hG hov hmix hname hok h B (Old.refl B)
  rw [hr] at this
  refine this.mono ?_
  rintro e w' ⟨J', h1, h3⟩
  exact ⟨by rw [h1]; simp [V.real], h3⟩
/-- A function that answers true, known beforehand. -/
theorem ov_true {P : Program} {ov : Ov} {B : World} {gs : List (Nat × List V)} (hG : GOn B gs) (hov : OvOK P B ov) (hmix : P.follows .mixedOrders = true) (hname : ∀ (f : Nat) (fn : Func), P.funcs[f]? = some fn → (fn.name == "runtime.NumGoroutine") = false) {n f : Nat} (h : answersTrue P ov gs n f [] = true)
    (J : Inj) (w : World) (hw : Old B w) : Calls P f (V.reals J []).toArray w fun e w' => e = .returned ((V.b true).real J) ∧ Below w.heap.size w w' := by
  unfold answersTrue at h
  cases hr : evF P ov GL n f [] (st0 gs) with
  | none => simp [hr] at h
  | some r =>
    obtain ⟨v, st'⟩ := r
    cases v <;> simp only [hr, Bool.false_eq_true] at h
    subst h
    refine (answers_sound hG hov hmix hname (by simp [V.oks]) hr w hw).mono ?_
    rintro e w' ⟨J', h1, h3⟩
    exact ⟨by rw [h1]; simp [V.real], h3⟩
end Go.Vm
set_option linter.unusedVariables false
namespace Go.Vm
open Go.RowKit

/-- The name of a block of the world. -/
def idOf (r : Nat) : Nat := if r < GL then r else GL + r
theorem idOf_inj {r s : Nat} (h : idOf r = idOf s) : r = s := by
  unfold idOf at h
  have : GL = 64 := rfl
  split at h <;> split at h <;> omega

def JW (n : Nat) : Inj := ⟨GL + n, fun g => if g < GL then (g, 0, 0) else (g - GL, 0, 0), fun g h => ⟨by omega, by simp [h]⟩⟩
theorem JW_id (n r : Nat) : (JW n).m (idOf r) = (r, 0, 0) := by
  show (if idOf r < GL then _ else _) = _
  unfold idOf
  by_cases h : r < GL
  · rw [if_pos h, if_pos h]
  · rw [if_neg h, if_neg (by omega)]
    simp
theorem idOf_lt {n r : Nat} (h : r < n) : idOf r < (JW n).nx := by
  show idOf r < GL + n
  unfold idOf
  split <;> omega

/-- A cell of the world. -/
def toV (n : Nat) : Value → Option V
  | .bool x => some (.b x)
  | .int k x => some (.i k x)
  | .string x => some (.str x.data.toList)
  | .pointer none => some .pn
  | .slice none 0 0 => some .sn
  | .slice (some a) 0 0 => some (.ze a)
  | .slice (some ⟨r, o, none⟩) l c => if r < n ∧ l ≤ c then some (.sl (idOf r) o l c false) else none
  | .nilFunc => some .fz
  | .nilIface => some .nz
  | _ => none
theorem toV_spec {n : Nat} {x : Value} {v : V} (h : toV n x = some v) : v.real (JW n) = x ∧ v.ok (JW n).nx ∧ v.atom = true := by
  unfold toV at h
  split at h
  · cases h; exact ⟨rfl, trivial, rfl⟩
  · cases h; exact ⟨rfl, trivial, rfl⟩
  · cases h; exact ⟨by rw [V.str_real], V.str_ok _ _, rfl⟩
  · cases h; exact ⟨rfl, trivial, rfl⟩
  · cases h; exact ⟨rfl, trivial, rfl⟩
  · cases h; exact ⟨rfl, trivial, rfl⟩
  · rename_i r o l c _
    split at h
    · rename_i hc
      cases h
      refine ⟨?_, ⟨idOf_lt hc.1, hc.2⟩, rfl⟩
      simp only [V.real, JW_id, cond_false, Nat.zero_add, Nat.add_zero]
    · cases h
  · cases h; exact ⟨rfl, trivial, rfl⟩
  · cases h; exact ⟨rfl, trivial, rfl⟩
  · cases h

/-- A tree of what stands in a list, from a number on. -/
def treeOf {α : Type} (nm : Nat → Nat) : List (Option α) → Nat → T α
  | [], _ => .e
  | x :: r, i => match x with
    | some v => (treeOf nm r (i + 1)).upd (nm i) (some v)
    | none => treeOf nm r (i + 1)
theorem treeOf_get {α : Type} {nm : Nat → Nat} (hn : ∀ {a b}, nm a = nm b → a = b) : ∀ (l : List (Option α)) (i g : Nat) (v : α), (treeOf nm l i).get g = some v ↔ ∃ k, g = nm (i + k) ∧ l[k]? = some (some v)
  | [], i, g, v => by simp [treeOf, T.get_e]
  | x :: r, i, g, v => by
    have ih := treeOf_get hn r (i + 1) g v
    have shift : (∃ k, g = nm (i + k) ∧ (x :: r)[k]? = some (some v)) ↔ (g = nm i ∧ x = some v) ∨ ∃ k, g = nm (i + 1 + k) ∧ r[k]? = some (some v) := by
      constructor
      · rintro ⟨k, h1, h2⟩
        cases k with
        | zero => exact .inl ⟨h1, by simpa using h2⟩
        | succ k => exact .inr ⟨k, by rw [h1]; congr 1; omega, by simpa using h2⟩
      · rintro (⟨h1, h2⟩ | ⟨k, h1, h2⟩)
        · exact ⟨0, h1, by simpa using h2⟩
        · exact ⟨k + 1, by rw [h1]; congr 1; omega, by simpa using h2⟩
    rw [shift]
    cases x with
    | none =>
      simp only [treeOf]
      rw [ih]
      simp
    | some u =>
      simp only [treeOf]
      rw [T.get_upd]
      by_cases hg : g = nm i
      · rw [if_pos hg]
        constructor
        · intro h; exact .inl ⟨hg, h⟩
        · rintro (⟨_, h⟩ | ⟨k, h1, h2⟩)
          · exact h
          · exfalso
            have := hn (hg.symm.trans h1)
            omega
      · rw [if_neg hg, ih]
        constructor
        · exact .inr
        · rintro (⟨h, _⟩ | h)
          · exact absurd h hg
          · exact h

def blkW (n : Nat) (c : Array Value) : Blk := ⟨treeOf (fun i => i) (c.toList.map (toV n)) 0, [], c.size, 1, false, none⟩
theorem blkW_get {n : Nat} {c : Array Value} {o : Nat} {v : V} : (blkW n c).get o = some v ↔ ∃ x, c[o]? = some x ∧ toV n x = some v := by
  have key : (blkW n c).cs.get o = some v ↔ ∃ x, c[o]? = some x ∧ toV n x = some v := by
    show (treeOf _ _ 0).get o = some v ↔ _
    rw [treeOf_get (fun h => h)]
    constructor
    · rintro ⟨k, h1, h2⟩
      rw [Nat.zero_add] at h1
      subst h1
      rw [List.getElem?_map, Array.getElem?_toList] at h2
      cases hx : c[o]? with
      | none => rw [hx] at h2; cases h2
      | some x => rw [hx] at h2; exact ⟨x, rfl, by simpa using h2⟩
    · rintro ⟨x, h1, h2⟩
      exact ⟨o, by rw [Nat.zero_add], by rw [List.getElem?_map, Array.getElem?_toList, h1, Option.map_some, h2]⟩
  unfold Blk.get
  cases hb : Nat.blt o (blkW n c).sz with
  | false =>
    simp only [cond_false]
    constructor
    · intro h; cases h
    · rintro ⟨x, h1, _⟩
      have := (Array.getElem?_eq_some_iff.1 h1).1
      have hlt : o < (blkW n c).sz := this
      rw [← Nat.blt_eq, hb] at hlt
      cases hlt
  | true =>
    simp only [cond_true]
    rw [← key]
    cases (blkW n c).cs.get o with
    | some u => rfl
    | none =>
      have : (blkW n c).zero = [] := rfl
      simp [this]

def objW (n : Nat) : Option Obj → Option Blk
  | some (.cells c _ _) => some (blkW n c)
  | _ => none
/-- The memory that holds the whole world. -/
def hpW (W : World) : T Blk := treeOf idOf ((List.range W.heap.size).map fun r => objW W.heap.size W.heap[r]?) 0
def stW (W : World) : St := ⟨GL + W.heap.size, hpW W, GL + W.heap.size⟩
theorem hpW_get {W : World} {g : Nat} {b : Blk} : (hpW W).get g = some b ↔ ∃ r c e fz, g = idOf r ∧ W.heap[r]? = some (.cells c e fz) ∧ b = blkW W.heap.size c := by
  unfold hpW
  rw [treeOf_get idOf_inj]
  constructor
  · rintro ⟨k, h1, h2⟩
    rw [Nat.zero_add] at h1
    rw [List.getElem?_map] at h2
    cases hk : (List.range W.heap.size)[k]? with
    | none => rw [hk] at h2; cases h2
    | some r =>
      obtain rfl : k = r := by
        have := List.getElem?_eq_some_iff.1 hk
        obtain ⟨h3, h4⟩ := this
        simpa using h4
      rw [hk, Option.map_some, Option.some.injEq] at h2
      unfold objW at h2
      split at h2
      · rename_i c e fz ho
        exact ⟨k, c, e, fz, h1, ho, (Option.some.inj h2).symm⟩
      · cases h2
  · rintro ⟨r, c, e, fz, h1, h2, h3⟩
    have hlt := (Array.getElem?_eq_some_iff.1 h2).1
    refine ⟨r, by rw [Nat.zero_add]; exact h1, ?_⟩
    rw [List.getElem?_map, List.getElem?_range hlt, Option.map_some, h2, h3]
    rfl

/-- The world stands for itself, and no block of it is one that may be written. -/
theorem HR.world (W : World) : HR (JW W.heap.size) (GL + W.heap.size) W (hpW W).get W := by
  refine ⟨Old.refl W, fun g b hg => ?_, fun g g' b b' hg hg' he => ?_⟩
  · obtain ⟨r, c, e, fz, rfl, h2, rfl⟩ := hpW_get.1 hg
    have hlt := (Array.getElem?_eq_some_iff.1 h2).1
    have hid : idOf r < GL + W.heap.size := idOf_lt hlt
    refine BR.of_cells rfl ?_
    unfold CR
    rw [JW_id]
    refine ⟨hid, c, e, fz, h2, by simp [blkW], fun q => (by cases q), fun q => absurd hid (Nat.not_lt.2 q), fun o v hv => ?_⟩
    obtain ⟨x, h4, h5⟩ := blkW_get.1 hv
    obtain ⟨h6, h7, h8⟩ := toV_spec h5
    exact ⟨h7, h8, by rw [h6]; simpa using h4⟩
  · obtain ⟨r, c, e, fz, rfl, h2, rfl⟩ := hpW_get.1 hg
    obtain ⟨r', c', e', fz', rfl, h2', rfl⟩ := hpW_get.1 hg'
    rw [JW_id, JW_id] at he
    have : r = r' := he
    rw [this]

/-- What the evaluator tells of a call, from a world as it is. -/
theorem law_callsW {P : Program} {ov : Ov} {W : World} (hov : OvR P (GL + W.heap.size) W ov) (hmix : P.follows .mixedOrders = true) (hname : ∀ (f : Nat) (fn : Func), P.funcs[f]? = some fn → (fn.name == "runtime.NumGoroutine") = false) {f : FuncId} {args : List V} (hok : V.oks (JW W.heap.size).nx args)
    (h : ∃ n st', evF P ov (GL + W.heap.size) n f args (stW W) = some (.b true, st')) (rargs : Array Value) (hr : (V.reals (JW W.heap.size) args).toArray = rargs) :
    Calls P f rargs W fun e w' => e = .returned (.bool true) ∧ Below W.heap.size W w' := by
  obtain ⟨n, st', h⟩ := h
  have := (evF_sound (P := P) (ro := GL + W.heap.size) (B := W) hov hmix hname n f args (stW W) _ st' h (JW W.heap.size) W rfl (HR.world W) (Nat.le_refl _) hok).2
  rw [hr] at this
  refine this.mono ?_
  rintro e w' ⟨J', h1, _, h3⟩
  exact ⟨by rw [h1]; simp [V.real], h3.below⟩
end Go.Vm
set_option linter.unusedVariables false
namespace Go.Vm
open Go.RowKit Go.ChangeShapes Go.WideShapes Go.ChangeAt

section
variable {H : Type} {enc : TypeId × Value → H} {P : Program}

theorem trodAll_carry {w w' : World} {base : Nat} {spare : Nat → Bool} {held : Bool} : ∀ {ts : List TypeId} {vs : List Value} {ds : List (DataW H)} {ps : List MemPlace}, DataW.TrodAll enc P w base spare held ts vs ds ps → (∀ p ∈ ps, w.sameAt w' p) → DataW.TrodAll enc P w' base spare held ts vs ds ps
  | [], [], [], _, h, _ => h
  | _ :: _, _ :: _, _ :: _, _, ⟨p, q, ⟨n, h1⟩, h2, e⟩, hs => ⟨p, q, ⟨n, DataW.trod_carry n _ _ _ h1 (fun x hx => hs x (by rw [e]; exact List.mem_append_left _ hx))⟩, trodAll_carry h2 (fun x hx => hs x (by rw [e]; exact List.mem_append_right _ hx)), e⟩

/-- A law that answers true, and leaves all old memory alone: whatever the types of its arguments are. -/
theorem law_postW (K : Kids P (· < P.types.size)) (hz : ∀ t e, t < P.types.size → P.underlying t = some (.slice e) → 0 < P.cellsOf e) {f : Func} {s : ChangeSpec} {W W' : World} {args : Array Value} {ds : List (DataW H)} {pa : List MemPlace} {tb : TypeId}
    (hT : ∀ t ∈ f.params.toList, t < P.types.size) (hv : s.vars = []) (hW : DataW.Whole enc P f.params.toList s.vars false W args.toList ds [] pa) (hfn : s.fn H (ds ++ []) = { results := [.lit (.bool true)], args := ds })
    (hrt : f.resultTypes = #[tb]) (ht : P.underlying tb = some .bool) (hb : Below W.heap.size W W') : s.post enc P f false true false false W args (.bool true) W' := by
  refine law_post hv hW hfn hrt ht ?_ hb
  have hlt := hW.lt
  obtain ⟨p, q, hA, hV, rfl, _, _⟩ := hW
  rw [hv] at hV
  have hq : q = [] := hV
  subst hq
  rw [List.append_nil] at *
  refine trodAll_carry (DataW.TrodAll.respare K hz hT hA fun p hp => by simpa using hlt p hp) fun x hx => ?_
  have hx' := hlt x hx
  cases x with
  | cell b off =>
    have hbl : b < W.heap.size := hx'
    show W'.cell? _ = W.cell? _
    unfold World.cell?
    rw [hb.block b hbl]
  | map b => exact hb.block b hx'
end
end Go.Vm
namespace Go.Vm

section
variable {P : Program} {ov : Ov} {ro : Nat}
theorem T.get_same {α : Type} {t : T α} {i : Nat} {x : Option α} : (t.upd i x).get i = x := by rw [T.get_upd, if_pos rfl]
theorem packL_append (a b : List UInt8) : packL (a ++ b) = packL a + 256 ^ a.length * packL b := by
  induction a with
  | nil => simp [packL]
  | cons c r ih =>
    simp only [List.cons_append, packL, ih, List.length_cons, Nat.pow_succ]
    rw [Nat.mul_add, Nat.mul_comm (256 ^ r.length) 256, Nat.mul_assoc]; omega
theorem str_app (a b : List UInt8) : sApp a.length (packL a) b.length (packL b) = V.str (a ++ b) := by simp [sApp, V.str, packL_append]
theorem str_of (n x : Nat) (h : x < 256 ^ n) : V.s n x = V.str (unpackL n x) := by simp [V.str, length_unpackL, packL_unpackL n x h]
theorem str_cut (s : List UInt8) (lo hi : Nat) (h1 : lo ≤ hi) (h2 : hi ≤ s.length) : sCut (packL s) lo hi = V.str ((s.drop lo).take (hi - lo)) := by
  have h := unpackL_cut s.length (packL s) lo hi h1 h2
  rw [unpackL_packL] at h
  unfold sCut
  rw [str_of _ _ (Nat.mod_lt _ (Nat.pow_pos (by decide))), h]
theorem byteAt_packL (s : List UInt8) (i : Nat) (h : i < s.length) : byteAt (packL s) i = (s.getD i 0).toNat := by
  have h1 := unpackL_get s.length (packL s) i h
  rw [unpackL_packL] at h1
  have h2 : s.getD i 0 = UInt8.ofNat (byteAt (packL s) i) := by rw [List.getD_eq_getElem?_getD, h1]; rfl
  rw [h2]
  have := byteAt_lt (packL s) i
  simp; omega
theorem str_beq (a b : List UInt8) : (Nat.beq a.length b.length && Nat.beq (packL a) (packL b)) = (a == b) := by
  have h := unpackL_beq a.length b.length (packL a) (packL b) (packL_lt a) (packL_lt b)
  rw [unpackL_packL, unpackL_packL] at h
  exact h.symm
theorem wrap64 {a : Int} (h1 : -9223372036854775808 ≤ a) (h2 : a ≤ 9223372036854775807) : IntKind.i64.wrap a = a := by rw [IntKind.wrap_i64]; omega
def cB (l : List UInt8) : List V := l.map fun c => V.i .u8 (c.toNat : Int)
theorem cB_len (l : List UInt8) : (cB l).length = l.length := by simp [cB]
theorem cB_get (l : List UInt8) (i : Nat) : (cB l)[i]? = (l[i]?).map fun c => V.i .u8 (c.toNat : Int) := by simp [cB]
theorem cB_atom (l : List UInt8) : ∀ v ∈ cB l, v.atom = true := by
  intro v hv
  obtain ⟨c, _, rfl⟩ := List.mem_map.1 hv
  rfl
theorem cellsOf_str (l : List UInt8) : cellsOfBytes l.length (packL l) = cB l := by rw [cellsOfBytes_eq, unpackL_packL]; rfl
theorem bytesOf_cB : ∀ l : List UInt8, bytesOfCells (cB l) = some l
  | [] => rfl
  | c :: r => by
    have := bytesOf_cB r
    simp only [cB, List.map_cons] at this ⊢
    simp [bytesOfCells, this]
theorem Blk.put_ok : ∀ (vs : List V) (b : Blk) (o : Nat), o + vs.length ≤ b.sz → (∀ v ∈ vs, v.atom = true) → ∃ b', b.put vs o = some b'
  | [], b, o, _, _ => ⟨b, rfl⟩
  | v :: r, b, o, h, ha => by
    simp only [Blk.put, V.force_eq]
    have h1 : Nat.blt o b.sz = true := by rw [Nat.blt_eq]; simp at h; omega
    rw [h1, ha v (List.mem_cons_self ..)]
    exact Blk.put_ok r (b.set o v) (o + 1) (by have : (b.set o v).sz = b.sz := rfl; rw [this]; simp at h; omega) (fun x hx => ha x (List.mem_cons_of_mem _ hx))
theorem blkOf_ok (cs : List V) (es : Nat) (op : Bool) (ha : ∀ v ∈ cs, v.atom = true) : ∃ b, blkOf cs es op = some b := Blk.put_ok cs _ 0 (by simp) ha
theorem Blk.row_ok {b : Blk} : ∀ (cs : List V) (o : Nat), (∀ j : Nat, j < cs.length → b.get (o + j) = cs[j]?) → b.row cs.length o = some cs
  | [], _, _ => rfl
  | v :: r, o, h => by
    have h0 := h 0 (by simp)
    simp only [Nat.add_zero, List.getElem?_cons_zero] at h0
    have hr := Blk.row_ok (b := b) r (o + 1) (fun j hj => by
      have := h (j + 1) (by simp; omega)
      rw [show o + 1 + j = o + (j + 1) from by omega, this]; simp)
    simp only [List.length_cons, Blk.row, h0, hr]
theorem low_ge {a b k : Nat} (h : k ≤ a) (h' : k ≤ b) : k ≤ low a b := by unfold low; cases Nat.ble a b <;> simp [h, h']
theorem sizeB_info {t : TypeId} {k : Nat} (h : sizeB P t = some k) : ∃ ti, P.info? t = some ti ∧ ti.size = k := by
  unfold sizeB at h
  cases e : P.info? t with
  | none => rw [e] at h; cases h
  | some ti => rw [e] at h; exact ⟨ti, rfl, Option.some.inj h⟩
theorem first_str (st : St) (l : List UInt8) : vfirst st 1 l.length (V.str l) = some (cB l) := by
  simp only [vfirst, V.str]
  rw [show Nat.beq 1 1 = true from rfl]
  simp only [cond_true, cellsOf_str]
end
end Go.Vm
namespace Go.Sx
open Go.Vm

/-- The kinds of data that a program's slices hold. -/
structure Sg where
  Cd : Type
  Den : Cd → Type

inductive U (S : Sg) : Type where
  | b (x : Bool)
  | kb (x : Bool)
  | i (k : IntKind) (n : Int)
  | s (l : List UInt8)
  | pn
  | sn
  | fz
  | nz
  | dead
  | p (r off : Nat)
  | g (g off : Nat)
  | o (r : Nat)
  | l (c : S.Cd) (xs : List (S.Den c))
  | pe (r w i off : Nat)
  | v (r w i : Nat)
  | vh (r j : Nat)
  | vc (c : S.Cd) (r n : Nat)
  | e0 (c : S.Cd)
  | pd (c : S.Cd) (xs : List (S.Den c)) (i off : Nat)
  | f (fn : FuncId) (caps : List (U S))
  | a (cs : List (U S))
  | t (vs : List (U S))

def mem (ks : List Nat) (r : Nat) : Bool := match ks with
  | [] => false
  | k :: ks => cond (Nat.beq k r) true (mem ks r)

section
variable {S : Sg}

mutual
/-- Values that name one of these are dead. -/
def kill (ks : List Nat) : U S → U S
  | .p r off => cond (mem ks r) .dead (.p r off)
  | .o r => cond (mem ks r) .dead (.o r)
  | .pe r w i off => cond (mem ks r) .dead (.pe r w i off)
  | .v r w i => cond (mem ks r) .dead (.v r w i)
  | .vh r j => cond (mem ks r) .dead (.vh r j)
  | .vc c r n => cond (mem ks r) .dead (.vc c r n)
  | .f fn caps => .f fn (kills ks caps)
  | .a cs => .a (kills ks cs)
  | .t vs => .t (kills ks vs)
  | .b x => .b x
  | .kb x => .kb x
  | .i k n => .i k n
  | .s l => .s l
  | .pn => .pn
  | .sn => .sn
  | .fz => .fz
  | .nz => .nz
  | .dead => .dead
  | .g g off => .g g off
  | .l c xs => .l c xs
  | .pd c xs i off => .pd c xs i off
  | .e0 c => .e0 c
def kills (ks : List Nat) : List (U S) → List (U S)
  | [] => []
  | u :: us => kill ks u :: kills ks us
end

/-- Data alone: no name, no pointer. -/
def U.flat : U S → Bool
  | .b _ | .i _ _ | .s _ | .sn | .l _ _ => true
  | _ => false

/-- What is to be known of the kinds of data. -/
structure Sy (S : Sg) where
  wid : S.Cd → Nat
  wpos : ∀ c, 0 < wid c
  cells : (c : S.Cd) → S.Den c → List (U S)
  dflt : (c : S.Cd) → S.Den c
  dec : (c : S.Cd) → List (U S) → (S.Den c → Prop) → Prop
  byt : (c : S.Cd) → List (S.Den c) → (List UInt8 → Prop) → Prop
  ofB : (c : S.Cd) → List UInt8 → (List (S.Den c) → Prop) → Prop
  code : TypeId → Option S.Cd
  /-- Kinds whose buffers are nil, or have grown. -/
  opn : S.Cd → Bool
  /-- The bytes of a text are a buffer that is written, and never appended to. -/
  cvb : Bool := false
  /-- Sums that do not fit go round. -/
  wrp : Bool := false
  /-- Which cells are slices, and of what. -/
  lk : S.Cd → List (Option S.Cd) := fun _ => []
  cast : (c c' : S.Cd) → List (S.Den c) → (List (S.Den c') → Prop) → Prop
  len : ∀ c x, (cells c x).length = wid c
  flat : ∀ c x u, u ∈ cells c x → u.flat = true
  dec_ok : ∀ c us k, dec c us k → ∃ x, us = cells c x ∧ k x
  byt_ok : ∀ c xs k, byt c xs k → ∃ bs : List UInt8, wid c = 1 ∧ xs.map (cells c) = bs.map (fun y => [.i .u8 (y.toNat : Int)]) ∧ k bs
  cast_ok : ∀ c c' xs k, cast c c' xs k → ∃ h : c = c', k (h ▸ xs)
  ofB_ok : ∀ c bs k, ofB c bs k → ∃ xs, wid c = 1 ∧ xs.map (cells c) = bs.map (fun y => [.i .u8 (y.toNat : Int)]) ∧ k xs

abbrev DD (S : Sg) := (c : S.Cd) → List (S.Den c) → V → Prop
abbrev En := List (Option Nat × V)

/-- An empty slice without room. -/
def noRoom : V → Bool
  | .sn => true
  | .sy _ _ _ => true
  | .ze _ => true
  | _ => false

/-- The rest of a slice, from an element on. -/
def View (w i : Nat) (y v : V) : Prop := (noRoom y = true ∧ v = y) ∨ ∃ id len cap op, y = .sl id 0 len cap op ∧ i ≤ len ∧
  ((∃ o cap' op', (i < len → o = i * w) ∧ v = .sl id o (len - i) cap' op') ∨ (i = len ∧ ∃ o o2, v = .se id o o2))

/-- The first elements of a slice. -/
def ViewH (j : Nat) (y v : V) : Prop := (noRoom y = true ∧ j = 0 ∧ v = y) ∨ ∃ id len cap op, y = .sl id 0 len cap op ∧ j ≤ len ∧ v = .sl id 0 j cap op

mutual
/-- A value stands for another. -/
def RelV (Y : Sy S) (D : DD S) (E : En) : U S → V → Prop
  | .b x, v => v = .b x
  | .kb x, v => v = .b x
  | .i k n, v => v = .i k n
  | .s l, v => v = V.str l
  | .pn, v => v = .pn
  | .sn, v => v = .sn
  | .fz, v => v = .fz
  | .nz, v => v = .nz
  | .dead, _ => True
  | .p r off, v => ∃ id h, E[r]? = some (some id, h) ∧ v = .p id off
  | .g g off, v => g < GL ∧ v = .p g off
  | .o r, v => ∃ x, E[r]? = some (x, v) ∧ v.atom = true
  | .l c xs, v => D c xs v
  | .pe r w i off, v => ∃ id h, E[r]? = some (some id, h) ∧ v = .p id (i * w + off)
  | .v r w i, v => ∃ x y, E[r]? = some (x, y) ∧ View w i y v
  | .vh r j, v => ∃ x y, E[r]? = some (x, y) ∧ ViewH j y v
  | .vc _ r n, v => ∃ id h, E[r]? = some (some id, h) ∧ v = .sl id 0 n n false
  | .e0 _, v => noRoom v = true
  | .pd c xs i off, v => i < xs.length ∧ ∃ id o cap op, D c xs (.sl id o xs.length cap op) ∧ v = .p id (o + i * Y.wid c + off)
  | .f fn caps, v => ∃ vs, v = .f (.func fn) [] vs ∧ RelL Y D E caps vs
  | .a cs, v => ∃ vs, v = .a vs ∧ RelL Y D E cs vs
  | .t us, v => ∃ vs, v = .t vs ∧ RelL Y D E us vs
def RelL (Y : Sy S) (D : DD S) (E : En) : List (U S) → List V → Prop
  | [], vs => vs = []
  | u :: us, vs => ∃ v r, vs = v :: r ∧ RelV Y D E u v ∧ RelL Y D E us r
end

mutual
theorem RelV.kill {Y : Sy S} {D D' : DD S} {E E' : En} {ks : List Nat} (hE : ∀ (r : Nat) x, mem ks r = false → E[r]? = some x → E'[r]? = some x) (hD : ∀ c xs v, D c xs v → D' c xs v) :
    (u : U S) → (v : V) → RelV Y D E u v → RelV Y D' E' (Sx.kill ks u) v
  | .b x, v, h => h
  | .kb x, v, h => h
  | .i k n, v, h => h
  | .s l, v, h => h
  | .pn, v, h => h
  | .sn, v, h => h
  | .fz, v, h => h
  | .nz, v, h => h
  | .dead, v, h => trivial
  | .e0 c, v, h => h
  | .g g off, v, h => h
  | .l c xs, v, h => hD c xs v h
  | .pd c xs i off, v, h => by
    obtain ⟨h0, id, o, cap, op, h1, h2⟩ := h
    exact ⟨h0, id, o, cap, op, hD _ _ _ h1, h2⟩
  | .p r off, v, h => by
    obtain ⟨id, x, h1, h2⟩ := h
    simp only [Sx.kill]
    cases hm : mem ks r with
    | true => exact trivial
    | false => exact ⟨id, x, hE r _ hm h1, h2⟩
  | .o r, v, h => by
    obtain ⟨x, h1, h2⟩ := h
    simp only [Sx.kill]
    cases hm : mem ks r with
    | true => exact trivial
    | false => exact ⟨x, hE r _ hm h1, h2⟩
  | .pe r w i off, v, h => by
    obtain ⟨id, x, h1, h2⟩ := h
    simp only [Sx.kill]
    cases hm : mem ks r with
    | true => exact trivial
    | false => exact ⟨id, x, hE r _ hm h1, h2⟩
  | .v r w i, v, h => by
    obtain ⟨id, x, h1, h2⟩ := h
    simp only [Sx.kill]
    cases hm : mem ks r with
    | true => exact trivial
    | false => exact ⟨id, x, hE r _ hm h1, h2⟩
  | .vh r j, v, h => by
    obtain ⟨id, x, h1, h2⟩ := h
    simp only [Sx.kill]
    cases hm : mem ks r with
    | true => exact trivial
    | false => exact ⟨id, x, hE r _ hm h1, h2⟩
  | .vc c r n, v, h => by
    obtain ⟨id, x, h1, h2⟩ := h
    simp only [Sx.kill]
    cases hm : mem ks r with
    | true => exact trivial
    | false => exact ⟨id, x, hE r _ hm h1, h2⟩
  | .f fn caps, v, h => by
    obtain ⟨vs, h1, h2⟩ := h
    exact ⟨vs, h1, RelL.kill hE hD caps vs h2⟩
  | .a cs, v, h => by
    obtain ⟨vs, h1, h2⟩ := h
    exact ⟨vs, h1, RelL.kill hE hD cs vs h2⟩
  | .t us, v, h => by
    obtain ⟨vs, h1, h2⟩ := h
    exact ⟨vs, h1, RelL.kill hE hD us vs h2⟩
theorem RelL.kill {Y : Sy S} {D D' : DD S} {E E' : En} {ks : List Nat} (hE : ∀ (r : Nat) x, mem ks r = false → E[r]? = some x → E'[r]? = some x) (hD : ∀ c xs v, D c xs v → D' c xs v) :
    (us : List (U S)) → (vs : List V) → RelL Y D E us vs → RelL Y D' E' (Sx.kills ks us) vs
  | [], _, h => h
  | u :: us, vs, h => by
    obtain ⟨v, r, h1, h2, h3⟩ := h
    exact ⟨v, r, h1, RelV.kill hE hD u v h2, RelL.kill hE hD us r h3⟩
end

mutual
theorem RelV.mono {Y : Sy S} {D D' : DD S} {E E' : En} (hE : ∀ (r : Nat) x, E[r]? = some x → E'[r]? = some x) (hD : ∀ c xs v, D c xs v → D' c xs v) :
    (u : U S) → (v : V) → RelV Y D E u v → RelV Y D' E' u v
  | .b x, v, h => h
  | .kb x, v, h => h
  | .i k n, v, h => h
  | .s l, v, h => h
  | .pn, v, h => h
  | .sn, v, h => h
  | .fz, v, h => h
  | .nz, v, h => h
  | .dead, v, h => trivial
  | .e0 c, v, h => h
  | .g g off, v, h => h
  | .l c xs, v, h => hD c xs v h
  | .pd c xs i off, v, h => by
    obtain ⟨h0, id, o, cap, op, h1, h2⟩ := h
    exact ⟨h0, id, o, cap, op, hD _ _ _ h1, h2⟩
  | .p r off, v, h => by
    obtain ⟨id, x, h1, h2⟩ := h
    exact ⟨id, x, hE r _ h1, h2⟩
  | .o r, v, h => by
    obtain ⟨x, h1, h2⟩ := h
    exact ⟨x, hE r _ h1, h2⟩
  | .pe r w i off, v, h => by
    obtain ⟨id, x, h1, h2⟩ := h
    exact ⟨id, x, hE r _ h1, h2⟩
  | .v r w i, v, h => by
    obtain ⟨id, x, h1, h2⟩ := h
    exact ⟨id, x, hE r _ h1, h2⟩
  | .vh r j, v, h => by
    obtain ⟨id, x, h1, h2⟩ := h
    exact ⟨id, x, hE r _ h1, h2⟩
  | .vc c r n, v, h => by
    obtain ⟨id, x, h1, h2⟩ := h
    exact ⟨id, x, hE r _ h1, h2⟩
  | .f fn caps, v, h => by
    obtain ⟨vs, h1, h2⟩ := h
    exact ⟨vs, h1, RelL.mono hE hD caps vs h2⟩
  | .a cs, v, h => by
    obtain ⟨vs, h1, h2⟩ := h
    exact ⟨vs, h1, RelL.mono hE hD cs vs h2⟩
  | .t us, v, h => by
    obtain ⟨vs, h1, h2⟩ := h
    exact ⟨vs, h1, RelL.mono hE hD us vs h2⟩
theorem RelL.mono {Y : Sy S} {D D' : DD S} {E E' : En} (hE : ∀ (r : Nat) x, E[r]? = some x → E'[r]? = some x) (hD : ∀ c xs v, D c xs v → D' c xs v) :
    (us : List (U S)) → (vs : List V) → RelL Y D E us vs → RelL Y D' E' us vs
  | [], _, h => h
  | u :: us, vs, h => by
    obtain ⟨v, r, h1, h2, h3⟩ := h
    exact ⟨v, r, h1, RelV.mono hE hD u v h2, RelL.mono hE hD us r h3⟩
end

theorem RelL.length {Y : Sy S} {D : DD S} {E : En} : ∀ {us : List (U S)} {vs : List V}, RelL Y D E us vs → vs.length = us.length
  | [], vs, h => by simp only [RelL] at h; subst h; rfl
  | u :: us, vs, h => by
    simp only [RelL] at h
    obtain ⟨v, r, rfl, _, h3⟩ := h
    simp [RelL.length h3]
theorem RelL.get {Y : Sy S} {D : DD S} {E : En} : ∀ {us : List (U S)} {vs : List V}, RelL Y D E us vs → ∀ {j : Nat} {u : U S}, us[j]? = some u → ∃ v, vs[j]? = some v ∧ RelV Y D E u v
  | [], vs, h, j, u, hj => by simp at hj
  | u0 :: us, vs, h, j, u, hj => by
    simp only [RelL] at h
    obtain ⟨v, r, rfl, h2, h3⟩ := h
    cases j with
    | zero => simp only [List.getElem?_cons_zero, Option.some.injEq] at hj; subst hj; exact ⟨v, rfl, h2⟩
    | succ j => simp only [List.getElem?_cons_succ] at hj ⊢; exact RelL.get h3 hj
theorem RelL.of_get {Y : Sy S} {D : DD S} {E : En} : ∀ {us : List (U S)} {vs : List V}, vs.length = us.length → (∀ (j : Nat) u v, us[j]? = some u → vs[j]? = some v → RelV Y D E u v) → RelL Y D E us vs
  | [], vs, hl, h => by simp only [RelL]; exact List.length_eq_zero_iff.1 hl
  | u0 :: us, [], hl, h => by simp at hl
  | u0 :: us, v :: r, hl, h => by
    simp only [RelL]
    exact ⟨v, r, rfl, h 0 u0 v rfl rfl, RelL.of_get (by simpa using hl) (fun j u v hu hv => h (j + 1) u v (by simpa using hu) (by simpa using hv))⟩
theorem RelL.take {Y : Sy S} {D : DD S} {E : En} {us : List (U S)} {vs : List V} (h : RelL Y D E us vs) (n : Nat) : RelL Y D E (us.take n) (vs.take n) :=
  RelL.of_get (by simp [h.length]) fun j u v hu hv => by
    rw [List.getElem?_take] at hu hv
    split at hu
    · rename_i q
      rw [if_pos q] at hv
      obtain ⟨w, h1, h2⟩ := h.get hu
      rw [h1] at hv
      cases hv
      exact h2
    · cases hu
theorem RelL.drop {Y : Sy S} {D : DD S} {E : En} {us : List (U S)} {vs : List V} (h : RelL Y D E us vs) (n : Nat) : RelL Y D E (us.drop n) (vs.drop n) :=
  RelL.of_get (by simp [h.length]) fun j u v hu hv => by
    rw [List.getElem?_drop] at hu hv
    obtain ⟨w, h1, h2⟩ := h.get hu
    rw [h1] at hv
    cases hv
    exact h2
theorem RelL.append {Y : Sy S} {D : DD S} {E : En} : ∀ {us us' : List (U S)} {vs vs' : List V}, RelL Y D E us vs → RelL Y D E us' vs' → RelL Y D E (us ++ us') (vs ++ vs')
  | [], _, vs, _, h, h' => by simp only [RelL] at h; subst h; exact h'
  | u :: us, _, vs, _, h, h' => by
    simp only [RelL] at h
    obtain ⟨v, r, rfl, h2, h3⟩ := h
    exact ⟨v, _, rfl, h2, RelL.append h3 h'⟩

/-! ### Data in memory -/

mutual
inductive Dat (Y : Sy S) (own : Nat → Prop) (st : St) : (c : S.Cd) → List (S.Den c) → V → Prop where
  | nil (c : S.Cd) : Dat Y own st c [] .sn
  | ne (c : S.Cd) (id o o2 : Nat) : Dat Y own st c [] (.se id o o2)
  | ze (c : S.Cd) (a : Addr) : Dat Y own st c [] (.ze a)
  | ny (c : S.Cd) (id o o2 : Nat) : Dat Y own st c [] (.sy id o o2)
  | mk {c : S.Cd} {xs : List (S.Den c)} {id off cap : Nat} {op : Bool} {b : Blk} (vs : Nat → List V) : ¬ own id → id < st.nx → st.hp.get id = some b →
    (∀ (i : Nat) x, xs[i]? = some x → b.row (Y.wid c) (off + i * Y.wid c) = some (vs i)) →
    (∀ (i : Nat) x, xs[i]? = some x → ∀ (j : Nat) u v, (Y.cells c x)[j]? = some u → (vs i)[j]? = some v → DatA Y own st u v) → xs.length ≤ cap → Dat Y own st c xs (.sl id off xs.length cap op)
inductive DatA (Y : Sy S) (own : Nat → Prop) (st : St) : U S → V → Prop where
  | b (x : Bool) : DatA Y own st (.b x) (.b x)
  | i (k : IntKind) (n : Int) : DatA Y own st (.i k n) (.i k n)
  | s (l : List UInt8) : DatA Y own st (.s l) (V.str l)
  | sn : DatA Y own st .sn .sn
  | l {c : S.Cd} {xs : List (S.Den c)} {v : V} : Dat Y own st c xs v → DatA Y own st (.l c xs) v
end

mutual
theorem Dat.keep {Y : Sy S} {own own' : Nat → Prop} {st st' : St} (hn : st.nx ≤ st'.nx) (hk : ∀ id, id < st.nx → ¬ own id → st'.hp.get id = st.hp.get id) (ho : ∀ id, id < st.nx → own' id → own id) {c : S.Cd} {xs : List (S.Den c)} {v : V} :
    Dat Y own st c xs v → Dat Y own' st' c xs v
  | .nil c => .nil c
  | .ne c id o o2 => .ne c id o o2
  | .ze c a => .ze c a
  | .ny c id o o2 => .ny c id o o2
  | .mk vs h1 h2 h3 h4 h5 h6 => .mk vs (fun q => h1 (ho _ h2 q)) (Nat.lt_of_lt_of_le h2 hn) ((hk _ h2 h1).trans h3) h4 (fun i x hx j u v hu hv => DatA.keep hn hk ho (h5 i x hx j u v hu hv)) h6
theorem DatA.keep {Y : Sy S} {own own' : Nat → Prop} {st st' : St} (hn : st.nx ≤ st'.nx) (hk : ∀ id, id < st.nx → ¬ own id → st'.hp.get id = st.hp.get id) (ho : ∀ id, id < st.nx → own' id → own id) {u : U S} {v : V} :
    DatA Y own st u v → DatA Y own' st' u v
  | .b x => .b x
  | .i k n => .i k n
  | .s l => .s l
  | .sn => .sn
  | .l h => .l (Dat.keep hn hk ho h)
end

theorem noRoom_dat {Y : Sy S} {own : Nat → Prop} {st : St} {c : S.Cd} {v : V} (h : noRoom v = true) : Dat Y own st c [] v := by
  cases v <;> simp only [noRoom, Bool.false_eq_true] at h
  · exact .nil c
  · exact .ze c _
  · exact .ny c _ _ _

theorem DatA.rel {Y : Sy S} {own : Nat → Prop} {st : St} {E : En} {u : U S} {v : V} (h : DatA Y own st u v) : RelV Y (Dat Y own st) E u v := by
  cases h <;> simp_all [RelV]
theorem DatA.of_rel {Y : Sy S} {own : Nat → Prop} {st : St} {E : En} {u : U S} {v : V} (hf : u.flat = true) (h : RelV Y (Dat Y own st) E u v) : DatA Y own st u v := by
  cases u <;> simp only [U.flat, Bool.false_eq_true] at hf <;> simp only [RelV] at h
  · subst h; exact .b _
  · subst h; exact .i _ _
  · subst h; exact .s _
  · subst h; exact .sn
  · exact .l h

end
end Go.Sx
namespace Go.Sx
open Go.Vm

/-- What a named block holds. -/
inductive Ct (S : Sg) : Type where
  | cells (us : List (U S))
  | buf (c : S.Cd) (xs : List (S.Den c))
  | row (c : S.Cd) (xs : List (S.Den c))
/-- The named blocks: how many names, what they hold; the names that were given anew, and those that were written. -/
structure Sig (S : Sg) where
  nx : Nat
  m : T (Ct S)
  ks : List Nat
  wr : List Nat

def Tmap {α β : Type} (f : α → β) : T α → T β
  | .e => .e
  | .n l v r => .n (Tmap f l) (match v with | some x => some (f x) | none => none) (Tmap f r)
theorem Tmap_get {α β : Type} (f : α → β) : ∀ (t : T α) (i : Nat), (Tmap f t).get i = (t.get i).map f
  | .e, i => by simp [Tmap, T.get_e]
  | .n l v r, i => by
    simp only [Tmap, T.get_n]
    cases i with
    | zero => cases v <;> rfl
    | succ k =>
      dsimp only
      cases Nat.beq (k % 2) 0
      · simp only [cond_false]; exact Tmap_get f r _
      · simp only [cond_true]; exact Tmap_get f l _

section
variable {S : Sg} {Y : Sy S} {ro : Nat} {o0 : Nat → Prop}

/-- A block that is named. -/
def named (E : En) (m : T (Ct S)) (id : Nat) : Prop := ∃ (r : Nat) (ct : Ct S) (h : V), m.get r = some ct ∧ E[r]? = some (some id, h)
def ownOf (o0 : Nat → Prop) (E : En) (m : T (Ct S)) (id : Nat) : Prop := o0 id ∨ named E m id

/-- What is so of a named block. -/
def Ent (Y : Sy S) (ro : Nat) (D : DD S) (DA : U S → V → Prop) (E : En) (st : St) (r : Nat) : Ct S → Prop
  | .cells us => ∃ id h b vs, E[r]? = some (some id, h) ∧ ro ≤ id ∧ id < st.nx ∧ st.hp.get id = some b ∧ b.sz = us.length ∧ RelL Y D E us vs ∧ ∀ j, j < us.length → b.get j = vs[j]?
  | .buf c xs => (∃ v0, E[r]? = some (none, v0) ∧ xs = [] ∧ noRoom v0 = true) ∨ ∃ id cap op b, E[r]? = some (some id, .sl id 0 xs.length cap op) ∧ ro ≤ id ∧ id < st.nx ∧ st.hp.get id = some b ∧ xs.length ≤ cap ∧ (b.es = Y.wid c ∧ b.mp = none) ∧ b.sz = cap * Y.wid c ∧ ((op = true → (b.op = true ∨ (Y.cvb && !(Y.opn c)) = true) ∧ cap = xs.length) ∧ (Y.opn c = true → op = true)) ∧
      ∃ vs : Nat → List V, (∀ (i : Nat) x, xs[i]? = some x → b.row (Y.wid c) (i * Y.wid c) = some (vs i)) ∧ ∀ (i : Nat) x, xs[i]? = some x → ∀ (j : Nat) u v, (Y.cells c x)[j]? = some u → (vs i)[j]? = some v → DA u v
  | .row c xs => ∃ id b, E[r]? = some (some id, .sl id 0 xs.length xs.length false) ∧ ro ≤ id ∧ id < st.nx ∧ st.hp.get id = some b ∧ (b.op = false ∧ b.es = Y.wid c ∧ b.mp = none) ∧
      ∃ vs : Nat → List V, (∀ (i : Nat) x, xs[i]? = some x → b.row (Y.wid c) (i * Y.wid c) = some (vs i)) ∧ ∀ (i : Nat) x, xs[i]? = some x → ∀ (j : Nat) u v, (Y.cells c x)[j]? = some u → (vs i)[j]? = some v → DA u v

abbrev Gl := Nat → Option (IntKind × List Int)

structure Inv (Y : Sy S) (G : Gl) (o0 : Nat → Prop) (r0 : Nat) (E : En) (nx : Nat) (m : T (Ct S)) (st : St) : Prop where
  len : E.length = nx
  ro : r0 ≤ st.nx
  lt : ∀ r ct, m.get r = some ct → r < nx
  ent : ∀ r ct, m.get r = some ct → Ent Y r0 (Dat Y (ownOf o0 E m) st) (DatA Y (ownOf o0 E m) st) E st r ct
  out : ∀ id, o0 id → r0 ≤ id ∧ id < st.nx
  glob : ∀ g k l, G g = some (k, l) → g < r0 ∧ ∃ b, st.hp.get g = some b ∧ ∀ j, j < l.length → b.get j = some (.i k (l.getD j 0))
  inj : ∀ (r r' : Nat) ct ct' id h h', m.get r = some ct → m.get r' = some ct' → E[r]? = some (some id, h) → E[r']? = some (some id, h') → r = r'
  dis : ∀ id, named E m id → ¬ o0 id

/-- From one state to a later one. -/
structure Step (o0 : Nat → Prop) (E : En) (m : T (Ct S)) (st : St) (E' : En) (m' : T (Ct S)) (st' : St) (ks wr : List Nat) : Prop where
  len : E.length ≤ E'.length
  same : ∀ r, r < E.length → mem ks r = false → E'[r]? = E[r]?
  nx : st.nx ≤ st'.nx
  keep : ∀ id, id < st.nx → ¬ named E m id → st'.hp.get id = st.hp.get id
  nam : ∀ id, named E' m' id → named E m id ∨ st.nx ≤ id
  ver : ∀ j, j ≤ st.nx → j ≤ st.ver → (wr = [] ∨ ∀ id, named E m id → j ≤ id) → j ≤ st'.ver

theorem Step.refl (o0 : Nat → Prop) (E : En) (m : T (Ct S)) (st : St) : Step o0 E m st E m st [] [] :=
  ⟨Nat.le_refl _, fun _ _ _ => rfl, Nat.le_refl _, fun _ _ _ => rfl, fun _ h => .inl h, fun _ _ h _ => h⟩

theorem mem_app : ∀ (a b : List Nat) (r : Nat), mem (a ++ b) r = (mem a r || mem b r)
  | [], b, r => by simp [mem]
  | k :: a, b, r => by
    simp only [List.cons_append, mem]
    cases Nat.beq k r <;> simp [mem_app a b r]

theorem Step.own {E E' : En} {m m' : T (Ct S)} {st st' : St} {ks wr : List Nat} (h : Step o0 E m st E' m' st' ks wr) {id : Nat} (hi : id < st.nx) (ho : ownOf o0 E' m' id) : ownOf o0 E m id := by
  rcases ho with z | z
  · exact .inl z
  · rcases h.nam id z with q | q
    · exact .inr q
    · omega
theorem Step.datK {E E' : En} {m m' : T (Ct S)} {st st' : St} {ks wr : List Nat} (h : Step o0 E m st E' m' st' ks wr) {c : S.Cd} {xs : List (S.Den c)} {v : V} (hd : Dat Y (ownOf o0 E m) st c xs v) : Dat Y (ownOf o0 E' m') st' c xs v :=
  Dat.keep h.nx (fun id h1 h2 => h.keep id h1 fun q => h2 (.inr q)) (fun _ h1 h2 => h.own h1 h2) hd
theorem Step.datA {E E' : En} {m m' : T (Ct S)} {st st' : St} {ks wr : List Nat} (h : Step o0 E m st E' m' st' ks wr) {u : U S} {v : V} (hd : DatA Y (ownOf o0 E m) st u v) : DatA Y (ownOf o0 E' m') st' u v :=
  DatA.keep h.nx (fun id h1 h2 => h.keep id h1 fun q => h2 (.inr q)) (fun _ h1 h2 => h.own h1 h2) hd

theorem Step.relK {E E' : En} {m m' : T (Ct S)} {st st' : St} {ks wr : List Nat} (h : Step o0 E m st E' m' st' ks wr) {u : U S} {v : V} (hr : RelV Y (Dat Y (ownOf o0 E m) st) E u v) : RelV Y (Dat Y (ownOf o0 E' m') st') E' (kill ks u) v :=
  RelV.kill (fun r x h1 h2 => by rw [h.same r (List.getElem?_eq_some_iff.1 h2).1 h1]; exact h2) (fun _ _ _ => h.datK) u v hr
theorem Step.relsK {E E' : En} {m m' : T (Ct S)} {st st' : St} {ks wr : List Nat} (h : Step o0 E m st E' m' st' ks wr) {u : List (U S)} {v : List V} (hr : RelL Y (Dat Y (ownOf o0 E m) st) E u v) : RelL Y (Dat Y (ownOf o0 E' m') st') E' (kills ks u) v :=
  RelL.kill (fun r x h1 h2 => by rw [h.same r (List.getElem?_eq_some_iff.1 h2).1 h1]; exact h2) (fun _ _ _ => h.datK) u v hr
theorem Step.rel {E E' : En} {m m' : T (Ct S)} {st st' : St} {wr : List Nat} (h : Step o0 E m st E' m' st' [] wr) {u : U S} {v : V} (hr : RelV Y (Dat Y (ownOf o0 E m) st) E u v) : RelV Y (Dat Y (ownOf o0 E' m') st') E' u v :=
  RelV.mono (fun r x h2 => by rw [h.same r (List.getElem?_eq_some_iff.1 h2).1 rfl]; exact h2) (fun _ _ _ => h.datK) u v hr
theorem Step.rels {E E' : En} {m m' : T (Ct S)} {st st' : St} {wr : List Nat} (h : Step o0 E m st E' m' st' [] wr) {u : List (U S)} {v : List V} (hr : RelL Y (Dat Y (ownOf o0 E m) st) E u v) : RelL Y (Dat Y (ownOf o0 E' m') st') E' u v :=
  RelL.mono (fun r x h2 => by rw [h.same r (List.getElem?_eq_some_iff.1 h2).1 rfl]; exact h2) (fun _ _ _ => h.datK) u v hr

theorem Step.trans {E E1 E2 : En} {m m1 m2 : T (Ct S)} {st st1 st2 : St} {ks wr ks' wr' : List Nat} (h : Step o0 E m st E1 m1 st1 ks wr) (h' : Step o0 E1 m1 st1 E2 m2 st2 ks' wr') :
    Step o0 E m st E2 m2 st2 (ks' ++ ks) (wr' ++ wr) := by
  refine ⟨Nat.le_trans h.len h'.len, ?_, Nat.le_trans h.nx h'.nx, ?_, ?_, ?_⟩
  · intro r hr hm
    rw [mem_app, Bool.or_eq_false_iff] at hm
    rw [h'.same r (Nat.lt_of_lt_of_le hr h.len) hm.1, h.same r hr hm.2]
  · intro id hid hn
    rw [h'.keep id (Nat.lt_of_lt_of_le hid h.nx) fun q => ?_, h.keep id hid hn]
    rcases h.nam id q with z | z
    · exact hn z
    · omega
  · intro id hn
    rcases h'.nam id hn with q | q
    · exact h.nam id q
    · exact .inr (Nat.le_trans h.nx q)
  · intro j h1 h2 hw
    have e1 : wr = [] ∨ ∀ id, named E m id → j ≤ id := hw.imp (fun q => (List.append_eq_nil_iff.1 q).2) fun q => q
    refine h'.ver j (Nat.le_trans h1 h.nx) (h.ver j h1 h2 e1) (hw.imp (fun q => (List.append_eq_nil_iff.1 q).1) fun hw id hn => ?_)
    rcases h.nam id hn with q | q
    · exact hw id q
    · omega
end
end Go.Sx
namespace Go.Sx
open Go.Vm

def onO {α : Type} (o : Option α) (k : α → Prop) : Prop := match o with
  | some x => k x
  | none => False
theorem onO_ok {α : Type} {o : Option α} {k : α → Prop} (h : onO o k) : ∃ x, o = some x ∧ k x := by
  cases o with
  | none => exact h.elim
  | some x => exact ⟨x, rfl, h⟩
/-- The number fits. -/
def I64 (n : Int) : Prop := -9223372036854775808 ≤ n ∧ n ≤ 9223372036854775807
def I32 (n : Int) : Prop := -2147483648 ≤ n ∧ n ≤ 2147483647

section
variable {S : Sg}

def ofC : Nat → Value → Option (U S)
  | 0, _ => none
  | _ + 1, .bool x => some (.kb x)
  | _ + 1, .int k n => some (.i k n)
  | _ + 1, .string x => some (.s x.data.toList)
  | _ + 1, .pointer none => some .pn
  | _ + 1, .slice none 0 0 => some .sn
  | _ + 1, .nilFunc => some .fz
  | _ + 1, .nilIface => some .nz
  | d + 1, .agg cs => (mapO (ofC d) cs.toList).map .a
  | d + 1, .tuple cs => (mapO (ofC d) cs.toList).map .t
  | _ + 1, _ => none

def cellsU : U S → List (U S)
  | .a cs => cs
  | u => [u]
def solid : U S → Bool
  | .dead => false
  | _ => true
def asB : U S → Option Bool
  | .b x => some x
  | .kb x => some x
  | _ => none

variable (Y : Sy S) (P : Program)

def RelF (Y : Sy S) (D : DD S) (E : En) (fr : T (U S)) (frV : T V) : Prop := ∀ t u, fr.get t = some u → ∃ v, frV.get t = some v ∧ RelV Y D E u v

def sOpd (fr : T (U S)) (o : Operand) (k : U S → Prop) : Prop := match o with
  | .tmp t => onO (fr.get t) k
  | .const v => onO (ofC 4 v) k
  | .global g => cond (Nat.blt g GL) (k (.g g 0)) False
  | .func f => k (.f f [])
def sOpds (fr : T (U S)) : List Operand → (List (U S) → Prop) → Prop
  | [], k => k []
  | o :: r, k => sOpd fr o fun u => sOpds fr r fun us => k (u :: us)
def sParts (fr : T (U S)) : List (Nat × Operand) → (List (Nat × U S) → Prop) → Prop
  | [], k => k []
  | (i, o) :: r, k => sOpd fr o fun u => sParts fr r fun us => k ((i, u) :: us)

def sArith (kd : IntKind) (n : Int) (k : U S → Prop) : Prop := match kd with
  | .i64 => I64 n ∧ k (.i .i64 n)
  | .i32 => I32 n ∧ k (.i .i32 n)
  | kd => k (.i kd (kd.wrap n))
def sArithY (kd : IntKind) (n : Int) (k : U S → Prop) : Prop := match kd with
  | .i64 => cond Y.wrp (k (.i .i64 (IntKind.i64.wrap n))) (sArith .i64 n k)
  | kd => sArith kd n k
def sBits (kd : IntKind) (n : Nat) (k : U S → Prop) : Prop := k (.i kd (kd.wrap n))
def sInt (op : BinOp) (kd : IntKind) (a b : Int) (k : U S → Prop) : Prop := match op with
  | .add => sArithY Y kd (a + b) k
  | .sub => sArithY Y kd (a - b) k
  | .mul => sArithY Y kd (a * b) k
  | .quo => b ≠ 0 ∧ sArith kd (a.tdiv b) k
  | .rem => b ≠ 0 ∧ k (.i kd (a.tmod b))
  | .eql => k (.b (decide (a = b)))
  | .neq => k (.b (decide (a ≠ b)))
  | .lss => k (.b (decide (a < b)))
  | .leq => k (.b (decide (a ≤ b)))
  | .gtr => k (.b (decide (b < a)))
  | .geq => k (.b (decide (b ≤ a)))
  | .and => sBits kd (BitVec.ofInt kd.bits a &&& BitVec.ofInt kd.bits b).toNat k
  | .or => sBits kd (BitVec.ofInt kd.bits a ||| BitVec.ofInt kd.bits b).toNat k
  | .xor => sBits kd (BitVec.ofInt kd.bits a ^^^ BitVec.ofInt kd.bits b).toNat k
  | .andNot => sBits kd (BitVec.ofInt kd.bits a &&& ~~~(BitVec.ofInt kd.bits b)).toNat k
  | _ => False
def sShift (op : BinOp) (kd : IntKind) (x y : Int) (k : U S → Prop) : Prop := match op with
  | .shl => 0 ≤ y ∧ k (.i kd (kd.wrap (x * 2 ^ (min y.toNat kd.bits))))
  | .shr => 0 ≤ y ∧ k (.i kd (x.fdiv (2 ^ (min y.toNat kd.bits))))
  | _ => False
def sStr (op : BinOp) (l m : List UInt8) (k : U S → Prop) : Prop := match op with
  | .add => l.length + m.length ≤ 1099511627776 ∧ k (.s (l ++ m))
  | .eql => k (.b (l == m))
  | .neq => k (.b (!(l == m)))
  | .lss => k (.b (Op.bytesLess l m))
  | .leq => k (.b (Op.bytesLess l m || (l == m)))
  | .gtr => k (.b (!(Op.bytesLess l m || (l == m))))
  | .geq => k (.b (!(Op.bytesLess l m)))
  | _ => False

def sPart (t : TypeId) (cs : List (U S)) (off : Nat) : Option (U S) :=
  match P.info? t, P.underlying t with
  | some ti, some _ => cond (isAggB P t) (some (.a ((cs.drop off).take ti.size))) (cs[off]?)
  | _, _ => none
def sEqFields (eq : TypeId → U S → U S → Option Bool) (xs ys : List (U S)) : List Field → Option Bool
  | [] => some true
  | f :: r => cond (f.name == "_") (sEqFields eq xs ys r)
    (match sPart P f.type xs f.offset, sPart P f.type ys f.offset with
    | some x, some y => match eq f.type x y, sEqFields eq xs ys r with
      | some a, some b => some (a && b)
      | _, _ => none
    | _, _ => none)
def sEqElems (eq : TypeId → U S → U S → Option Bool) (t : TypeId) (sz : Nat) (xs ys : List (U S)) (i : Nat) : Nat → Option Bool
  | 0 => some true
  | n + 1 => match sPart P t xs (i * sz), sPart P t ys (i * sz) with
    | some x, some y => match eq t x y, sEqElems eq t sz xs ys (i + 1) n with
      | some a, some b => some (a && b)
      | _, _ => none
    | _, _ => none
def sEq : Nat → TypeId → U S → U S → Option Bool
  | 0, _, _, _ => none
  | d + 1, t, x, y => match P.underlying t with
    | some .bool => match asB x, asB y with
      | some a, some b => some (a == b)
      | _, _ => none
    | some (.int _) => match x, y with
      | .i k a, .i k' b => cond (decide (k = k')) (some (decide (a = b))) none
      | _, _ => none
    | some .string => match x, y with
      | .s l, .s m => some (l == m)
      | _, _ => none
    | some (.pointer _) => match x, y with
      | .pn, .pn => some true
      | .pn, .p _ _ => some false
      | .p _ _, .pn => some false
      | _, _ => none
    | some (.func ..) => match x, y with
      | .fz, .fz => some true
      | .fz, .f .. => some false
      | .f .., .fz => some false
      | _, _ => none
    | some (.struct fs) => match x, y with
      | .a xs, .a ys => cond (P.stoodInHeld t) none (sEqFields P (sEq d) xs ys fs.toList)
      | _, _ => none
    | some (.array n e) => match x, y with
      | .a xs, .a ys => match P.info? e with
        | some ti => sEqElems P (sEq d) e ti.size xs ys 0 n
        | none => none
      | _, _ => none
    | _ => none
def sEqual (t : TypeId) (x y : U S) : Option Bool := match x, y with
  | .a _, .a _ => cond (P.eqGuardType P.depth t) none (sEq P 60 t x y)
  | .nz, _ => none
  | _, _ => sEq P 60 t x y
def sBin (op : BinOp) (xt : TypeId) (x y : U S) (k : U S → Prop) : Prop := match x, y with
  | .i kd a, .i kd' b => match op with
    | .shl => sShift .shl kd a b k
    | .shr => sShift .shr kd a b k
    | op => cond (decide (kd = kd')) (sInt Y op kd a b k) False
  | .s l, .s m => sStr op l m k
  | x, y => match op with
    | .eql => onO (sEqual P xt x y) fun r => k (.b r)
    | .neq => onO (sEqual P xt x y) fun r => k (.b (!r))
    | _ => False
def sUn (op : UnOp) (x : U S) (k : U S → Prop) : Prop := match op, x with
  | .neg, .i kd n => sArith kd (0 - n) k
  | .not, .b x => k (.b (!x))
  | .not, .kb true => k (.kb false)
  | .not, .kb false => k (.kb true)
  | _, _ => False

def zeroU (t : TypeId) : Option (U S) := match P.info? t with
  | some ti => match ti.zero with | some z => ofC 4 z | none => none
  | none => none
def setAtU (cells : List (U S)) (off : Nat) : List (U S) → List (U S)
  | [] => cells
  | v :: r => setAtU (cells.set off v) (off + 1) r
def sFill (place : Nat → Option (Nat × Nat)) (cells : List (U S)) : List (Nat × U S) → Option (List (U S))
  | [] => some cells
  | (i, v) :: rest => match place i with
    | none => none
    | some (off, size) => cond (solid v && (Nat.beq (cellsU v).length size && Nat.ble (off + (cellsU v).length) cells.length)) (sFill place (setAtU cells off (cellsU v)) rest) none
def sBuild (t : TypeId) (parts : List (Nat × U S)) (k : U S → Prop) : Prop :=
  match zeroU P t, P.underlying t with
  | some z, some (.struct fs) => match mapO (placeOf P) fs.toList with
    | some places => cond (solid z) (onO (sFill (fun i => places[i]?) (cellsU z) parts) fun cs => k (.a cs)) False
    | none => False
  | some z, some (.array _ e) => match sizeB P e with
    | some n => cond (solid z) (onO (sFill (fun i => some (i * n, n)) (cellsU z) parts) fun cs => k (.a cs)) False
    | none => False
  | _, _ => False
def sField (t : TypeId) (x : U S) (f : Nat) (k : U S → Prop) : Prop := match P.underlying t, x with
  | some (.struct fs), .a cs => match fs[f]? with
    | some fd => onO (sPart P fd.type cs fd.offset) k
    | none => False
  | _, _ => False
def sIndex (t : TypeId) (x : U S) (i : Int) (k : U S → Prop) : Prop := match P.underlying t, x with
  | some .string, .s l => (0 ≤ i ∧ i < (l.length : Int)) ∧ k (.i .u8 ((l.getD i.toNat 0).toNat : Int))
  | some (.array len e), .a cs => match sizeB P e with
    | some n => (0 ≤ i ∧ i < (len : Int)) ∧ onO (sPart P e cs (i.toNat * n)) k
    | none => False
  | _, _ => False
def sSlice (t : TypeId) (x : U S) (lo hi : Option Int) (k : U S → Prop) : Prop := match P.underlying t, x, lo, hi with
  | some .string, .s l, some a, none => (0 ≤ a ∧ a ≤ (l.length : Int)) ∧ k (.s (l.drop a.toNat))
  | some .string, .s l, none, some b => (0 ≤ b ∧ b ≤ (l.length : Int)) ∧ k (.s (l.take b.toNat))
  | some .string, .s l, some a, some b => (0 ≤ a ∧ a ≤ b ∧ b ≤ (l.length : Int)) ∧ k (.s ((l.drop a.toNat).take (b.toNat - a.toNat)))
  | some .string, .s l, none, none => k (.s l)
  | _, _, _, _ => False
/-- An operand that is a number, or none. -/
def sOpt (fr : T (U S)) (o : Option Operand) (k : Option Int → Prop) : Prop := match o with
  | none => k none
  | some o => sOpd fr o fun u => match u with
    | .i _ n => k (some n)
    | _ => False
def sMin2 (mn : Bool) (x y : U S) (k : U S → Prop) : Prop := match x, y with
  | .i kd a, .i _ b => k (.i kd (cond mn (if b < a then b else a) (if a < b then b else a)))
  | _, _ => False
def sMinL (mn : Bool) (x : U S) (l : List (U S)) (k : U S → Prop) : Prop := match l with
  | [] => k x
  | y :: r => sMin2 mn x y fun z => sMinL mn z r k

/-! ### They are so -/

variable {Y P}
variable {D : DD S} {E : En} {fr : T (U S)} {frV : T V}

theorem ofC_ok : ∀ (d : Nat) (v : Value) (u : U S), ofC d v = some u → ∃ w, ofV d v = some w ∧ ∀ (D : DD S) (E : En), RelV Y D E u w
  | 0, v, u, h => by simp [ofC] at h
  | d + 1, v, u, h => by
    have list : ∀ (l : List Value) (us : List (U S)), mapO (ofC d) l = some us → ∃ ws, mapO (ofV d) l = some ws ∧ ∀ (D : DD S) (E : En), RelL Y D E us ws := by
      intro l
      induction l with
      | nil => intro us h; simp only [mapO, Option.some.injEq] at h; subst h; exact ⟨[], rfl, fun _ _ => rfl⟩
      | cons x l ih =>
        intro us h
        simp only [mapO] at h
        cases h1 : ofC (S := S) d x with
        | none => simp [h1] at h
        | some y =>
          cases h2 : mapO (ofC (S := S) d) l with
          | none => simp [h1, h2] at h
          | some ys =>
            simp only [h1, h2, Option.some.injEq] at h
            subst h
            obtain ⟨w, e1, e2⟩ := ofC_ok d x y h1
            obtain ⟨ws, e3, e4⟩ := ih ys h2
            exact ⟨w :: ws, by simp only [mapO, e1, e3], fun D E => ⟨w, ws, rfl, e2 D E, e4 D E⟩⟩
    cases v with
    | bool x => cases h; exact ⟨_, rfl, fun _ _ => rfl⟩
    | int k n => cases h; exact ⟨_, rfl, fun _ _ => rfl⟩
    | string x => cases h; exact ⟨_, rfl, fun _ _ => rfl⟩
    | pointer a => cases a with
      | none => cases h; exact ⟨_, rfl, fun _ _ => rfl⟩
      | some a => cases h
    | slice a l c =>
      unfold ofC at h
      split at h <;> first | (rename_i q; cases q) | skip
      all_goals first | (cases h; exact ⟨_, rfl, fun _ _ => rfl⟩) | cases h
    | nilFunc => cases h; exact ⟨_, rfl, fun _ _ => rfl⟩
    | nilIface => cases h; exact ⟨_, rfl, fun _ _ => rfl⟩
    | agg cs =>
      simp only [ofC] at h
      cases h1 : mapO (ofC (S := S) d) cs.toList with
      | none => rw [h1] at h; cases h
      | some us =>
        rw [h1] at h
        cases h
        obtain ⟨ws, e1, e2⟩ := list _ _ h1
        exact ⟨.a ws, by simp only [ofV, e1, Option.map_some], fun D E => ⟨ws, rfl, e2 D E⟩⟩
    | tuple cs =>
      simp only [ofC] at h
      cases h1 : mapO (ofC (S := S) d) cs.toList with
      | none => rw [h1] at h; cases h
      | some us =>
        rw [h1] at h
        cases h
        obtain ⟨ws, e1, e2⟩ := list _ _ h1
        exact ⟨.t ws, by simp only [ofV, e1, Option.map_some], fun D E => ⟨ws, rfl, e2 D E⟩⟩
    | _ => cases h

theorem sOpd_ok {o : Operand} {k : U S → Prop} (h : sOpd fr o k) (hf : RelF Y D E fr frV) : ∃ u v, opnd frV o = some v ∧ RelV Y D E u v ∧ k u := by
  cases o with
  | tmp t =>
    obtain ⟨u, h1, h2⟩ := onO_ok h
    obtain ⟨v, h3, h4⟩ := hf t u h1
    exact ⟨u, v, h3, h4, h2⟩
  | const c =>
    obtain ⟨u, h1, h2⟩ := onO_ok h
    obtain ⟨w, h3, h4⟩ := ofC_ok (Y := Y) 4 c u h1
    exact ⟨u, w, h3, h4 D E, h2⟩
  | global g =>
    simp only [sOpd] at h
    cases hg : Nat.blt g GL with
    | false => rw [hg] at h; exact h.elim
    | true =>
      rw [hg] at h
      exact ⟨.g g 0, .p g 0, by simp only [opnd, hg, cond_true], ⟨Nat.blt_eq.mp hg, rfl⟩, h⟩
  | func f => exact ⟨.f f [], .f (.func f) [] [], rfl, ⟨[], rfl, rfl⟩, h⟩
theorem sOpds_ok (hf : RelF Y D E fr frV) : ∀ {l : List Operand} {k : List (U S) → Prop}, sOpds fr l k → ∃ us vs, opnds frV l = some vs ∧ RelL Y D E us vs ∧ k us
  | [], k, h => ⟨[], [], rfl, rfl, h⟩
  | o :: r, k, h => by
    obtain ⟨u, v, h1, h2, h3⟩ := sOpd_ok h hf
    obtain ⟨us, vs, h4, h5, h6⟩ := sOpds_ok hf h3
    exact ⟨u :: us, v :: vs, by simp only [opnds, h1, h4], ⟨v, vs, rfl, h2, h5⟩, h6⟩
/-- Parts of a literal. -/
def RelP (Y : Sy S) (D : DD S) (E : En) : List (Nat × U S) → List (Nat × V) → Prop
  | [], vs => vs = []
  | (i, u) :: us, vs => ∃ v r, vs = (i, v) :: r ∧ RelV Y D E u v ∧ RelP Y D E us r
theorem sParts_ok (hf : RelF Y D E fr frV) : ∀ {l : List (Nat × Operand)} {k : List (Nat × U S) → Prop}, sParts fr l k → ∃ us vs, partsOf frV l = some vs ∧ RelP Y D E us vs ∧ k us
  | [], k, h => ⟨[], [], rfl, rfl, h⟩
  | (i, o) :: r, k, h => by
    obtain ⟨u, v, h1, h2, h3⟩ := sOpd_ok h hf
    obtain ⟨us, vs, h4, h5, h6⟩ := sParts_ok hf h3
    exact ⟨(i, u) :: us, (i, v) :: vs, by simp only [partsOf, h1, h4], ⟨v, vs, rfl, h2, h5⟩, h6⟩

theorem sArith_ok {kd : IntKind} {n : Int} {k : U S → Prop} (h : sArith kd n k) : k (.i kd (kd.wrap n)) := by
  unfold sArith at h
  split at h
  · obtain ⟨⟨h1, h2⟩, h3⟩ := h
    rw [wrap64 h1 h2]; exact h3
  · obtain ⟨⟨h1, h2⟩, h3⟩ := h
    have : IntKind.i32.wrap n = n := by simp [IntKind.wrap, IntKind.bits, IntKind.signed]; omega
    rw [this]; exact h3
  · exact h
theorem sArithY_ok {kd : IntKind} {n : Int} {k : U S → Prop} (h : sArithY Y kd n k) : k (.i kd (kd.wrap n)) := by
  unfold sArithY at h
  split at h
  · cases hw : Y.wrp with
    | true => rw [hw] at h; exact h
    | false => rw [hw] at h; exact sArith_ok h
  · exact sArith_ok h
theorem sInt_ok {op : BinOp} {kd : IntKind} {a b : Int} {k : U S → Prop} (h : sInt Y op kd a b k) : ∃ u v, vint op kd a b = some v ∧ RelV Y D E u v ∧ k u := by
  cases op <;> simp only [sInt] at h <;> try exact h.elim
  · exact ⟨.i kd _, _, rfl, rfl, sArithY_ok h⟩
  · exact ⟨.i kd _, _, rfl, rfl, sArithY_ok h⟩
  · exact ⟨.i kd _, _, rfl, rfl, sArithY_ok h⟩
  · exact ⟨.i kd _, .i kd (kd.wrap (a.tdiv b)), by simp only [vint, h.1, decide_false, cond_false], rfl, sArith_ok h.2⟩
  · exact ⟨.i kd _, .i kd (a.tmod b), by simp only [vint, h.1, decide_false, cond_false], rfl, h.2⟩
  all_goals first
    | exact ⟨.i kd _, _, rfl, rfl, h⟩
    | (refine ⟨.b _, _, rfl, ?_, h⟩; simp only [RelV, V.b.injEq]; rw [Bool.eq_iff_iff]; simp [ilt, ile])

theorem sStr_ok {op : BinOp} {l m : List UInt8} {k : U S → Prop} (h : sStr op l m k) : ∃ u v, vstr op l.length (packL l) m.length (packL m) = some v ∧ RelV Y D E u v ∧ k u := by
  cases op <;> simp only [sStr] at h <;> try exact h.elim
  · obtain ⟨h1, h2⟩ := h
    have e : Nat.ble (l.length + m.length) 1099511627776 = true := by rw [Nat.ble_eq]; exact h1
    exact ⟨.s _, sApp l.length (packL l) m.length (packL m), by simp only [vstr, e, cond_true], str_app l m, h2⟩
  all_goals exact ⟨.b _, _, rfl, by simp only [RelV, V.b.injEq, str_beq, unpackL_packL], h⟩

theorem sPart_ok {t : TypeId} {cs : List (U S)} {vs : List V} {off : Nat} {u : U S} (h : sPart P t cs off = some u) (hr : RelL Y D E cs vs) : ∃ v, vpart P t vs off = some v ∧ RelV Y D E u v := by
  unfold sPart at h
  unfold vpart
  cases h1 : P.info? t with
  | none => simp [h1] at h
  | some ti =>
    cases h2 : P.underlying t with
    | none => simp [h1, h2] at h
    | some d =>
      simp only [h1, h2] at h ⊢
      cases hA : isAggB P t with
      | true =>
        rw [hA] at h
        cases h
        exact ⟨_, rfl, ⟨_, rfl, (hr.drop off).take ti.size⟩⟩
      | false =>
        rw [hA] at h
        exact hr.get h

theorem sEqFields_ok {eq : TypeId → U S → U S → Option Bool} {eqV : TypeId → V → V → Option Bool} (he : ∀ t x y r v w, eq t x y = some r → RelV Y D E x v → RelV Y D E y w → eqV t v w = some r) {xs ys : List (U S)} {vs ws : List V} (hx : RelL Y D E xs vs) (hy : RelL Y D E ys ws) :
    ∀ (fs : List Field) (r : Bool), sEqFields P eq xs ys fs = some r → veqFields P eqV vs ws fs = some r
  | [], r, h => h
  | f :: fs, r, h => by
    simp only [sEqFields] at h
    simp only [veqFields]
    cases hn : (f.name == "_") with
    | true => rw [hn] at h; exact sEqFields_ok he hx hy fs r h
    | false =>
      rw [hn] at h
      simp only [cond_false] at h ⊢
      cases h1 : sPart P f.type xs f.offset with
      | none => simp [h1] at h
      | some x =>
        cases h2 : sPart P f.type ys f.offset with
        | none => simp [h1, h2] at h
        | some y =>
          simp only [h1, h2] at h
          cases h3 : eq f.type x y with
          | none => simp [h3] at h
          | some a =>
            cases h4 : sEqFields P eq xs ys fs with
            | none => simp [h3, h4] at h
            | some b =>
              simp only [h3, h4, Option.some.injEq] at h
              subst h
              obtain ⟨v, e1, e2⟩ := sPart_ok h1 hx
              obtain ⟨w, e3, e4⟩ := sPart_ok h2 hy
              simp only [e1, e3, he _ _ _ _ _ _ h3 e2 e4]
              cases a with
              | false => rfl
              | true => simpa using sEqFields_ok he hx hy fs b h4
theorem sEqElems_ok {eq : TypeId → U S → U S → Option Bool} {eqV : TypeId → V → V → Option Bool} (he : ∀ t x y r v w, eq t x y = some r → RelV Y D E x v → RelV Y D E y w → eqV t v w = some r) {xs ys : List (U S)} {vs ws : List V} (hx : RelL Y D E xs vs) (hy : RelL Y D E ys ws) {t : TypeId} {sz : Nat} :
    ∀ (n i : Nat) (r : Bool), sEqElems P eq t sz xs ys i n = some r → veqElems P eqV t sz vs ws i n = some r
  | 0, i, r, h => h
  | n + 1, i, r, h => by
    simp only [sEqElems] at h
    simp only [veqElems]
    cases h1 : sPart P t xs (i * sz) with
    | none => simp [h1] at h
    | some x =>
      cases h2 : sPart P t ys (i * sz) with
      | none => simp [h1, h2] at h
      | some y =>
        simp only [h1, h2] at h
        cases h3 : eq t x y with
        | none => simp [h3] at h
        | some a =>
          cases h4 : sEqElems P eq t sz xs ys (i + 1) n with
          | none => simp [h3, h4] at h
          | some b =>
            simp only [h3, h4, Option.some.injEq] at h
            subst h
            obtain ⟨v, e1, e2⟩ := sPart_ok h1 hx
            obtain ⟨w, e3, e4⟩ := sPart_ok h2 hy
            simp only [e1, e3, he _ _ _ _ _ _ h3 e2 e4]
            cases a with
            | false => rfl
            | true => simpa using sEqElems_ok he hx hy n (i + 1) b h4

theorem asB_ok {u : U S} {x : Bool} {v : V} (h : asB u = some x) (hr : RelV Y D E u v) : v = .b x := by
  cases u <;> simp only [asB, reduceCtorEq, Option.some.injEq] at h <;> (subst h; exact hr)

theorem sEq_ok : ∀ (d : Nat) (t : TypeId) (x y : U S) (r : Bool) (v w : V), sEq P d t x y = some r → RelV Y D E x v → RelV Y D E y w → veq P d t v w = some r
  | 0, _, _, _, _, _, _, h, _, _ => by simp [sEq] at h
  | d + 1, t, x, y, r, v, w, h, hx, hy => by
    have ih := fun t x y r v w => sEq_ok d t x y r v w
    unfold sEq at h
    split at h
    · rename_i hu
      cases h1 : asB x with
      | none => simp [h1] at h
      | some a =>
        cases h2 : asB y with
        | none => simp [h1, h2] at h
        | some b =>
          simp only [h1, h2] at h
          rw [asB_ok h1 hx, asB_ok h2 hy]
          unfold veq
          simp only [hu]
          exact h
    · rename_i hu
      split at h
      · rename_i k a k' b
        simp only [RelV] at hx hy
        subst hx hy
        unfold veq
        simp only [hu]
        cases hk : decide (k = k') with
        | false => rw [hk] at h; cases h
        | true =>
          rw [hk] at h
          simp only [cond_true, Option.some.injEq] at h ⊢
          rw [← h, Bool.eq_iff_iff]
          simp
      · cases h
    · rename_i hu
      split at h
      · rename_i l m
        simp only [RelV] at hx hy
        subst hx hy
        unfold veq V.str
        simp only [hu, str_beq]
        exact h
      · cases h
    · rename_i hu
      split at h
      · simp only [RelV] at hx hy; subst hx hy; unfold veq; simp only [hu]; exact h
      · simp only [RelV] at hx hy; subst hx; obtain ⟨_, _, _, rfl⟩ := hy; unfold veq; simp only [hu]; exact h
      · simp only [RelV] at hx hy; subst hy; obtain ⟨_, _, _, rfl⟩ := hx; unfold veq; simp only [hu]; exact h
      · cases h
    · rename_i hu
      split at h
      · simp only [RelV] at hx hy; subst hx hy; unfold veq; simp only [hu]; exact h
      · simp only [RelV] at hx hy; subst hx; obtain ⟨_, rfl, _⟩ := hy; unfold veq; simp only [hu]; exact h
      · simp only [RelV] at hx hy; subst hy; obtain ⟨_, rfl, _⟩ := hx; unfold veq; simp only [hu]; exact h
      · cases h
    · rename_i fs hu
      split at h
      · rename_i xs ys
        simp only [RelV] at hx hy
        obtain ⟨vs, rfl, hx⟩ := hx
        obtain ⟨ws, rfl, hy⟩ := hy
        unfold veq
        simp only [hu]
        cases hs : P.stoodInHeld t with
        | true => rw [hs] at h; cases h
        | false =>
          rw [hs] at h
          exact sEqFields_ok ih hx hy _ _ h
      · cases h
    · rename_i n e hu
      split at h
      · rename_i xs ys
        simp only [RelV] at hx hy
        obtain ⟨vs, rfl, hx⟩ := hx
        obtain ⟨ws, rfl, hy⟩ := hy
        unfold veq
        simp only [hu]
        split at h
        · rename_i ti hi
          simp only [hi]
          exact sEqElems_ok ih hx hy _ _ _ h
        · cases h
      · cases h
    · cases h

end
end Go.Sx
namespace Go.Sx
open Go.Vm

section
variable {S : Sg} {Y : Sy S} {P : Program} {D : DD S} {E : En} {fr : T (U S)} {frV : T V}

theorem vbin_int {op : BinOp} {t : TypeId} {kd : IntKind} {a b : Int} (h1 : op ≠ .shl) (h2 : op ≠ .shr) : vbin P op t (.i kd a) (.i kd b) = vint op kd a b := by cases op <;> simp_all [vbin]
theorem vbin_eql {t : TypeId} {x y : V} (h : ∀ k a k' b, ¬ (x = .i k a ∧ y = .i k' b)) (h' : ∀ l a m b, ¬ (x = .s l a ∧ y = .s m b)) : vbin P .eql t x y = (match vequal P t x y with | some r => some (.b r) | none => none) := by
  unfold vbin
  split
  · exact absurd ⟨rfl, rfl⟩ (h _ _ _ _)
  · exact absurd ⟨rfl, rfl⟩ (h' _ _ _ _)
  · rfl
theorem vbin_neq {t : TypeId} {x y : V} (h : ∀ k a k' b, ¬ (x = .i k a ∧ y = .i k' b)) (h' : ∀ l a m b, ¬ (x = .s l a ∧ y = .s m b)) : vbin P .neq t x y = (match vequal P t x y with | some r => some (.b (!r)) | none => none) := by
  unfold vbin
  split
  · exact absurd ⟨rfl, rfl⟩ (h _ _ _ _)
  · exact absurd ⟨rfl, rfl⟩ (h' _ _ _ _)
  · rfl

/-- Values of these kinds alone can be compared. -/
theorem sEq_kind {d : Nat} {t : TypeId} {x y : U S} {r : Bool} {v w : V} (h : sEq P d t x y = some r) (hx : RelV Y D E x v) (hy : RelV Y D E y w) (hi : ∀ k a k' b, ¬ (x = .i k a ∧ y = .i k' b)) (hs : ∀ l m, ¬ (x = .s l ∧ y = .s m)) :
    (∀ k a k' b, ¬ (v = .i k a ∧ w = .i k' b)) ∧ (∀ l a m b, ¬ (v = .s l a ∧ w = .s m b)) := by
  cases d with
  | zero => simp [sEq] at h
  | succ d =>
    unfold sEq at h
    split at h
    · cases h1 : asB x with
      | none => simp [h1] at h
      | some a =>
        rw [asB_ok h1 hx]
        exact ⟨fun _ _ _ _ q => (by cases q.1), fun _ _ _ _ q => (by cases q.1)⟩
    · split at h
      · exact absurd ⟨rfl, rfl⟩ (hi _ _ _ _)
      · cases h
    · split at h
      · exact absurd ⟨rfl, rfl⟩ (hs _ _)
      · cases h
    · split at h
      · simp only [RelV] at hx; subst hx; exact ⟨fun _ _ _ _ q => (by cases q.1), fun _ _ _ _ q => (by cases q.1)⟩
      · simp only [RelV] at hx; subst hx; exact ⟨fun _ _ _ _ q => (by cases q.1), fun _ _ _ _ q => (by cases q.1)⟩
      · simp only [RelV] at hy; subst hy; exact ⟨fun _ _ _ _ q => (by cases q.2), fun _ _ _ _ q => (by cases q.2)⟩
      · cases h
    · split at h
      · simp only [RelV] at hx; subst hx; exact ⟨fun _ _ _ _ q => (by cases q.1), fun _ _ _ _ q => (by cases q.1)⟩
      · simp only [RelV] at hx; subst hx; exact ⟨fun _ _ _ _ q => (by cases q.1), fun _ _ _ _ q => (by cases q.1)⟩
      · simp only [RelV] at hy; subst hy; exact ⟨fun _ _ _ _ q => (by cases q.2), fun _ _ _ _ q => (by cases q.2)⟩
      · cases h
    · split at h
      · simp only [RelV] at hx; obtain ⟨_, rfl, _⟩ := hx; exact ⟨fun _ _ _ _ q => (by cases q.1), fun _ _ _ _ q => (by cases q.1)⟩
      · cases h
    · split at h
      · simp only [RelV] at hx; obtain ⟨_, rfl, _⟩ := hx; exact ⟨fun _ _ _ _ q => (by cases q.1), fun _ _ _ _ q => (by cases q.1)⟩
      · cases h
    · cases h

theorem veq_nz {d : Nat} {t : TypeId} {w : V} {r : Bool} (h : veq P d t .nz w = some r) : False := by
  cases d with
  | zero => cases h
  | succ d =>
    unfold veq at h
    cases hu : P.underlying t with
    | none => rw [hu] at h; cases h
    | some x => rw [hu] at h; cases x <;> cases w <;> cases h
theorem sEqual_ok {t : TypeId} {x y : U S} {r : Bool} {v w : V} (h : sEqual P t x y = some r) (hx : RelV Y D E x v) (hy : RelV Y D E y w) : vequal P t v w = some r ∧ (∃ d, sEq P d t x y = some r) := by
  unfold sEqual at h
  split at h
  · simp only [RelV] at hx hy
    obtain ⟨vs, rfl, hx⟩ := hx
    obtain ⟨ws, rfl, hy⟩ := hy
    cases hg : P.eqGuardType P.depth t with
    | true => rw [hg] at h; cases h
    | false =>
      rw [hg, cond_false] at h
      rename_i xs ys
      exact ⟨by unfold vequal; simp only [hg, cond_false]; exact sEq_ok 60 t (.a xs) (.a ys) r _ _ h ⟨vs, rfl, hx⟩ ⟨ws, rfl, hy⟩, 60, h⟩
  · cases h
  · rename_i h1 h2
    refine ⟨?_, 60, h⟩
    have hv := sEq_ok 60 t x y r v w h hx hy
    unfold vequal
    split
    · exfalso
      -- x is no aggregate with an aggregate
      unfold sEq at h
      split at h
      · cases q : asB x with
        | none => simp [q] at h
        | some a => have := asB_ok q hx; cases this
      · split at h
        · simp only [RelV] at hx; cases hx
        · cases h
      · split at h
        · simp only [RelV, V.str] at hx; cases hx
        · cases h
      · split at h
        · simp only [RelV] at hx; cases hx
        · simp only [RelV] at hx; cases hx
        · simp only [RelV] at hy; cases hy
        · cases h
      · split at h
        · simp only [RelV] at hx; cases hx
        · simp only [RelV] at hx; cases hx
        · simp only [RelV] at hy; cases hy
        · cases h
      · split at h
        · first | exact h1 _ _ rfl rfl | exact (h1 rfl rfl).elim | exact (h1 _ _ rfl rfl).elim | exact h1 rfl rfl | exact h1 _ rfl | simp_all
        · cases h
      · split at h
        · first | exact h1 _ _ rfl rfl | exact (h1 rfl rfl).elim | exact (h1 _ _ rfl rfl).elim | exact h1 rfl rfl | exact h1 _ rfl | simp_all
        · cases h
      · cases h
    · exfalso
      exact veq_nz hv
    · exact hv

theorem sShift_ok {op : BinOp} {kd : IntKind} {a b : Int} {k : U S → Prop} (h : sShift op kd a b k) : ∃ u v, vshift op kd a b = some v ∧ RelV Y D E u v ∧ k u := by
  cases op <;> simp only [sShift] at h <;> try exact h.elim
  all_goals
    have e : ilt b 0 = false := by simp [ilt]; exact h.1
    exact ⟨.i kd _, _, by simp only [vshift, e, cond_false], rfl, h.2⟩

theorem sBin_ok {op : BinOp} {xt : TypeId} {x y : U S} {k : U S → Prop} {v w : V} (h : sBin Y P op xt x y k) (hx : RelV Y D E x v) (hy : RelV Y D E y w) : ∃ u z, vbin P op xt v w = some z ∧ RelV Y D E u z ∧ k u := by
  unfold sBin at h
  split at h
  · rename_i kd a kd' b
    simp only [RelV] at hx hy
    subst hx hy
    split at h
    · obtain ⟨u, z, h1, h2, h3⟩ := sShift_ok (Y := Y) (D := D) (E := E) h; exact ⟨u, z, h1, h2, h3⟩
    · obtain ⟨u, z, h1, h2, h3⟩ := sShift_ok (Y := Y) (D := D) (E := E) h; exact ⟨u, z, h1, h2, h3⟩
    · rename_i n1 n2
      cases hk : decide (kd = kd') with
      | false => rw [hk] at h; exact h.elim
      | true =>
        rw [hk] at h
        obtain rfl := of_decide_eq_true hk
        obtain ⟨u, z, h1, h2, h3⟩ := sInt_ok (Y := Y) (D := D) (E := E) h
        exact ⟨u, z, by rw [vbin_int n1 n2]; exact h1, h2, h3⟩
  · simp only [RelV] at hx hy
    subst hx hy
    obtain ⟨u, z, h1, h2, h3⟩ := sStr_ok (Y := Y) (D := D) (E := E) h
    exact ⟨u, z, h1, h2, h3⟩
  · rename_i n1 n2
    have i1 : ∀ k a k' b, ¬ (x = .i k a ∧ y = .i k' b) := fun k a k' b q => n1 k a k' b q.1 q.2
    have s1 : ∀ l m, ¬ (x = .s l ∧ y = .s m) := fun l m q => n2 l m q.1 q.2
    split at h
    · obtain ⟨r, h1, h2⟩ := onO_ok h
      obtain ⟨h3, d, h4⟩ := sEqual_ok h1 hx hy
      obtain ⟨k1, k2⟩ := sEq_kind h4 hx hy i1 s1
      exact ⟨.b r, .b r, by rw [vbin_eql k1 k2, h3], rfl, h2⟩
    · obtain ⟨r, h1, h2⟩ := onO_ok h
      obtain ⟨h3, d, h4⟩ := sEqual_ok h1 hx hy
      obtain ⟨k1, k2⟩ := sEq_kind h4 hx hy i1 s1
      exact ⟨.b (!r), .b (!r), by rw [vbin_neq k1 k2, h3], rfl, h2⟩
    · exact h.elim

theorem sUn_ok {op : UnOp} {x : U S} {k : U S → Prop} {v : V} (h : sUn op x k) (hx : RelV Y D E x v) : ∃ u z, vun op v = some z ∧ RelV Y D E u z ∧ k u := by
  unfold sUn at h
  split at h
  · rename_i kd n
    simp only [RelV] at hx
    subst hx
    exact ⟨.i kd _, _, rfl, rfl, sArith_ok h⟩
  · simp only [RelV] at hx; subst hx; exact ⟨.b _, _, rfl, rfl, h⟩
  · simp only [RelV] at hx; subst hx; exact ⟨.kb false, _, rfl, rfl, h⟩
  · simp only [RelV] at hx; subst hx; exact ⟨.kb true, _, rfl, rfl, h⟩
  · exact h.elim

theorem zeroU_ok {t : TypeId} {z : U S} (h : zeroU P t = some z) : ∃ w, zeroOf P t = some w ∧ ∀ (D : DD S) (E : En), RelV Y D E z w := by
  unfold zeroU at h
  unfold zeroOf
  cases h1 : P.info? t with
  | none => simp [h1] at h
  | some ti =>
    simp only [h1] at h ⊢
    cases h2 : ti.zero with
    | none => simp [h2] at h
    | some z0 => simp only [h2] at h ⊢; exact ofC_ok 4 z0 z h

end
section
variable {S : Sg} {Y : Sy S} {P : Program} {own : Nat → Prop} {st : St} {E : En}

theorem noRoom_cells {v : V} (h : noRoom v = true) : v.cells = [v] := by
  cases v <;> first | rfl | (simp only [noRoom, Bool.false_eq_true] at h)

theorem noRoom_atom {v : V} (h : noRoom v = true) : v.atom = true := by
  cases v <;> first | rfl | (simp only [noRoom, Bool.false_eq_true] at h)

/-- A value's cells. -/
theorem RelV.cells {u : U S} {v : V} (hs : solid u = true) (h : RelV Y (Dat Y own st) E u v) : RelL Y (Dat Y own st) E (cellsU u) v.cells := by
  have one : v.cells = [v] → RelL Y (Dat Y own st) E [u] v.cells := fun e => by rw [e]; exact ⟨v, [], rfl, h, rfl⟩
  cases u with
  | dead => cases hs
  | a cs => simp only [RelV] at h; obtain ⟨vs, rfl, h⟩ := h; exact h
  | o r =>
    have h' := h
    simp only [RelV] at h'
    obtain ⟨x, _, ha⟩ := h'
    exact one (by cases v <;> first | rfl | cases ha)
  | l c xs =>
    have h' := h
    simp only [RelV] at h'
    exact one (by cases h' <;> rfl)
  | vh r j =>
    have h' := h
    simp only [RelV, ViewH] at h'
    obtain ⟨_, _, _, ⟨q0, _, rfl⟩ | ⟨_, _, _, _, _, _, rfl⟩⟩ := h' <;> first | exact one rfl | exact one (noRoom_cells q0)
  | v r w i =>
    have h' := h
    simp only [RelV, View] at h'
    obtain ⟨_, _, _, ⟨q0, rfl⟩ | ⟨_, _, _, _, _, _, ⟨_, _, _, _, rfl⟩ | ⟨_, _, _, rfl⟩⟩⟩ := h' <;> first | exact one rfl | exact one (noRoom_cells q0)
  | _ =>
    have h' := h
    simp only [RelV] at h'
    first
    | (subst h'; exact one rfl)
    | (exact one (noRoom_cells h'))
    | (obtain ⟨_, _, _, rfl⟩ := h'; exact one rfl)
    | (obtain ⟨_, rfl⟩ := h'; exact one rfl)
    | (obtain ⟨_, rfl, _⟩ := h'; exact one rfl)
    | (obtain ⟨_, _, _, _, _, _, rfl⟩ := h'; exact one rfl)

theorem RelL.setR {D : DD S} : ∀ {us : List (U S)} {vs : List V} {j : Nat} {u : U S} {v : V}, RelL Y D E us vs → RelV Y D E u v → RelL Y D E (us.set j u) (vs.set j v)
  | [], vs, j, u, v, h, _ => by simp only [RelL] at h; subst h; simp [RelL]
  | u0 :: us, vs, j, u, v, h, hu => by
    simp only [RelL] at h
    obtain ⟨w, r, rfl, h2, h3⟩ := h
    cases j with
    | zero => exact ⟨v, r, rfl, hu, h3⟩
    | succ j => exact ⟨w, r.set j v, rfl, h2, RelL.setR h3 hu⟩
theorem RelL.setAt {D : DD S} : ∀ {news : List (U S)} {nv : List V} {us : List (U S)} {vs : List V} {j : Nat}, RelL Y D E us vs → RelL Y D E news nv → RelL Y D E (setAtU us j news) (Vm.setAt vs j nv)
  | [], nv, us, vs, j, h, hn => by simp only [RelL] at hn; subst hn; exact h
  | u :: news, nv, us, vs, j, h, hn => by
    simp only [RelL] at hn
    obtain ⟨w, r, rfl, h2, h3⟩ := hn
    show RelL Y D E (setAtU (us.set j u) (j + 1) news) (Vm.setAt (vs.set j w) (j + 1) r)
    exact RelL.setAt (RelL.setR h h2) h3
theorem setAtU_len : ∀ (news us : List (U S)) (j : Nat), (setAtU us j news).length = us.length
  | [], us, j => rfl
  | u :: news, us, j => by rw [setAtU, setAtU_len news]; simp

theorem sFill_ok {place : Nat → Option (Nat × Nat)} : ∀ {parts : List (Nat × U S)} {pv : List (Nat × V)} {us us' : List (U S)} {vs : List V}, sFill place us parts = some us' → RelL Y (Dat Y own st) E us vs → RelP Y (Dat Y own st) E parts pv → ∃ vs', vfill place vs pv = some vs' ∧ RelL Y (Dat Y own st) E us' vs'
  | [], pv, us, us', vs, h, hr, hp => by
    simp only [RelP] at hp
    subst hp
    simp only [sFill, Option.some.injEq] at h
    subst h
    exact ⟨vs, rfl, hr⟩
  | (i, u) :: parts, pv, us, us', vs, h, hr, hp => by
    simp only [RelP] at hp
    obtain ⟨v, r, rfl, h2, h3⟩ := hp
    simp only [sFill] at h
    simp only [vfill]
    cases hpl : place i with
    | none => simp [hpl] at h
    | some q =>
      obtain ⟨off, size⟩ := q
      simp only [hpl] at h ⊢
      cases hs : solid u with
      | false => simp [hs] at h
      | true =>
        have hc := RelV.cells hs h2
        have e1 := hc.length
        have e2 := hr.length
        rw [hs, Bool.true_and] at h
        rw [e1, e2]
        cases hq : (Nat.beq (cellsU u).length size && Nat.ble (off + (cellsU u).length) us.length) with
        | false => simp [hq] at h
        | true =>
          rw [hq] at h
          simp only [cond_true] at h ⊢
          exact sFill_ok h (hr.setAt hc) h3

theorem sBuild_ok {t : TypeId} {parts : List (Nat × U S)} {pv : List (Nat × V)} {k : U S → Prop} (h : sBuild P t parts k) (hp : RelP Y (Dat Y own st) E parts pv) : ∃ u v, vbuild P t pv = some v ∧ RelV Y (Dat Y own st) E u v ∧ k u := by
  unfold sBuild at h
  unfold vbuild
  cases hz : zeroU (S := S) P t with
  | none => simp [hz] at h
  | some z =>
    obtain ⟨w, e1, e2⟩ := zeroU_ok (Y := Y) hz
    have e2 := e2 (Dat Y own st) E
    cases hu : P.underlying t with
    | none => simp [hz, hu] at h
    | some d =>
      cases d <;> simp only [hz, hu] at h <;> try exact h.elim
      · split at h
        · rename_i places hm
          cases hs : solid z with
          | false => rw [hs] at h; exact h.elim
          | true =>
            rw [hs] at h
            obtain ⟨cs, h1, h2⟩ := onO_ok h
            obtain ⟨vs, h3, h4⟩ := sFill_ok h1 (RelV.cells hs e2) hp
            exact ⟨.a cs, .a vs, by simp only [e1, hm, h3], ⟨vs, rfl, h4⟩, h2⟩
        · exact h.elim
      · split at h
        · rename_i n hm
          cases hs : solid z with
          | false => rw [hs] at h; exact h.elim
          | true =>
            rw [hs] at h
            obtain ⟨cs, h1, h2⟩ := onO_ok h
            obtain ⟨vs, h3, h4⟩ := sFill_ok h1 (RelV.cells hs e2) hp
            exact ⟨.a cs, .a vs, by simp only [e1, hm, h3], ⟨vs, rfl, h4⟩, h2⟩
        · exact h.elim
end

section
variable {S : Sg} {Y : Sy S} {P : Program} {D : DD S} {E : En} {fr : T (U S)} {frV : T V}

theorem sField_ok {t : TypeId} {x : U S} {v : V} {f : Nat} {k : U S → Prop} (h : sField P t x f k) (hx : RelV Y D E x v) : ∃ u w, vfield P t v f = some w ∧ RelV Y D E u w ∧ k u := by
  unfold sField at h
  split at h
  · rename_i fs cs hu
    simp only [RelV] at hx
    obtain ⟨vs, rfl, hx⟩ := hx
    split at h
    · rename_i fd hfd
      obtain ⟨u, h1, h2⟩ := onO_ok h
      obtain ⟨w, h3, h4⟩ := sPart_ok h1 hx
      exact ⟨u, w, by unfold vfield; simp only [hu, hfd]; exact h3, h4, h2⟩
    · exact h.elim
  · exact h.elim

theorem bnd {i : Int} {n : Nat} (h : 0 ≤ i ∧ i < (n : Int)) : (ile 0 i && ilt i n) = true := by simp [ile, ilt]; omega
theorem toNat_lt {i : Int} {n : Nat} (h : 0 ≤ i ∧ i < (n : Int)) : i.toNat < n := by omega

theorem sIndex_ok {t : TypeId} {x : U S} {v : V} {i : Int} {k : U S → Prop} (h : sIndex P t x i k) (hx : RelV Y D E x v) : ∃ u w, vindex P t v i = some w ∧ RelV Y D E u w ∧ k u := by
  unfold sIndex at h
  split at h
  · rename_i l hu
    simp only [RelV] at hx
    subst hx
    refine ⟨_, .i .u8 (.ofNat (byteAt (packL l) i.toNat)), by unfold vindex V.str; simp only [hu, bnd h.1, cond_true], ?_, h.2⟩
    simp only [RelV]
    rw [byteAt_packL l i.toNat (toNat_lt h.1)]
    rfl
  · rename_i len e cs hu
    simp only [RelV] at hx
    obtain ⟨vs, rfl, hx⟩ := hx
    split at h
    · rename_i n hn
      obtain ⟨u, h1, h2⟩ := onO_ok h.2
      obtain ⟨w, h3, h4⟩ := sPart_ok h1 hx
      exact ⟨u, w, by unfold vindex; simp only [hu, hn, bnd h.1, cond_true]; exact h3, h4, h2⟩
    · exact h.elim
  · exact h.elim

theorem sOpt_ok {o : Option Operand} {k : Option Int → Prop} (h : sOpt fr o k) (hf : RelF Y D E fr frV) : ∃ (x : Option Int) (w : Option V), k x ∧ ((o = none ∧ x = none ∧ w = none) ∨ ∃ q kd n, o = some q ∧ opnd frV q = some (.i kd n) ∧ x = some n ∧ w = some (.i kd n)) := by
  unfold sOpt at h
  split at h
  · exact ⟨none, none, h, .inl ⟨rfl, rfl, rfl⟩⟩
  · rename_i q
    obtain ⟨u, v, h1, h2, h3⟩ := sOpd_ok h hf
    split at h3
    · rename_i kd n
      simp only [RelV] at h2
      subst h2
      exact ⟨some n, some (.i kd n), h3, .inr ⟨q, kd, n, rfl, h1, rfl, rfl⟩⟩
    · exact h3.elim

theorem vboundI {kd : IntKind} {n : Int} {y : Nat} (h : 0 ≤ n ∧ n ≤ (y : Int)) : vbound (.i kd n) y = some n.toNat := by
  have : (ile 0 n && ile n y) = true := by simp [ile]; omega
  simp only [vbound, this, cond_true, natF_eq]

theorem sSlice_ok {t : TypeId} {x : U S} {v : V} {lo hi : Option Int} {lw hw : Option V} {k : U S → Prop} (h : sSlice P t x lo hi k) (hx : RelV Y D E x v) (hl : (lo = none ∧ lw = none) ∨ ∃ kd n, lo = some n ∧ lw = some (.i kd n)) (hh : (hi = none ∧ hw = none) ∨ ∃ kd n, hi = some n ∧ hw = some (.i kd n)) :
    ∃ u w, vslice P t v lw hw none = some w ∧ RelV Y D E u w ∧ k u := by
  unfold sSlice at h
  split at h
  · rename_i l a hu
    simp only [RelV] at hx
    subst hx
    obtain ⟨e, _⟩ | ⟨kd, n, e, rfl⟩ := hl
    · cases e
    cases e
    obtain ⟨_, rfl⟩ | ⟨_, _, e, _⟩ := hh
    · have e3 := str_cut l a.toNat l.length (by omega) (Nat.le_refl _)
      rw [List.take_of_length_le (by simp)] at e3
      exact ⟨.s (l.drop a.toNat), V.str (l.drop a.toNat), by unfold vslice V.str; simp only [hu, vbounds, vboundO, vboundI h.1]; exact congrArg some e3, rfl, h.2⟩
    · cases e
  · rename_i l b hu
    simp only [RelV] at hx
    subst hx
    obtain ⟨_, rfl⟩ | ⟨_, _, e, _⟩ := hl
    · obtain ⟨e, _⟩ | ⟨kd, n, e, rfl⟩ := hh
      · cases e
      cases e
      have e3 := str_cut l 0 b.toNat (Nat.zero_le _) (by omega)
      simp only [List.drop_zero, Nat.sub_zero] at e3
      exact ⟨.s (l.take b.toNat), V.str (l.take b.toNat), by unfold vslice V.str; simp only [hu, vbounds, vboundO, vboundI h.1]; exact congrArg some e3, rfl, h.2⟩
    · cases e
  · rename_i l a b hu
    simp only [RelV] at hx
    subst hx
    obtain ⟨e, _⟩ | ⟨kd, n, e, rfl⟩ := hl
    · cases e
    cases e
    obtain ⟨e, _⟩ | ⟨kd', n', e, rfl⟩ := hh
    · cases e
    cases e
    obtain ⟨⟨h1, h2, h3⟩, hk⟩ := h
    have e3 := str_cut l a.toNat b.toNat (by omega) (by omega)
    have b1 : vbound (.i kd a) b.toNat = some a.toNat := vboundI ⟨h1, by omega⟩
    exact ⟨.s _, V.str ((l.drop a.toNat).take (b.toNat - a.toNat)), by unfold vslice V.str; simp only [hu, vbounds, vboundO, vboundI (kd := kd') (n := b) (y := l.length) ⟨by omega, h3⟩, b1]; exact congrArg some e3, rfl, hk⟩
  · rename_i l hu
    simp only [RelV] at hx
    subst hx
    obtain ⟨_, rfl⟩ | ⟨_, _, e, _⟩ := hl
    · obtain ⟨_, rfl⟩ | ⟨_, _, e, _⟩ := hh
      · have e3 := str_cut l 0 l.length (Nat.zero_le _) (Nat.le_refl _)
        simp only [List.drop_zero, Nat.sub_zero, List.take_length] at e3
        exact ⟨.s l, V.str l, by unfold vslice V.str; simp only [hu, vbounds, vboundO]; exact congrArg some e3, rfl, h⟩
      · cases e
    · cases e
  · exact h.elim

theorem sMinL_ok {mn : Bool} : ∀ {l : List (U S)} {vs : List V} {x : U S} {v : V} {k : U S → Prop}, sMinL mn x l k → RelV Y D E x v → RelL Y D E l vs → ∃ u w, vminL mn v vs = some w ∧ RelV Y D E u w ∧ k u
  | [], vs, x, v, k, h, hx, hl => by simp only [RelL] at hl; subst hl; exact ⟨x, v, rfl, hx, h⟩
  | y :: r, vs, x, v, k, h, hx, hl => by
    simp only [RelL] at hl
    obtain ⟨w, ws, rfl, h2, h3⟩ := hl
    simp only [sMinL, sMin2] at h
    split at h
    · rename_i kd a kd' b
      simp only [RelV] at hx h2
      subst hx h2
      obtain ⟨u, z, q1, q2, q3⟩ := sMinL_ok h (v := .i kd (cond mn (if b < a then b else a) (if a < b then b else a))) rfl h3
      refine ⟨u, z, ?_, q2, q3⟩
      simp only [vminL, vmin2]
      rw [show (cond mn (cond (ilt b a) b a) (cond (ilt a b) b a)) = cond mn (if b < a then b else a) (if a < b then b else a) from by
        have e1 : (cond (ilt b a) b a) = if b < a then b else a := by by_cases q : b < a <;> simp [ilt, q]
        have e2 : (cond (ilt a b) b a) = if a < b then b else a := by by_cases q : a < b <;> simp [ilt, q]
        rw [e1, e2]]
      exact q1
    · exact h.elim
end
end Go.Sx
namespace Go.Sx
open Go.Vm

def killCt {S : Sg} (ks : List Nat) : Ct S → Ct S
  | .cells us => .cells (kills ks us)
  | .buf c xs => .buf c xs
  | .row c xs => .row c xs

section
variable {S : Sg} {Y : Sy S} {G : Gl} {ro : Nat} {o0 : Nat → Prop}

/-- What is named keeps, where its block and its name do. -/
theorem Ent.keep {E E' : En} {m m' : T (Ct S)} {st st' : St} {ks wr : List Nat} (hs : Step o0 E m st E' m' st' ks wr) {r : Nat} {ct : Ct S} (h : Ent Y ro (Dat Y (ownOf o0 E m) st) (DatA Y (ownOf o0 E m) st) E st r ct)
    (hE : E'[r]? = E[r]?) (hb : ∀ id h, E[r]? = some (some id, h) → id < st.nx → st'.hp.get id = st.hp.get id) : Ent Y ro (Dat Y (ownOf o0 E' m') st') (DatA Y (ownOf o0 E' m') st') E' st' r (killCt ks ct) := by
  cases ct with
  | cells us =>
    obtain ⟨id, x, b, vs, h1, h2, h3, h4, h5, h6, h7⟩ := h
    have hl : (kills ks us).length = us.length := by
      clear h6 h7 h5
      induction us with
      | nil => rfl
      | cons u us ih => simp [kills, ih]
    exact ⟨id, x, b, vs, hE.trans h1, h2, Nat.lt_of_lt_of_le h3 hs.nx, (hb id x h1 h3).trans h4, by rw [hl]; exact h5, hs.relsK h6, by rw [hl]; exact h7⟩
  | buf c xs =>
    rcases h with ⟨v0, h1, h2, h2'⟩ | ⟨id, cap, op, b, h1, h2, h3, h4, h5, h6, h7, h8, vs, h9, h10⟩
    · exact .inl ⟨v0, hE.trans h1, h2, h2'⟩
    · refine .inr ⟨id, cap, op, b, hE.trans h1, h2, Nat.lt_of_lt_of_le h3 hs.nx, (hb id _ h1 h3).trans h4, h5, h6, h7, h8, vs, h9, fun i x hx j u v hu hv => ?_⟩
      exact hs.datA (h10 i x hx j u v hu hv)
  | row c xs =>
    obtain ⟨id, b, h1, h2, h3, h4, h5, vs, h9, h10⟩ := h
    exact ⟨id, b, hE.trans h1, h2, Nat.lt_of_lt_of_le h3 hs.nx, (hb id _ h1 h3).trans h4, h5, vs, h9, fun i x hx j u v hu hv => hs.datA (h10 i x hx j u v hu hv)⟩

theorem glob_keep {E E' : En} {m m' : T (Ct S)} {st st' : St} {ks wr : List Nat} {nx : Nat} (h : Inv Y G o0 ro E nx m st) (hs : Step o0 E m st E' m' st' ks wr) :
    ∀ g k l, G g = some (k, l) → g < ro ∧ ∃ b, st'.hp.get g = some b ∧ ∀ j, j < l.length → b.get j = some (.i k (l.getD j 0)) := by
  intro g k l hg
  obtain ⟨h1, b, h2, h3⟩ := h.glob g k l hg
  refine ⟨h1, b, ?_, h3⟩
  rw [hs.keep g (Nat.lt_of_lt_of_le h1 h.ro) fun q => ?_, h2]
  obtain ⟨r', ct, x', e1, e2⟩ := q
  have he := h.ent r' ct e1
  cases ct with
  | cells us =>
    obtain ⟨id, y, b, vs, q1, q2, _⟩ := he
    rw [e2] at q1
    cases q1
    omega
  | buf c xs =>
    rcases he with ⟨_, q1, _⟩ | ⟨id, cap, op, b, q1, q2, _⟩
    · rw [e2] at q1; cases q1
    · rw [e2] at q1
      cases q1
      omega
  | row c xs =>
    obtain ⟨id, b, q1, q2, _⟩ := he
    rw [e2] at q1
    cases q1
    omega

/-! ### A new one -/

theorem push_get {E : En} {x : Option Nat × V} {r : Nat} (h : r < E.length) : (E ++ [x])[r]? = E[r]? := List.getElem?_append_left h
theorem push_self {E : En} {x : Option Nat × V} : (E ++ [x])[E.length]? = some x := by simp

theorem step_push {E : En} {nx : Nat} {m : T (Ct S)} {st st' : St} (h : Inv Y G o0 ro E nx m st) (x : Option Nat) (hd : V) (ct : Ct S) (hx : ∀ id, x = some id → st.nx ≤ id) (hn : st.nx ≤ st'.nx) (hk : ∀ id, id < st.nx → st'.hp.get id = st.hp.get id) (hv : st'.ver = st.ver) :
    Step o0 E m st (E ++ [(x, hd)]) (m.upd nx (some ct)) st' [] [] := by
  refine ⟨by simp, fun r hr _ => push_get hr, hn, fun id hid _ => hk id hid, ?_, fun j h1 h2 _ => by rw [hv]; exact h2⟩
  rintro id ⟨r, c, y, e1, e2⟩
  rw [T.get_upd] at e1
  by_cases e : r = nx
  · subst e
    rw [← h.len, push_self] at e2
    cases e2
    exact .inr (hx id rfl)
  · rw [if_neg e] at e1
    have hr := h.lt r c e1
    rw [push_get (by rw [h.len]; exact hr)] at e2
    exact .inl ⟨r, c, y, e1, e2⟩

theorem kills_nil_id : ∀ us : List (U S), kills [] us = us ∧ ∀ u : U S, kill [] u = u := by
  have key : (∀ u : U S, kill [] u = u) := by
    intro u
    refine U.rec (motive_1 := fun u => kill [] u = u) (motive_2 := fun us => kills [] us = us) ?_ ?_ ?_ ?_ ?_ ?_ ?_ ?_ ?_ ?_ ?_ ?_ ?_ ?_ ?_ ?_ ?_ ?_ ?_ ?_ ?_ ?_ ?_ ?_ u <;> intros <;> simp_all [kill, kills, mem]
  intro us
  refine ⟨?_, key⟩
  induction us with
  | nil => rfl
  | cons u us ih => simp [kills, key, ih]
theorem killCt_nil (ct : Ct S) : killCt [] ct = ct := by cases ct <;> simp [killCt, (kills_nil_id _).1]

theorem inv_push {E : En} {nx : Nat} {m : T (Ct S)} {st st' : St} (h : Inv Y G o0 ro E nx m st) (x : Option Nat) (hd : V) (ct : Ct S) (hs : Step o0 E m st (E ++ [(x, hd)]) (m.upd nx (some ct)) st' [] []) (hx : ∀ id, x = some id → st.nx ≤ id)
    (hk : ∀ id, id < st.nx → st'.hp.get id = st.hp.get id)
    (hent : Ent Y ro (Dat Y (ownOf o0 (E ++ [(x, hd)]) (m.upd nx (some ct))) st') (DatA Y (ownOf o0 (E ++ [(x, hd)]) (m.upd nx (some ct))) st') (E ++ [(x, hd)]) st' nx ct) : Inv Y G o0 ro (E ++ [(x, hd)]) (nx + 1) (m.upd nx (some ct)) st' := by
  refine ⟨by simp [h.len], Nat.le_trans h.ro hs.nx, ?_, ?_, fun id ho => ⟨(h.out id ho).1, Nat.lt_of_lt_of_le (h.out id ho).2 hs.nx⟩, glob_keep h hs, ?_, fun id hn ho => (hs.nam id hn).elim (fun q => h.dis id q ho) (fun q => absurd (h.out id ho).2 (Nat.not_lt.2 q))⟩
  · intro r c e
    rw [T.get_upd] at e
    by_cases q : r = nx
    · omega
    · rw [if_neg q] at e; exact Nat.lt_succ_of_lt (h.lt r c e)
  · intro r c e
    rw [T.get_upd] at e
    by_cases q : r = nx
    · subst q; rw [if_pos rfl] at e; cases e; exact hent
    · rw [if_neg q] at e
      have := Ent.keep hs (h.ent r c e) (push_get (by rw [h.len]; exact h.lt r c e)) (fun id _ _ hid => hk id hid)
      rwa [killCt_nil] at this
  · intro r r' c c' id y y' e1 e2 e3 e4
    have old : ∀ r c y, r ≠ nx → (m.upd nx (some ct)).get r = some c → (E ++ [(x, hd)])[r]? = some (some id, y) → m.get r = some c ∧ E[r]? = some (some id, y) ∧ id < st.nx := by
      intro r c y q e1 e3
      rw [T.get_upd, if_neg q] at e1
      rw [push_get (by rw [h.len]; exact h.lt r c e1)] at e3
      refine ⟨e1, e3, ?_⟩
      have he := h.ent r c e1
      cases c with
      | cells us => obtain ⟨id', _, b, vs, q1, q2, q3, _⟩ := he; rw [e3] at q1; cases q1; exact q3
      | buf k xs =>
        rcases he with ⟨_, q1, _⟩ | ⟨id', cap, op, b, q1, q2, q3, _⟩
        · rw [e3] at q1; cases q1
        · rw [e3] at q1; cases q1; exact q3
      | row k xs => obtain ⟨id', b, q1, q2, q3, _⟩ := he; rw [e3] at q1; cases q1; exact q3
    have new : ∀ r y, r = nx → (E ++ [(x, hd)])[r]? = some (some id, y) → st.nx ≤ id := by
      intro r y q e3
      subst q
      rw [← h.len, push_self] at e3
      cases e3
      exact hx id rfl
    by_cases q : r = nx
    · by_cases q' : r' = nx
      · omega
      · have := new r y q e3; have := (old r' c' y' q' e2 e4).2.2; omega
    · by_cases q' : r' = nx
      · have := new r' y' q' e4; have := (old r c y q e1 e3).2.2; omega
      · obtain ⟨a1, a2, _⟩ := old r c y q e1 e3
        obtain ⟨b1, b2, _⟩ := old r' c' y' q' e2 e4
        exact h.inj r r' c c' id y y' a1 b1 a2 b2

/-! ### One that is there is made anew, or written -/

theorem ent_id {E : En} {nx : Nat} {m : T (Ct S)} {st : St} (h : Inv Y G o0 ro E nx m st) {r : Nat} {c : Ct S} {id : Nat} {x : V} (e1 : m.get r = some c) (e2 : E[r]? = some (some id, x)) : ro ≤ id ∧ id < st.nx := by
  have he := h.ent r c e1
  cases c with
  | cells us => obtain ⟨id', _, b, vs, q1, q2, q3, _⟩ := he; rw [e2] at q1; cases q1; exact ⟨q2, q3⟩
  | buf k xs =>
    rcases he with ⟨_, q1, _⟩ | ⟨id', cap, op, b, q1, q2, q3, _⟩
    · rw [e2] at q1; cases q1
    · rw [e2] at q1; cases q1; exact ⟨q2, q3⟩
  | row k xs => obtain ⟨id', b, q1, q2, q3, _⟩ := he; rw [e2] at q1; cases q1; exact ⟨q2, q3⟩

/-- A name gets a new block, or its block is written: all other names keep theirs. -/
theorem step_re {E : En} {nx : Nat} {m m0 : T (Ct S)} {st st' : St} (h : Inv Y G o0 ro E nx m st) {r : Nat} {ct0 : Ct S} (ct : Ct S) (hr : m.get r = some ct0) (ks : List Nat) (hks : ks = [r] ∨ ks = []) (x : Option Nat) (hd : V) (hx : ∀ id, x = some id → (∃ y, E[r]? = some (some id, y)) ∨ st.nx ≤ id) (hsame : ks = [] → E.set r (x, hd) = E)
    (hm0 : ∀ k c, m0.get k = some c → ∃ c', m.get k = some c') (hn : st.nx ≤ st'.nx) (hk : ∀ id, id < st.nx → (∀ y, E[r]? ≠ some (some id, y)) → st'.hp.get id = st.hp.get id) (hv : ∀ j, j ≤ st.nx → j ≤ st.ver → (∀ id y, E[r]? = some (some id, y) → j ≤ id) → j ≤ st'.ver) :
    Step o0 E m st (E.set r (x, hd)) (m0.upd r (some ct)) st' ks [r] := by
  have hrl : r < E.length := by rw [h.len]; exact h.lt r _ hr
  have m2 : mem [r] r = true := by simp [mem]
  have back : ∀ (k id : Nat) y, (E.set r (x, hd))[k]? = some (some id, y) → (∃ y', E[k]? = some (some id, y')) ∨ st.nx ≤ id := by
    intro k id y e
    by_cases q : k = r
    · subst q
      rw [List.getElem?_set_self hrl] at e
      cases e
      exact hx id rfl
    · rw [List.getElem?_set_ne (Ne.symm q)] at e; exact .inl ⟨y, e⟩
  refine ⟨by simp, ?_, hn, ?_, ?_, ?_⟩
  · intro k hkl hm
    by_cases q : k = r
    · rcases hks with rfl | rfl
      · subst q; rw [m2] at hm; cases hm
      · rw [hsame rfl]
    · rw [List.getElem?_set_ne (Ne.symm q)]
  · exact fun id hid hw => hk id hid fun y e => hw ⟨r, ct0, y, hr, e⟩
  · rintro id ⟨k, c, y, e1, e2⟩
    rcases back k id y e2 with ⟨y', q⟩ | q
    · left
      by_cases z : k = r
      · subst z; exact ⟨k, ct0, y', hr, q⟩
      · rw [T.get_upd, if_neg z] at e1
        obtain ⟨c', e3⟩ := hm0 k c e1
        exact ⟨k, c', y', e3, q⟩
    · exact .inr q
  · exact fun j h1 h2 hw => hw.elim (fun q => by cases q) fun hw => hv j h1 h2 fun id y e => hw id ⟨r, ct0, y, hr, e⟩

theorem inv_re {E : En} {nx : Nat} {m : T (Ct S)} {st st' : St} (h : Inv Y G o0 ro E nx m st) {r : Nat} {ct0 : Ct S} (ct : Ct S) (hr : m.get r = some ct0) (ks : List Nat) (x : Option Nat) (hd : V) (hx : ∀ id, x = some id → (∃ y, E[r]? = some (some id, y)) ∨ st.nx ≤ id)
    (hs : Step o0 E m st (E.set r (x, hd)) ((Tmap (killCt ks) m).upd r (some ct)) st' ks [r])
    (hk : ∀ id, id < st.nx → (∀ y, E[r]? ≠ some (some id, y)) → st'.hp.get id = st.hp.get id)
    (hent : Ent Y ro (Dat Y (ownOf o0 (E.set r (x, hd)) ((Tmap (killCt ks) m).upd r (some ct))) st') (DatA Y (ownOf o0 (E.set r (x, hd)) ((Tmap (killCt ks) m).upd r (some ct))) st') (E.set r (x, hd)) st' r ct) :
    Inv Y G o0 ro (E.set r (x, hd)) nx ((Tmap (killCt ks) m).upd r (some ct)) st' := by
  have hrl : r < E.length := by rw [h.len]; exact h.lt r _ hr
  have old : ∀ k c, k ≠ r → ((Tmap (killCt ks) m).upd r (some ct)).get k = some c → ∃ c0, m.get k = some c0 ∧ c = killCt ks c0 := by
    intro k c q e
    rw [T.get_upd, if_neg q, Tmap_get] at e
    cases z : m.get k with
    | none => rw [z] at e; cases e
    | some c0 => rw [z] at e; cases e; exact ⟨c0, rfl, rfl⟩
  have oldE : ∀ k, k ≠ r → (E.set r (x, hd))[k]? = E[k]? := fun k q => List.getElem?_set_ne (Ne.symm q)
  refine ⟨by simp [h.len], Nat.le_trans h.ro hs.nx, ?_, ?_, fun id ho => ⟨(h.out id ho).1, Nat.lt_of_lt_of_le (h.out id ho).2 hs.nx⟩, glob_keep h hs, ?_, fun id hn ho => (hs.nam id hn).elim (fun q => h.dis id q ho) (fun q => absurd (h.out id ho).2 (Nat.not_lt.2 q))⟩
  · intro k c e
    by_cases q : k = r
    · subst q; exact h.lt k _ hr
    · obtain ⟨c0, e0, _⟩ := old k c q e; exact h.lt k c0 e0
  · intro k c e
    by_cases q : k = r
    · subst q; rw [T.get_upd, if_pos rfl] at e; cases e; exact hent
    · obtain ⟨c0, e0, rfl⟩ := old k c q e
      refine Ent.keep hs (h.ent k c0 e0) (oldE k q) (fun id y e1 hid => hk id hid fun y' e2 => ?_)
      exact q (h.inj k r c0 ct0 id y y' e0 hr e1 e2)
  · intro k k' c c' id y y' e1 e2 e3 e4
    by_cases q : k = r
    · by_cases q' : k' = r
      · omega
      · exfalso
        subst q
        rw [List.getElem?_set_self hrl] at e3
        cases e3
        rw [oldE k' q'] at e4
        obtain ⟨c0, e0, _⟩ := old k' c' q' e2
        rcases hx id rfl with ⟨z, hz⟩ | hz
        · exact q' (h.inj k' k c0 ct0 id y' z e0 hr e4 hz)
        · have := (ent_id h e0 e4).2; omega
    · by_cases q' : k' = r
      · exfalso
        subst q'
        rw [List.getElem?_set_self hrl] at e4
        cases e4
        rw [oldE k q] at e3
        obtain ⟨c0, e0, _⟩ := old k c q e1
        rcases hx id rfl with ⟨z, hz⟩ | hz
        · exact q (h.inj k k' c0 ct0 id y z e0 hr e3 hz)
        · have := (ent_id h e0 e3).2; omega
      · obtain ⟨c0, a0, _⟩ := old k c q e1
        obtain ⟨c1, b0, _⟩ := old k' c' q' e2
        rw [oldE k q] at e3
        rw [oldE k' q'] at e4
        exact h.inj k k' c0 c1 id y y' a0 b0 e3 e4
end
end Go.Sx
