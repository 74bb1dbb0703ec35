/-
  x.F = append(x.F, v): either way comes to the same. Nothing is claimed here.
-/
import Derived.Test.YtnfddmjbfkfnhaaGreatDoorVf2
import Derived.Test.YtnfddmjbfkfnhaaGreatDoorVc
namespace Go.Vm
open Go.RowKit

section
variable {P : Program} {ro : Nat} {B : World} {nt : Nat} {call : CallF}

theorem flagOf_spec {a b : Code} {F : FlagI} (h : flagOf P nt a b = some F) : ∃ id1 ops1 iA iE iB lA' lB', a = .region id1 ops1 true ∧ b = .cond (.tmp F.f) (.seq (.region iA F.opsA true) (.region iE F.opsE false)) (.region iB F.opsB true) ∧
    flagR P nt ops1 = some (F.p, F.f) ∧ planOf P F.opsA = some lA' ∧ lA' = F.lA ∧ planOf P F.opsB = some lB' ∧ lB' = F.lB ∧ elemOf F.opsE = some F.eI ∧ tailOf F.lA = some F.tA ∧ tailOf F.lB = some F.tB ∧ F.tA.tl = F.tB.tl ∧ F.tA.t = F.tB.t ∧ F.eI.tl = F.tA.tl ∧ F.eI.r = F.tA.r ∧
    F.dead = F.p :: F.f :: ((F.lA.filterMap fun x => x.2.dst) ++ dstsOf F.opsE ++ F.lB.filterMap fun x => x.2.dst) := by
  unfold flagOf at h
  split at h
  · rename_i id1 ops1 f iA opsA iE opsE iB opsB
    split at h
    · rename_i p f' lA lB eI h1 h2 h3 h4
      split at h
      · rename_i tA tB h5 h6
        cases hc : (Nat.beq f f' && decide (tA.tl = tB.tl) && decide (tA.t = tB.t) && decide (eI.tl = tA.tl) && Nat.beq eI.r tA.r) with
        | false => simp [hc] at h
        | true =>
          simp only [hc, cond_true, Option.some.injEq] at h
          subst h
          simp only [Bool.and_eq_true, Nat.beq_eq, decide_eq_true_eq] at hc
          obtain ⟨⟨⟨⟨rfl, c1⟩, c2⟩, c3⟩, c4⟩ := hc
          exact ⟨id1, ops1, iA, iE, iB, lA, lB, rfl, rfl, h1, h2, rfl, h3, rfl, h4, h5, h6, c1, c2, c3, c4, rfl⟩
      · cases h
    · cases h
  · cases h

/-- x.F = append(x.F, v). -/
theorem flag_sound (hcall : CallOK P ro B call) (hname : ∀ (f : Nat) (fn : Func), P.funcs[f]? = some fn → (fn.name == "runtime.NumGoroutine") = false) (hmix : P.follows .mixedOrders = true) {Q : Exit → Act → World → Prop} (hQp : ∀ c a w, ¬ Q (.panic c) a w)
    {x y : Code} {F : FlagI} {fr : T V} {st st' : St} {J : Inj} {w : World} {a : Act} (h1 : flagOf P nt x y = some F) (h2 : flagSt P ro nt call F (eraseL [F.p, F.f] fr) ⟨st.nx + 1, st.hp, st.ver⟩ = some st')
    (hn : J.nx = st.nx) (hh : HR J ro B st.hp.get w) (hro : ro ≤ J.nx) (hf : FR J nt fr a.tmps) (hd : a.defers = [])
    (hQ : ∀ J' a' w', Post J ro B st w J' st' w' → FR J' nt (eraseL F.dead fr) a'.tmps → a'.defers = [] → Q .normal a' w') : (Code.seq x y).wp P Q a w := by
  obtain ⟨id1, ops1, iA, iE, iB, lA', lB', rfl, rfl, hfl, hpA, rfl, hpB, rfl, hE, tA, tB, c1, c2, c3, c4, hdead⟩ := flagOf_spec h1
  unfold flagSt at h2
  cases rA : runO P ro nt call F.opsA F.lA [] (eraseL [F.p, F.f] fr) ⟨st.nx + 1, st.hp, st.ver⟩ with
  | none => simp [rA] at h2
  | some qA =>
    obtain ⟨frA, stA⟩ := qA
    cases rB : runO P ro nt call F.opsB F.lB [] (eraseL [F.p, F.f] fr) ⟨st.nx + 1, st.hp, st.ver⟩ with
    | none => simp [rA, rB] at h2
    | some qB =>
      obtain ⟨frB, stB⟩ := qB
      simp only [rA, rB] at h2
      cases rE : vops P ro nt call F.opsE F.opsE.toList frA stA with
      | none => simp [rE] at h2
      | some qE =>
        obtain ⟨frE, stE⟩ := qE
        simp only [rE] at h2
        cases hk : (flagChk P ro nt call F (eraseL [F.p, F.f] fr) ⟨st.nx + 1, st.hp, st.ver⟩ frA frB && Nat.beq stE.nx stB.nx) with
        | false => simp [hk] at h2
        | true =>
          simp only [hk, cond_true, Option.some.injEq] at h2
          subst h2
          simp only [Bool.and_eq_true, Nat.beq_eq] at hk
          obtain ⟨gr, hg1, hg2, hrel⟩ := flag_rel tA tB hE c1 c2 c3 c4 rA rB rE hk.1
          dsimp only at hg1 hrel
          have hget : ∀ k, ((stB.hp.upd (st.nx + 1) none)).get k = if k = st.nx + 1 then none else stB.hp.get k := fun k => by rw [T.get_upd]
          have less : ∀ {t v}, (eraseL F.dead fr).get t = some v → t ∉ F.dead ∧ (eraseL [F.p, F.f] fr).get t = some v := by
            intro t v ht
            rw [eraseL_get] at ht
            split at ht
            · cases ht
            · rename_i hm
              refine ⟨hm, ?_⟩
              rw [eraseL_get, if_neg]
              · exact ht
              · intro z
                apply hm
                rw [hdead]
                simp only [List.mem_cons, List.not_mem_nil, or_false] at z
                rcases z with rfl | rfl <;> simp
          refine wp_seq (flagR_sound hcall hname hmix hfl hn hh hro hf hd fun b J1 a1 w1 hp1 hf1 hd1 hev => ?_)
          have hx0 : ∀ s2 : St, Ext ⟨st.nx + 1, st.hp, st.ver⟩ s2 → Ext st s2 := fun s2 e => ⟨Nat.le_trans (Nat.le_succ _) e.nx, e.ver, e.hp⟩
          cases b with
          | false =>
            refine wp_cond_false hev (planOf_sound hcall hname hmix hQp hpB rB hp1.nx hp1.hr hp1.ro hf1 hd1 fun J2 a2 w2 hp2 hf2 hd2 => ?_)
            have hpo := hp1.trans hp2
            refine hQ J2 a2 w2 (hpo.be rfl ⟨hpo.ext.nx, ?_, fun g c hg hlt => ?_⟩ fun g c hg => ⟨c, ?_, BE.refl c⟩) (hf2.less fun t v ht => ?_) hd2
            · show low (low stB.ver stE.ver) (st.nx + 1) ≤ st.ver
              have := hpo.ext.ver
              rw [low_min, low_min]; omega
            · have hlt : g < low (low stB.ver stE.ver) (st.nx + 1) := hlt
              rw [low_min, low_min] at hlt
              show (stB.hp.upd (st.nx + 1) none).get g = some c
              rw [hget, if_neg (by omega)]
              exact hpo.ext.hp g c hg (by omega)
            · have hg : (stB.hp.upd (st.nx + 1) none).get g = some c := hg
              rw [hget] at hg
              split at hg
              · cases hg
              · exact hg
            · obtain ⟨z1, z2⟩ := less ht
              rw [← z2]
              refine runO_get rB fun y hy hyd => z1 ?_
              rw [hdead]
              simp only [List.mem_cons, List.mem_append, List.mem_filterMap]
              exact .inr (.inr (.inr ⟨y, hy, hyd⟩))
          | true =>
            refine wp_cond_true hev (wp_seq (planOf_sound (Q := fun e a w => _) hcall hname hmix ?_ hpA rA hp1.nx hp1.hr hp1.ro hf1 hd1 fun J2 a2 w2 hp2 hf2 hd2 => ?_))
            · intro c a w q
              exact hQp c a w q
            have hpo := hp1.trans hp2
            refine wp_region ?_
            have hfin := vops_sound (P := P) (ro := ro) (B := B) (Q := Q) hcall hname F.opsE.toList 0 frA frE stA stE J2 w2 a2 (by simp) rE hp2.nx hp2.hr hp2.ro hf2 hd2 (fun J3 a3 w3 hp3 hf3 hd3 => ?_)
            · rw [Array.length_toList, ← List.range_eq_range'] at hfin
              exact hfin
            have hpo3 := hpo.trans hp3
            refine hQ J3 a3 w3 (hpo3.be hk.2.symm ⟨?_, ?_, fun g c hg hlt => ?_⟩ fun g c hg => ?_) (hf3.less fun t v ht => ?_) hd3
            · show st.nx ≤ stB.nx
              have := hpo3.ext.nx
              omega
            · show low (low stB.ver stE.ver) (st.nx + 1) ≤ st.ver
              have := hpo3.ext.ver
              rw [low_min, low_min]; omega
            · have hlt : g < low (low stB.ver stE.ver) (st.nx + 1) := hlt
              rw [low_min, low_min] at hlt
              show (stB.hp.upd (st.nx + 1) none).get g = some c
              rw [hget, if_neg (by omega), ← (hrel g (by omega)).1 (by omega)]
              exact hpo3.ext.hp g c hg (by omega)
            · have hg : (stB.hp.upd (st.nx + 1) none).get g = some c := hg
              rw [hget] at hg
              split at hg
              · cases hg
              · rename_i hne
                exact (hrel g hne).2 c hg
            · obtain ⟨z1, z2⟩ := less ht
              rw [← z2, vops_get rE fun y hy hyd => z1 ?_]
              · refine runO_get rA fun y hy hyd => z1 ?_
                rw [hdead]
                simp only [List.mem_cons, List.mem_append, List.mem_filterMap]
                exact .inr (.inr (.inl (.inl ⟨y, hy, hyd⟩)))
              · rw [hdead]
                simp only [List.mem_cons, List.mem_append, dstsOf, List.mem_filterMap]
                exact .inr (.inr (.inl (.inr ⟨y, hy, hyd⟩)))
end
end Go.Vm
