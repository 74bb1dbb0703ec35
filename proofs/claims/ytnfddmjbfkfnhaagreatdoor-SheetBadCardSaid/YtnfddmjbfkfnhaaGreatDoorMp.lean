/-
  What the evaluator does with maps, held against the model's: plain lemmas. Nothing is claimed here.
-/
import Derived.Test.YtnfddmjbfkfnhaaGreatDoorVy
import Derived.WideKeyRuns
import Derived.MapKept
set_option linter.unusedVariables false
set_option linter.unusedSimpArgs false
namespace Go.Vm
open Go.RowKit

section
variable {P : Program} {J : Inj} {ro : Nat} {B : World} {st : St} {w : World}

/-- Two places of blocks of one's own. -/
theorem same_other (hh : HR J ro B st.hp.get w) {g g' o o' : Nat} {b b' : Blk} (h1 : st.hp.get g = some b) (h2 : st.hp.get g' = some b') (hne : g ≠ g') (m1 : b.mp = none) (m2 : b'.mp = none) (r1 : ro ≤ g) (r2 : ro ≤ g') (l1 : o < b.sz) (l2 : o' < b'.sz) (hf : b.full = true ∨ b'.full = true) :
    (sameAddr ⟨(J.m g).1, (J.m g).2.1 + o, none⟩ ⟨(J.m g').1, (J.m g').2.1 + o', none⟩).run P w = .ok false w := by
  have hbl : (J.m g).1 ≠ (J.m g').1 := fun e => hne (hh.inj g g' b b' h1 h2 e)
  obtain ⟨_, c, e, fz, a1, a2, a3, a4, a5⟩ := (hh.blk g b h1).cells m1
  obtain ⟨_, c', e', fz', b1, b2, b3, b4, b5⟩ := (hh.blk g' b' h2).cells m2
  have fa := (a4 r1).2 ((J.m g).2.1 + o) (by omega)
  have fb := (b4 r2).2 ((J.m g').2.1 + o') (by omega)
  have hz1 : c.size ≠ 0 := by omega
  have hz2 : c'.size ≠ 0 := by omega
  have ends : (decide (fz.1 ≤ c.size) && decide (c.size < fz.2)) = false ∨ (decide (fz'.1 ≤ c'.size) && decide (c'.size < fz'.2)) = false := by
    rcases hf with q | q
    · exact .inl ((a4 r1).2 c.size (by rw [q]; simp)).1
    · exact .inr ((b4 r2).2 c'.size (by rw [q]; simp)).1
  have nz1 : ∀ n, c.size = n → n ≠ 0 := fun n q z => hz1 (q.trans z)
  have nz2 : ∀ n, c'.size = n → n ≠ 0 := fun n q z => hz2 (q.trans z)
  generalize hs1 : c.size = n1 at *
  generalize hs2 : c'.size = n2 at *
  obtain ⟨n1, rfl⟩ : ∃ k, n1 = k + 1 := ⟨n1 - 1, by omega⟩
  obtain ⟨n2, rfl⟩ : ∃ k, n2 = k + 1 := ⟨n2 - 1, by omega⟩
  have fa1 := fa.1
  have fb1 := fb.1
  rcases ends with q | q
  · simp [sameAddr, hbl, World.frozen?, a1, b1, noView, viewAt, World.shape?, mayBeOne, stringish, fa1, fb1, hs1, hs2, q]
  · simp [sameAddr, hbl, World.frozen?, a1, b1, noView, viewAt, World.shape?, mayBeOne, stringish, fa1, fb1, hs1, hs2, q]

theorem keq1_real (hh : HR J ro B st.hp.get w) (D : Nat) : ∀ (t : TypeId) (x y : V) (r : Bool), x.ok J.nx → y.ok J.nx → keq1 P ro st t x y = some r → (Op.equalIn (D + 1) t (x.real J) (y.real J)).run P w = .ok r w := by
  intro t x y r hx hy h
  unfold keq1 at h
  split at h
  · rename_i a b e; simp only [Option.some.injEq] at h; subst h; simp only [V.real]; exact run_equalIn_bool w D t a b e
  · rename_i k a k' b e
    cases hk : decide (k = k') with
    | false => simp [hk] at h
    | true =>
      simp only [hk, cond_true, Option.some.injEq] at h
      subst h
      have := of_decide_eq_true hk
      subst this
      simp only [V.real]; exact run_equalIn_int w D t k _ a b e
  · rename_i e
    simp only [Option.some.injEq] at h; subst h
    simp only [V.ok] at hx hy
    simp only [V.real]; rw [run_equalIn_string w D t _ _ e, bytes_beq _ _ _ _ hx hy]
  · rename_i e; simp only [Option.some.injEq] at h; subst h; simp [V.real, Op.equalIn, run_underlying e]
  · rename_i e; simp only [Option.some.injEq] at h; subst h; simp [V.real, Op.equalIn, run_underlying e]
  · rename_i e; simp only [Option.some.injEq] at h; subst h; simp [V.real, Op.equalIn, run_underlying e]
  · rename_i el g o g' o' e
    split at h
    · rename_i k hs
      have hsz := sizeB_run w hs
      simp only [V.real]
      have key : (sameAddr ⟨(J.m g).1, (J.m g).2.1 + o, none⟩ ⟨(J.m g').1, (J.m g').2.1 + o', none⟩).run P w = .ok r w := by
        cases hg : Nat.beq g g' with
        | true =>
          rw [hg, cond_true] at h
          rw [Nat.beq_eq] at hg
          subst hg
          have h := Option.some.inj h
          subst h
          have : (sameAddr ⟨(J.m g).1, (J.m g).2.1 + o, none⟩ ⟨(J.m g).1, (J.m g).2.1 + o', none⟩).run P w = .ok ((⟨(J.m g).1, (J.m g).2.1 + o, none⟩ : Addr) == ⟨(J.m g).1, (J.m g).2.1 + o', none⟩) w := by simp [sameAddr]
          rw [this]
          congr 1
          rw [Bool.eq_iff_iff, beq_iff_eq, Nat.beq_eq]
          constructor
          · intro q
            have := congrArg Addr.off q
            simp only at this
            omega
          · intro q; rw [q]
        | false =>
          rw [hg, cond_false] at h
          split at h
          · rename_i b b' h1 h2
            generalize hc : (b.mp.isNone && b'.mp.isNone && Nat.ble ro g && Nat.ble ro g' && Nat.blt o b.sz && Nat.blt o' b'.sz && (b.full || b'.full)) = c at h
            cases c with
            | false => cases h
            | true =>
              rw [cond_true] at h
              have h := Option.some.inj h
              subst h
              simp only [Bool.and_eq_true, Bool.or_eq_true, Nat.ble_eq, Nat.blt_eq, Option.isNone_iff_eq_none] at hc
              obtain ⟨⟨⟨⟨⟨⟨c1, c2⟩, c3⟩, c4⟩, c5⟩, c6⟩, c7⟩ := hc
              exact same_other hh h1 h2 (fun q => by rw [q, show Nat.beq g' g' = true from by rw [Nat.beq_eq]] at hg; cases hg) c1 c2 c3 c4 c5 c6 c7
          · cases h
      simp only [Op.equalIn, Sem.run_bind, run_underlying e, Result.andThen_ok, hsz]
      simp only [ne_eq, Nat.add_eq_zero_iff, Nat.one_ne_zero, and_false, not_false_eq_true, if_true]
      exact key
    · cases h
  · cases h

theorem keqS_real {eq : TypeId → V → V → Option Bool} (hh : HR J ro B st.hp.get w) (D : Nat) (heq : ∀ (t : TypeId) (x y : V) (r : Bool), x.ok J.nx → y.ok J.nx → eq t x y = some r → (Op.equalIn (D + 1) t (x.real J) (y.real J)).run P w = .ok r w) :
    ∀ (t : TypeId) (x y : V) (r : Bool), x.ok J.nx → y.ok J.nx → keqS P ro st eq t x y = some r → (Op.equalIn (D + 2) t (x.real J) (y.real J)).run P w = .ok r w := by
  intro t x y r hx hy h
  unfold keqS at h
  split at h
  · rename_i fs xs ys e
    cases hs : P.stoodInHeld t with
    | true => simp [hs] at h
    | false =>
      simp only [hs, cond_false] at h
      have hf : P.fieldsOf t = fs := by simp [Program.fieldsOf, e]
      simp only [V.real, V.reals_eq]
      rw [show D + 2 = (D + 1) + 1 from rfl, run_equalIn_struct w (D + 1) t _ _ (by rw [hf]; exact e) hs, hf]
      simp only [V.ok, V.oks_iff] at hx hy
      exact veqFields_real w hx hy (fun t x y r h1 h2 h3 => heq t x y r h1 h2 h3) _ _ h
  · exact keq1_real hh (D + 1) t _ _ r hx hy h
theorem keq_real (hh : HR J ro B st.hp.get w) {t : TypeId} {x y : V} {r : Bool} (hx : x.ok J.nx) (hy : y.ok J.nx) (h : keq P ro st t x y = some r) : (Op.equal t (x.real J) (y.real J)).run P w = .ok r w := by
  unfold keq at h
  unfold Op.equal
  exact keqS_real hh 9998 (keqS_real hh 9997 (keq1_real hh 9997)) t x y r hx hy h

theorem ck1_run {t : TypeId} {x : V} (h : ck1 P t x = true) (e : Bool) (n : Nat) : (Instr.checkKey e (n + 1) t (x.real J)).run P w = .ok () w := by
  unfold ck1 at h
  unfold Instr.checkKey
  split at h <;> first | (cases h; done) | skip
  all_goals (rename_i d; simp [run_underlying d, V.real])

theorem ckFields_run {ck : TypeId → V → Bool} {xs : List V} (e : Bool) (n : Nat) (hck : ∀ t x, ck t x = true → (Instr.checkKey e (n + 1) t (x.real J)).run P w = .ok () w) : ∀ (fs : List Field), ckFields P ck xs fs = true →
    (forIn fs PUnit.unit (fun f (_ : PUnit) => do
      if f.name ≠ "_" then Instr.checkKey e (n + 1) f.type (← part f.type (xs.map (V.real J)).toArray f.offset)
      pure (ForInStep.yield PUnit.unit) : Field → PUnit → Sem (ForInStep PUnit))).run P w = .ok PUnit.unit w
  | [], h => by simp
  | f :: r, h => by
    rw [ckFields] at h
    rw [List.forIn_cons]
    cases hn : f.name == "_" with
    | true =>
      rw [hn, cond_true] at h
      have : f.name = "_" := by simpa using hn
      have ih := ckFields_run e n hck r h
      simpa [this] using ih
    | false =>
      rw [hn, cond_false] at h
      have hn' : ¬ f.name = "_" := by simpa using hn
      split at h
      · rename_i x hx
        rw [Bool.and_eq_true] at h
        have ih := ckFields_run e n hck r h.2
        have p1 := vpart_real (P := P) (J := J) w hx
        have p2 := hck _ _ h.1
        simp only [Sem.run_bind, ne_eq, hn', not_false_eq_true, if_true, p1, p2, Result.andThen_ok, Sem.run_pure]
        exact ih
      · cases h

theorem ckS_run {ck : TypeId → V → Bool} (e : Bool) (n : Nat) (hck : ∀ t x, ck t x = true → (Instr.checkKey e (n + 1) t (x.real J)).run P w = .ok () w) (t : TypeId) (x : V) (h : ckS P ck t x = true) : (Instr.checkKey e (n + 2) t (x.real J)).run P w = .ok () w := by
  unfold ckS at h
  split at h
  · rename_i fs xs hd
    have := ckFields_run (P := P) (J := J) (w := w) e n hck fs.toList h
    rw [show n + 2 = (n + 1) + 1 from rfl, Instr.checkKey]
    simp only [V.real, V.reals_eq, Sem.run_bind, run_underlying hd, Result.andThen_ok]
    rw [← Array.forIn_toList]
    simp at this ⊢
    rw [this]
    rfl
  · exact ck1_run h e (n + 1)
theorem ckV_run {t : TypeId} {x : V} (h : ckV P t x = true) (e : Bool) : (Instr.checkKey e 10000 t (x.real J)).run P w = .ok () w :=
  ckS_run e 9998 (ckS_run e 9997 fun _ _ h => ck1_run h e 9997) t x h

theorem find_asking (hh : HR J ro B st.hp.get w) {t : TypeId} {k : V} (hk : k.ok J.nx) : ∀ (es : List (V × V)) (ms : List MapEntry) (i : Nat) (r : Option (Nat × V)), (∀ x ∈ es, x.1.ok J.nx ∧ x.2.ok J.nx) → ms.map (fun e => (e.key, e.val)) = es.map (fun x => (x.1.real J, x.2.real J)) → findV P ro st t k es i = some r →
    (Instr.findAsking t (k.real J) ms i).run P w = .ok (r.map fun x => (x.1, x.2.real J)) w ∧ (∀ x, r = some x → x.2.ok J.nx)
  | [], ms, i, r, _, hm, h => by
    obtain rfl : ms = [] := by cases ms with | nil => rfl | cons _ _ => cases hm
    simp only [findV, Option.some.injEq] at h
    subst h
    exact ⟨by simp [Instr.findAsking], fun x q => by cases q⟩
  | e :: es, ms, i, r, hok, hm, h => by
    obtain ⟨m, ms, rfl⟩ : ∃ m l, ms = m :: l := by cases ms with | nil => cases hm | cons m l => exact ⟨m, l, rfl⟩
    simp only [List.map_cons, List.cons.injEq] at hm
    obtain ⟨he, hm⟩ := hm
    have hkey : m.key = e.1.real J := congrArg Prod.fst he
    have hval : m.val = e.2.real J := congrArg Prod.snd he
    have hoe := hok e (List.mem_cons_self ..)
    rw [findV] at h
    unfold Instr.findAsking
    cases hq : keq P ro st t k e.1 with
    | none => rw [hq] at h; cases h
    | some q =>
      have hr := keq_real hh hk hoe.1 hq
      rw [hq] at h
      rw [hkey]
      simp only [Sem.run_bind, hr, Result.andThen_ok]
      cases q with
      | true =>
        simp only [Option.some.injEq] at h
        subst h
        simp only [if_true, Sem.run_pure, hval, Option.map_some]
        exact ⟨trivial, fun x q => by cases q; exact hoe.2⟩
      | false =>
        simp only [Bool.false_eq_true, if_false]
        exact find_asking hh hk es ms (i + 1) r (fun x hx => hok x (List.mem_cons_of_mem _ hx)) hm h

theorem find_now (hh : HR J ro B st.hp.get w) {t : TypeId} {d : TypeDesc} (hd : P.underlying t = some d) {k : V} (hk : k.ok J.nx) : ∀ (es : List (V × V)) (ms : List MapEntry) (i : Nat) (r : Option (Nat × V)) (a : Option (Nat × Value)), (∀ x ∈ es, x.1.ok J.nx ∧ x.2.ok J.nx) → ms.map (fun e => (e.key, e.val)) = es.map (fun x => (x.1.real J, x.2.real J)) → findV P ro st t k es i = some r →
    Instr.findNow d (k.real J) ms i = some a → a = r.map fun x => (x.1, x.2.real J)
  | [], ms, i, r, a, _, hm, h, ha => by
    obtain rfl : ms = [] := by cases ms with | nil => rfl | cons _ _ => cases hm
    simp only [findV, Option.some.injEq] at h
    subst h
    simpa [Instr.findNow] using ha.symm
  | e :: es, ms, i, r, a, hok, hm, h, ha => by
    obtain ⟨m, ms, rfl⟩ : ∃ m l, ms = m :: l := by cases ms with | nil => cases hm | cons m l => exact ⟨m, l, rfl⟩
    simp only [List.map_cons, List.cons.injEq] at hm
    obtain ⟨he, hm⟩ := hm
    have hkey : m.key = e.1.real J := congrArg Prod.fst he
    have hval : m.val = e.2.real J := congrArg Prod.snd he
    have hoe := hok e (List.mem_cons_self ..)
    rw [findV] at h
    rw [Instr.findNow, hkey] at ha
    cases hq : keq P ro st t k e.1 with
    | none => rw [hq] at h; cases h
    | some q =>
      rw [hq] at h
      have agree : ∀ s, Instr.sameNow d (k.real J) (e.1.real J) = some s → s = q := by
        intro s hs
        have hr := keq_real hh hk hoe.1 hq
        unfold Instr.sameNow at hs
        split at hs
        · rename_i kd k1 a1 k2 a2 e1 e2
          split at hs
          · rename_i hkk
            subst hkk
            have := run_equalIn_int (P := P) w 9999 t k1 kd a1 a2 hd
            rw [e1, e2] at hr
            unfold Op.equal at hr
            rw [show Op.maxDepth = 9999 + 1 from rfl, this] at hr
            have hs := Option.some.inj hs
            have hr := Result.ok.inj hr
            rw [← hs]; exact hr.1
          · cases hs
        · rename_i a1 a2 e1 e2
          have := run_equalIn_string (P := P) w 9999 t a1 a2 hd
          rw [e1, e2] at hr
          unfold Op.equal at hr
          rw [show Op.maxDepth = 9999 + 1 from rfl, this] at hr
          have hs := Option.some.inj hs
          have hr := Result.ok.inj hr
          rw [← hs, ← hr.1]
          obtain ⟨x⟩ := a1
          obtain ⟨y⟩ := a2
          rw [ByteArray.toList_mk, ByteArray.toList_mk]
          show (x == y) = _
          rw [Bool.eq_iff_iff, beq_iff_eq, beq_iff_eq]
          exact ⟨fun q => by rw [q], fun q => Array.ext' q⟩
        · rename_i a1 a2 e1 e2
          have := run_equalIn_bool (P := P) w 9999 t a1 a2 hd
          rw [e1, e2] at hr
          unfold Op.equal at hr
          rw [show Op.maxDepth = 9999 + 1 from rfl, this] at hr
          have hs := Option.some.inj hs
          have hr := Result.ok.inj hr
          rw [← hs]; exact hr.1
        · cases hs
      split at ha
      · rename_i hs
        have := agree _ hs
        subst this
        simp only [Option.some.injEq] at h ha
        rw [← h, ← ha, hval]
        rfl
      · rename_i hs
        have := agree _ hs
        subst this
        exact find_now hh hd hk es ms (i + 1) r a (fun x hx => hok x (List.mem_cons_of_mem _ hx)) hm h ha
      · cases ha

theorem find_run (hh : HR J ro B st.hp.get w) {t : TypeId} {d : TypeDesc} (hd : P.underlying t = some d) {k : V} (hk : k.ok J.nx) {es : List (V × V)} {ms : List MapEntry} {r : Option (Nat × V)} (hok : ∀ x ∈ es, x.1.ok J.nx ∧ x.2.ok J.nx) (hm : ms.map (fun e => (e.key, e.val)) = es.map (fun x => (x.1.real J, x.2.real J))) (h : findV P ro st t k es 0 = some r) :
    (Instr.findKey t (k.real J) ms).run P w = .ok (r.map fun x => (x.1, x.2.real J)) w ∧ (∀ x, r = some x → x.2.ok J.nx) := by
  obtain ⟨h1, h2⟩ := find_asking hh hk es ms 0 r hok hm h
  refine ⟨?_, h2⟩
  unfold Instr.findKey
  simp only [Sem.run_bind, run_underlying hd, Result.andThen_ok]
  cases ha : Instr.findNow d (k.real J) ms 0 with
  | none => exact h1
  | some a =>
    rw [find_now hh hd hk es ms 0 r a hok hm h ha]
    simp

/-! ### The operations -/

theorem get_map {r : Nat} {es : Array MapEntry} {clock : Nat} (hb : w.heap[r]? = some (.map es clock)) : (getObj r).run P w = .ok (.map es clock) w := by
  simp [getObj, Sem.run, hb]
theorem set_map {r : Nat} {es : Array MapEntry} {clock : Nat} (o : Obj) (hb : w.heap[r]? = some (.map es clock)) : (setObj r o).run P w = .ok () { w with heap := w.heap.setIfInBounds r o } := by
  simp [setObj, Sem.run, hb]

theorem ckV_under {t : TypeId} {k : V} (h : ckV P t k = true) : ∃ d, P.underlying t = some d := by
  cases hd : P.underlying t with
  | some d => exact ⟨d, rfl⟩
  | none =>
    unfold ckV ckS ck1 at h
    rw [hd] at h
    cases k <;> cases h

theorem map_at (hh : HR J ro B st.hp.get w) {g : Nat} {b : Blk} {es : List (V × V)} (hg : st.hp.get g = some b) (hm : b.mp = some es) : MR J B g b es w := by
  have h := (hh.blk g b hg).2
  rw [hm] at h
  exact h

theorem vlookup_real (hh : HR J ro B st.hp.get w) {t : TypeId} {x k v : V} {ok : Bool} (hx : x.ok J.nx) (hk : k.ok J.nx) (h : vlookup P ro st t x k ok = some v) : (Instr.lookup t (x.real J) (k.real J) ok).run P w = .ok (v.real J) w ∧ v.ok J.nx := by
  unfold vlookup at h
  split at h
  · rename_i kt et g hd
    split at h
    · rename_i b z hg hz
      split at h
      · rename_i es hm
        cases hc : ckV P kt k with
        | false => rw [hc] at h; cases h
        | true =>
          rw [hc, cond_true] at h
          obtain ⟨dk, hdk⟩ := ckV_under hc
          obtain ⟨m1, m2, ⟨ms, ck, m3, m4⟩, m5⟩ := map_at hh hg hm
          obtain ⟨ti, z1, z2, zok⟩ := zeroOf_real J J.nx hz
          have zr := zeroOf_run (P := P) (w := w) J hz
          have hck := ckV_run (P := P) (J := J) (w := w) hc ms.isEmpty
          cases hf : findV P ro st kt k es 0 with
          | none => rw [hf] at h; cases h
          | some r =>
            obtain ⟨f1, f2⟩ := find_run hh hdk hk m5 m4 hf
            rw [hf] at h
            simp only [V.real, Instr.lookup, Sem.run_bind, run_underlying hd, Result.andThen_ok, get_map m3, Sem.run_pure, hck, f1]
            cases r with
            | none =>
              simp only [Option.some.injEq] at h
              subst h
              simp only [Option.map_none, Sem.run_bind, zr, Result.andThen_ok, Sem.run_pure]
              cases ok with
              | true => exact ⟨by simp [V.real, V.reals], by simp only [cond_true, V.ok, V.oks]; exact ⟨zok, trivial, trivial⟩⟩
              | false => exact ⟨by simp, by simpa using zok⟩
            | some x =>
              obtain ⟨i, y⟩ := x
              simp only [Option.some.injEq] at h
              subst h
              have hy := f2 (i, y) rfl
              simp only [Option.map_some, Sem.run_pure, Result.andThen_ok]
              cases ok with
              | true => exact ⟨by simp [V.real, V.reals], by simp only [cond_true, V.ok, V.oks]; exact ⟨hy, trivial, trivial⟩⟩
              | false => exact ⟨by simp, by simpa using hy⟩
      · cases h
    · cases h
  · cases h

theorem sameA_bits {x y : V} (h : sameA x y = true) : x = y ∧ ∀ n, Instr.sameBits n (x.real J) (y.real J) = true := by
  unfold sameA at h
  split at h
  · obtain rfl := eq_of_beq h; exact ⟨rfl, fun n => by cases n <;> simp [V.real, Instr.sameBits]⟩
  · rw [Bool.and_eq_true, decide_eq_true_eq, beq_iff_eq] at h
    obtain ⟨rfl, rfl⟩ := h; exact ⟨rfl, fun n => by cases n <;> simp [V.real, Instr.sameBits]⟩
  · rw [Bool.and_eq_true, Nat.beq_eq, Nat.beq_eq] at h
    obtain ⟨rfl, rfl⟩ := h
    refine ⟨rfl, fun n => ?_⟩
    have : ∀ a : ByteArray, (a == a) = true := fun ⟨x⟩ => by show (x == x) = true; simp
    cases n <;> simp [V.real, Instr.sameBits, this]
  · exact ⟨rfl, fun n => by cases n <;> simp [V.real, Instr.sameBits]⟩
  · rw [Bool.and_eq_true, Nat.beq_eq, Nat.beq_eq] at h
    obtain ⟨rfl, rfl⟩ := h; exact ⟨rfl, fun n => by cases n <;> simp [V.real, Instr.sameBits]⟩
  · cases h
theorem sameAs_bits : ∀ {x y : List V}, sameAs x y = true → x = y ∧ ∀ n, ((V.reals J x).zip (V.reals J y)).all (fun p => Instr.sameBits n p.1 p.2) = true
  | [], [], _ => ⟨rfl, fun n => by simp [V.reals]⟩
  | x :: r, y :: s, h => by
    rw [sameAs, Bool.and_eq_true] at h
    obtain ⟨h1, h2⟩ := sameA_bits (J := J) h.1
    obtain ⟨h3, h4⟩ := sameAs_bits h.2
    subst h1 h3
    exact ⟨rfl, fun n => by simp only [V.reals, List.zip_cons_cons, List.all_cons, h2 n, h4 n, Bool.and_self]⟩
theorem sameKey_bits {x y : V} (h : sameKey x y = true) : x = y ∧ ∀ n, Instr.sameBits (n + 1) (x.real J) (y.real J) = true := by
  unfold sameKey at h
  split at h
  · obtain ⟨h1, h2⟩ := sameAs_bits (J := J) h
    subst h1
    refine ⟨rfl, fun n => ?_⟩
    have := h2 n
    simp only [V.real, Instr.sameBits, List.size_toArray, beq_self_eq_true, Bool.true_and]
    exact this
  · obtain ⟨h1, h2⟩ := sameA_bits (J := J) h
    exact ⟨h1, fun n => h2 _⟩

/-- The entries of a map are others. -/
theorem HR.setMap {h : Nat → Option Blk} (hh : HR J ro B h w) {g : Nat} {b : Blk} {es es' : List (V × V)} {ms' : Array MapEntry} {ck' : Nat} (hg : h g = some b) (hm : b.mp = some es) (hmap : ms'.toList.map (fun e => (e.key, e.val)) = es'.map fun x => (x.1.real J, x.2.real J)) (hok : ∀ x ∈ es', x.1.ok J.nx ∧ x.2.ok J.nx) :
    HR J ro B (fun k => if k = g then some { b with mp := some es' } else h k) { w with heap := w.heap.setIfInBounds (J.m g).1 (.map ms' ck') } ∧ Below B.heap.size w { w with heap := w.heap.setIfInBounds (J.m g).1 (.map ms' ck') } ∧ ∀ k, k ≠ (J.m g).1 → (w.heap.setIfInBounds (J.m g).1 (.map ms' ck'))[k]? = w.heap[k]? := by
  have hb := hh.blk g b hg
  have h1 := hb.2
  rw [hm] at h1
  obtain ⟨m1, m2, ⟨ms, ck, m3, m4⟩, m5⟩ := h1
  have hlt : (J.m g).1 < w.heap.size := (Array.getElem?_eq_some_iff.1 m3).1
  have hother : ∀ k, k ≠ (J.m g).1 → (w.heap.setIfInBounds (J.m g).1 (.map ms' ck'))[k]? = w.heap[k]? := fun k hk => by rw [Array.getElem?_setIfInBounds_ne (fun e => hk e.symm)]
  have hself : (w.heap.setIfInBounds (J.m g).1 (.map ms' ck'))[(J.m g).1]? = some (.map ms' ck') := by rw [Array.getElem?_setIfInBounds_self_of_lt hlt]
  have hbel : Below B.heap.size w { w with heap := w.heap.setIfInBounds (J.m g).1 (.map ms' ck') } := ⟨rfl, rfl, rfl, by show w.heap.size ≤ (w.heap.setIfInBounds _ _).size; simp, fun k hk => hother k (by omega)⟩
  refine ⟨⟨hh.base.below hbel, fun k bk hk => ?_, fun k k' bk bk' hk hk' heq => ?_⟩, hbel, hother⟩
  · by_cases hkg : k = g
    · subst hkg
      simp only [if_true, Option.some.injEq] at hk
      subst hk
      exact ⟨hb.1, m1, m2, ⟨ms', ck', hself, hmap⟩, hok⟩
    · rw [if_neg hkg] at hk
      have hne : (J.m k).1 ≠ (J.m g).1 := fun e => hkg (hh.inj k g bk b hk hg e)
      have := hh.blk k bk hk
      unfold BR CR MR at *
      simp only [hother _ hne]
      exact this
  · have hex : ∀ q bq, (if q = g then some ({ b with mp := some es' } : Blk) else h q) = some bq → ∃ b', h q = some b' := by
      intro q bq hq
      by_cases e : q = g
      · subst e; exact ⟨b, hg⟩
      · rw [if_neg e] at hq; exact ⟨bq, hq⟩
    obtain ⟨b1, hb1⟩ := hex k bk hk
    obtain ⟨b2, hb2⟩ := hex k' bk' hk'
    exact hh.inj k k' b1 b2 hb1 hb2 heq

theorem vmapUpdate_post (hn : J.nx = st.nx) (hh : HR J ro B st.hp.get w) (hro : ro ≤ J.nx) {t : TypeId} {x k v : V} {st' : St} (hk : k.ok J.nx) (hv : v.ok J.nx) (h : vmapUpdate P ro st t x k v = some st') :
    ∃ w', (Instr.mapUpdate t (x.real J) (k.real J) (v.real J)).run P w = .ok () w' ∧ Post J ro B st w J st' w' := by
  unfold vmapUpdate at h
  split at h
  · rename_i kt et g hd
    split at h
    · rename_i b hg
      split at h
      · rename_i es hm
        cases hc : ckV P kt k with
        | false => rw [hc] at h; cases h
        | true =>
          rw [hc, cond_true] at h
          obtain ⟨dk, hdk⟩ := ckV_under hc
          obtain ⟨m1, m2, ⟨ms, ck, m3, m4⟩, m5⟩ := map_at hh hg hm
          have hck := ckV_run (P := P) (J := J) (w := w) hc false
          have hlen : ms.size = es.length := by have := congrArg List.length m4; simpa using this
          have post : ∀ (es' : List (V × V)) (ms' : Array MapEntry) (ck' : Nat), ms'.toList.map (fun e => (e.key, e.val)) = es'.map (fun x => (x.1.real J, x.2.real J)) → (∀ x ∈ es', x.1.ok J.nx ∧ x.2.ok J.nx) → Post J ro B st w J (st.write g { b with mp := some es' }) { w with heap := w.heap.setIfInBounds (J.m g).1 (.map ms' ck') } := by
            intro es' ms' ck' h1 h2
            obtain ⟨s1, s2, s3⟩ := hh.setMap (ck' := ck') hg hm h1 h2
            refine ⟨Inj.le.refl J, by rw [St.write_eq]; exact hn, ?_, s2, Ext.write _ _ _, hro, Fr.write hg s3⟩
            rw [St.write_eq]
            show HR J ro B (st.hp.upd g (some _)).get _
            rw [get_upd_fun]
            exact s1
          cases hf : findV P ro st kt k es 0 with
          | none => rw [hf] at h; cases h
          | some r =>
            obtain ⟨f1, f2⟩ := find_run hh hdk hk m5 m4 hf
            rw [hf] at h
            simp only [V.real, Instr.mapUpdate, Sem.run_bind, run_underlying hd, Result.andThen_ok, get_map m3, Sem.run_pure, hck, f1]
            cases r with
            | none =>
              simp only [Option.some.injEq] at h
              subst h
              simp only [Option.map_none]
              refine ⟨_, set_map _ m3, post _ _ _ ?_ ?_⟩
              · rw [Array.toList_push, List.map_append, List.map_append, m4]
                rfl
              · intro y hy
                rcases List.mem_append.1 hy with q | q
                · exact m5 y q
                · rw [List.mem_singleton] at q; subst q; exact ⟨hk, hv⟩
            | some x =>
              obtain ⟨i, y⟩ := x
              simp only at h
              cases he : es[i]? with
              | none => rw [he] at h; cases h
              | some e =>
                rw [he] at h
                simp only at h
                cases hs : sameKey e.1 k with
                | false => rw [hs] at h; cases h
                | true =>
                  rw [hs, cond_true, Option.some.injEq] at h
                  subst h
                  obtain ⟨q1, q2⟩ := sameKey_bits (J := J) hs
                  have hmi : ∃ m, ms[i]? = some m ∧ m.key = e.1.real J := by
                    have := congrArg (·[i]?) m4
                    simp only [List.getElem?_map, he, Option.map_some] at this
                    cases hx : ms.toList[i]? with
                    | none => rw [hx] at this; cases this
                    | some m =>
                      rw [hx, Option.map_some, Option.some.injEq] at this
                      exact ⟨m, by rw [← Array.getElem?_toList]; exact hx, congrArg Prod.fst this⟩
                  obtain ⟨m, hm1, hm2⟩ := hmi
                  simp only [Option.map_some, hm1, Option.getD_some, hm2, Instr.keyThatStays, q2 9999, if_true, Sem.run_bind, Sem.run_pure, Result.andThen_ok]
                  refine ⟨_, set_map _ m3, post _ _ _ ?_ ?_⟩
                  · apply List.ext_getElem?
                    intro j
                    rw [List.getElem?_map, List.getElem?_map, Array.getElem?_toList, Array.getElem?_modify, List.getElem?_set]
                    have hj := congrArg (·[j]?) m4
                    simp only [List.getElem?_map, Array.getElem?_toList] at hj
                    by_cases hij : i = j
                    · subst hij
                      have hlt : i < es.length := (List.getElem?_eq_some_iff.1 he).1
                      simp [hm1, hlt]
                    · simp only [hij, if_false]
                      exact hj
                  · intro y hy
                    rcases List.mem_or_eq_of_mem_set hy with q | q
                    · exact m5 y q
                    · subst q; exact ⟨hk, hv⟩
      · cases h
    · cases h
  · cases h

theorem vmakeMap_post (hn : J.nx = st.nx) (hh : HR J ro B st.hp.get w) (hro : ro ≤ J.nx) (t : TypeId) : ∃ J' w', (Instr.makeMap t none).run P w = .ok ((vmakeMap st).1.real J') w' ∧ (vmakeMap st).1.ok J'.nx ∧ Post J ro B st w J' (vmakeMap st).2 w' := by
  have hle := J.le_push (w.heap.size, 0, 0)
  have hbel : Below B.heap.size w (w.alloc (.map #[] 0)) := (Below.refl B.heap.size w).alloc hh.base.size _
  refine ⟨J.push (w.heap.size, 0, 0), w.alloc (.map #[] 0), ?_, ?_, hle, by unfold vmakeMap; rw [natF_eq]; show J.nx + 1 = st.nx + 1; omega, ?_, hbel, ?_, Nat.le_succ_of_le hro, ?_⟩
  · unfold vmakeMap
    rw [natF_eq, ← hn]
    simp only [Instr.makeMap, V.real, Inj.push_self, newObj, Sem.run_bind]
    rfl
  · unfold vmakeMap
    rw [natF_eq]
    simp only [V.ok, Inj.push]
    omega
  · unfold vmakeMap
    rw [natF_eq]
    show HR _ ro B (st.hp.upd st.nx (some _)).get _
    rw [get_upd_fun, ← hn]
    refine ⟨hh.base.below hbel, fun g bg hg => ?_, fun g g' bg bg' hg hg' heq => ?_⟩
    · by_cases e1 : g = J.nx
      · subst e1
        simp only [if_true, Option.some.injEq] at hg
        subst hg
        refine ⟨Nat.lt_succ_self _, rfl, ?_, ⟨#[], 0, ?_, rfl⟩, fun x hx => by cases hx⟩
        · rw [Inj.push_self]; exact hh.base.size
        · rw [Inj.push_self]; show (w.heap.push _)[w.heap.size]? = _; simp
      · rw [if_neg e1] at hg
        have hb := hh.blk g bg hg
        exact BR.carry hle (fun _ q => q) (Below.heap_alloc _ _ _ hb.lt) hb
    · by_cases e1 : g = J.nx <;> by_cases e2 : g' = J.nx
      · rw [e1, e2]
      · exfalso
        rw [if_neg e2] at hg'
        have hb := hh.blk g' bg' hg'
        have hm := hle.m g' hb.1
        rw [e1, Inj.push_self, hm] at heq
        have := hb.lt
        simp only at heq
        omega
      · exfalso
        rw [if_neg e1] at hg
        have hb := hh.blk g bg hg
        have hm := hle.m g hb.1
        rw [e2, Inj.push_self, hm] at heq
        have := hb.lt
        simp only at heq
        omega
      · rw [if_neg e1] at hg
        rw [if_neg e2] at hg'
        rw [hle.m g (hh.blk g bg hg).1, hle.m g' (hh.blk g' bg' hg').1] at heq
        exact hh.inj g g' bg bg' hg hg' heq
  · unfold vmakeMap; rw [natF_eq]; exact Ext.alloc hn hh _
  · unfold vmakeMap
    rw [natF_eq]
    refine Fr.push (h0 := st.hp.get) (fun _ _ q => q) (fun g b hg => (hh.blk g b hg).1) (.inl (Nat.le_refl _)) (fun k bk hk => ?_) (fun i hi _ => Below.heap_alloc _ _ _ hi)
    have hk : (st.hp.upd st.nx (some _)).get k = some bk := hk
    rw [T.get_upd] at hk
    by_cases e1 : k = st.nx
    · exact .inl (e1.trans hn.symm)
    · rw [if_neg e1] at hk; exact .inr hk
end
end Go.Vm
