/-
  Operations on memory, held against the model's. Nothing is claimed here.
-/
import Derived.Test.YtnfddmjbfkfnhaaGreatDoorVp
namespace Go.Vm
open Go.RowKit

/-- What is there from before stays, if nothing was written. -/
structure Ext (a b : St) : Prop where
  nx : a.nx ≤ b.nx
  ver : b.ver ≤ a.ver
  hp : ∀ g x, a.hp.get g = some x → g < b.ver → b.hp.get g = some x
theorem Ext.refl (a : St) : Ext a a := ⟨Nat.le_refl _, Nat.le_refl _, fun _ _ h _ => h⟩
theorem Ext.trans {a b c : St} (h : Ext a b) (k : Ext b c) : Ext a c :=
  ⟨Nat.le_trans h.nx k.nx, Nat.le_trans k.ver h.ver, fun g x hx hg => k.hp g x (h.hp g x hx (Nat.lt_of_lt_of_le hg k.ver)) hg⟩
theorem low_left (a b : Nat) : low a b ≤ a := by
  unfold low
  cases e : Nat.ble a b with
  | true => simp
  | false =>
    have : ¬ a ≤ b := by intro q; rw [← Nat.ble_eq] at q; rw [q] at e; cases e
    simp; omega
theorem low_right (a b : Nat) : low a b ≤ b := by
  unfold low
  cases e : Nat.ble a b with
  | true => rw [Nat.ble_eq] at e; simp [e]
  | false => simp
theorem St.write_eq (st : St) (id : Nat) (b : Blk) : st.write id b = ⟨st.nx, st.hp.upd id (some b), low st.ver id⟩ := by unfold St.write; rw [natF_eq]
theorem St.kill_eq (st : St) (id : Nat) : st.kill id = ⟨st.nx, st.hp.upd id none, low st.ver id⟩ := by unfold St.kill; rw [natF_eq]
theorem Ext.write (st : St) (g : Nat) (b : Blk) : Ext st (st.write g b) := by
  rw [St.write_eq]
  refine ⟨Nat.le_refl _, low_left _ _, fun k x hx hk => ?_⟩
  dsimp only at hk ⊢
  have := low_right st.ver g
  rw [T.get_upd, if_neg (by omega)]; exact hx

/-- No name leads to this block. -/
def Free (J : Inj) (h : Nat → Option Blk) (i : Nat) : Prop := ∀ g b, h g = some b → (J.m g).1 ≠ i
/-- What no name leads to is as it was, and no name leads there behind. -/
def Fr (J : Inj) (h : Nat → Option Blk) (w : World) (J' : Inj) (h' : Nat → Option Blk) (w' : World) : Prop := ∀ i, i < w.heap.size → Free J h i → w'.heap[i]? = w.heap[i]? ∧ Free J' h' i
theorem Fr.trans {J J1 J2 : Inj} {a b c : Nat → Option Blk} {w w1 w2 : World} (h : Fr J a w J1 b w1) (k : Fr J1 b w1 J2 c w2) (hs : w.heap.size ≤ w1.heap.size) : Fr J a w J2 c w2 := fun i hi hf => by
  obtain ⟨p1, p2⟩ := h i hi hf
  obtain ⟨q1, q2⟩ := k i (Nat.lt_of_lt_of_le hi hs) p2
  exact ⟨q1.trans p1, q2⟩
theorem Fr.same {J : Inj} {h : Nat → Option Blk} {w w' : World} (e : ∀ i, i < w.heap.size → w'.heap[i]? = w.heap[i]?) : Fr J h w J h w' := fun i hi hf => ⟨e i hi, hf⟩
theorem Fr.write {J : Inj} {st : St} {w w' : World} {g : Nat} {b b' : Blk} (hg : st.hp.get g = some b) (e : ∀ k, k ≠ (J.m g).1 → w'.heap[k]? = w.heap[k]?) : Fr J st.hp.get w J (st.write g b').hp.get w' := fun i hi hf => ⟨e i (fun q => hf g b hg q.symm), fun k bk hk => by
  rw [St.write_eq] at hk
  dsimp only at hk
  rw [T.get_upd] at hk
  by_cases e1 : k = g
  · subst e1; exact hf k b hg
  · rw [if_neg e1] at hk; exact hf k bk hk⟩
theorem Fr.push {J : Inj} {h h0 h' : Nat → Option Blk} {w w' : World} (hless : ∀ g b, h0 g = some b → h g = some b) (hlt : ∀ g b, h g = some b → g < J.nx) {r d x : Nat} (hr : w.heap.size ≤ r ∨ ∃ g b, h g = some b ∧ (J.m g).1 = r)
    (hh' : ∀ k b, h' k = some b → k = J.nx ∨ h0 k = some b) (e : ∀ i, i < w.heap.size → Free J h i → w'.heap[i]? = w.heap[i]?) : Fr J h w (J.push (r, d, x)) h' w' := fun i hi hf => ⟨e i hi hf, fun k b hk => by
  rcases hh' k b hk with rfl | q
  · rw [Inj.push_self]
    rcases hr with z | ⟨g, bg, z1, z2⟩
    · show r ≠ i; omega
    · intro z3; exact hf g bg z1 (z2.trans z3)
  · have q1 := hless k b q
    rw [(J.le_push (r, d, x)).m k (hlt k b q1)]
    exact hf k b q1⟩

/-- What an operation leaves: places that go on, the memory, the old blocks of the model. -/
structure Post (J : Inj) (ro : Nat) (B : World) (st : St) (w : World) (J' : Inj) (st' : St) (w' : World) : Prop where
  le : J.le J'
  nx : J'.nx = st'.nx
  hr : HR J' ro B st'.hp.get w'
  below : Below B.heap.size w w'
  ext : Ext st st'
  ro : ro ≤ J'.nx
  fr : Fr J st.hp.get w J' st'.hp.get w'
theorem Post.refl {J : Inj} {ro : Nat} {B : World} {st : St} {w : World} (hn : J.nx = st.nx) (hh : HR J ro B st.hp.get w) (hro : ro ≤ J.nx) : Post J ro B st w J st w :=
  ⟨Inj.le.refl J, hn, hh, Below.refl _ _, Ext.refl _, hro, Fr.same fun _ _ => rfl⟩
theorem Post.trans {J J1 J2 : Inj} {ro : Nat} {B : World} {st st1 st2 : St} {w w1 w2 : World} (h : Post J ro B st w J1 st1 w1) (k : Post J1 ro B st1 w1 J2 st2 w2) : Post J ro B st w J2 st2 w2 :=
  ⟨h.le.trans k.le, k.nx, k.hr, h.below.trans k.below, h.ext.trans k.ext, k.ro, h.fr.trans k.fr h.below.size⟩

theorem get_upd_fun (t : T Blk) (i : Nat) (x : Option Blk) : (t.upd i x).get = fun k => if k = i then x else t.get k := by funext k; rw [T.get_upd]

theorem Ext.alloc {st : St} {J : Inj} {ro : Nat} {B : World} {w : World} (hn : J.nx = st.nx) (hh : HR J ro B st.hp.get w) (b : Blk) : Ext st (st.alloc b) := by
  refine ⟨Nat.le_succ _, Nat.le_refl _, fun g x hx _ => ?_⟩
  have := (hh.blk g x hx).1
  show (st.hp.upd st.nx (some b)).get g = some x
  rw [T.get_upd, if_neg (by omega)]; exact hx

theorem Fr.alloc {J : Inj} {ro : Nat} {B : World} {st : St} {w : World} {x : Nat} {c : Array Value} {e : TypeId} {fz : Nat × Nat} (hn : J.nx = st.nx) (hh : HR J ro B st.hp.get w) (b : Blk) : Fr J st.hp.get w (J.push (w.heap.size, 0, x)) (st.alloc b).hp.get (w.alloc (.cells c e fz)) := by
  refine Fr.push (h0 := st.hp.get) (fun _ _ q => q) (fun g b hg => (hh.blk g b hg).1) (.inl (Nat.le_refl _)) (fun k bk hk => ?_) (fun i hi _ => Below.heap_alloc _ _ _ hi)
  have hk : (st.hp.upd st.nx (some b)).get k = some bk := hk
  rw [T.get_upd] at hk
  by_cases e1 : k = st.nx
  · exact .inl (e1.trans hn.symm)
  · rw [if_neg e1] at hk; exact .inr hk

section
variable {P : Program} {J : Inj} {ro : Nat} {B : World} {st : St} {w : World}

/-- A new block of some cells, and more behind it. -/
theorem alloc_post (hn : J.nx = st.nx) (hh : HR J ro B st.hp.get w) (hro : ro ≤ J.nx) {b : Blk} {x : Nat} {c : Array Value} {e : TypeId} {fz : Nat × Nat}
    (hm0 : b.mp = none) (h1 : b.sz ≤ c.size) (h2 : b.op = true → b.sz + x * b.es = c.size ∧ b.zero = []) (h3 : ∀ o, o < c.size + b.full.toNat → (decide (fz.1 ≤ o) && decide (o < fz.2)) = false ∧ fz.1 ≤ fz.2)
    (h4 : ∀ o v, b.get o = some v → v.ok J.nx ∧ v.atom = true ∧ c[o]? = some (v.real J)) :
    Post J ro B st w (J.push (w.heap.size, 0, x)) (st.alloc b) (w.alloc (.cells c e fz)) := by
  refine ⟨J.le_push _, by show J.nx + 1 = st.nx + 1; omega, ?_, (Below.refl B.heap.size w).alloc hh.base.size _, Ext.alloc hn hh b, Nat.le_succ_of_le hro, Fr.alloc hn hh (c := c) (e := e) (fz := fz) b⟩
  have := hh.alloc (b := b) (x := x) (c := c) (e := e) (fz := fz) hm0 h1 h2 h3 h4
  rw [hn] at this
  show HR _ ro B (st.hp.upd st.nx (some b)).get _
  rw [get_upd_fun]
  exact this

theorem valloc_post (hn : J.nx = st.nx) (hh : HR J ro B st.hp.get w) (hro : ro ≤ J.nx) {v x : V} {es : Nat} {st' : St} (t : TypeId) (hv : v.ok J.nx) (h : valloc st v es = some (x, st')) :
    ∃ J' w', (newVar t (v.real J)).run P w = .ok ⟨w.heap.size, 0, none⟩ w' ∧ x.real J' = .pointer (some ⟨w.heap.size, 0, none⟩) ∧ x.ok J'.nx ∧ Post J ro B st w J' st' w' := by
  unfold valloc at h
  cases hb : blkOf v.cells es false with
  | none => simp [hb] at h
  | some b =>
    simp only [hb, natF_eq, Option.some.injEq, Prod.mk.injEq] at h
    obtain ⟨rfl, rfl⟩ := h
    obtain ⟨q1, q2, q3, q4, q5, q6⟩ := blkOf_spec hb
    refine ⟨J.push (w.heap.size, 0, 0), w.alloc (.cells (v.cells.map (V.real J)).toArray t), ?_, ?_, ?_, ?_⟩
    · simp [newVar, newRow, V.cells_real]
    · rw [← hn]; simp [V.real, Inj.push_self]
    · simp only [V.ok, Inj.push]; omega
    · refine alloc_post hn hh hro (blkOf_mp hb) (by simp [q1]) (by simp [q3]) (fun o _ => by simp) (fun o u hu => ?_)
      rw [q5] at hu
      have hm := List.mem_of_getElem? hu
      exact ⟨V.ok_cells hv u hm, q6 u hm, by simp [hu]⟩

theorem vload_real (hn : J.nx = st.nx) (hh : HR J ro B st.hp.get w) {t : TypeId} {g off : Nat} {v : V} (h : vload P st t g off = some v) :
    (Instr.loadAt t ((V.p g off).real J)).run P w = .ok (v.real J) w ∧ v.ok st.nx := by
  unfold vload at h
  split at h
  · rename_i b ti d hb hi hd
    have br := hh.blk g b hb
    simp only [V.real, Instr.loadAt, Instr.sureAddr, Sem.run_bind, Sem.run_pure, Result.andThen_ok, loadVar, run_isAgg' w hd, Sem.run_ite]
    cases ha : isAggB P t with
    | true =>
      simp only [ha, cond_true] at h
      cases hr : b.row ti.size off with
      | none => simp [hr] at h
      | some cs =>
        simp only [hr, Option.some.injEq] at h
        subst h
        obtain ⟨q1, _, q3, _⟩ := br.row (P := P) hr
        refine ⟨?_, ?_⟩
        · simp [sizeOf, typeInfo, hi, q1, V.real, V.reals_eq]
        · simp only [V.ok, V.oks_iff]; rw [← hn]; exact q3
    | false =>
      simp only [ha, cond_false] at h
      obtain ⟨q1, q2, _⟩ := br.cell h
      exact ⟨by simp [q1], by rw [← hn]; exact q2⟩
  · simp at h

theorem vstore_post (hn : J.nx = st.nx) (hh : HR J ro B st.hp.get w) (hro : ro ≤ J.nx) {t : TypeId} {g off : Nat} {v : V} {st' : St} (hv : v.ok J.nx) (h : vstore P ro st t g off v = some st') :
    ∃ w', (Instr.storeAt t ((V.p g off).real J) (v.real J)).run P w = .ok () w' ∧ Post J ro B st w J st' w' := by
  unfold vstore at h
  split at h
  · rename_i b ti hb hi
    cases hc : (Nat.ble ro g && Nat.beq v.cells.length ti.size) with
    | false => simp [hc] at h
    | true =>
      simp only [hc, cond_true] at h
      simp only [Bool.and_eq_true, Nat.ble_eq, Nat.beq_eq] at hc
      cases hp : b.put v.cells off with
      | none => simp [hp] at h
      | some b' =>
        simp only [hp, Option.some.injEq] at h
        subst h
        obtain ⟨w', r1, r2, r3, r4⟩ := HR.put (P := P) v.cells hh (g := g) (o := off) (i := 0) hb hc.1 (by simpa using hp) (V.ok_cells hv)
        refine ⟨w', ?_, Inj.le.refl J, by rw [St.write_eq]; exact hn, ?_, r3, Ext.write _ _ _, hro, Fr.write hb r4⟩
        · have hs : ¬ (v.real J).cells.size ≠ ti.size := by rw [V.cells_real]; simp [hc.2]
          simp only [V.real, Instr.storeAt, Instr.sureAddr, Sem.run_bind, Sem.run_pure, Result.andThen_ok, storeVar, sizeOf, typeInfo, run_program, hi, Sem.run_ite, if_neg hs]
          rw [V.cells_real]
          exact r1
        · rw [St.write_eq]
          show HR J ro B (st.hp.upd g (some b')).get w'
          rw [get_upd_fun]; exact r2
  · simp at h

/-! ### Building -/

theorem foldl_setAt (J : Inj) (off : Nat) : ∀ (vs : List V) (k : Nat) (cs : List V),
    ((vs.map (V.real J)).zipIdx k).foldl (fun (a : Array Value) (x : Value × Nat) => a.setIfInBounds (off + x.2) x.1) (cs.map (V.real J)).toArray = ((setAt cs (off + k) vs).map (V.real J)).toArray
  | [], k, cs => rfl
  | v :: r, k, cs => by
    simp only [List.map_cons, List.zipIdx_cons, List.foldl_cons, setAt]
    have : (cs.map (V.real J)).toArray.setIfInBounds (off + k) (v.real J) = ((cs.set (off + k) v).map (V.real J)).toArray := by
      apply Array.ext'
      simp [List.map_set]
    rw [this, foldl_setAt J off r (k + 1) _]
    rfl
theorem length_setAt : ∀ (vs : List V) (cs : List V) (off : Nat), (setAt cs off vs).length = cs.length
  | [], _, _ => rfl
  | v :: r, cs, off => by simp [setAt, length_setAt r]
theorem mem_setAt {p : V → Prop} : ∀ (vs : List V) (cs : List V) (off : Nat), (∀ v ∈ vs, p v) → (∀ v ∈ cs, p v) → ∀ v ∈ setAt cs off vs, p v
  | [], _, _, _, h2 => h2
  | v :: r, cs, off, h1, h2 => by
    refine mem_setAt r _ _ (fun x hx => h1 x (List.mem_cons_of_mem _ hx)) (fun x hx => ?_)
    rcases List.mem_or_eq_of_mem_set hx with h | rfl
    · exact h2 x h
    · exact h1 _ (List.mem_cons_self ..)

theorem vfill_real (J : Inj) (place : Nat → Option (Nat × Nat)) : ∀ (ps : List (Nat × V)) (cs r : List V), vfill place cs ps = some r →
    Instr.fill place (cs.map (V.real J)).toArray (ps.map fun x => (x.1, x.2.real J)) = some (r.map (V.real J)).toArray ∧ r.length = cs.length ∧
    ∀ n, (∀ x ∈ ps, x.2.ok n) → (∀ v ∈ cs, v.ok n) → ∀ v ∈ r, v.ok n
  | [], cs, r, h => by simp only [vfill, Option.some.injEq] at h; subst h; exact ⟨rfl, rfl, fun n _ h2 => h2⟩
  | (i, v) :: ps, cs, r, h => by
    simp only [vfill] at h
    cases hp : place i with
    | none => simp [hp] at h
    | some q =>
      obtain ⟨off, size⟩ := q
      simp only [hp] at h
      cases hc : (Nat.beq v.cells.length size && Nat.ble (off + v.cells.length) cs.length) with
      | false => simp [hc] at h
      | true =>
        simp only [hc, cond_true] at h
        simp only [Bool.and_eq_true, Nat.beq_eq, Nat.ble_eq] at hc
        obtain ⟨q1, q2, q3⟩ := vfill_real J place ps _ r h
        have hz : (v.real J).cells.size = v.cells.length := by rw [V.cells_real]; simp
        refine ⟨?_, by rw [q2, length_setAt], fun n h1 h2 => q3 n (fun x hx => h1 x (List.mem_cons_of_mem _ hx)) (mem_setAt _ _ _ (V.ok_cells (h1 (i, v) (List.mem_cons_self ..))) h2)⟩
        simp only [List.map_cons, Instr.fill, hp]
        have hcond : ¬ ((decide ((v.real J).cells.size ≠ size) || decide (off + (v.real J).cells.size > (cs.map (V.real J)).toArray.size)) = true) := by
          rw [hz]
          simp only [Bool.or_eq_true, decide_eq_true_eq, List.size_toArray, List.length_map]
          omega
        rw [if_neg hcond]
        have := foldl_setAt J off v.cells 0 cs
        rw [V.cells_real]
        simp only [Array.zipIdx_toArray, List.foldl_toArray]
        simp only [Nat.add_zero] at this
        rw [this]
        exact q1

theorem zeroOf_real {t : TypeId} {z : V} (J : Inj) (n : Nat) (h : zeroOf P t = some z) : ∃ ti, P.info? t = some ti ∧ ti.zero = some (z.real J) ∧ z.ok n := by
  unfold zeroOf at h
  cases hi : P.info? t with
  | none => simp [hi] at h
  | some ti =>
    cases hz : ti.zero with
    | none => simp [hi, hz] at h
    | some x =>
      simp only [hi, hz] at h
      obtain ⟨q1, q2⟩ := ofV_real J n 4 x z h
      exact ⟨ti, rfl, by rw [q1]; exact hz, q2⟩
theorem zeroOf_run {t : TypeId} {z : V} (J : Inj) (h : zeroOf P t = some z) : (zeroValue t).run P w = .ok (z.real J) w := by
  obtain ⟨ti, h1, h2, _⟩ := zeroOf_real J 0 h
  simp [zeroValue, typeInfo, h1, h2]

theorem run_mapM_places (w : World) : ∀ (fs : List Field) (r : List (Nat × Nat)), mapO (placeOf P) fs = some r →
    (fs.mapM fun f => (do pure (f.offset, ← sizeOf f.type) : Sem (Nat × Nat))).run P w = .ok r w
  | [], r, h => by simp only [mapO, Option.some.injEq] at h; subst h; simp
  | f :: fs, r, h => by
    simp only [mapO] at h
    cases h1 : sizeB P f.type with
    | none => simp [placeOf, h1] at h
    | some n =>
      simp only [placeOf, h1] at h
      cases h2 : mapO (placeOf P) fs with
      | none => simp [h2] at h
      | some ys =>
        simp only [h2, Option.some.injEq] at h
        subst h
        simp only [List.mapM_cons, Sem.run_bind, sizeB_run w h1, Result.andThen_ok, Sem.run_pure, run_mapM_places w fs ys h2]

theorem vbuild_real {t : TypeId} {ps : List (Nat × V)} {v : V} {n : Nat} (hps : ∀ x ∈ ps, x.2.ok n) (h : vbuild P t ps = some v) :
    (Instr.build t (ps.map fun x => (x.1, x.2.real J)).toArray).run P w = .ok (v.real J) w ∧ v.ok n := by
  unfold vbuild at h
  split at h
  · rename_i z fs hz e
    cases hp : mapO (placeOf P) fs.toList with
    | none => simp [hp] at h
    | some places =>
      simp only [hp] at h
      cases hf : vfill (fun i => places[i]?) z.cells ps with
      | none => simp [hf] at h
      | some cs =>
        simp only [hf, Option.some.injEq] at h
        subst h
        obtain ⟨q1, q2, q3⟩ := vfill_real J _ ps _ cs hf
        obtain ⟨_, _, _, hzok⟩ := zeroOf_real J n hz
        refine ⟨?_, by simp only [V.ok, V.oks_iff]; exact q3 n hps (V.ok_cells hzok)⟩
        simp only [Instr.build, Sem.run_bind, zeroOf_run J hz, Result.andThen_ok, run_underlying e, Array.mapM_eq_mapM_toList, Sem.run_map, run_mapM_places w _ _ hp]
        rw [V.cells_real]
        simp only [List.getElem?_toArray]
        rw [q1]
        simp [V.real, V.reals_eq]
  · rename_i z len el hz e
    cases hs : sizeB P el with
    | none => simp [hs] at h
    | some k =>
      simp only [hs] at h
      cases hf : vfill (fun i => some (i * k, k)) z.cells ps with
      | none => simp [hf] at h
      | some cs =>
        simp only [hf, Option.some.injEq] at h
        subst h
        obtain ⟨q1, q2, q3⟩ := vfill_real J _ ps _ cs hf
        obtain ⟨_, _, _, hzok⟩ := zeroOf_real J n hz
        refine ⟨?_, by simp only [V.ok, V.oks_iff]; exact q3 n hps (V.ok_cells hzok)⟩
        simp only [Instr.build, Sem.run_bind, zeroOf_run J hz, Result.andThen_ok, run_underlying e, sizeB_run w hs]
        rw [V.cells_real]
        simp [q1, V.real, V.reals_eq]
  · simp at h
end
end Go.Vm
