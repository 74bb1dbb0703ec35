/-
  What each operation of the evaluator does, held against the model's: plain lemmas. Nothing is claimed here.
-/
import Derived.Test.YtnfddmjbfkfnhaaGreatDoorVr
import Derived.Laws.StructEq
import Derived.Laws.BytesString
import Derived.Laws.AppendOwn
import Derived.Laws.MakeOwn
import Derived.Laws.Strings2
import Derived.ChangeKeysEq
import Derived.LaidEql
namespace Go.Vm
open Go.RowKit

/-! ### Memory -/

/-- The blocks of the first world are as they were. -/
structure Old (B w : World) : Prop where
  size : B.heap.size ≤ w.heap.size
  block : ∀ i, i < B.heap.size → w.heap[i]? = B.heap[i]?
theorem Old.refl (B : World) : Old B B := ⟨Nat.le_refl _, fun _ _ => rfl⟩
theorem Old.below {B w w' : World} (h : Old B w) (k : Below B.heap.size w w') : Old B w' := ⟨Nat.le_trans h.size k.size, fun i hi => (k.block i hi).trans (h.block i hi)⟩

/-- One block, here and there. -/
def CR (J : Inj) (ro : Nat) (B : World) (g : Nat) (b : Blk) (w : World) : Prop :=
  ∃ c e fz, w.heap[(J.m g).1]? = some (.cells c e fz) ∧ (J.m g).2.1 + b.sz ≤ c.size ∧
    (b.op = true → (J.m g).2.1 + b.sz + (J.m g).2.2 * b.es = c.size ∧ b.zero = []) ∧
    (ro ≤ g → B.heap.size ≤ (J.m g).1 ∧ ∀ o, o < c.size + b.full.toNat → (decide (fz.1 ≤ o) && decide (o < fz.2)) = false ∧ fz.1 ≤ fz.2) ∧
    (∀ o v, b.get o = some v → v.ok J.nx ∧ v.atom = true ∧ c[(J.m g).2.1 + o]? = some (v.real J))

/-- A map, here and there. -/
def MR (J : Inj) (B : World) (g : Nat) (b : Blk) (es : List (V × V)) (w : World) : Prop :=
  b.sz = 0 ∧ B.heap.size ≤ (J.m g).1 ∧ (∃ ms ck, w.heap[(J.m g).1]? = some (.map ms ck) ∧ ms.toList.map (fun e => (e.key, e.val)) = es.map fun x => (x.1.real J, x.2.real J)) ∧ ∀ x ∈ es, x.1.ok J.nx ∧ x.2.ok J.nx
def BR (J : Inj) (ro : Nat) (B : World) (g : Nat) (b : Blk) (w : World) : Prop :=
  g < J.nx ∧ match b.mp with
    | none => CR J ro B g b w
    | some es => MR J B g b es w
theorem BR.cells {J : Inj} {ro g : Nat} {B : World} {b : Blk} {w : World} (h : BR J ro B g b w) (hm : b.mp = none) : g < J.nx ∧ CR J ro B g b w := by
  unfold BR at h
  rw [hm] at h
  exact h
theorem BR.of_cells {J : Inj} {ro g : Nat} {B : World} {b : Blk} {w : World} (hm : b.mp = none) (h : g < J.nx ∧ CR J ro B g b w) : BR J ro B g b w := by
  unfold BR
  rw [hm]
  exact h
theorem BR.mp0 {J : Inj} {ro g : Nat} {B : World} {b : Blk} {w : World} (h : BR J ro B g b w) {o : Nat} (ho : o < b.sz) : b.mp = none := by
  unfold BR at h
  cases hm : b.mp with
  | none => rfl
  | some es => rw [hm] at h; have := h.2.1; omega

theorem BR.mp_cells {J : Inj} {ro g : Nat} {B : World} {b : Blk} {w : World} (h : BR J ro B g b w) {c : Array Value} {e : TypeId} {fz : Nat × Nat} (hc : w.heap[(J.m g).1]? = some (.cells c e fz)) : b.mp = none := by
  unfold BR at h
  cases hm : b.mp with
  | none => rfl
  | some es => rw [hm] at h; obtain ⟨_, _, _, ⟨ms, ck, h3, _⟩, _⟩ := h; rw [h3] at hc; cases hc

structure HR (J : Inj) (ro : Nat) (B : World) (h : Nat → Option Blk) (w : World) : Prop where
  base : Old B w
  blk : ∀ g b, h g = some b → BR J ro B g b w
  inj : ∀ g g' b b', h g = some b → h g' = some b' → (J.m g).1 = (J.m g').1 → g = g'

/-- Memory that is the same but for draws. -/
theorem HR.congr {J : Inj} {ro : Nat} {B : World} {h : Nat → Option Blk} {w w' : World} (hh : HR J ro B h w) (e : w'.heap = w.heap) : HR J ro B h w' :=
  ⟨⟨by rw [e]; exact hh.base.size, by rw [e]; exact hh.base.block⟩, fun g b hg => by have := hh.blk g b hg; unfold BR CR MR at *; rw [e]; exact this, hh.inj⟩

theorem BR.lt {J : Inj} {ro g : Nat} {B : World} {b : Blk} {w : World} (h : BR J ro B g b w) : (J.m g).1 < w.heap.size := by
  have key : ∃ o, w.heap[(J.m g).1]? = some o := by
    unfold BR at h
    cases hm : b.mp with
    | none => rw [hm] at h; obtain ⟨_, c, e, fz, hc, _⟩ := h; exact ⟨_, hc⟩
    | some es => rw [hm] at h; obtain ⟨_, _, _, ⟨ms, ck, hc, _⟩, _⟩ := h; exact ⟨_, hc⟩
  obtain ⟨o, hc⟩ := key
  rcases Nat.lt_or_ge (J.m g).1 w.heap.size with h | h
  · exact h
  · rw [Array.getElem?_eq_none h] at hc; cases hc

theorem Blk.get_lt {b : Blk} {o : Nat} {v : V} (h : b.get o = some v) : o < b.sz := by
  unfold Blk.get at h
  cases e : Nat.blt o b.sz
  · rw [e] at h; simp at h
  · rw [Nat.blt_eq] at e; exact e

theorem BR.cell {J : Inj} {ro g : Nat} {B : World} {b : Blk} {w : World} (h : BR J ro B g b w) {o : Nat} {v : V} (hv : b.get o = some v) :
    w.cell? ⟨(J.m g).1, (J.m g).2.1 + o, none⟩ = some (v.real J) ∧ v.ok J.nx ∧ v.atom = true := by
  obtain ⟨_, c, e, fz, hc, _, _, _, h4⟩ := h.cells (h.mp0 (Blk.get_lt hv))
  obtain ⟨h1, h2, h3⟩ := h4 o v hv
  exact ⟨by simp [World.cell?, hc, h3], h1, h2⟩

theorem Blk.row_spec {b : Blk} : ∀ (n o : Nat) (cs : List V), b.row n o = some cs → cs.length = n ∧ ∀ j v, cs[j]? = some v → b.get (o + j) = some v
  | 0, o, cs, h => by simp only [Blk.row, Option.some.injEq] at h; subst h; simp
  | n + 1, o, cs, h => by
    simp only [Blk.row] at h
    cases hv : b.get o with
    | none => simp [hv] at h
    | some v =>
      cases hr : b.row n (o + 1) with
      | none => simp [hv, hr] at h
      | some r =>
        simp only [hv, hr, Option.some.injEq] at h
        subst h
        obtain ⟨h1, h2⟩ := Blk.row_spec n (o + 1) r hr
        refine ⟨by simp [h1], fun j x hj => ?_⟩
        cases j with
        | zero => simp only [List.getElem?_cons_zero, Option.some.injEq] at hj; subst hj; simpa using hv
        | succ j => simp only [List.getElem?_cons_succ] at hj; have := h2 j x hj; rw [show o + (j + 1) = o + 1 + j from by omega]; exact this

theorem BR.row {P : Program} {J : Inj} {ro g : Nat} {B : World} {b : Blk} {w : World} (h : BR J ro B g b w) {n o : Nat} {cs : List V} (hr : b.row n o = some cs) :
    (loadCells ⟨(J.m g).1, (J.m g).2.1 + o, none⟩ n).run P w = .ok (cs.map (V.real J)).toArray w ∧ cs.length = n ∧ (∀ v ∈ cs, v.ok J.nx) ∧ ∀ v ∈ cs, v.atom = true := by
  obtain ⟨h1, h2⟩ := Blk.row_spec n o cs hr
  have hc : ∀ j v, (cs.map (V.real J))[j]? = some v → w.cell? ((⟨(J.m g).1, (J.m g).2.1 + o, none⟩ : Addr).add j) = some v := by
    intro j v hj
    rw [List.getElem?_map] at hj
    cases hx : cs[j]? with
    | none => simp [hx] at hj
    | some x =>
      simp only [hx, Option.map_some, Option.some.injEq] at hj
      subst hj
      rw [Addr.add_lit, Nat.add_assoc]
      exact (h.cell (h2 j x hx)).1
  have := run_loadCells_list (P := P) (w := w) ⟨(J.m g).1, (J.m g).2.1 + o, none⟩ (cs.map (V.real J)) hc
  rw [List.length_map, h1] at this
  refine ⟨this, h1, fun v hv => ?_, fun v hv => ?_⟩
  · obtain ⟨j, hj⟩ := List.getElem?_of_mem hv
    exact (h.cell (h2 j v hj)).2.1
  · obtain ⟨j, hj⟩ := List.getElem?_of_mem hv
    exact (h.cell (h2 j v hj)).2.2

theorem Blk.get_set (b : Blk) (o k : Nat) (v : V) (ho : o < b.sz) : (b.set o v).get k = if k = o then some v else b.get k := by
  unfold Blk.get Blk.set
  dsimp only
  rw [T.get_upd]
  by_cases e : k = o
  · subst e; simp [show Nat.blt k b.sz = true from by rw [Nat.blt_eq]; exact ho]
  · simp [e]

/-- Cells that are written, one behind the other: the whole of it. -/
theorem Blk.put_spec : ∀ (vs : List V) (b b' : Blk) (o : Nat), b.put vs o = some b' →
    b'.sz = b.sz ∧ b'.es = b.es ∧ b'.op = b.op ∧ b'.zero = b.zero ∧ (∀ k, b'.get k = if o ≤ k ∧ k < o + vs.length then vs[k - o]? else b.get k) ∧ (∀ v ∈ vs, v.atom = true) ∧ (vs = [] ∨ o + vs.length ≤ b.sz)
  | [], b, b', o, h => by
    simp only [Blk.put, Option.some.injEq] at h
    subst h
    exact ⟨rfl, rfl, rfl, rfl, fun k => by rw [if_neg (by simp)], by simp, .inl rfl⟩
  | v :: r, b, b', o, h => by
    simp only [Blk.put, V.force_eq] at h
    cases hc : (Nat.blt o b.sz && v.atom) with
    | false => simp [hc] at h
    | true =>
      simp only [hc, cond_true] at h
      simp only [Bool.and_eq_true, Nat.blt_eq] at hc
      obtain ⟨h1, h2, h3, h4, h5, h6, h7⟩ := Blk.put_spec r (b.set o v) b' (o + 1) h
      refine ⟨h1, h2, h3, h4, fun k => ?_, fun x hx => ?_, .inr ?_⟩
      · rw [h5 k, Blk.get_set b o k v hc.1]
        by_cases e : k = o
        · subst e
          rw [if_neg (by omega), if_pos rfl, if_pos (by simp)]
          simp
        · by_cases e2 : o + 1 ≤ k ∧ k < o + 1 + r.length
          · rw [if_pos e2, if_pos (by simp; omega), show k - o = (k - (o + 1)) + 1 from by omega]
            simp
          · rw [if_neg e2, if_neg e, if_neg (by simp; omega)]
      · rcases List.mem_cons.1 hx with rfl | hx
        · exact hc.2
        · exact h6 x hx
      · rcases h7 with rfl | h7
        · simp; omega
        · have : (b.set o v).sz = b.sz := rfl
          rw [this] at h7; simp; omega

theorem Blk.put_mp : ∀ (vs : List V) (b b' : Blk) (o : Nat), b.put vs o = some b' → b'.mp = b.mp
  | [], b, b', o, h => by
    simp only [Blk.put, Option.some.injEq] at h
    subst h; rfl
  | v :: r, b, b', o, h => by
    simp only [Blk.put, V.force_eq] at h
    cases hc : (Nat.blt o b.sz && v.atom) with
    | false => simp [hc] at h
    | true =>
      simp only [hc, cond_true] at h
      exact Blk.put_mp r (b.set o v) b' (o + 1) h
theorem blkOf_mp {cs : List V} {es : Nat} {op : Bool} {b : Blk} (h : blkOf cs es op = some b) : b.mp = none := Blk.put_mp _ _ _ _ h
theorem blkOf_spec {cs : List V} {es : Nat} {op : Bool} {b : Blk} (h : blkOf cs es op = some b) :
    b.sz = cs.length ∧ b.es = es ∧ b.op = op ∧ b.zero = [] ∧ (∀ k : Nat, b.get k = cs[k]?) ∧ ∀ v ∈ cs, v.atom = true := by
  obtain ⟨h1, h2, h3, h4, h5, h6, _⟩ := Blk.put_spec _ _ _ _ h
  refine ⟨h1, h2, h3, h4, fun k => ?_, h6⟩
  rw [h5 k]
  by_cases e : k < cs.length
  · rw [if_pos (by omega)]; simp
  · rw [if_neg (by omega)]
    rw [List.getElem?_eq_none (by omega)]
    cases hg : (Blk.mk T.e [] cs.length es op none).get k with
    | none => rfl
    | some v => have := Blk.get_lt hg; dsimp only at this; omega

/-- One cell is written. -/
theorem HR.set {J : Inj} {ro : Nat} {B : World} {h : Nat → Option Blk} {w : World} (hh : HR J ro B h w) {g o : Nat} {b : Blk} {v : V} (hg : h g = some b) (hro : ro ≤ g) (ho : o < b.sz)
    (hv : v.ok J.nx) (ha : v.atom = true) :
    HR J ro B (fun k => if k = g then some (b.set o v) else h k) (w.setCell ⟨(J.m g).1, (J.m g).2.1 + o, none⟩ (v.real J)) := by
  have hm0 : b.mp = none := (hh.blk g b hg).mp0 ho
  obtain ⟨hlt, c, e, fz, hc, h1, h2, h3, h4⟩ := (hh.blk g b hg).cells hm0
  have hheap : ∀ k, k ≠ (J.m g).1 → (w.setCell ⟨(J.m g).1, (J.m g).2.1 + o, none⟩ (v.real J)).heap[k]? = w.heap[k]? := fun k hk => Below.heap_setCell _ _ _ _ hk
  have hself : (w.setCell ⟨(J.m g).1, (J.m g).2.1 + o, none⟩ (v.real J)).heap[(J.m g).1]? = some (.cells (c.setIfInBounds ((J.m g).2.1 + o) (v.real J)) e fz) := by
    simp only [World.setCell, Array.getElem?_modify, hc, if_true, Option.map_some]
    rfl
  refine ⟨hh.base.below ((Below.refl _ w).setCell (h3 hro).1 _), fun k bk hk => ?_, fun k k' bk bk' hk hk' heq => ?_⟩
  · by_cases hkg : k = g
    · subst hkg
      simp only [if_true, Option.some.injEq] at hk
      subst hk
      refine BR.of_cells (b := b.set o v) hm0 ⟨hlt, c.setIfInBounds ((J.m k).2.1 + o) (v.real J), e, fz, hself, by rw [Array.size_setIfInBounds]; exact h1, by rw [Array.size_setIfInBounds]; exact h2, by rw [Array.size_setIfInBounds]; exact h3, fun j x hx => ?_⟩
      rw [Blk.get_set b o j v ho] at hx
      by_cases hjo : j = o
      · subst hjo
        simp only [if_true, Option.some.injEq] at hx
        subst hx
        refine ⟨hv, ha, ?_⟩
        rw [Array.getElem?_setIfInBounds_self_of_lt (by omega)]
      · rw [if_neg hjo] at hx
        obtain ⟨q1, q2, q3⟩ := h4 j x hx
        exact ⟨q1, q2, by rw [Array.getElem?_setIfInBounds_ne (by omega)]; exact q3⟩
    · rw [if_neg hkg] at hk
      have hne : (J.m k).1 ≠ (J.m g).1 := fun e => hkg (hh.inj k g bk b hk hg e)
      have := hh.blk k bk hk
      unfold BR CR MR at *
      rw [hheap _ hne]
      exact this
  · have hex : ∀ q bq, (if q = g then some (b.set o v) else h q) = some bq → ∃ b', h q = some b' := by
      intro q bq hq
      by_cases e : q = g
      · subst e; exact ⟨b, hg⟩
      · rw [if_neg e] at hq; exact ⟨bq, hq⟩
    obtain ⟨b1, hb1⟩ := hex k bk hk
    obtain ⟨b2, hb2⟩ := hex k' bk' hk'
    exact hh.inj k k' b1 b2 hb1 hb2 heq

theorem ext_set {h : Nat → Option Blk} {g : Nat} (x y : Option Blk) : (fun k => if k = g then x else (fun k => if k = g then y else h k) k) = fun k => if k = g then x else h k := by
  funext k; by_cases e : k = g <;> simp [e]
theorem ext_same {h : Nat → Option Blk} {g : Nat} {b : Blk} (hg : h g = some b) : (fun k => if k = g then some b else h k) = h := by
  funext k; by_cases e : k = g <;> simp [e, hg]

/-- Cells are written, one behind the other. -/
theorem HR.put {P : Program} {J : Inj} {ro : Nat} {B : World} : ∀ (vs : List V) {h : Nat → Option Blk} {w : World} (_ : HR J ro B h w) {g o i : Nat} {b b' : Blk} (_ : h g = some b) (_ : ro ≤ g) (_ : b.put vs (o + i) = some b')
    (_ : ∀ v ∈ vs, v.ok J.nx), ∃ w', (storeCells ⟨(J.m g).1, (J.m g).2.1 + o, none⟩ (vs.map (V.real J)) i).run P w = .ok () w' ∧
      HR J ro B (fun k => if k = g then some b' else h k) w' ∧ Below B.heap.size w w' ∧ ∀ k, k ≠ (J.m g).1 → w'.heap[k]? = w.heap[k]?
  | [], h, w, hh, g, o, i, b, b', hg, hro, hp, hv => by
    simp only [Blk.put, Option.some.injEq] at hp
    subst hp
    exact ⟨w, rfl, by rw [ext_same hg]; exact hh, Below.refl _ _, fun _ _ => rfl⟩
  | v :: r, h, w, hh, g, o, i, b, b', hg, hro, hp, hv => by
    simp only [Blk.put, V.force_eq] at hp
    cases hc : (Nat.blt (o + i) b.sz && v.atom) with
    | false => simp [hc] at hp
    | true =>
      simp only [hc, cond_true] at hp
      simp only [Bool.and_eq_true, Nat.blt_eq] at hc
      obtain ⟨hlt, c, e, fz, hcell, h1, h2, h3, h4⟩ := (hh.blk g b hg).cells ((hh.blk g b hg).mp0 hc.1)
      obtain ⟨hB, hfz⟩ := h3 hro
      have hsome : ∃ u, w.cell? ⟨(J.m g).1, (J.m g).2.1 + o + i, none⟩ = some u := by
        have : (J.m g).2.1 + o + i < c.size := by omega
        exact ⟨c[(J.m g).2.1 + o + i], by simp [World.cell?, hcell, Array.getElem?_eq_getElem this]⟩
      obtain ⟨u, hu⟩ := hsome
      have hfr : w.frozen? ⟨(J.m g).1, (J.m g).2.1 + o + i, none⟩ = false := by
        have := hfz ((J.m g).2.1 + o + i) (by omega)
        simp only [World.frozen?, hcell]
        exact this.1
      have hs := hh.set hg hro hc.1 (hv v (List.mem_cons_self ..)) hc.2
      rw [← Nat.add_assoc] at hs
      have hb1 : (fun k => if k = g then some (b.set (o + i) v) else h k) g = some (b.set (o + i) v) := by simp
      obtain ⟨w', hr, hh', hbel, hko⟩ := HR.put (P := P) r hs (g := g) (o := o) (i := i + 1) (b := b.set (o + i) v) (b' := b') hb1 hro (by rw [← Nat.add_assoc]; exact hp) (fun x hx => hv x (List.mem_cons_of_mem _ hx))
      refine ⟨w', ?_, by rw [ext_set] at hh'; exact hh', (Below.setCell (Below.refl B.heap.size w) (p := ⟨(J.m g).1, (J.m g).2.1 + o + i, none⟩) hB (v.real J)).trans hbel, fun k hk => (hko k hk).trans (Below.heap_setCell _ _ _ _ hk)⟩
      rw [List.map_cons]
      unfold storeCells
      rw [Sem.run_bind, Addr.add_lit, run_store P w _ _ .plain (V.oneCell_real J v hc.2), hu]
      simp only [hfr, Bool.false_eq_true, if_false, Result.andThen_ok]
      exact hr

/-- A further block: where it lies, and what is behind it. -/
def Inj.push (J : Inj) (x : Nat × Nat × Nat) : Inj := ⟨J.nx + 1, fun g => if g = J.nx then x else J.m g, fun g hg => ⟨Nat.lt_succ_of_lt (J.fix g hg).1, by rw [if_neg (Nat.ne_of_lt (J.fix g hg).1)]; exact (J.fix g hg).2⟩⟩
theorem Inj.le_push (J : Inj) (x : Nat × Nat × Nat) : J.le (J.push x) := ⟨Nat.le_succ _, fun g hg => by simp [Inj.push]; intro h; omega⟩
theorem Inj.push_self (J : Inj) (x : Nat × Nat × Nat) : (J.push x).m J.nx = x := by simp [Inj.push]

/-- A block that is as it was, under names that go on. -/
theorem BR.carry {J J' : Inj} {ro g : Nat} {B : World} {b : Blk} {w w' : World} (hle : J.le J') (_ : ∀ x : Nat, x = x → x = x) (hold : w'.heap[(J.m g).1]? = w.heap[(J.m g).1]?) (h : BR J ro B g b w) : BR J' ro B g b w' := by
  have k0 := h.1
  have hm := hle.m g k0
  cases hq : b.mp with
  | none =>
    obtain ⟨_, c0, e0, f0, k1, k2, k3, k4, k5⟩ := h.cells hq
    refine BR.of_cells hq ⟨Nat.lt_of_lt_of_le k0 hle.nx, c0, e0, f0, ?_, ?_, ?_, ?_, ?_⟩
    · rw [hm, hold]; exact k1
    · rw [hm]; exact k2
    · rw [hm]; exact k3
    · rw [hm]; exact k4
    · rw [hm]
      intro o v hv
      obtain ⟨q1, q2, q3⟩ := k5 o v hv
      exact ⟨V.ok_le hle.nx v q1, q2, by rw [V.real_le hle v q1]; exact q3⟩
  | some es =>
    unfold BR at h ⊢
    rw [hq] at h ⊢
    obtain ⟨_, m1, m2, ⟨ms, ck, m3, m4⟩, m5⟩ := h
    refine ⟨Nat.lt_of_lt_of_le k0 hle.nx, m1, by rw [hm]; exact m2, ⟨ms, ck, by rw [hm, hold]; exact m3, ?_⟩, fun x hx => ⟨V.ok_le hle.nx _ (m5 x hx).1, V.ok_le hle.nx _ (m5 x hx).2⟩⟩
    rw [m4]
    refine List.map_congr_left fun x hx => ?_
    rw [V.real_le hle x.1 (m5 x hx).1, V.real_le hle x.2 (m5 x hx).2]

/-- A block of one's own, of any real form. -/
theorem HR.push {J : Inj} {ro : Nat} {B : World} {h : Nat → Option Blk} {w w' : World} (hh : HR J ro B h w) {b : Blk} (hm0 : b.mp = none) {r d x : Nat} {c : Array Value} {e : TypeId} {fz : Nat × Nat}
    (hold : ∀ g b, h g = some b → w'.heap[(J.m g).1]? = w.heap[(J.m g).1]?) (hsz : Old B w')
    (hnew : w'.heap[r]? = some (.cells c e fz)) (hB : B.heap.size ≤ r) (hfree : ∀ g b, h g = some b → (J.m g).1 ≠ r)
    (h1 : d + b.sz ≤ c.size) (h2 : b.op = true → d + b.sz + x * b.es = c.size ∧ b.zero = []) (h3 : ∀ o, o < c.size + b.full.toNat → (decide (fz.1 ≤ o) && decide (o < fz.2)) = false ∧ fz.1 ≤ fz.2)
    (h4 : ∀ o v, b.get o = some v → v.ok J.nx ∧ v.atom = true ∧ c[d + o]? = some (v.real J)) :
    HR (J.push (r, d, x)) ro B (fun k => if k = J.nx then some b else h k) w' := by
  have hle := J.le_push (r, d, x)
  refine ⟨hsz, fun g bg hg => ?_, fun g g' bg bg' hg hg' heq => ?_⟩
  · by_cases e1 : g = J.nx
    · subst e1
      simp only [if_true, Option.some.injEq] at hg
      subst hg
      refine BR.of_cells hm0 ⟨Nat.lt_succ_self _, c, e, fz, ?_, ?_, ?_, ?_, ?_⟩
      · rw [Inj.push_self]; exact hnew
      · rw [Inj.push_self]; exact h1
      · rw [Inj.push_self]; exact h2
      · rw [Inj.push_self]; exact fun _ => ⟨hB, h3⟩
      · rw [Inj.push_self]
        intro o v hv
        obtain ⟨q1, q2, q3⟩ := h4 o v hv
        exact ⟨V.ok_le (Nat.le_succ _) v q1, q2, by rw [V.real_le hle v q1]; exact q3⟩
    · rw [if_neg e1] at hg
      exact BR.carry hle (fun _ hx => hx) (hold g bg hg) (hh.blk g bg hg)
  · by_cases e1 : g = J.nx <;> by_cases e2 : g' = J.nx
    · rw [e1, e2]
    · exfalso
      rw [if_neg e2] at hg'
      have hm := hle.m g' (hh.blk g' bg' hg').1
      rw [e1, Inj.push_self, hm] at heq
      exact hfree g' bg' hg' heq.symm
    · exfalso
      rw [if_neg e1] at hg
      have hm := hle.m g (hh.blk g bg hg).1
      rw [e2, Inj.push_self, hm] at heq
      exact hfree g bg hg heq
    · rw [if_neg e1] at hg
      rw [if_neg e2] at hg'
      rw [hle.m g (hh.blk g bg hg).1, hle.m g' (hh.blk g' bg' hg').1] at heq
      exact hh.inj g g' bg bg' hg hg' heq

/-- A new block. -/
theorem HR.alloc {J : Inj} {ro : Nat} {B : World} {h : Nat → Option Blk} {w : World} (hh : HR J ro B h w) {b : Blk} {x : Nat} {c : Array Value} {e : TypeId} {fz : Nat × Nat}
    (hm0 : b.mp = none) (h1 : b.sz ≤ c.size) (h2 : b.op = true → b.sz + x * b.es = c.size ∧ b.zero = []) (h3 : ∀ o, o < c.size + b.full.toNat → (decide (fz.1 ≤ o) && decide (o < fz.2)) = false ∧ fz.1 ≤ fz.2)
    (h4 : ∀ o v, b.get o = some v → v.ok J.nx ∧ v.atom = true ∧ c[o]? = some (v.real J)) :
    HR (J.push (w.heap.size, 0, x)) ro B (fun k => if k = J.nx then some b else h k) (w.alloc (.cells c e fz)) := by
  refine hh.push hm0 (c := c) (e := e) (fz := fz) (fun g b hg => Below.heap_alloc _ _ _ (hh.blk g b hg).lt) (hh.base.below ((Below.refl _ w).alloc hh.base.size _)) ?_ hh.base.size (fun g b hg => Nat.ne_of_lt (hh.blk g b hg).lt) (by omega) (fun k => ⟨by have := (h2 k).1; omega, (h2 k).2⟩) h3 (fun o v hv => by simpa using h4 o v hv)
  show (w.heap.push _)[w.heap.size]? = _
  simp

/-- Blocks may be left out. -/
theorem HR.less {J : Inj} {ro : Nat} {B : World} {h h' : Nat → Option Blk} {w : World} (hh : HR J ro B h w) (hs : ∀ g b, h' g = some b → h g = some b) : HR J ro B h' w :=
  ⟨hh.base, fun g b hg => hh.blk g b (hs g b hg), fun g g' b b' hg hg' => hh.inj g g' b b' (hs g b hg) (hs g' b' hg')⟩

/-- What is there from before is there as it was. -/
theorem HR.back {J J' : Inj} {ro : Nat} {B : World} {h h' : Nat → Option Blk} {w w' : World} (hh : HR J ro B h w) (hh' : HR J' ro B h' w') (hle : J.le J') (hs : ∀ g b, h g = some b → h' g = some b) : HR J ro B h w' := by
  refine ⟨hh'.base, fun g b hg => ?_, hh.inj⟩
  have h1 := hh'.blk g b (hs g b hg)
  have h2 := hh.blk g b hg
  have l0 := h2.1
  have hm := hle.m g l0
  cases hq : b.mp with
  | none =>
    obtain ⟨k0, c0, e0, f0, k1, k2, k3, k4, k5⟩ := h1.cells hq
    obtain ⟨_, _, _, _, _, _, _, _, l5⟩ := h2.cells hq
    rw [hm] at k1 k2 k3 k4 k5
    refine BR.of_cells hq ⟨l0, c0, e0, f0, k1, k2, k3, k4, fun o v hv => ?_⟩
    obtain ⟨q1, q2, _⟩ := l5 o v hv
    obtain ⟨_, _, q3⟩ := k5 o v hv
    exact ⟨q1, q2, by rw [V.real_le hle v q1] at q3; exact q3⟩
  | some es =>
    unfold BR at h1 h2 ⊢
    rw [hq] at h1 h2 ⊢
    obtain ⟨_, m1, m2, ⟨ms, ck, m3, m4⟩, _⟩ := h1
    obtain ⟨_, _, _, _, n5⟩ := h2
    rw [hm] at m2 m3
    refine ⟨l0, m1, m2, ⟨ms, ck, m3, ?_⟩, n5⟩
    rw [m4]
    refine List.map_congr_left fun x hx => ?_
    rw [V.real_le hle x.1 (n5 x hx).1, V.real_le hle x.2 (n5 x hx).2]
end Go.Vm
