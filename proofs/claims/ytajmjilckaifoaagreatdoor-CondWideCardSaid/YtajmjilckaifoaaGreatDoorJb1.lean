/-
  What a law is handed, read as data: lists, in the memory that holds the whole world. Nothing is claimed here.
-/
import Derived.Test.YtajmjilckaifoaaGreatDoorJa2
import Derived.Test.YtajmjilckaifoaaGreatDoorJa4
import Derived.OpenShut
import Derived.DataReads
import Derived.SizedLaws
import Derived.Test.YtajmjilckaifoaaGreatDoorTa
import Derived.Test.YtajmjilckaifoaaGreatDoorProg
import Derived.KernelRfl
import Derived.Test.YtajmjilckaifoaaGreatDoorJb0
set_option linter.unusedVariables false
namespace Go.Sx
open Go.Vm Go.RowKit

section
variable {S : Sg} {Y : Sy S} {P : Program} {H : Type} {enc : TypeId × Value → H} {W : World}

/-- Cells of the world stand for data. -/
def CellsOK (Y : Sy S) (W : World) (us : List (U S)) (cs : List Value) : Prop :=
  cs.length = us.length ∧ ∀ (j : Nat) u x, us[j]? = some u → cs[j]? = some x → ∃ v, toV W.heap.size x = some v ∧ DatA Y (fun _ => False) (stW W) u v

/-- What lies where a type is read, up to some depth, is data of a kind. -/
def Rd (Y : Sy S) (P : Program) (enc : TypeId × Value → H) (W : World) (N : Nat) (e : TypeId) (c : S.Cd) : Prop :=
  ∀ fuel, fuel ≤ N → ∀ cs x, DataW.trod enc P W 0 (fun _ => true) true fuel e cs = some x → ∃ y : S.Den c, CellsOK Y W (Y.cells c y) cs

theorem cell_block {a : Addr} {v : Value} (h : W.cell? a = some v) : ∃ c e fz, W.heap[a.block]? = some (.cells c e fz) ∧ a.spot = none ∧ c[a.off]? = some v := by
  unfold World.cell? at h
  split at h
  · rename_i c e fz hc
    split at h
    · cases h
    · rename_i hs
      exact ⟨c, e, fz, hc, by simpa using hs, h⟩
  · cases h

theorem rd_slice {N : Nat} {t e : TypeId} {c : S.Cd} (ht : P.underlying t = some (.slice e)) (hw : P.cellsOf e = Y.wid c) (hr : Rd Y P enc W N e c) {fuel : Nat} (hf : fuel ≤ N + 1) {cs : List Value} {x : DataW H × List MemPlace}
    (h : DataW.trod enc P W 0 (fun _ => true) true fuel t cs = some x) : ∃ val v xs, cs = [val] ∧ toV W.heap.size val = some v ∧ Dat Y (fun _ => False) (stW W) c xs v := by
  rcases DataW.trod_slice ht h with ⟨rfl, _⟩ | ⟨a, len, cap, elems, rest, n, rfl, rfl, _, _, hlc, _, hel, hE, hR, _⟩
  · exact ⟨_, _, [], rfl, rfl, .nil c⟩
  have hpos := Y.wpos c
  obtain ⟨hrl, hR⟩ := hR rfl
  rw [hw] at hE hR
  -- an element's cells
  have elem : ∀ i, i < cap → ∃ (y : S.Den c) (cs' : List Value), W.cells? 0 (a.add (i * Y.wid c)) (Y.wid c) = some cs' ∧ CellsOK Y W (Y.cells c y) cs' := by
    intro i hi
    have key : ∃ z, (W.cells? 0 (a.add (i * Y.wid c)) (Y.wid c)).bind (DataW.trod enc P W 0 (fun _ => true) true n e) = some z := by
      by_cases hil : i < len
      · rw [hE i hil]
        exact ⟨_, List.getElem?_eq_getElem (by omega)⟩
      · have := hR (i - len) (by omega)
        rw [show len + (i - len) = i from by omega] at this
        rw [this]
        exact ⟨_, List.getElem?_eq_getElem (by omega)⟩
    obtain ⟨z, hz⟩ := key
    obtain ⟨cs', h1, h2⟩ := Option.bind_eq_some_iff.1 hz
    obtain ⟨y, hy⟩ := hr n (by omega) cs' z h2
    exact ⟨y, cs', h1, hy⟩
  by_cases hc0 : cap = 0
  · have hl0 : len = 0 := by omega
    subst hc0 hl0
    exact ⟨_, .ze a, [], rfl, rfl, .ze c a⟩
  · -- the block
    obtain ⟨y0, cs0, h1, h2⟩ := elem 0 (by omega)
    obtain ⟨_, hl0, hc1⟩ := World.cells?_some h1
    have hcell0 := hc1 0 (by omega)
    rw [List.getElem?_eq_getElem (by omega), Nat.zero_mul] at hcell0
    obtain ⟨cc, et, fz, hb, hs, hoff⟩ := cell_block (a := (a.add 0).add 0) hcell0
    have haa : (a.add 0).add 0 = a := by simp [Addr.add]
    rw [haa] at hb hs hoff
    obtain ⟨r, o, sp⟩ := a
    simp only at hb hs hoff
    subst hs
    have hlt : r < W.heap.size := (Array.getElem?_eq_some_iff.1 hb).1
    -- each cell
    have cells : ∀ (i : Nat) (cs' : List Value), W.cells? 0 (Addr.add ⟨r, o, none⟩ (i * Y.wid c)) (Y.wid c) = some cs' → ∀ j v, cs'[j]? = some v → cc[o + (i * Y.wid c + j)]? = some v := by
      intro i cs' h1 j v hj
      obtain ⟨_, hl, hc⟩ := World.cells?_some h1
      have hjl : j < Y.wid c := by rw [← hl]; exact (List.getElem?_eq_some_iff.1 hj).1
      have := hc j hjl
      rw [hj, Addr.add_lit, Addr.add_lit] at this
      simp only [World.cell?, hb] at this
      rw [← Nat.add_assoc]
      simpa using this
    let ys : Nat → S.Den c := fun i => if hi : i < cap then Classical.choose (elem i hi) else y0
    have hys : ∀ i, i < cap → ∃ cs' : List Value, W.cells? 0 (Addr.add ⟨r, o, none⟩ (i * Y.wid c)) (Y.wid c) = some cs' ∧ CellsOK Y W (Y.cells c (ys i)) cs' := by
      intro i hi
      have := Classical.choose_spec (elem i hi)
      simp only [ys, dif_pos hi]
      exact this
    have hxs : ∀ (i : Nat) x, ((List.range len).map ys)[i]? = some x → i < len ∧ x = ys i := by
      intro i x hx
      rw [List.getElem?_map] at hx
      cases hq : (List.range len)[i]? with
      | none => rw [hq] at hx; cases hx
      | some k =>
        obtain ⟨q1, q2⟩ := List.getElem?_eq_some_iff.1 hq
        have hk : k = i := by simpa using q2.symm
        subst hk
        rw [hq] at hx
        exact ⟨by simpa using q1, (Option.some.inj hx).symm⟩
    have hcel : Cel Y c ((List.range len).map ys) (fun k => (blkW W.heap.size cc).get (o + k)) (DatA Y (fun _ => False) (stW W)) := by
      intro i x hx j u hu
      obtain ⟨hi, rfl⟩ := hxs i x hx
      obtain ⟨cs', k1, k2, k3⟩ := hys i (by omega)
      have hjl : j < cs'.length := by rw [k2]; exact (List.getElem?_eq_some_iff.1 hu).1
      obtain ⟨v, k4, k5⟩ := k3 j u _ hu (List.getElem?_eq_getElem hjl)
      exact ⟨v, blkW_get.2 ⟨_, cells i cs' k1 j _ (List.getElem?_eq_getElem hjl), k4⟩, k5⟩
    obtain ⟨vs, r1, r2⟩ := rows_of_cel hcel
    have hlen : ((List.range len).map ys).length = len := by simp
    have hd := Dat.mk (Y := Y) (own := fun _ => False) (st := stW W) (c := c) (xs := (List.range len).map ys) (id := idOf r) (off := o) (cap := cap) (op := false) (b := blkW W.heap.size cc) vs (fun q => q) (idOf_lt hlt) (hpW_get.2 ⟨r, cc, et, fz, rfl, hb, rfl⟩) r1 r2 (by rw [hlen]; exact hlc)
    rw [hlen] at hd
    refine ⟨_, .sl (idOf r) o len cap false, (List.range len).map ys, rfl, ?_, hd⟩
    have : toV W.heap.size (.slice (some ⟨r, o, none⟩) len cap) = if r < W.heap.size ∧ len ≤ cap then some (.sl (idOf r) o len cap false) else none := by
      cases cap with
      | zero => exact absurd rfl hc0
      | succ cap => cases len <;> rfl
    rw [this, if_pos ⟨hlt, hlc⟩]

/-- One cell of a struct. -/
theorem one_at {cs : List Value} {o : Nat} {v : Value} (h : (cs.drop o).take 1 = [v]) : cs[o]? = some v := by
  have := congrArg (·[0]?) h
  simpa [List.getElem?_take, List.getElem?_drop] using this

/-- The listed variables hold what they hold. -/
theorem gok_world {G : Gl} (h : ∀ g k l, G g = some (k, l) → g < GL ∧ ∃ c e fz, W.heap[g]? = some (.cells c e fz) ∧ ∀ j, j < l.length → c[j]? = some (.int k (l.getD j 0))) : GOK G (GL + W.heap.size) (stW W) := by
  intro g k l hg
  obtain ⟨h1, c, e, fz, h2, h3⟩ := h g k l hg
  refine ⟨by omega, blkW W.heap.size c, hpW_get.2 ⟨g, c, e, fz, by unfold idOf; rw [if_pos h1], h2, rfl⟩, fun j hj => blkW_get.2 ⟨_, h3 j hj, rfl⟩⟩
end
end Go.Sx
set_option linter.unusedVariables false
namespace Go.Sx
open Go.Vm Go.RowKit

section
variable {S : Sg} {Y : Sy S} {P : Program} {H : Type} {enc : TypeId × Value → H} {W : World}
theorem rd_sliceQL {N : Nat} {t e : TypeId} {c : S.Cd} (ht : P.underlying t = some (.slice e)) (hw : P.cellsOf e = Y.wid c) {Q : S.Den c → DataW H → Prop} (hr : ∀ fuel, fuel ≤ N → ∀ cs x, DataW.trod enc P W 0 (fun _ => true) true fuel e cs = some x → ∃ y : S.Den c, CellsOK Y W (Y.cells c y) cs ∧ Q y x.1) {fuel : Nat} (hf : fuel ≤ N + 1) {cs : List Value} {x : DataW H × List MemPlace}
    (h : DataW.trod enc P W 0 (fun _ => true) true fuel t cs = some x) : ∃ val v xs, cs = [val] ∧ toV W.heap.size val = some v ∧ Dat Y (fun _ => False) (stW W) c xs v ∧ (∀ y ∈ xs, ∃ el sp, x.1 = .slice el sp ∧ ∃ d ∈ el, Q y d) ∧ xs.length ≤ maxLen := by
  rcases DataW.trod_slice ht h with ⟨rfl, _⟩ | ⟨a, len, cap, elems, rest, n, rfl, rfl, hx, _, hlc, hcm, hel, hE, hR, _⟩
  · exact ⟨_, _, [], rfl, rfl, .nil c, fun y hy => (by cases hy), Nat.zero_le _⟩
  have hpos := Y.wpos c
  obtain ⟨hrl, hR⟩ := hR rfl
  rw [hw] at hE hR
  -- an element's cells
  have elem : ∀ i, i < cap → ∃ (y : S.Den c) (cs' : List Value), W.cells? 0 (a.add (i * Y.wid c)) (Y.wid c) = some cs' ∧ CellsOK Y W (Y.cells c y) cs' ∧ (∀ d, i < len → elems[i]? = some d → Q y d.1) := by
    intro i hi
    have key : ∃ z, (W.cells? 0 (a.add (i * Y.wid c)) (Y.wid c)).bind (DataW.trod enc P W 0 (fun _ => true) true n e) = some z := by
      by_cases hil : i < len
      · rw [hE i hil]
        exact ⟨_, List.getElem?_eq_getElem (by omega)⟩
      · have := hR (i - len) (by omega)
        rw [show len + (i - len) = i from by omega] at this
        rw [this]
        exact ⟨_, List.getElem?_eq_getElem (by omega)⟩
    obtain ⟨z, hz⟩ := key
    obtain ⟨cs', h1, h2⟩ := Option.bind_eq_some_iff.1 hz
    obtain ⟨y, hy⟩ := hr n (by omega) cs' z h2
    exact ⟨y, cs', h1, hy.1, fun d hil hd => by
      have e1 := hE i hil
      rw [hz, hd] at e1
      obtain rfl := Option.some.inj e1
      exact hy.2⟩
  by_cases hc0 : cap = 0
  · have hl0 : len = 0 := by omega
    subst hc0 hl0
    exact ⟨_, .ze a, [], rfl, rfl, .ze c a, fun y hy => (by cases hy), Nat.zero_le _⟩
  · -- the block
    obtain ⟨y0, cs0, h1, h2, _⟩ := elem 0 (by omega)
    obtain ⟨_, hl0, hc1⟩ := World.cells?_some h1
    have hcell0 := hc1 0 (by omega)
    rw [List.getElem?_eq_getElem (by omega), Nat.zero_mul] at hcell0
    obtain ⟨cc, et, fz, hb, hs, hoff⟩ := cell_block (a := (a.add 0).add 0) hcell0
    have haa : (a.add 0).add 0 = a := by simp [Addr.add]
    rw [haa] at hb hs hoff
    obtain ⟨r, o, sp⟩ := a
    simp only at hb hs hoff
    subst hs
    have hlt : r < W.heap.size := (Array.getElem?_eq_some_iff.1 hb).1
    -- each cell
    have cells : ∀ (i : Nat) (cs' : List Value), W.cells? 0 (Addr.add ⟨r, o, none⟩ (i * Y.wid c)) (Y.wid c) = some cs' → ∀ j v, cs'[j]? = some v → cc[o + (i * Y.wid c + j)]? = some v := by
      intro i cs' h1 j v hj
      obtain ⟨_, hl, hc⟩ := World.cells?_some h1
      have hjl : j < Y.wid c := by rw [← hl]; exact (List.getElem?_eq_some_iff.1 hj).1
      have := hc j hjl
      rw [hj, Addr.add_lit, Addr.add_lit] at this
      simp only [World.cell?, hb] at this
      rw [← Nat.add_assoc]
      simpa using this
    let ys : Nat → S.Den c := fun i => if hi : i < cap then Classical.choose (elem i hi) else y0
    have hys : ∀ i, i < cap → ∃ cs' : List Value, W.cells? 0 (Addr.add ⟨r, o, none⟩ (i * Y.wid c)) (Y.wid c) = some cs' ∧ CellsOK Y W (Y.cells c (ys i)) cs' ∧ (∀ d, i < len → elems[i]? = some d → Q (ys i) d.1) := by
      intro i hi
      have := Classical.choose_spec (elem i hi)
      simp only [ys, dif_pos hi]
      exact this
    have hxs : ∀ (i : Nat) x, ((List.range len).map ys)[i]? = some x → i < len ∧ x = ys i := by
      intro i x hx
      rw [List.getElem?_map] at hx
      cases hq : (List.range len)[i]? with
      | none => rw [hq] at hx; cases hx
      | some k =>
        obtain ⟨q1, q2⟩ := List.getElem?_eq_some_iff.1 hq
        have hk : k = i := by simpa using q2.symm
        subst hk
        rw [hq] at hx
        exact ⟨by simpa using q1, (Option.some.inj hx).symm⟩
    have hcel : Cel Y c ((List.range len).map ys) (fun k => (blkW W.heap.size cc).get (o + k)) (DatA Y (fun _ => False) (stW W)) := by
      intro i x hx j u hu
      obtain ⟨hi, rfl⟩ := hxs i x hx
      obtain ⟨cs', k1, ⟨k2, k3⟩, _⟩ := hys i (by omega)
      have hjl : j < cs'.length := by rw [k2]; exact (List.getElem?_eq_some_iff.1 hu).1
      obtain ⟨v, k4, k5⟩ := k3 j u _ hu (List.getElem?_eq_getElem hjl)
      exact ⟨v, blkW_get.2 ⟨_, cells i cs' k1 j _ (List.getElem?_eq_getElem hjl), k4⟩, k5⟩
    obtain ⟨vs, r1, r2⟩ := rows_of_cel hcel
    have hlen : ((List.range len).map ys).length = len := by simp
    have hd := Dat.mk (Y := Y) (own := fun _ => False) (st := stW W) (c := c) (xs := (List.range len).map ys) (id := idOf r) (off := o) (cap := cap) (op := false) (b := blkW W.heap.size cc) vs (fun q => q) (idOf_lt hlt) (hpW_get.2 ⟨r, cc, et, fz, rfl, hb, rfl⟩) r1 r2 (by rw [hlen]; exact hlc)
    rw [hlen] at hd
    refine ⟨_, .sl (idOf r) o len cap false, (List.range len).map ys, rfl, ?_, hd, fun y hy => ?_, by rw [hlen]; omega⟩
    rotate_left
    · obtain ⟨i, hi, rfl⟩ := List.mem_map.1 hy
      have hi := List.mem_range.1 hi
      obtain ⟨cs', _, _, k4⟩ := hys i (by omega)
      have hlt2 : i < elems.length := by omega
      exact ⟨_, _, congrArg Prod.fst hx, _, List.mem_map.2 ⟨elems[i], List.getElem_mem hlt2, rfl⟩, k4 elems[i] hi (List.getElem?_eq_getElem hlt2)⟩
    have : toV W.heap.size (.slice (some ⟨r, o, none⟩) len cap) = if r < W.heap.size ∧ len ≤ cap then some (.sl (idOf r) o len cap false) else none := by
      cases cap with
      | zero => exact absurd rfl hc0
      | succ cap => cases len <;> rfl
    rw [this, if_pos ⟨hlt, hlc⟩]

theorem rd_sliceQ {N : Nat} {t e : TypeId} {c : S.Cd} (ht : P.underlying t = some (.slice e)) (hw : P.cellsOf e = Y.wid c) {Q : S.Den c → DataW H → Prop} (hr : ∀ fuel, fuel ≤ N → ∀ cs x, DataW.trod enc P W 0 (fun _ => true) true fuel e cs = some x → ∃ y : S.Den c, CellsOK Y W (Y.cells c y) cs ∧ Q y x.1) {fuel : Nat} (hf : fuel ≤ N + 1) {cs : List Value} {x : DataW H × List MemPlace}
    (h : DataW.trod enc P W 0 (fun _ => true) true fuel t cs = some x) : ∃ val v xs, cs = [val] ∧ toV W.heap.size val = some v ∧ Dat Y (fun _ => False) (stW W) c xs v ∧ ∀ y ∈ xs, ∃ el sp, x.1 = .slice el sp ∧ ∃ d ∈ el, Q y d := by
  obtain ⟨val, v, xs, a, b, d, q, _⟩ := rd_sliceQL ht hw hr hf h
  exact ⟨val, v, xs, a, b, d, q⟩

/-- What a list weighs. -/
theorem sized_elem {ts : List TypeId} {ds : List (DataW H)} (h : (DataW.weightsEach P ts ds).all (· ≤ reachBytes) = true) {j : Nat} {t e : TypeId} {elems spare : List (DataW H)} (ht : ts[j]? = some t) (hd : ds[j]? = some (.slice elems spare)) (hu : P.underlying t = some (.slice e))
    {d : DataW H} (hm : d ∈ elems) : ∀ n ∈ d.weights P e, n ≤ reachBytes := by
  intro n hn
  have hin : ∀ l : List (DataW H), d ∈ l → n ∈ DataW.weightsAll P e l := by
    intro l hl
    induction l with
    | nil => cases hl
    | cons a r ih =>
      rw [DataW.weightsAll, List.mem_append]
      rcases List.mem_cons.1 hl with rfl | hl
      · exact .inl hn
      · exact .inr (ih hl)
  have := List.all_eq_true.1 h n (DataW.weights_mem_each ht hd n (by simp only [DataW.weights, hu]; exact List.mem_cons_of_mem _ (List.mem_append_left _ (hin _ hm))))
  simpa using this
end
end Go.Sx
namespace Go.Vm
open Go.RowKit
theorem one_take {cs : List Value} {o : Nat} {v : Value} (h : (cs.drop o).take 1 = [v]) : cs[o]? = some v := by
  have := congrArg (·[0]?) h
  simpa [List.getElem?_take, List.getElem?_drop] using this
/-- A token that is read: its cells, and what it is read as. -/
theorem trod_tok {P : Program} {H : Type} {enc : TypeId × Value → H} {w : World} {base : Nat} {spare : Nat → Bool} {held : Bool} {t : TypeId} {f0 f1 f2 f3 f4 : Field} {fuel : Nat} {cs : List Value} {x : DataW H × List MemPlace}
    (ht : P.underlying t = some (.struct #[f0, f1, f2, f3, f4])) (hc : P.cellsOf t = 5) (o0 : f0.offset = 0) (o1 : f1.offset = 1) (o2 : f2.offset = 2) (o3 : f3.offset = 3) (o4 : f4.offset = 4)
    (c0 : P.cellsOf f0.type = 1) (c1 : P.cellsOf f1.type = 1) (c2 : P.cellsOf f2.type = 1) (c3 : P.cellsOf f3.type = 1) (c4 : P.cellsOf f4.type = 1)
    (k0 : P.underlying f0.type = some (.int .u8)) (k1 : P.underlying f1.type = some .string) (k2 : P.underlying f2.type = some (.int .i64)) (k3 : P.underlying f3.type = some .string) (k4 : P.underlying f4.type = some .bool)
    (h : DataW.trod enc P w base spare held fuel t cs = some x) :
    ∃ (k : Int) (tx : ByteArray) (m : Int) (un : ByteArray) (fl : Bool), cs = [.int .u8 k, .string tx, .int .i64 m, .string un, .bool fl] ∧ x.1 = .agg [.lit (.int .u8 k), .lit (.string tx.data.toList), .lit (.int .i64 m), .lit (.string un.data.toList), .lit (.bool fl)] ∧
      (∀ n ∈ x.1.weights P t, n ≤ reachBytes) = (∀ n ∈ DataW.weightsEach P ([f0, f1, f2, f3, f4].map (·.type)) ([.lit (.int .u8 k), .lit (.string tx.data.toList), .lit (.int .i64 m), .lit (.string un.data.toList), .lit (.bool fl)] : List (DataW H)), n ≤ reachBytes) := by
  obtain ⟨xs, n, _, hx, hl, hlen, hf⟩ := DataW.trod_struct ht h
  match xs, hlen with
  | [y0, y1, y2, y3, y4], _ =>
    have g0 : DataW.trod enc P w base spare held n f0.type ((cs.drop f0.offset).take (P.cellsOf f0.type)) = some y0 := hf 0 f0 rfl
    have g1 : DataW.trod enc P w base spare held n f1.type ((cs.drop f1.offset).take (P.cellsOf f1.type)) = some y1 := hf 1 f1 rfl
    have g2 : DataW.trod enc P w base spare held n f2.type ((cs.drop f2.offset).take (P.cellsOf f2.type)) = some y2 := hf 2 f2 rfl
    have g3 : DataW.trod enc P w base spare held n f3.type ((cs.drop f3.offset).take (P.cellsOf f3.type)) = some y3 := hf 3 f3 rfl
    have g4 : DataW.trod enc P w base spare held n f4.type ((cs.drop f4.offset).take (P.cellsOf f4.type)) = some y4 := hf 4 f4 rfl
    rw [o0, c0] at g0
    rw [o1, c1] at g1
    rw [o2, c2] at g2
    rw [o3, c3] at g3
    rw [o4, c4] at g4
    obtain ⟨k, e0, z0, _⟩ := DataW.trod_int k0 g0
    obtain ⟨tx, e1, z1, _⟩ := DataW.trod_string k1 g1
    obtain ⟨m, e2, z2, _⟩ := DataW.trod_int k2 g2
    obtain ⟨un, e3, z3, _⟩ := DataW.trod_string k3 g3
    obtain ⟨fl, e4, z4⟩ := DataW.trod_bool k4 g4
    rw [hc] at hl
    have a0 := one_take e0
    have a1 := one_take e1
    have a2 := one_take e2
    have a3 := one_take e3
    have a4 := one_take e4
    have hcs : cs = [.int .u8 k, .string tx, .int .i64 m, .string un, .bool fl] := by
      match cs, hl with
      | [v0, v1, v2, v3, v4], _ =>
        obtain rfl := Option.some.inj a0
        obtain rfl := Option.some.inj a1
        obtain rfl := Option.some.inj a2
        obtain rfl := Option.some.inj a3
        obtain rfl := Option.some.inj a4
        rfl
    have hx1 : x.1 = .agg [.lit (.int .u8 k), .lit (.string tx.data.toList), .lit (.int .i64 m), .lit (.string un.data.toList), .lit (.bool fl)] := by
      rw [hx]
      show DataW.agg [y0.1, y1.1, y2.1, y3.1, y4.1] = _
      rw [z0, z1, z2, z3, z4]
    refine ⟨k, tx, m, un, fl, hcs, hx1, ?_⟩
    rw [hx1]
    simp only [DataW.weights, ht]
end Go.Vm
namespace Go.Proofs.YtajmjilckaifoaaGreatDoor
open Go.Vm Go.Sx Go.RowKit

/-- Lists in values have lengths that there are. -/
inductive LenV : Val → Prop where
  | mk {t : Tok} {l : List Val} (h1 : l.length ≤ maxLen) (h2 : ∀ v, v ∈ l → LenV v) : LenV (Val.mk t l)
structure LenVs (l : List Val) : Prop where
  len : l.length ≤ maxLen
  all : ∀ v ∈ l, LenV v
inductive LenC : Cnd → Prop where
  | mk {k : Int} {nm : List UInt8} {n : Int} {d : Dcl} {l : List Cnd} (h1 : l.length ≤ maxLen) (h2 : LenVs d.val) (h3 : ∀ c, c ∈ l → LenC c) : LenC (Cnd.mk k nm n d l)

section
variable {H : Type} {enc : TypeId × Value → H} {W : World}
/-- Cells side by side. -/
theorem cApp {us us' : List (U sg)} {cs cs' : List Value} (h : CellsOK sy W us cs) (h' : CellsOK sy W us' cs') : CellsOK sy W (us ++ us') (cs ++ cs') := by
  obtain ⟨l1, g1⟩ := h
  obtain ⟨l2, g2⟩ := h'
  refine ⟨by rw [List.length_append, List.length_append, l1, l2], fun j u x hu hx => ?_⟩
  rw [List.getElem?_append] at hu hx
  by_cases hj : j < us.length
  · rw [if_pos hj] at hu
    rw [if_pos (by omega)] at hx
    exact g1 j u x hu hx
  · rw [if_neg hj] at hu
    rw [if_neg (by omega), l1] at hx
    exact g2 _ u x hu hx
theorem cOne {u : U sg} {c : Value} {v : V} (h : toV W.heap.size c = some v) (h' : DatA sy (fun _ => False) (stW W) u v) : CellsOK sy W [u] [c] :=
  ⟨rfl, fun j u' x hu hx => by
    match j, hu, hx with
    | 0, hu, hx => obtain rfl := Option.some.inj hu; obtain rfl := Option.some.inj hx; exact ⟨_, h, h'⟩
    | j + 1, hu, hx => cases hu⟩
theorem cI {k : IntKind} {n : Int} : CellsOK sy W [.i k n] [.int k n] := cOne rfl (.i _ _)
theorem cS {b : ByteArray} : CellsOK sy W [.s b.data.toList] [.string b] := cOne rfl (.s _)
theorem cB {b : Bool} : CellsOK sy W [.b b] [.bool b] := cOne rfl (.b _)
theorem cTok {k : Int} {tx : ByteArray} {m : Int} {un : ByteArray} {fl : Bool} : CellsOK sy W (tokU ⟨k, tx.data.toList, m, un.data.toList, fl⟩) [.int .u8 k, .string tx, .int .i64 m, .string un, .bool fl] :=
  cApp (cApp (cApp (cApp cI cS) cI) cS) cB

/-- What is taken from cells, one piece behind the other. -/
theorem take_split {cs : List Value} {n : Nat} {a : List Value} (h : cs.take n = a) : cs = a ++ cs.drop n := by rw [← h, List.take_append_drop]

theorem cs3 {cs : List Value} {a b c : Value} (h : cs.length = 3) (h0 : cs[0]? = some a) (h1 : cs[1]? = some b) (h2 : cs[2]? = some c) : cs = [a] ++ [b] ++ [c] := by
  match cs, h with
  | [v0, v1, v2], _ =>
    obtain rfl := Option.some.inj h0
    obtain rfl := Option.some.inj h1
    obtain rfl := Option.some.inj h2
    rfl
theorem cs7 {cs : List Value} {a b c d : Value} (h : cs.length = 7) (h0 : cs[0]? = some a) (h1 : cs[1]? = some b) (h2 : cs[2]? = some c) (h6 : cs[6]? = some d) : cs = [a] ++ [b] ++ [c] ++ (cs.drop 3).take 3 ++ [d] := by
  match cs, h with
  | [v0, v1, v2, v3, v4, v5, v6], _ =>
    obtain rfl := Option.some.inj h0
    obtain rfl := Option.some.inj h1
    obtain rfl := Option.some.inj h2
    obtain rfl := Option.some.inj h6
    rfl

theorem rdV : ∀ (N fuel : Nat), fuel ≤ N → ∀ cs x, DataW.trod enc Tryz.prog W 0 (fun _ => true) true fuel 38 cs = some x →
    ∃ y : Val, CellsOK sy W (sy.cells Cd.val y) cs ∧ LenV y
  | 0, fuel, hN, cs, x, h => by
    obtain ⟨_, _, h1, _⟩ := DataW.trod_struct Tryz.underlying38 h
    omega
  | N + 1, fuel, hN, cs, x, h => by
    obtain ⟨xs, n, h1, h2, h3, h4, h5⟩ := DataW.trod_struct Tryz.underlying38 h
    match xs, h4, h5 with
    | [y0, y1], _, h5 =>
      have g0 := h5 0 _ rfl
      have g1 := h5 1 _ rfl
      simp only [List.getElem?_cons_zero, List.getElem?_cons_succ] at g0 g1
      obtain ⟨k, tx, m, un, fl, e1, z1, w1⟩ := trod_tok Tryz.underlying36 (by kernel_rfl) rfl rfl rfl rfl rfl (by kernel_rfl) (by kernel_rfl) (by kernel_rfl) (by kernel_rfl) (by kernel_rfl) Tryz.underlying5 Tryz.underlying9 Tryz.underlying2 Tryz.underlying9 Tryz.underlying4 g0
      obtain ⟨val, v, l, e2, hv, hd, hq, hl⟩ := rd_sliceQL (Y := sy) (N := N) (c := Cd.val) Tryz.underlying25 (by kernel_rfl) (Q := fun y _ => LenV y) (fun f hf cs x h => rdV N f hf cs x h) (by omega) g1
      have c0 : Tryz.prog.cellsOf 36 = 5 := by kernel_rfl
      have c1 : Tryz.prog.cellsOf 25 = 1 := by kernel_rfl
      have c2 : Tryz.prog.cellsOf 38 = 6 := by kernel_rfl
      rw [c2] at h3
      have e1 : (cs.drop 0).take 5 = _ := (congrArg (fun n => (cs.drop 0).take n) c0.symm).trans e1
      have e2 : (cs.drop 5).take 1 = _ := (congrArg (fun n => (cs.drop 5).take n) c1.symm).trans e2
      rw [List.drop_zero] at e1
      have hcs : cs = [.int .u8 k, .string tx, .int .i64 m, .string un, .bool fl] ++ [val] := by
        have := take_split e1
        rw [List.take_of_length_le (by simp; omega)] at e2
        rw [e2] at this
        exact this
      refine ⟨Val.mk ⟨k, tx.data.toList, m, un.data.toList, fl⟩ l, ?_, LenV.mk hl fun v hv => ?_⟩
      · rw [hcs]
        exact cApp cTok (cOne hv (.l hd))
      · obtain ⟨el, sp, q1, d, q2, q3⟩ := hq v hv
        exact q3

theorem rdD {fuel : Nat} {cs : List Value} {x : DataW H × List MemPlace} (h : DataW.trod enc Tryz.prog W 0 (fun _ => true) true fuel 27 cs = some x) :
    ∃ y : Dcl, CellsOK sy W [.s y.name, .l Cd.val y.val, .b y.imp] cs ∧ LenVs y.val := by
  obtain ⟨xs, n, h1, h2, h3, h4, h5⟩ := DataW.trod_struct Tryz.underlying27 h
  match xs, h4, h5 with
  | [y0, y1, y2], _, h5 =>
    have g0 := h5 0 _ rfl
    have g1 := h5 1 _ rfl
    have g2 := h5 2 _ rfl
    simp only [List.getElem?_cons_zero, List.getElem?_cons_succ] at g0 g1 g2
    obtain ⟨nm, e0, z0, _⟩ := DataW.trod_string Tryz.underlying9 g0
    obtain ⟨val, v, l, e1, hv, hd, hq, hl⟩ := rd_sliceQL (Y := sy) (N := n) (c := Cd.val) Tryz.underlying25 (by kernel_rfl) (Q := fun y _ => LenV y) (fun f hf cs x h => rdV n f hf cs x h) (by omega) g1
    obtain ⟨im, e2, z2⟩ := DataW.trod_bool Tryz.underlying4 g2
    have c0 : Tryz.prog.cellsOf 9 = 1 := by kernel_rfl
    have c1 : Tryz.prog.cellsOf 25 = 1 := by kernel_rfl
    have c2 : Tryz.prog.cellsOf 4 = 1 := by kernel_rfl
    have c3 : Tryz.prog.cellsOf 27 = 3 := by kernel_rfl
    rw [c3] at h3
    have a0 := one_take ((congrArg (fun n => (cs.drop 0).take n) c0.symm).trans e0)
    have a1 := one_take ((congrArg (fun n => (cs.drop 1).take n) c1.symm).trans e1)
    have a2 := one_take ((congrArg (fun n => (cs.drop 2).take n) c2.symm).trans e2)
    have hcs : cs = [.string nm] ++ [val] ++ [.bool im] := cs3 h3 a0 a1 a2
    refine ⟨⟨nm.data.toList, l, im⟩, ?_, hl, fun v hv => ?_⟩
    · rw [hcs]
      exact cApp (cApp cS (cOne hv (.l hd))) cB
    · obtain ⟨el, sp, q1, d, q2, q3⟩ := hq v hv
      exact q3

theorem rdC : ∀ (N fuel : Nat), fuel ≤ N → ∀ cs x, DataW.trod enc Tryz.prog W 0 (fun _ => true) true fuel 30 cs = some x →
    ∃ y : Cnd, CellsOK sy W (sy.cells Cd.cnd y) cs ∧ LenC y
  | 0, fuel, hN, cs, x, h => by
    obtain ⟨_, _, h1, _⟩ := DataW.trod_struct Tryz.underlying30 h
    omega
  | N + 1, fuel, hN, cs, x, h => by
    obtain ⟨xs, n, h1, h2, h3, h4, h5⟩ := DataW.trod_struct Tryz.underlying30 h
    match xs, h4, h5 with
    | [y0, y1, y2, y3, y4], _, h5 =>
      have g0 := h5 0 _ rfl
      have g1 := h5 1 _ rfl
      have g2 := h5 2 _ rfl
      have g3 := h5 3 _ rfl
      have g4 := h5 4 _ rfl
      simp only [List.getElem?_cons_zero, List.getElem?_cons_succ] at g0 g1 g2 g3 g4
      obtain ⟨k, e0, z0, _⟩ := DataW.trod_int Tryz.underlying5 g0
      obtain ⟨nm, e1, z1, _⟩ := DataW.trod_string Tryz.underlying9 g1
      obtain ⟨m, e2, z2, _⟩ := DataW.trod_int Tryz.underlying2 g2
      obtain ⟨d, f3, w3⟩ := rdD g3
      obtain ⟨val, v, l, e4, hv, hd, hq, hl⟩ := rd_sliceQL (Y := sy) (N := N) (c := Cd.cnd) Tryz.underlying28 (by kernel_rfl) (Q := fun y _ => LenC y) (fun f hf cs x h => rdC N f hf cs x h) (by omega) g4
      have c0 : Tryz.prog.cellsOf 5 = 1 := by kernel_rfl
      have c1 : Tryz.prog.cellsOf 9 = 1 := by kernel_rfl
      have c2 : Tryz.prog.cellsOf 2 = 1 := by kernel_rfl
      have c3 : Tryz.prog.cellsOf 27 = 3 := by kernel_rfl
      have c4 : Tryz.prog.cellsOf 28 = 1 := by kernel_rfl
      have c5 : Tryz.prog.cellsOf 30 = 7 := by kernel_rfl
      rw [c5] at h3
      have a0 := one_take ((congrArg (fun n => (cs.drop 0).take n) c0.symm).trans e0)
      have a1 := one_take ((congrArg (fun n => (cs.drop 1).take n) c1.symm).trans e1)
      have a2 := one_take ((congrArg (fun n => (cs.drop 2).take n) c2.symm).trans e2)
      have f3 : CellsOK sy W [.s d.name, .l Cd.val d.val, .b d.imp] ((cs.drop 3).take 3) := by
        have e : (cs.drop 3).take (Tryz.prog.cellsOf 27) = (cs.drop 3).take 3 := congrArg (fun n => (cs.drop 3).take n) c3
        rw [← e]
        exact f3
      have a4 := one_take ((congrArg (fun n => (cs.drop 6).take n) c4.symm).trans e4)
      have hcs : cs = [.int .u8 k] ++ [.string nm] ++ [.int .i64 m] ++ (cs.drop 3).take 3 ++ [val] := cs7 h3 a0 a1 a2 a4
      refine ⟨Cnd.mk k nm.data.toList m d l, ?_, LenC.mk hl w3 fun v hv => ?_⟩
      · rw [hcs]
        exact cApp (cApp (cApp (cApp cI cS) cI) f3) (cOne hv (.l hd))
      · obtain ⟨el, sp, q1, d, q2, q3⟩ := hq v hv
        exact q3
end
end Go.Proofs.YtajmjilckaifoaaGreatDoor
set_option linter.unusedVariables false
namespace Go.Proofs.YtajmjilckaifoaaGreatDoor
open Go.Vm Go.Sx Go.RowKit

theorem eta (c : Cnd) : Cnd.mk c.kind c.name c.num ⟨c.decl.name, c.decl.val, c.decl.imp⟩ c.list = c := by cases c; rfl
theorem LenC.list {c : Cnd} (h : LenC c) : c.list.length ≤ maxLen := by cases h; assumption
theorem LenC.all {c : Cnd} (h : LenC c) : ∀ x ∈ c.list, LenC x := by cases h; assumption
theorem LenC.val {c : Cnd} (h : LenC c) : LenVs c.decl.val := by cases h; assumption
theorem maxLen_eq : maxLen = 9223372036854775807 := rfl
theorem getD_mem {α : Type} {l : List α} {i : Nat} (d : α) (h : i < l.length) : l.getD i d ∈ l := by
  rw [List.getD_eq_getElem?_getD, List.getElem?_eq_getElem h]
  exact List.getElem_mem h
theorem drop_getD {α : Type} {l : List α} {i : Nat} (d : α) (h : i < l.length) : l.drop i = l.getD i d :: l.drop (i + 1) := by
  rw [List.getD_eq_getElem?_getD, List.getElem?_eq_getElem h]
  exact List.drop_eq_getElem_cons h
theorem i64_succ {i n : Nat} (h : i < n) (hn : n ≤ maxLen) : I64 ((i : Int) + 1) := by
  rw [maxLen_eq] at hn
  exact ⟨by omega, by omega⟩

/-! ### Small letters -/

def lowI (a : Int) : Int := if 65 ≤ a ∧ a ≤ 90 then a + 32 else a
def lowB (x : UInt8) : UInt8 := UInt8.ofNat (lowI (x.toNat : Int)).toNat
theorem lowI_le {a : Int} (h : 0 ≤ a ∧ a ≤ 255) : 0 ≤ lowI a ∧ lowI a ≤ 255 := by
  unfold lowI
  split <;> omega
def s_lowb : T_input_lowerByte := fun a K => (0 ≤ a ∧ a ≤ 255) ∧ K (lowI a)
def s_Small : T_vitrineref01_Small := fun a K => (0 ≤ a ∧ a ≤ 255) ∧ K (lowI a)
theorem wr8 {a : Int} (h1 : 0 ≤ a) (h2 : a ≤ 255) : IntKind.u8.wrap a = a := by
  simp [IntKind.wrap, IntKind.bits, IntKind.signed]; omega
theorem p_lowb (a : Int) (K : Int → Prop) (h : s_lowb a K) : F_input_lowerByte a K := by
  obtain ⟨⟨h0, h1⟩, h⟩ := h
  unfold lowI at h
  refine ⟨fun q => ⟨fun r => ?_, fun r => ?_⟩, fun q => ?_⟩
  · have q := of_decide_eq_true q
    have r := of_decide_eq_true r
    rw [if_pos ⟨q, r⟩] at h
    rw [wr8 (by omega) (by omega)]
    exact h
  · have r := of_decide_eq_false r
    rwa [if_neg (by omega)] at h
  · have q := of_decide_eq_false q
    rwa [if_neg (by omega)] at h
theorem p_Small (a : Int) (K : Int → Prop) (h : s_Small a K) : F_vitrineref01_Small a K := by
  obtain ⟨⟨h0, h1⟩, h⟩ := h
  unfold lowI at h
  refine ⟨fun q => ⟨fun r => ?_, fun r => ?_⟩, fun q => ?_⟩
  · have q := of_decide_eq_true q
    have r := of_decide_eq_true r
    rw [if_pos ⟨q, r⟩] at h
    rw [wr8 (a := a - 65) (by omega) (by omega), wr8 (by omega) (by omega), show a - 65 + 97 = a + 32 by omega]
    exact h
  · have r := of_decide_eq_false r
    rwa [if_neg (by omega)] at h
  · have q := of_decide_eq_false q
    rwa [if_neg (by omega)] at h

theorem set_mid {α : Type} (x v : α) (r : List α) : ∀ A : List α, (A ++ x :: r).set A.length v = A ++ v :: r
  | [] => rfl
  | a :: A => by simp [set_mid x v r A]
theorem getD_mid {α : Type} (x d : α) (r : List α) : ∀ A : List α, (A ++ x :: r).getD A.length d = x
  | [] => rfl
  | a :: A => by simp
theorem set_low (s : List UInt8) (i : Nat) (h : i < s.length) (d : UInt8) : ((s.take i).map lowB ++ s.drop i).set i (lowB (((s.take i).map lowB ++ s.drop i).getD i d)) = (s.take (i + 1)).map lowB ++ s.drop (i + 1) := by
  have e : s.drop i = s[i] :: s.drop (i + 1) := List.drop_eq_getElem_cons h
  have l : ((s.take i).map lowB).length = i := by simp; omega
  have g := getD_mid s[i] d (s.drop (i + 1)) ((s.take i).map lowB)
  have t := set_mid s[i] (lowB s[i]) (s.drop (i + 1)) ((s.take i).map lowB)
  rw [l] at g t
  rw [e, g, t, List.take_succ_eq_append_getElem h, List.map_append]
  simp

def s_Low : T_input_Lower := fun s K => s.length ≤ 1099511627776 ∧ K (s.map lowB)
def s_rLow : T_vitrineref01_Lower := fun s K => s.length ≤ 1099511627776 ∧ K (s.map lowB)
theorem low_len (s : List UInt8) (i : Nat) (h : i ≤ s.length) : ((s.take i).map lowB ++ s.drop i).length = s.length := by simp; omega
theorem u8le (x : UInt8) : (0 : Int) ≤ (x.toNat : Int) ∧ (x.toNat : Int) ≤ 255 := by
  have := x.toNat_lt
  omega
theorem p_Low_l (s : List UInt8) (K : List UInt8 → Prop) (hl : s.length ≤ 1099511627776) (h : K (s.map lowB)) : ∀ (n i : Nat), s.length < n + i → i ≤ s.length → F_input_Lower_l3 s_lowb n (s.length : Int) (i : Int) ((s.take i).map lowB ++ s.drop i) K
  | 0, i, h1, h2 => by omega
  | n + 1, i, h1, h2 => by
    refine ⟨fun q => ?_, fun q => ?_⟩
    · have q := of_decide_eq_true q
      have hi : i < s.length := by omega
      have key := p_Low_l s K hl h n (i + 1) (by omega) hi
      rw [low_len s i h2, Int.toNat_natCast]
      refine ⟨⟨by omega, by omega⟩, hi, u8le _, ⟨by omega, by omega⟩, hi, lowI_le (u8le _), ⟨by omega, by omega⟩, ?_⟩
      rw [← set_low s i hi (dfltD Cd.u8)] at key
      exact key
    · have q := of_decide_eq_false q
      have hi : i = s.length := by omega
      subst hi
      simpa using h
theorem p_Low (s : List UInt8) (K : List UInt8 → Prop) (h : s_Low s K) : F_input_Lower s_lowb s K := by
  refine ⟨h.1, s.length + 1, ?_⟩
  have := p_Low_l s K h.1 h.2 (s.length + 1) 0 (by omega) (by omega)
  simpa using this
theorem p_rLow_l (s : List UInt8) (K : List UInt8 → Prop) (hl : s.length ≤ 1099511627776) (h : K (s.map lowB)) : ∀ (n i : Nat), s.length < n + i → i ≤ s.length → F_vitrineref01_Lower_l3 s_Small n (i : Int) ((s.take i).map lowB ++ s.drop i) K
  | 0, i, h1, h2 => by omega
  | n + 1, i, h1, h2 => by
    refine ⟨fun q => ?_, fun q => ?_⟩
    · have q := of_decide_eq_true q
      rw [low_len s i h2] at q
      have hi : i < s.length := by omega
      have key := p_rLow_l s K hl h n (i + 1) (by omega) hi
      rw [low_len s i h2, Int.toNat_natCast]
      refine ⟨⟨by omega, by omega⟩, hi, u8le _, ⟨by omega, by omega⟩, hi, lowI_le (u8le _), ⟨by omega, by omega⟩, ?_⟩
      rw [← set_low s i hi (dfltD Cd.u8)] at key
      exact key
    · have q := of_decide_eq_false q
      rw [low_len s i h2] at q
      have hi : i = s.length := by omega
      subst hi
      simpa using h
theorem p_rLow (s : List UInt8) (K : List UInt8 → Prop) (h : s_rLow s K) : F_vitrineref01_Lower s_Small s K := by
  refine ⟨h.1, s.length + 1, ?_⟩
  have := p_rLow_l s K h.1 h.2 (s.length + 1) 0 (by omega) (by omega)
  simpa using this

/-! ### Names -/

def nz (s : List UInt8) : Bool := s.all fun c => !(c == 0)
def nmB (s : List UInt8) : Bool := !(s == []) && (decide (s.length ≤ 64) && ((s == s.map lowB) && (!(s == [97, 110, 100]) && (!(s == [111, 114]) && (!(s == [110, 111, 116]) && (!(s == [111, 110, 108, 121]) && nz s))))))
def s_med : T_ra_medium := fun s K => K (nmB s)
theorem p_med_l (s : List UInt8) (A : T_vitrineref01_Lower) (Ke : Unit → Prop) (Kr : Bool → Prop) (hl : s.length ≤ 64) : ∀ (n i : Nat), s.length < n + i → i ≤ s.length → (nz (s.drop i) = true → Ke ()) → (nz (s.drop i) = false → Kr false) → F_ra_medium_l4 A n s (i : Int) Ke Kr
  | 0, i, h1, h2, _, _ => by omega
  | n + 1, i, h1, h2, he, hr => by
    refine ⟨fun q => ?_, fun q => ?_⟩
    · have q := of_decide_eq_true q
      have hi : i < s.length := by omega
      have e := drop_getD (0 : UInt8) hi
      rw [e] at he hr
      simp only [nz, List.all_cons] at he hr
      refine ⟨⟨by omega, q⟩, fun r => ?_, fun r => ?_⟩
      · have r := of_decide_eq_true r
        rw [Int.toNat_natCast] at r
        have r0 : s.getD i 0 = 0 := UInt8.toNat_inj.1 (by rw [show (0 : UInt8).toNat = 0 from rfl]; omega)
        rw [r0] at hr
        exact hr rfl
      · have r := of_decide_eq_false r
        rw [Int.toNat_natCast] at r
        have r0 : (s.getD i 0 == 0) = false := by
          rw [beq_eq_false_iff_ne]
          intro e
          rw [e] at r
          exact r rfl
        rw [r0] at he hr
        exact ⟨⟨by omega, by omega⟩, p_med_l s A Ke Kr hl n (i + 1) (by omega) hi (fun h => he (by simpa [nz] using h)) (fun h => hr (by simpa [nz] using h))⟩
    · have q := of_decide_eq_false q
      have hi : i = s.length := by omega
      subst hi
      exact he (by simp [nz])
theorem p_med (s : List UInt8) (K : Bool → Prop) (h : s_med s K) : F_ra_medium s_rLow s K := by
  unfold s_med nmB at h
  unfold F_ra_medium
  cases h0 : (s == []) <;> simp only [h0, Bool.not_true, Bool.not_false, Bool.true_and, Bool.false_and, Bool.false_eq_true, Bool.true_eq_false, false_implies, true_implies, true_and, and_true, forall_const, imp_self] at h ⊢
  · refine ⟨fun q => ?_, fun q => ?_⟩
    · have q := of_decide_eq_false q
      have hl : s.length ≤ 64 := by omega
      refine ⟨by omega, ?_⟩
      rw [decide_eq_true hl] at h
      cases h1 : (s == s.map lowB) <;> cases h2 : (s == [97, 110, 100]) <;> cases h3 : (s == [111, 114]) <;> cases h4 : (s == [110, 111, 116]) <;> cases h5 : (s == [111, 110, 108, 121]) <;>
        simp only [h1, h2, h3, h4, h5, Bool.not_true, Bool.not_false, Bool.true_and, Bool.false_and, Bool.false_eq_true, Bool.true_eq_false, false_implies, true_implies, true_and, and_true, forall_const, imp_self] at h ⊢ <;> try exact h
      refine ⟨s.length + 1, p_med_l s _ _ _ hl _ 0 (by omega) (by omega) (fun q => ?_) (fun q => ?_)⟩
      · rw [List.drop_zero] at q; rw [q] at h; exact h
      · rw [List.drop_zero] at q; rw [q] at h; exact h
    · have q := of_decide_eq_true q
      rw [decide_eq_false (by omega)] at h
      exact h
  · exact h
def s_ib : T_stringslite_IndexByte := fun s c K => (0 ≤ c ∧ c < 256) ∧ K (Lib.indexByte s (UInt8.ofNat c.toNat))
def s_ibS : T_strings_IndexByte := fun s c K => (0 ≤ c ∧ c < 256) ∧ K (Lib.indexByte s (UInt8.ofNat c.toNat))
theorem p_ibS (s : List UInt8) (c : Int) (K : Int → Prop) (h : s_ibS s c K) : F_strings_IndexByte s_ib s c K := h
theorem ib_nz : ∀ s : List UInt8, decide (Lib.indexByte s 0 < 0) = nz s
  | [] => rfl
  | b :: l => by
    have ih := ib_nz l
    have ge := Lib.indexByte_ge l 0
    have e1 : nz (b :: l) = (!(b == 0) && nz l) := rfl
    have e2 : Lib.indexByte (b :: l) 0 = if b == 0 then 0 else if Lib.indexByte l 0 == -1 then -1 else Lib.indexByte l 0 + 1 := rfl
    rw [e1, e2]
    by_cases hb : b = 0
    · subst hb; rfl
    · have hb' : (b == 0) = false := beq_eq_false_iff_ne.2 hb
      rw [hb', if_neg (by decide), ← ih, Bool.not_false, Bool.true_and]
      by_cases e : Lib.indexByte l 0 = -1
      · rw [e]; rfl
      · rw [if_neg (by simpa using e), Bool.eq_iff_iff, decide_eq_true_iff, decide_eq_true_iff]
        omega
def s_nm : T_cond_isName := fun s K => K (nmB s)
theorem p_nm (s : List UInt8) (K : Bool → Prop) (h : s_nm s K) : F_cond_isName s_ibS s_Low s K := by
  unfold s_nm nmB at h
  unfold F_cond_isName
  cases h0 : (s == []) <;> simp only [h0, Bool.not_true, Bool.not_false, Bool.true_and, Bool.false_and, Bool.false_eq_true, Bool.true_eq_false, false_implies, true_implies, true_and, and_true, forall_const, imp_self] at h ⊢
  · by_cases hl : s.length ≤ 64
    · have hl2 : decide ((s.length : Int) ≤ 64) = true := decide_eq_true (by omega)
      rw [decide_eq_true hl] at h
      cases h2 : (s == [97, 110, 100]) <;> cases h3 : (s == [111, 114]) <;> cases h4 : (s == [110, 111, 116]) <;> cases h5 : (s == [111, 110, 108, 121]) <;>
        simp only [hl2, h2, h3, h4, h5, Bool.not_true, Bool.not_false, Bool.true_and, Bool.false_and, Bool.and_false, Bool.false_eq_true, Bool.true_eq_false, false_implies, true_implies, true_and, and_true, forall_const, imp_self] at h ⊢ <;> try exact h
      refine ⟨⟨by omega, by omega⟩, ?_⟩
      have e : decide (Lib.indexByte s (UInt8.ofNat (0 : Int).toNat) < 0) = nz s := ib_nz s
      show (decide (Lib.indexByte s (UInt8.ofNat (0 : Int).toNat) < 0) = true → _) ∧ (decide (Lib.indexByte s (UInt8.ofNat (0 : Int).toNat) < 0) = false → _)
      rw [e]
      refine ⟨fun q => ⟨by omega, ?_⟩, fun q => ?_⟩
      · rw [q, Bool.and_true] at h; exact h
      · rw [q, Bool.and_false] at h; exact h
    · have hl2 : decide ((s.length : Int) ≤ 64) = false := decide_eq_false (by omega)
      rw [decide_eq_false hl] at h
      simp only [Bool.false_and] at h
      simp only [hl2, Bool.false_eq_true, false_implies, true_implies, true_and]
      exact ⟨fun _ => h, fun _ => ⟨fun _ => h, fun _ => ⟨fun _ => h, fun _ => ⟨fun _ => h, fun _ => h⟩⟩⟩⟩
  · exact h

/-! ### What is pure -/

def noD (d : Dcl) : Bool := (d.name == []) && (decide (d.val.length = 0) && !d.imp)
def s_noD : T_cond_isNoDecl := fun d K => K (noD d)
def s_plain : T_ra_plain := fun d K => K (noD d)
theorem dec_len {α : Type} (l : List α) (n : Nat) : decide ((l.length : Int) = (n : Int)) = decide (l.length = n) := by
  rw [Bool.eq_iff_iff, decide_eq_true_iff, decide_eq_true_iff]
  omega
theorem p_noD (d : Dcl) (K : Bool → Prop) (h : s_noD d K) : F_cond_isNoDecl d K := by
  unfold s_noD noD at h
  unfold F_cond_isNoDecl
  rw [show ((0 : Int)) = ((0 : Nat) : Int) from rfl, dec_len]
  cases h1 : (d.name == []) <;> cases h2 : decide (d.val.length = 0) <;> simp only [h1, h2, Bool.true_and, Bool.false_and, Bool.false_eq_true, Bool.true_eq_false, false_implies, true_implies, true_and, and_true] at h ⊢ <;> exact h
theorem p_plain (d : Dcl) (K : Bool → Prop) (h : s_plain d K) : F_ra_plain d K := p_noD d K h
def listedB (c : Cnd) : Bool := (c.name == []) && (decide (c.num = 0) && noD c.decl)
def s_listed : T_ra_listed := fun c K => K (listedB c)
theorem p_listed (c : Cnd) (K : Bool → Prop) (h : s_listed c K) : F_ra_listed s_plain c K := by
  unfold s_listed listedB at h
  unfold F_ra_listed
  cases h1 : (c.name == []) <;> cases h2 : decide (c.num = 0) <;> simp only [h1, h2, Bool.true_and, Bool.false_and, Bool.false_eq_true, Bool.true_eq_false, false_implies, true_implies, true_and, and_true] at h ⊢ <;> exact h
def emL (c : Cnd) : Bool := decide (c.list.length = 0)
def pureB (c : Cnd) : Bool :=
  if c.kind = 1 ∨ c.kind = 2 ∨ c.kind = 3 then listedB c
  else if c.kind = 4 then decide (c.num = 0) && (emL c && noD c.decl)
  else if c.kind = 5 ∨ c.kind = 6 then (c.name == []) && (emL c && noD c.decl)
  else if c.kind = 7 then (c.name == []) && (decide (c.num = 0) && emL c)
  else (c.name == []) && (decide (c.num = 0) && (emL c && noD c.decl))
end Go.Proofs.YtajmjilckaifoaaGreatDoor
set_option linter.unusedVariables false
set_option linter.unusedSimpArgs false
namespace Go.Proofs.YtajmjilckaifoaaGreatDoor
open Go.Vm Go.Sx Go.RowKit

theorem dl0 {α : Type} (l : List α) : decide ((l.length : Int) = 0) = decide (l.length = 0) := dec_len l 0
def s_pure : T_cond_isPure := fun c K => K (pureB c)
theorem d0 : decide ((0 : Int) = 0) = true := rfl
theorem n0 : (([] : List UInt8) == ([] : List UInt8)) = true := rfl
theorem p_pure (c : Cnd) (K : Bool → Prop) (h : s_pure c K) : F_cond_isPure s_noD c K := by
  unfold s_pure pureB listedB emL at h
  unfold F_cond_isPure s_noD
  simp only [dl0]
  have k : c.kind = 1 ∨ c.kind = 2 ∨ c.kind = 3 ∨ c.kind = 4 ∨ c.kind = 5 ∨ c.kind = 6 ∨ c.kind = 7 ∨ (c.kind ≠ 1 ∧ c.kind ≠ 2 ∧ c.kind ≠ 3 ∧ c.kind ≠ 4 ∧ c.kind ≠ 5 ∧ c.kind ≠ 6 ∧ c.kind ≠ 7) := by omega
  rcases k with k | k | k | k | k | k | k | ⟨k1, k2, k3, k4, k5, k6, k7⟩
  all_goals first
    | simp only [k] at h ⊢
    | simp only [k1, k2, k3, k4, k5, k6, k7] at h ⊢
  all_goals
    simp (config := { decide := true }) only [d0, n0, if_true, if_false, or_self, or_true, true_or, or_false, false_or, decide_true, decide_false, Bool.false_eq_true, Bool.true_eq_false, false_implies, true_implies, true_and, and_true] at h ⊢
  all_goals
    cases h1 : (c.name == []) <;> cases h2 : decide (c.num = 0) <;> cases h3 : decide (c.list.length = 0) <;>
      simp only [h1, h2, h3, Bool.true_and, Bool.false_and, Bool.and_true, Bool.false_eq_true, Bool.true_eq_false, false_implies, true_implies, true_and, and_true] at h ⊢ <;> first | exact h | trivial
theorem pure_listed {c : Cnd} (h : c.kind = 1 ∨ c.kind = 2 ∨ c.kind = 3) : pureB c = listedB c := by unfold pureB; rw [if_pos h]

def typeB (c : Cnd) : Bool := decide (c.kind = 4) && (pureB c && nmB c.name)
def featB (c : Cnd) : Bool := (decide (c.kind = 5) || decide (c.kind = 6)) && (pureB c && (decide (0 ≤ c.num) && decide (c.num ≤ 1000000000000)))
def s_len : T_cond_isLength := fun n K => K (decide (0 ≤ n) && decide (n ≤ 1000000000000))
theorem p_len (n : Int) (K : Bool → Prop) (h : s_len n K) : F_cond_isLength n K := by
  unfold s_len at h
  unfold F_cond_isLength
  cases h1 : decide (0 ≤ n) <;> simp only [h1, Bool.true_and, Bool.false_and, Bool.false_eq_true, Bool.true_eq_false, false_implies, true_implies, true_and, and_true] at h ⊢ <;> exact h
def s_type : T_cond_isType := fun c K => K (typeB c)
theorem p_type (c : Cnd) (K : Bool → Prop) (h : s_type c K) : F_cond_isType s_pure s_nm c K := by
  unfold s_type typeB at h
  unfold F_cond_isType s_pure s_nm
  rw [eta c]
  cases h1 : decide (c.kind = 4) <;> cases h2 : pureB c <;> simp only [h1, h2, Bool.true_and, Bool.false_and, Bool.false_eq_true, Bool.true_eq_false, false_implies, true_implies, true_and, and_true] at h ⊢ <;> exact h
def s_feat : T_cond_isFeature := fun c K => K (featB c)
theorem p_feat (c : Cnd) (K : Bool → Prop) (h : s_feat c K) : F_cond_isFeature s_pure s_len c K := by
  unfold s_feat featB at h
  unfold F_cond_isFeature s_pure s_len
  rw [eta c]
  cases h0 : decide (c.kind = 5) <;> cases h1 : decide (c.kind = 6) <;> cases h2 : pureB c <;> simp only [h0, h1, h2, Bool.or_true, Bool.true_or, Bool.or_false, Bool.false_or, Bool.true_and, Bool.false_and, Bool.false_eq_true, Bool.true_eq_false, false_implies, true_implies, true_and, and_true] at h ⊢ <;> exact h

theorem p_everyF (l : List Cnd) (Ke : Unit → Prop) (Kr : Bool → Prop) (hl : l.length ≤ maxLen) : ∀ (n i : Nat), l.length < n + i → i ≤ l.length → ((l.drop i).all featB = true → Ke ()) → ((l.drop i).all featB = false → Kr false) → F_cond_every_F_l2 s_feat n l (l.length : Int) (i : Int) Ke Kr
  | 0, i, h1, h2, _, _ => by omega
  | n + 1, i, h1, h2, he, hr => by
    refine ⟨fun q => ?_, fun q => ?_⟩
    · have q := of_decide_eq_true q
      have hi : i < l.length := by omega
      rw [drop_getD (α := Cnd) (dfltD Cd.cnd) hi] at he hr
      simp only [List.all_cons] at he hr
      refine ⟨⟨by omega, q⟩, ?_⟩
      rw [eta, Int.toNat_natCast]
      unfold s_feat
      refine ⟨fun r => ?_, fun r => ⟨i64_succ hi hl, ?_⟩⟩
      · rw [Bool.not_eq_true'] at r
        rw [r] at hr
        exact hr rfl
      · rw [Bool.not_eq_false'] at r
        rw [r, Bool.true_and] at he hr
        exact p_everyF l Ke Kr hl n (i + 1) (by omega) hi he hr
    · have q := of_decide_eq_false q
      have hi : i = l.length := by omega
      subst hi
      exact he (by rw [List.drop_length]; rfl)
def planB (c : Cnd) : Bool := decide (c.kind = 1) && (pureB c && (match c.list with
  | [] => false
  | x :: r => (typeB x || featB x) && r.all featB))
theorem type_feat {x : Cnd} (h : typeB x = true) : featB x = false := by
  unfold typeB at h
  unfold featB
  simp only [Bool.and_eq_true, decide_eq_true_iff] at h
  rw [decide_eq_false (by omega), decide_eq_false (by omega)]
  rfl
def s_plan : T_cond_isPlainQuery := fun c K => LenC c ∧ K (planB c)
theorem p_plan (c : Cnd) (K : Bool → Prop) (h : s_plan c K) : F_cond_isPlainQuery s_pure s_type s_feat c K := by
  obtain ⟨hc, h⟩ := h
  unfold planB at h
  unfold F_cond_isPlainQuery s_pure s_type
  rw [eta c]
  by_cases hk : c.kind = 1
  rotate_left
  · rw [decide_eq_false hk] at h
    simp only [decide_eq_true hk, Bool.true_eq_false, false_implies, true_implies, true_and]
    exact h
  rw [decide_eq_true hk] at h
  simp only [hk, ne_eq, not_true_eq_false, decide_false, Bool.false_eq_true, false_implies, true_implies, and_true]
  cases hp : pureB c with
  | false =>
    rw [hp] at h
    simpa using h
  | true =>
    rw [hp] at h
    simp only [Bool.not_true, Bool.false_eq_true, false_implies, true_implies, and_true, Bool.true_and] at h ⊢
    have hl := hc.list
    cases hlist : c.list with
    | nil =>
      rw [hlist] at h
      simpa using h
    | cons x r =>
      rw [hlist] at h hl
      refine ⟨fun q => ?_, fun _ => ⟨⟨by omega, by simp only [List.length_cons]; omega⟩, ?_⟩⟩
      · have := of_decide_eq_true q
        simp only [List.length_cons] at this
        omega
      · rw [show (x :: r).getD 0 (dfltD Cd.cnd) = x from rfl, eta]
        have e1 : (x :: r).drop 1 = r := rfl
        refine ⟨fun q => ⟨⟨by omega, by simp only [List.length_cons]; omega⟩, r.length + 1, ?_⟩, fun q => ⟨(x :: r).length + 1, ?_⟩⟩
        · rw [e1]
          simp only [List.length_cons] at hl
          refine p_everyF r _ _ (by omega) _ 0 (by omega) (by omega) (fun w => ?_) (fun w => ?_)
          · rw [List.drop_zero] at w
            simp only [q, w, Bool.true_or, Bool.true_and] at h
            exact h
          · rw [List.drop_zero] at w
            simp only [q, w, Bool.true_or, Bool.true_and] at h
            exact h
        · refine p_everyF (x :: r) _ _ hl _ 0 (by omega) (by omega) (fun w => ?_) (fun w => ?_)
          · rw [List.drop_zero, List.all_cons, Bool.and_eq_true] at w
            simp only [q, w.1, w.2, Bool.false_or, Bool.true_and] at h
            exact h
          · rw [List.drop_zero, List.all_cons] at w
            dsimp only at h
            rw [q, Bool.false_or, w] at h
            exact h
def headB (c : Cnd) : Bool := match c.list with
  | [] => false
  | x :: _ => decide (x.kind = 4)
def queryB (c : Cnd) : Bool := if c.kind = 3 then pureB c && (match c.list with
  | [y] => planB y && headB y
  | _ => false) else planB c
theorem plan_list {c : Cnd} (h : planB c = true) : ∃ x r, c.list = x :: r := by
  unfold planB at h
  cases hl : c.list with
  | nil => rw [hl] at h; simp at h
  | cons x r => exact ⟨x, r, rfl⟩
def s_query : T_cond_isQuery := fun c K => LenC c ∧ K (queryB c)
theorem p_query (c : Cnd) (K : Bool → Prop) (h : s_query c K) : F_cond_isQuery s_plan s_pure c K := by
  obtain ⟨hc, h⟩ := h
  unfold queryB at h
  unfold F_cond_isQuery s_pure
  rw [eta c]
  by_cases hk : c.kind = 3
  rotate_left
  · rw [if_neg hk] at h
    simp only [decide_eq_true hk, Bool.true_eq_false, false_implies, true_implies, and_true]
    exact ⟨hc, h⟩
  rw [if_pos hk] at h
  simp only [hk, ne_eq, not_true_eq_false, decide_false, Bool.false_eq_true, false_implies, true_implies, true_and]
  refine ⟨fun hp => ⟨fun q => ?_, fun q => ?_⟩, fun hp => ?_⟩
  · have q := of_decide_eq_true q
    have hx := hc.all
    match hlist : c.list, q with
    | [y], q =>
      rw [hlist] at h hx
      dsimp only at h
      refine ⟨⟨by omega, by simp⟩, ?_⟩
      rw [show [y].getD 0 (dfltD Cd.cnd) = y from rfl, eta]
      refine ⟨hx y (List.mem_cons_self ..), fun r => ?_, fun r => ?_⟩
      · obtain ⟨x, t, hl⟩ := plan_list r
        refine ⟨⟨by omega, by simp⟩, ⟨by omega, by rw [hl]; simp only [List.length_cons]; omega⟩, ?_⟩
        unfold headB at h
        rw [hp, r] at h
        simp only [hl, Bool.true_and] at h ⊢
        exact h
      · rw [hp, r] at h
        exact h
    | [], q => simp at q
    | _ :: _ :: _, q => simp only [List.length_cons] at q; omega
  · have q := of_decide_eq_false q
    rw [hp] at h
    match hlist : c.list, q with
    | [], q => rw [hlist] at h; exact h
    | [y], q => simp at q
    | _ :: _ :: _, q => rw [hlist] at h; exact h
  · rw [hp] at h
    exact h
theorem p_everyQ (l : List Cnd) (Ke : Unit → Prop) (Kr : Bool → Prop) (hl : l.length ≤ maxLen) (hc : ∀ x ∈ l, LenC x) : ∀ (n i : Nat), l.length < n + i → i ≤ l.length → ((l.drop i).all queryB = true → Ke ()) → ((l.drop i).all queryB = false → Kr false) → F_cond_every_Q_l2 s_query n l (l.length : Int) (i : Int) Ke Kr
  | 0, i, h1, h2, _, _ => by omega
  | n + 1, i, h1, h2, he, hr => by
    refine ⟨fun q => ?_, fun q => ?_⟩
    · have q := of_decide_eq_true q
      have hi : i < l.length := by omega
      rw [drop_getD (α := Cnd) (dfltD Cd.cnd) hi] at he hr
      simp only [List.all_cons] at he hr
      refine ⟨⟨by omega, q⟩, ?_⟩
      rw [eta, Int.toNat_natCast]
      refine ⟨hc _ (getD_mem (α := Cnd) _ hi), fun r => ?_, fun r => ⟨i64_succ hi hl, ?_⟩⟩
      · rw [Bool.not_eq_true'] at r
        rw [r] at hr
        exact hr rfl
      · rw [Bool.not_eq_false'] at r
        rw [r, Bool.true_and] at he hr
        exact p_everyQ l Ke Kr hl hc n (i + 1) (by omega) hi he hr
    · have q := of_decide_eq_false q
      have hi : i = l.length := by omega
      subst hi
      exact he (by rw [List.drop_length]; rfl)
def medB (c : Cnd) : Bool := listedB c && ((decide (c.kind = 1) && decide (c.list.length = 0)) || (decide (c.kind = 2) && (decide (1 ≤ c.list.length) && (decide (c.list.length ≤ 64) && c.list.all queryB))))
def s_isMed : T_cond_isMedia := fun c K => LenC c ∧ K (medB c)
theorem p_isMed (c : Cnd) (K : Bool → Prop) (h : s_isMed c K) : F_cond_isMedia s_pure s_query c K := by
  obtain ⟨hc, h⟩ := h
  unfold medB at h
  unfold F_cond_isMedia s_pure
  rw [eta c]
  simp only [dl0]
  by_cases h1 : c.kind = 1
  · rw [pure_listed (.inl h1)]
    cases hp : listedB c <;> simp only [hp, h1, decide_true, Bool.not_true, Bool.not_false, Bool.true_and, Bool.false_and, Bool.or_false, show decide ((1 : Int) = 2) = false from rfl, Bool.false_eq_true, Bool.true_eq_false, false_implies, true_implies, true_and, and_true] at h ⊢ <;> exact h
  by_cases h2 : c.kind = 2
  · rw [pure_listed (.inr (.inl h2))]
    cases hp : listedB c with
    | false => simp only [hp, Bool.not_false, Bool.false_and, Bool.false_eq_true, Bool.true_eq_false, false_implies, true_implies, true_and, and_true] at h ⊢; exact h
    | true =>
      simp only [hp, h2, decide_true, Bool.not_true, Bool.true_and, Bool.false_and, Bool.false_or, show decide ((2 : Int) = 1) = false from rfl, Bool.false_eq_true, Bool.true_eq_false, false_implies, true_implies, true_and, and_true] at h ⊢
      refine ⟨fun q => ⟨fun r => ⟨c.list.length + 1, ?_⟩, fun r => ?_⟩, fun q => ?_⟩
      · have q := of_decide_eq_true q
        have r := of_decide_eq_true r
        rw [decide_eq_true (by omega), decide_eq_true (by omega)] at h
        refine p_everyQ c.list _ _ hc.list hc.all _ 0 (by omega) (by omega) (fun w => ?_) (fun w => ?_)
        · rw [List.drop_zero] at w; rw [w] at h; exact h
        · rw [List.drop_zero] at w; rw [w] at h; exact h
      · have r := of_decide_eq_false r
        rw [decide_eq_false (p := c.list.length ≤ 64) (by omega), Bool.false_and, Bool.and_false] at h
        exact h
      · have q := of_decide_eq_false q
        rw [decide_eq_false (p := 1 ≤ c.list.length) (by omega)] at h
        exact h
  · rw [decide_eq_false h1, decide_eq_false h2] at h
    simp only [Bool.false_and, Bool.or_self, Bool.and_false] at h
    simp only [decide_eq_false h1, decide_eq_false h2, Bool.false_eq_true, false_implies, true_implies, true_and]
    exact ⟨fun _ => h, fun _ => h⟩
end Go.Proofs.YtajmjilckaifoaaGreatDoor
set_option linter.unusedVariables false
set_option linter.unusedSimpArgs false
namespace Go.Proofs.YtajmjilckaifoaaGreatDoor
open Go.Vm Go.Sx Go.RowKit

def s_is : T_r6_Is := fun n K => K (decide (-1000000000000 ≤ n) && decide (n ≤ 1000000000000))
theorem p_is (n : Int) (K : Bool → Prop) (h : s_is n K) : F_r6_Is n K := by
  unfold s_is at h
  unfold F_r6_Is
  cases h1 : decide (-1000000000000 ≤ n) <;> simp only [h1, Bool.true_and, Bool.false_and, Bool.false_eq_true, Bool.true_eq_false, false_implies, true_implies, true_and, and_true] at h ⊢ <;> exact h
/-- One of a query, at its place. -/
def oneB (i : Nat) (x : Cnd) : Bool := (decide (i = 0) && typeB x) || featB x
theorem type_eq (x : Cnd) : typeB x = (emL x && (noD x.decl && (decide (x.kind = 4) && (decide (x.num = 0) && nmB x.name)))) := by
  unfold typeB pureB
  by_cases h : x.kind = 4
  · simp only [h]
    simp (config := { decide := true }) only [if_true, if_false]
    cases emL x <;> cases noD x.decl <;> cases decide (x.num = 0) <;> cases nmB x.name <;> rfl
  · rw [decide_eq_false h]
    cases emL x <;> cases noD x.decl <;> rfl
theorem feat_eq (x : Cnd) : featB x = (emL x && (noD x.decl && ((decide (x.kind = 5) || decide (x.kind = 6)) && ((x.name == []) && (decide (0 ≤ x.num) && decide (x.num ≤ 1000000000000)))))) := by
  unfold featB pureB
  by_cases h : x.kind = 5 ∨ x.kind = 6
  · rw [if_neg (by omega), if_neg (by omega), if_pos h]
    cases emL x <;> cases noD x.decl <;> cases (x.name == []) <;> cases (decide (x.kind = 5) || decide (x.kind = 6)) <;> cases decide (0 ≤ x.num) <;> cases decide (x.num ≤ 1000000000000) <;> rfl
  · rw [decide_eq_false (fun q => h (.inl q)), decide_eq_false (fun q => h (.inr q))]
    cases emL x <;> cases noD x.decl <;> rfl
theorem one_eq (i : Nat) (x : Cnd) : oneB i x = (emL x && (noD x.decl && ((decide (i = 0) && (decide (x.kind = 4) && (decide (x.num = 0) && nmB x.name))) || ((decide (x.kind = 5) || decide (x.kind = 6)) && ((x.name == []) && (decide (0 ≤ x.num) && decide (x.num ≤ 1000000000000))))))) := by
  unfold oneB
  rw [type_eq, feat_eq]
  cases emL x <;> cases noD x.decl <;> cases decide (i = 0) <;> simp
def allB : Nat → List Cnd → Bool
  | _, [] => true
  | i, x :: r => oneB i x && allB (i + 1) r
theorem allB_feat : ∀ (i : Nat) (l : List Cnd), allB (i + 1) l = l.all featB
  | _, [] => rfl
  | i, x :: r => by
    rw [allB, allB_feat, List.all_cons]
    unfold oneB
    rw [decide_eq_false (Nat.succ_ne_zero i)]
    rfl
def s_all : T_ra_all := fun c K => LenC c ∧ (planB c = true → K true (headB c)) ∧ (planB c = false → K false false)
theorem p_all_l (c : Cnd) (Ke : Int → List UInt8 → Int → List UInt8 → List Val → Bool → List Cnd → Prop) (Kr : Bool → Bool → Prop) (hl : c.list.length ≤ maxLen) : ∀ (n i : Nat), c.list.length < n + i → i ≤ c.list.length →
    (allB i (c.list.drop i) = true → Ke c.kind c.name c.num c.decl.name c.decl.val c.decl.imp c.list) → (allB i (c.list.drop i) = false → Kr false false) →
    F_ra_all_l4 s_listed s_plain s_med s_is n (i : Int) c.kind c.name c.num c.decl.name c.decl.val c.decl.imp c.list Ke Kr
  | 0, i, h1, h2, _, _ => by omega
  | n + 1, i, h1, h2, he, hr => by
    unfold F_ra_all_l4
    refine ⟨fun q => ?_, fun q => ?_⟩
    · have q := of_decide_eq_true q
      have hi : i < c.list.length := by omega
      rw [drop_getD (α := Cnd) (dfltD Cd.cnd) hi] at he hr
      simp only [allB] at he hr
      have ih := p_all_l c Ke Kr hl n (i + 1) (by omega) hi
      have h64 := i64_succ hi hl
      refine ⟨⟨by omega, q⟩, ?_⟩
      rw [Int.toNat_natCast]
      generalize c.list.getD i (dfltD Cd.cnd) = x at he hr ⊢
      rw [one_eq] at he hr
      unfold s_plain s_med s_is
      have e0 : decide ((0 : Int) < (x.list.length : Int)) = !(emL x) := by
        unfold emL
        rw [Bool.eq_iff_iff, decide_eq_true_iff, Bool.not_eq_true', decide_eq_false_iff_not]
        omega
      have e1 : decide ((i : Int) = 0) = decide (i = 0) := by
        rw [Bool.eq_iff_iff, decide_eq_true_iff, decide_eq_true_iff]
        omega
      have e5 : decide (x.kind ≠ 5) = !(decide (x.kind = 5)) := by rw [decide_not]
      have e6 : decide (x.kind ≠ 6) = !(decide (x.kind = 6)) := by rw [decide_not]
      have e7 : decide (x.num < 0) = !(decide (0 ≤ x.num)) := by
        rw [Bool.eq_iff_iff, decide_eq_true_iff, Bool.not_eq_true', decide_eq_false_iff_not]
        omega
      have e8 : (0 ≤ x.num) → decide (-1000000000000 ≤ x.num) = true := fun w => decide_eq_true (by omega)
      have go : (allB (i + 1) (c.list.drop (i + 1)) = true → Ke c.kind c.name c.num c.decl.name c.decl.val c.decl.imp c.list) → (allB (i + 1) (c.list.drop (i + 1)) = false → Kr false false) → I64 ((i : Int) + 1) ∧ F_ra_all_l4 s_listed s_plain s_med s_is n ((i : Int) + 1) c.kind c.name c.num c.decl.name c.decl.val c.decl.imp c.list Ke Kr := fun a b => ⟨h64, ih a b⟩
      simp only [e0, e1, e5, e6, e7, Bool.not_not] at he hr ⊢
      cases g0 : emL x
      · rw [g0] at hr; simpa using hr
      cases g1 : noD x.decl
      · rw [g0, g1] at hr; simpa [g1] using hr
      rw [g0, g1] at he hr
      by_cases w : 0 ≤ x.num
      · have e9 := e8 w
        simp only [decide_eq_true w] at he hr ⊢
        cases g2 : decide (i = 0) <;> cases g3 : decide (x.kind = 4) <;> cases g4 : decide (x.num = 0) <;> cases g5 : nmB x.name <;> cases g6 : decide (x.kind = 5) <;> cases g7 : decide (x.kind = 6) <;> cases g8 : (x.name == []) <;> cases g9 : decide (x.num ≤ 1000000000000) <;>
          simp only [g1, g2, g3, g4, g5, g6, g7, g8, g9, e9, Bool.not_true, Bool.not_false, Bool.and_true, Bool.and_false, Bool.true_and, Bool.false_and, Bool.or_true, Bool.true_or, Bool.or_false, Bool.false_or, Bool.false_eq_true, Bool.true_eq_false, false_implies, true_implies, forall_const, true_and, and_true] at he hr ⊢ <;> first | exact hr | exact go he hr
      · simp only [decide_eq_false w] at he hr ⊢
        cases g2 : decide (i = 0) <;> cases g3 : decide (x.kind = 4) <;> cases g4 : decide (x.num = 0) <;> cases g5 : nmB x.name <;> cases g6 : decide (x.kind = 5) <;> cases g7 : decide (x.kind = 6) <;> cases g8 : (x.name == []) <;>
          simp only [g1, g2, g3, g4, g5, g6, g7, g8, Bool.not_true, Bool.not_false, Bool.and_true, Bool.and_false, Bool.true_and, Bool.false_and, Bool.or_true, Bool.true_or, Bool.or_false, Bool.false_or, Bool.false_eq_true, Bool.true_eq_false, false_implies, true_implies, forall_const, true_and, and_true] at he hr ⊢ <;> first | exact hr | exact go he hr
    · have q := of_decide_eq_false q
      have hi : i = c.list.length := by omega
      subst hi
      exact he (by rw [List.drop_length]; rfl)
theorem plan_all (c : Cnd) : planB c = (decide (c.kind = 1) && (listedB c && (!(emL c) && allB 0 c.list))) := by
  unfold planB emL
  by_cases h : c.kind = 1
  · rw [pure_listed (.inl h)]
    cases hl : c.list with
    | nil => simp
    | cons x r =>
      rw [allB, allB_feat]
      simp [oneB]
  · rw [decide_eq_false h]; rfl
theorem p_all (c : Cnd) (K : Bool → Bool → Prop) (h : s_all c K) : F_ra_all s_listed s_plain s_med s_is c K := by
  obtain ⟨hc, ht, hf⟩ := h
  rw [plan_all] at ht hf
  unfold F_ra_all
  rw [eta c]
  simp only [dl0]
  unfold s_listed
  have e5 : decide (c.kind ≠ 1) = !(decide (c.kind = 1)) := by rw [decide_not]
  rw [e5]
  cases g0 : decide (c.kind = 1)
  · rw [g0] at hf; simpa using hf
  cases g1 : listedB c
  · rw [g0, g1] at hf; simpa [g1] using hf
  rw [g0, g1] at ht hf
  cases g2 : decide (c.list.length = 0)
  · have : emL c = false := g2
    rw [this] at ht hf
    simp only [Bool.not_true, Bool.not_false, Bool.true_and, Bool.false_eq_true, Bool.true_eq_false, false_implies, true_implies, true_and, and_true] at ht hf ⊢
    refine ⟨c.list.length + 1, p_all_l c _ _ hc.list _ 0 (by omega) (by omega) (fun w => ?_) (fun w => ?_)⟩
    · rw [List.drop_zero] at w
      have := of_decide_eq_false g2
      refine ⟨⟨by omega, by omega⟩, ?_⟩
      have k := ht w
      unfold headB at k
      cases hl : c.list with
      | nil => rw [hl] at this; exact absurd rfl this
      | cons x r => rw [hl] at k; exact k
    · rw [List.drop_zero] at w
      exact hf w
  · have : emL c = true := g2
    rw [this] at hf
    simpa using hf
def s_rq : T_ra_query := fun c K => LenC c ∧ K (queryB c)
theorem p_rq (c : Cnd) (K : Bool → Prop) (h : s_rq c K) : F_ra_query s_listed s_all c K := by
  obtain ⟨hc, h⟩ := h
  unfold queryB at h
  unfold F_ra_query
  rw [eta c]
  by_cases hk : c.kind = 3
  rotate_left
  · rw [if_neg hk] at h
    simp only [decide_eq_false hk, Bool.false_eq_true, false_implies, true_implies, true_and]
    refine ⟨hc, fun w => ?_, fun w => ?_⟩
    · rw [w] at h; exact h
    · rw [w] at h; exact h
  rw [if_pos hk, pure_listed (.inr (.inr hk))] at h
  simp only [hk, decide_true, Bool.true_eq_false, false_implies, true_implies, and_true]
  unfold s_listed
  refine ⟨fun hp => ⟨fun q => ?_, fun q => ?_⟩, fun hp => ?_⟩
  · have q := of_decide_eq_true q
    match hlist : c.list, q with
    | [], q => rw [hlist] at h; simpa using h
    | [y], q => exact absurd rfl q
    | _ :: _ :: _, q => rw [hlist] at h; simpa using h
  · have q := of_decide_eq_false q
    rw [Bool.not_eq_false'] at hp
    have hx := hc.all
    match hlist : c.list, q with
    | [], q => exact absurd (by simp) q
    | _ :: _ :: _, q => exact absurd (by simp only [List.length_cons]; omega) q
    | [y], q =>
      rw [hlist] at h hx
      dsimp only at h
      refine ⟨⟨by omega, by simp⟩, ?_⟩
      rw [show [y].getD 0 (dfltD Cd.cnd) = y from rfl, eta]
      rw [hp] at h
      refine ⟨hx y (List.mem_cons_self ..), fun w => ⟨fun _ => ?_, fun w2 => by cases w2⟩, fun w => ⟨fun w2 => (by cases w2), fun _ => ?_⟩⟩
      · rw [w] at h; exact h
      · rw [w] at h; exact h
  · rw [Bool.not_eq_true'] at hp
    rw [hp] at h
    exact h
theorem p_Med_l (c : Cnd) (A : T_ra_listed) (Ke : Unit → Prop) (Kr : Bool → Prop) (hc : LenC c) : ∀ (n i : Nat), c.list.length < n + i → i ≤ c.list.length → ((c.list.drop i).all queryB = true → Ke ()) → ((c.list.drop i).all queryB = false → Kr false) →
    F_ra_Medial_l8 A s_rq n (i : Int) c.kind c.name c.num c.decl.name c.decl.val c.decl.imp c.list Ke Kr
  | 0, i, h1, h2, _, _ => by omega
  | n + 1, i, h1, h2, he, hr => by
    refine ⟨fun q => ?_, fun q => ?_⟩
    · have q := of_decide_eq_true q
      have hi : i < c.list.length := by omega
      rw [drop_getD (α := Cnd) (dfltD Cd.cnd) hi] at he hr
      simp only [List.all_cons] at he hr
      refine ⟨⟨by omega, q⟩, ?_⟩
      rw [eta, Int.toNat_natCast]
      refine ⟨hc.all _ (getD_mem (α := Cnd) _ hi), fun r => ?_, fun r => ⟨i64_succ hi hc.list, ?_⟩⟩
      · rw [Bool.not_eq_true'] at r
        rw [r] at hr
        exact hr rfl
      · rw [Bool.not_eq_false'] at r
        rw [r, Bool.true_and] at he hr
        exact p_Med_l c A Ke Kr hc n (i + 1) (by omega) hi he hr
    · have q := of_decide_eq_false q
      have hi : i = c.list.length := by omega
      subst hi
      exact he (by rw [List.drop_length]; rfl)
def s_Med : T_ra_Medial := fun c K => LenC c ∧ K (medB c)
theorem p_Med (c : Cnd) (K : Bool → Prop) (h : s_Med c K) : F_ra_Medial s_listed s_rq c K := by
  obtain ⟨hc, h⟩ := h
  unfold medB at h
  unfold F_ra_Medial
  rw [eta c]
  unfold s_listed
  simp only [dl0]
  have e2 : decide (c.kind ≠ 2) = !(decide (c.kind = 2)) := by rw [decide_not]
  rw [e2]
  cases g0 : listedB c
  · rw [g0] at h; simpa [g0] using h
  rw [g0] at h
  cases g1 : decide (c.kind = 1)
  · rw [g1] at h
    cases g2 : decide (c.kind = 2)
    · rw [g2] at h; simpa using h
    · rw [g2] at h
      simp only [Bool.not_true, Bool.not_false, Bool.true_and, Bool.false_and, Bool.false_or, Bool.false_eq_true, Bool.true_eq_false, false_implies, true_implies, true_and, and_true] at h ⊢
      refine ⟨fun q => ⟨fun r => ?_, fun r => ⟨c.list.length + 1, ?_⟩⟩, fun q => ?_⟩
      · have r := of_decide_eq_true r
        rw [decide_eq_false (p := c.list.length ≤ 64) (by omega), Bool.false_and, Bool.and_false] at h
        exact h
      · have r := of_decide_eq_false r
        have q := of_decide_eq_false q
        rw [decide_eq_true (by omega), decide_eq_true (by omega)] at h
        refine p_Med_l c _ _ _ hc _ 0 (by omega) (by omega) (fun w => ?_) (fun w => ?_)
        · rw [List.drop_zero] at w; rw [w] at h; exact h
        · rw [List.drop_zero] at w; rw [w] at h; exact h
      · have q := of_decide_eq_true q
        rw [decide_eq_false (p := 1 ≤ c.list.length) (by omega)] at h
        exact h
  · rw [g1] at h
    have : decide (c.kind = 2) = false := decide_eq_false (by have := of_decide_eq_true g1; omega)
    rw [this] at h
    simp only [Bool.not_true, Bool.not_false, Bool.true_and, Bool.false_and, Bool.or_false, Bool.false_eq_true, Bool.true_eq_false, false_implies, true_implies, true_and, and_true] at h ⊢
    exact h
def s_Chk : T_ra_CheckMedia := fun c K => LenC c ∧ (medB c = true → K 0) ∧ (medB c = false → K 8)
theorem p_Chk (c : Cnd) (K : Int → Prop) (h : s_Chk c K) : F_ra_CheckMedia s_Med c K := by
  obtain ⟨hc, h1, h2⟩ := h
  unfold F_ra_CheckMedia
  rw [eta c]
  refine ⟨hc, fun q => h2 ?_, fun q => h1 ?_⟩
  · rwa [Bool.not_eq_true'] at q
  · rwa [Bool.not_eq_false'] at q
end Go.Proofs.YtajmjilckaifoaaGreatDoor
set_option linter.unusedVariables false
set_option linter.unusedSimpArgs false
namespace Go.Proofs.YtajmjilckaifoaaGreatDoor
open Go.Vm Go.Sx Go.RowKit

theorem wrap_succ {i n : Nat} (h : i < n) (hn : n ≤ maxLen) : IntKind.i64.wrap ((i : Int) + 1) = ((i + 1 : Nat) : Int) := by
  rw [maxLen_eq] at hn
  rw [wrap64 (by omega) (by omega)]
  rfl
theorem LenV.list {v : Val} (h : LenV v) : LenVs v.list := by
  cases h with
  | mk h1 h2 => exact ⟨h1, h2⟩
theorem val_size (v : Val) : SizeOf.sizeOf v.list < SizeOf.sizeOf v := by
  cases v with
  | mk t l => show SizeOf.sizeOf l < _; simp only [Val.mk.sizeOf_spec]; omega
theorem vals_size {l : List Val} {v : Val} (h : v ∈ l) : SizeOf.sizeOf v.list < SizeOf.sizeOf l := Nat.lt_trans (val_size v) (List.sizeOf_lt_of_mem h)
theorem cnd_size {c x : Cnd} (h : x ∈ c.list) : SizeOf.sizeOf x < SizeOf.sizeOf c := by
  cases c with
  | mk k nm n d l =>
    have : SizeOf.sizeOf x < SizeOf.sizeOf l := List.sizeOf_lt_of_mem h
    simp only [Cnd.mk.sizeOf_spec]
    omega

def s_Cl : T_r4_Closer := fun _ K => ∀ r, K r
theorem p_Cl (k : Int) (K : Int → Prop) (h : s_Cl k K) : F_r4_Closer k K :=
  ⟨fun _ => h _, fun _ => ⟨fun _ => h _, fun _ => ⟨fun _ => h _, fun _ => ⟨fun _ => h _, fun _ => h _⟩⟩⟩⟩
def sSz (k : Nat) : T_r4_Size := fun v _ K => SizeOf.sizeOf v < k ∧ LenVs v ∧ ∀ r, K r
theorem p_Sz_l (k : Nat) (v : List Val) (most : Int) (Ke : Int → Prop) (hk : SizeOf.sizeOf v < k + 1) (hv : LenVs v) (h : ∀ r, Ke r) : ∀ (n i : Nat) (x : Int), v.length < n + i → i ≤ v.length → F_r4_Size_l3 (sSz k) n v most x (i : Int) Ke
  | 0, i, x, h1, h2 => by omega
  | n + 1, i, x, h1, h2 => by
    refine ⟨fun q => ⟨fun _ => ?_, fun _ => h _⟩, fun _ => h _⟩
    have q := of_decide_eq_true q
    have hi : i < v.length := by omega
    have hm := getD_mem (α := Val) (dfltD Cd.val) hi
    rw [wrap_succ hi hv.len, Int.toNat_natCast]
    refine ⟨⟨by omega, q⟩, ⟨by omega, q⟩, ⟨by omega, q⟩, ?_, (hv.all _ hm).list, fun r => p_Sz_l k v most Ke hk hv h n (i + 1) _ (by omega) hi⟩
    have := vals_size hm
    omega
theorem p_Sz (k : Nat) (v : List Val) (most : Int) (K : Int → Prop) (h : sSz (k + 1) v most K) : F_r4_Size (sSz k) v most K :=
  ⟨v.length + 1, p_Sz_l k v most _ h.1 h.2.1 h.2.2 _ 0 0 (by omega) (by omega)⟩
def s_Sz : T_r4_Size := fun v _ K => LenVs v ∧ ∀ r, K r
def sDp (k : Nat) : T_r4_Deep := fun v K => SizeOf.sizeOf v < k ∧ LenVs v ∧ ∀ r, K r
theorem p_Dp_l (k : Nat) (v : List Val) (Ke : Int → Prop) (hk : SizeOf.sizeOf v < k + 1) (hv : LenVs v) (h : ∀ r, Ke r) : ∀ (n i : Nat) (x : Int), v.length < n + i → i ≤ v.length → F_r4_Deep_l3 s_Cl (sDp k) n v x (i : Int) Ke
  | 0, i, x, h1, h2 => by omega
  | n + 1, i, x, h1, h2 => by
    refine ⟨fun q => ?_, fun _ => h _⟩
    have q := of_decide_eq_true q
    have hi : i < v.length := by omega
    have hm := getD_mem (α := Val) (dfltD Cd.val) hi
    rw [wrap_succ hi hv.len, Int.toNat_natCast]
    refine ⟨⟨by omega, q⟩, fun r => ⟨fun _ => ⟨⟨by omega, q⟩, ?_, (hv.all _ hm).list, fun r2 => p_Dp_l k v Ke hk hv h n (i + 1) _ (by omega) hi⟩, fun _ => p_Dp_l k v Ke hk hv h n (i + 1) _ (by omega) hi⟩⟩
    have := vals_size hm
    omega
theorem p_Dp (k : Nat) (v : List Val) (K : Int → Prop) (h : sDp (k + 1) v K) : F_r4_Deep s_Cl (sDp k) v K :=
  ⟨v.length + 1, p_Dp_l k v _ h.1 h.2.1 h.2.2 _ 0 0 (by omega) (by omega)⟩
def s_Dp : T_r4_Deep := fun v K => LenVs v ∧ ∀ r, K r
def s_G5 : T_r5_Great := fun l K => (∃ d, l = [d] ∧ LenVs d.val) ∧ ∀ b, K b
theorem p_G5 (l : List Dcl) (K : Bool → Prop) (h : s_G5 l K) : F_r5_Great s_Sz s_Dp l K := by
  obtain ⟨⟨d, rfl, hd⟩, h⟩ := h
  refine ⟨fun _ => h _, fun _ => ⟨2, fun _ => ⟨⟨by omega, by simp⟩, ⟨by omega, by simp⟩, hd, fun r => ⟨fun _ => ⟨⟨by omega, by simp⟩, hd, fun r2 => ⟨fun _ => h _, fun _ => ⟨fun q => ?_, fun _ => h _⟩⟩⟩, fun _ => h _⟩⟩, fun _ => h _⟩⟩
  have q := of_decide_eq_true q
  rw [wrap64 (by omega) (by omega)] at q
  simp at q
def sSc (k : Nat) : T_ra_Size := fun c _ K => SizeOf.sizeOf c < k ∧ LenC c ∧ ∀ r, K r
theorem p_Sc_l (k : Nat) (c : Cnd) (lim : Int) (Ke : Int → Prop) (hk : SizeOf.sizeOf c < k + 1) (hc : LenC c) (h : ∀ r, Ke r) : ∀ (n i : Nat) (x : Int), c.list.length < n + i → i ≤ c.list.length → F_ra_Size_l3 (sSc k) n lim x (i : Int) c.kind c.name c.num c.decl.name c.decl.val c.decl.imp c.list Ke
  | 0, i, x, h1, h2 => by omega
  | n + 1, i, x, h1, h2 => by
    refine ⟨fun q => ⟨fun _ => ?_, fun _ => h _⟩, fun _ => h _⟩
    have q := of_decide_eq_true q
    have hi : i < c.list.length := by omega
    have hm := getD_mem (α := Cnd) (dfltD Cd.cnd) hi
    rw [wrap_succ hi hc.list, Int.toNat_natCast, eta]
    refine ⟨⟨by omega, q⟩, ?_, hc.all _ hm, fun r => p_Sc_l k c lim Ke hk hc h n (i + 1) _ (by omega) hi⟩
    have := cnd_size hm
    omega
theorem p_Sc (k : Nat) (c : Cnd) (lim : Int) (K : Int → Prop) (h : sSc (k + 1) c lim K) : F_ra_Size (sSc k) c lim K :=
  ⟨c.list.length + 1, p_Sc_l k c lim _ h.1 h.2.1 h.2.2 _ 0 1 (by omega) (by omega)⟩
def s_Sc : T_ra_Size := fun c _ K => LenC c ∧ ∀ r, K r
def sLg (k : Nat) : T_ra_long := fun c K => SizeOf.sizeOf c < k ∧ LenC c ∧ ∀ r, K r
theorem p_Lg_l (k : Nat) (c : Cnd) (Ke : Unit → Prop) (Kr : Bool → Prop) (hk : SizeOf.sizeOf c < k + 1) (hc : LenC c) (h : ∀ r, Ke r) (h' : ∀ r, Kr r) : ∀ (n i : Nat), c.list.length < n + i → i ≤ c.list.length → F_ra_long_l4 s_G5 (sLg k) n (i : Int) c.kind c.name c.num c.decl.name c.decl.val c.decl.imp c.list Ke Kr
  | 0, i, h1, h2 => by omega
  | n + 1, i, h1, h2 => by
    refine ⟨fun q => ?_, fun _ => h _⟩
    have q := of_decide_eq_true q
    have hi : i < c.list.length := by omega
    have hm := getD_mem (α := Cnd) (dfltD Cd.cnd) hi
    rw [wrap_succ hi hc.list, Int.toNat_natCast, eta]
    refine ⟨⟨by omega, q⟩, ?_, hc.all _ hm, fun r => ⟨fun _ => h' _, fun _ => p_Lg_l k c Ke Kr hk hc h h' n (i + 1) (by omega) hi⟩⟩
    have := cnd_size hm
    omega
theorem p_Lg (k : Nat) (c : Cnd) (K : Bool → Prop) (h : sLg (k + 1) c K) : F_ra_long s_G5 (sLg k) c K :=
  ⟨⟨_, rfl, h.2.1.val⟩, fun b => ⟨fun _ => ⟨fun _ => h.2.2 _, fun _ => ⟨c.list.length + 1, p_Lg_l k c _ _ h.1 h.2.1 (fun _ => h.2.2 _) (fun _ => h.2.2 _) _ 0 (by omega) (by omega)⟩⟩, fun _ => h.2.2 _⟩⟩
def s_Lg : T_ra_long := fun c K => LenC c ∧ ∀ r, K r
def s_Gr : T_ra_Great := fun c K => LenC c ∧ ∀ b, K b
theorem p_Gr (c : Cnd) (K : Bool → Prop) (h : s_Gr c K) : F_ra_Great s_Sc s_Lg c K := by
  unfold F_ra_Great
  rw [eta c]
  exact ⟨h.1, fun r => ⟨fun _ => h, fun _ => h.2 _⟩⟩
end Go.Proofs.YtajmjilckaifoaaGreatDoor
set_option linter.unusedVariables false
set_option linter.unusedSimpArgs false
namespace Go.Proofs.YtajmjilckaifoaaGreatDoor
open Go.Vm Go.Sx Go.RowKit

mutual
/-- Does a condition without declarations hold? -/
def hM (w : Int) : Cnd → Bool
  | .mk k nm n d l => if k = 4 then (nm == [97, 108, 108]) || (nm == [115, 99, 114, 101, 101, 110]) else if k = 5 then decide (n ≤ w) else if k = 6 then decide (w ≤ n)
    else if k = 1 then decide (cnt w l = l.length) else if k = 2 then decide (0 < cnt w l) else if k = 3 then decide (cnt w l = 0) else false
def cnt (w : Int) : List Cnd → Nat
  | [] => 0
  | c :: r => (if hM w c then 1 else 0) + cnt w r
end
mutual
/-- It has no declarations. -/
def ndB : Cnd → Bool
  | .mk k _ _ _ l => !(decide (k = 7)) && ndL l
def ndL : List Cnd → Bool
  | [] => true
  | c :: r => ndB c && ndL r
end
theorem hM_eq (w : Int) (c : Cnd) : hM w c = if c.kind = 4 then (c.name == [97, 108, 108]) || (c.name == [115, 99, 114, 101, 101, 110]) else if c.kind = 5 then decide (c.num ≤ w) else if c.kind = 6 then decide (w ≤ c.num)
    else if c.kind = 1 then decide (cnt w c.list = c.list.length) else if c.kind = 2 then decide (0 < cnt w c.list) else if c.kind = 3 then decide (cnt w c.list = 0) else false := by cases c; rfl
theorem ndB_eq (c : Cnd) : ndB c = (!(decide (c.kind = 7)) && ndL c.list) := by cases c; rfl
theorem ndL_all : ∀ l : List Cnd, ndL l = l.all ndB
  | [] => rfl
  | c :: r => by rw [ndL, ndL_all r, List.all_cons]
theorem cnt_le (w : Int) : ∀ l : List Cnd, cnt w l ≤ l.length
  | [] => Nat.le_refl _
  | c :: r => by
    have := cnt_le w r
    rw [cnt, List.length_cons]
    split <;> omega

/-- The closure, by levels. -/
def sH (k : Nat) : T_cond_holds_1_h := fun kd nm n dn dv di l w yes K => SizeOf.sizeOf (Cnd.mk kd nm n ⟨dn, dv, di⟩ l) < k ∧ LenC (Cnd.mk kd nm n ⟨dn, dv, di⟩ l) ∧ ndB (Cnd.mk kd nm n ⟨dn, dv, di⟩ l) = true ∧ K (hM w (Cnd.mk kd nm n ⟨dn, dv, di⟩ l)) w yes
theorem p_H_l (k : Nat) (kd : Int) (nm : List UInt8) (m : Int) (dn : List UInt8) (dv : List Val) (di : Bool) (l : List Cnd) (w : Int) (yes : List Bool) (Ke : Int → Int → List Bool → Int → List UInt8 → Int → List UInt8 → List Val → Bool → List Cnd → Prop)
    (hk : ∀ x ∈ l, SizeOf.sizeOf x < k) (hl : l.length ≤ maxLen) (hc : ∀ x ∈ l, LenC x) (hn : ∀ x ∈ l, ndB x = true) (h : Ke (cnt w l : Nat) w yes kd nm m dn dv di l) :
    ∀ (n i : Nat) (x : Nat), l.length < n + i → i ≤ l.length → x ≤ i → x + cnt w (l.drop i) = cnt w l → F_cond_holds_1_h_l14 (sH k) n (x : Int) l (l.length : Int) (i : Int) w yes kd nm m dn dv di l Ke
  | 0, i, x, h1, h2, h3, h4 => by omega
  | n + 1, i, x, h1, h2, h3, h4 => by
    unfold F_cond_holds_1_h_l14
    refine ⟨fun q => ?_, fun q => ?_⟩
    · have q := of_decide_eq_true q
      have hi : i < l.length := by omega
      have hm := getD_mem (α := Cnd) (dfltD Cd.cnd) hi
      have h64 := i64_succ hi hl
      have hx64 : I64 ((x : Int) + 1) := i64_succ (Nat.lt_of_le_of_lt h3 hi) hl
      rw [drop_getD (α := Cnd) (dfltD Cd.cnd) hi, cnt] at h4
      rw [Int.toNat_natCast]
      generalize hg : l.getD i (dfltD Cd.cnd) = c at hm h4 ⊢
      refine ⟨⟨by omega, q⟩, ?_⟩
      unfold sH
      rw [eta c]
      refine ⟨hk c hm, hc c hm, hn c hm, fun r => ⟨hx64, h64, ?_⟩, fun r => ⟨h64, ?_⟩⟩
      · rw [if_pos r] at h4
        have := p_H_l k kd nm m dn dv di l w yes Ke hk hl hc hn h n (i + 1) (x + 1) (by omega) hi (by omega) (by omega)
        exact this
      · rw [if_neg (by rw [r]; decide)] at h4
        have := p_H_l k kd nm m dn dv di l w yes Ke hk hl hc hn h n (i + 1) x (by omega) hi (by omega) (by omega)
        exact this
    · have q := of_decide_eq_false q
      have hi : i = l.length := by omega
      subst hi
      rw [List.drop_length, cnt] at h4
      rw [show x = cnt w l from by omega]
      exact h
theorem p_H (k : Nat) (kd : Int) (nm : List UInt8) (m : Int) (dn : List UInt8) (dv : List Val) (di : Bool) (l : List Cnd) (w : Int) (yes : List Bool) (K : Bool → Int → List Bool → Prop) (h : sH (k + 1) kd nm m dn dv di l w yes K) : F_cond_holds_1_h (sH k) kd nm m dn dv di l w yes K := by
  obtain ⟨hs, hc, hn, h⟩ := h
  rw [hM_eq] at h
  rw [ndB_eq, Bool.and_eq_true, Bool.not_eq_true', decide_eq_false_iff_not, ndL_all, List.all_eq_true] at hn
  obtain ⟨h7, hn⟩ := hn
  have hcl := hc.list
  have hca := hc.all
  dsimp only [Cnd.kind, Cnd.name, Cnd.num, Cnd.list] at h h7 hn hcl hca
  unfold F_cond_holds_1_h
  by_cases k4 : kd = 4
  · rw [if_pos k4] at h
    simp only [k4, decide_true, Bool.true_eq_false, false_implies, true_implies, and_true]
    refine ⟨fun q => ?_, fun q => ?_⟩
    · rw [q, Bool.false_or] at h; exact h
    · rw [q, Bool.true_or] at h; exact h
  rw [if_neg k4] at h
  by_cases k5 : kd = 5
  · rw [if_pos k5] at h
    simp only [k5, decide_true, show decide ((5 : Int) = 4) = false from rfl, Bool.false_eq_true, Bool.true_eq_false, false_implies, true_implies, true_and, and_true]
    exact h
  rw [if_neg k5] at h
  by_cases k6 : kd = 6
  · rw [if_pos k6] at h
    simp only [k6, decide_true, show decide ((6 : Int) = 4) = false from rfl, show decide ((6 : Int) = 5) = false from rfl, Bool.false_eq_true, Bool.true_eq_false, false_implies, true_implies, true_and, and_true]
    exact h
  rw [if_neg k6] at h
  simp only [decide_eq_false k4, decide_eq_false k5, decide_eq_false k6, decide_eq_false h7, Bool.false_eq_true, false_implies, true_implies, true_and]
  refine ⟨l.length + 1, p_H_l k kd nm m dn dv di l w yes _ (fun x hx => ?_) hcl hca hn ?_ _ 0 0 (by omega) (by omega) (by omega) (by rw [List.drop_zero]; omega)⟩
  · have := cnd_size (c := Cnd.mk kd nm m ⟨dn, dv, di⟩ l) hx
    omega
  · have e1 : decide ((cnt w l : Int) = (l.length : Int)) = decide (cnt w l = l.length) := by rw [Bool.eq_iff_iff, decide_eq_true_iff, decide_eq_true_iff]; omega
    have e2 : decide ((0 : Int) < (cnt w l : Int)) = decide (0 < cnt w l) := by rw [Bool.eq_iff_iff, decide_eq_true_iff, decide_eq_true_iff]; omega
    have e3 : decide ((cnt w l : Int) = 0) = decide (cnt w l = 0) := by rw [Bool.eq_iff_iff, decide_eq_true_iff, decide_eq_true_iff]; omega
    rw [e1, e2, e3]
    refine ⟨fun q => ?_, fun q => ⟨fun r => ?_, fun r => ⟨fun s => ?_, fun s => ?_⟩⟩⟩
    · rw [if_pos (of_decide_eq_true q)] at h; exact h
    · rw [if_neg (of_decide_eq_false q), if_pos (of_decide_eq_true r)] at h; exact h
    · rw [if_neg (of_decide_eq_false q), if_neg (of_decide_eq_false r), if_pos (of_decide_eq_true s)] at h; exact h
    · rw [if_neg (of_decide_eq_false q), if_neg (of_decide_eq_false r), if_neg (of_decide_eq_false s)] at h; exact h
def s_H : T_cond_holds_1_h := fun kd nm n dn dv di l w yes K => LenC (Cnd.mk kd nm n ⟨dn, dv, di⟩ l) ∧ ndB (Cnd.mk kd nm n ⟨dn, dv, di⟩ l) = true ∧ K (hM w (Cnd.mk kd nm n ⟨dn, dv, di⟩ l)) w yes
def s_holds : T_cond_holds := fun c w yes K => LenC c ∧ ndB c = true ∧ K (hM w c)
theorem p_holds (c : Cnd) (w : Int) (yes : List Bool) (K : Bool → Prop) (h : s_holds c w yes K) : F_cond_holds s_H c w yes K := by
  unfold F_cond_holds s_H
  rw [eta c]
  exact h

/-- Declarations of a condition that has none. -/
def sA (k : Nat) : T_cond_appendDecls_d := fun kd nm n dn dv di l a b c d e f g w ds K => SizeOf.sizeOf (Cnd.mk kd nm n ⟨dn, dv, di⟩ l) < k ∧ LenC (Cnd.mk kd nm n ⟨dn, dv, di⟩ l) ∧ ndB (Cnd.mk kd nm n ⟨dn, dv, di⟩ l) = true ∧ K a b c d e f g w ds
theorem p_A_l (k : Nat) (l : List Cnd) (a : Int) (b : List UInt8) (c : Int) (d : List UInt8) (e : List Val) (f : Bool) (g : List Cnd) (w : Int) (ds : List Dcl) (Ke : Int → List UInt8 → Int → List UInt8 → List Val → Bool → List Cnd → Int → List Dcl → Prop)
    (hk : ∀ x ∈ l, SizeOf.sizeOf x < k) (hl : l.length ≤ maxLen) (hc : ∀ x ∈ l, LenC x) (hn : ∀ x ∈ l, ndB x = true) (h : Ke a b c d e f g w ds) :
    ∀ (n i : Nat), l.length < n + i → i ≤ l.length → F_cond_appendDecls_d_l4 (sA k) n l (l.length : Int) (i : Int) a b c d e f g w ds Ke
  | 0, i, h1, h2 => by omega
  | n + 1, i, h1, h2 => by
    refine ⟨fun q => ?_, fun q => h⟩
    have q := of_decide_eq_true q
    have hi : i < l.length := by omega
    have hm := getD_mem (α := Cnd) (dfltD Cd.cnd) hi
    rw [Int.toNat_natCast]
    generalize hg : l.getD i (dfltD Cd.cnd) = x at hm ⊢
    refine ⟨⟨by omega, q⟩, ?_⟩
    unfold sA
    rw [eta x]
    exact ⟨hk x hm, hc x hm, hn x hm, i64_succ hi hl, p_A_l k l a b c d e f g w ds Ke hk hl hc hn h n (i + 1) (by omega) hi⟩
theorem p_A (k : Nat) (kd : Int) (nm : List UInt8) (m : Int) (dn : List UInt8) (dv : List Val) (di : Bool) (l : List Cnd) (a : Int) (b : List UInt8) (c : Int) (d : List UInt8) (e : List Val) (f : Bool) (g : List Cnd) (w : Int) (ds : List Dcl) (K : Int → List UInt8 → Int → List UInt8 → List Val → Bool → List Cnd → Int → List Dcl → Prop)
    (h : sA (k + 1) kd nm m dn dv di l a b c d e f g w ds K) : F_cond_appendDecls_d (sA k) kd nm m dn dv di l a b c d e f g w ds K := by
  obtain ⟨hs, hc, hn, h⟩ := h
  rw [ndB_eq, Bool.and_eq_true, Bool.not_eq_true', decide_eq_false_iff_not, ndL_all, List.all_eq_true] at hn
  obtain ⟨h7, hn⟩ := hn
  refine ⟨fun q => absurd (of_decide_eq_true q) h7, fun _ => ⟨l.length + 1, p_A_l k l a b c d e f g w ds _ (fun x hx => ?_) hc.list hc.all hn h _ 0 (by omega) (by omega)⟩⟩
  have := cnd_size (c := Cnd.mk kd nm m ⟨dn, dv, di⟩ l) hx
  omega
def s_A : T_cond_appendDecls_d := fun kd nm n dn dv di l a b c d e f g w ds K => LenC (Cnd.mk kd nm n ⟨dn, dv, di⟩ l) ∧ ndB (Cnd.mk kd nm n ⟨dn, dv, di⟩ l) = true ∧ K a b c d e f g w ds

/-! ### Valid media conditions have no declarations -/

theorem em_nd {x : Cnd} (h : emL x = true) (h7 : x.kind ≠ 7) : ndB x = true := by
  rw [ndB_eq, decide_eq_false h7]
  have := of_decide_eq_true h
  rw [List.eq_nil_of_length_eq_zero this]
  rfl
theorem feat_nd {x : Cnd} (h : featB x = true) : ndB x = true := by
  rw [feat_eq] at h
  simp only [Bool.and_eq_true, Bool.or_eq_true, decide_eq_true_iff] at h
  exact em_nd h.1 (by omega)
theorem type_nd {x : Cnd} (h : typeB x = true) : ndB x = true := by
  rw [type_eq] at h
  simp only [Bool.and_eq_true, decide_eq_true_iff] at h
  exact em_nd h.1 (by omega)
theorem plan_nd {c : Cnd} (h : planB c = true) : ndB c = true := by
  unfold planB at h
  rw [ndB_eq, ndL_all]
  cases hl : c.list with
  | nil => rw [hl] at h; simp at h
  | cons x r =>
    rw [hl] at h
    simp only [Bool.and_eq_true, Bool.or_eq_true, decide_eq_true_iff] at h
    obtain ⟨h1, _, h2, h3⟩ := h
    rw [decide_eq_false (by omega), List.all_cons]
    have e1 : ndB x = true := h2.elim type_nd feat_nd
    have e2 : r.all ndB = true := List.all_eq_true.2 fun y hy => feat_nd (List.all_eq_true.1 h3 y hy)
    rw [e1, e2]
    rfl
theorem query_nd {c : Cnd} (h : queryB c = true) : ndB c = true := by
  unfold queryB at h
  by_cases hk : c.kind = 3
  · rw [if_pos hk] at h
    rw [ndB_eq, ndL_all]
    match hl : c.list with
    | [y] =>
      rw [hl] at h
      simp only [Bool.and_eq_true] at h
      rw [decide_eq_false (by omega), List.all_cons, plan_nd h.2.1]
      rfl
    | [] => rw [hl] at h; simp at h
    | _ :: _ :: _ => rw [hl] at h; simp at h
  · rw [if_neg hk] at h
    exact plan_nd h
theorem med_nd {c : Cnd} (h : medB c = true) : ndB c = true := by
  unfold medB at h
  rw [ndB_eq, ndL_all]
  simp only [Bool.and_eq_true, Bool.or_eq_true, decide_eq_true_iff] at h
  rcases h.2 with ⟨h1, h2⟩ | ⟨h1, _, _, h2⟩
  · rw [decide_eq_false (by omega), List.eq_nil_of_length_eq_zero h2]
    rfl
  · rw [decide_eq_false (by omega), List.all_eq_true.2 fun y hy => query_nd (List.all_eq_true.1 h2 y hy)]
    rfl
def s_Holds : T_cond_Holds := fun c w yes K => LenC c ∧ medB c = true ∧ yes = [] ∧ (0 ≤ w ∧ w ≤ 1000000000) ∧ K (hM (w * 1000) c) 0
theorem p_Holds (c : Cnd) (w : Int) (yes : List Bool) (K : Bool → Int → Prop) (h : s_Holds c w yes K) : F_cond_Holds s_isMed s_A s_holds c w yes K := by
  obtain ⟨hc, hm, rfl, ⟨hw, hw2⟩, h⟩ := h
  have hn := med_nd hm
  unfold F_cond_Holds s_isMed s_A s_holds
  rw [eta c, hm]
  refine ⟨hc, fun q => (by cases q), fun _ => ⟨fun _ => ⟨fun _ => ⟨hc, hn, fun q => ?_, fun _ => ⟨⟨by omega, by omega⟩, ?_⟩⟩, fun q => ?_⟩, fun q => ?_⟩⟩
  · have := of_decide_eq_true q
    exact absurd rfl this
  · show LenC (Cnd.mk c.kind c.name c.num ⟨c.decl.name, c.decl.val, c.decl.imp⟩ c.list) ∧ ndB (Cnd.mk c.kind c.name c.num ⟨c.decl.name, c.decl.val, c.decl.imp⟩ c.list) = true ∧ K (hM (w * 1000) (Cnd.mk c.kind c.name c.num ⟨c.decl.name, c.decl.val, c.decl.imp⟩ c.list)) 0
    rw [eta c]
    exact ⟨hc, hn, h⟩
  · have := of_decide_eq_true q
    omega
  · have := of_decide_eq_true q
    omega
end Go.Proofs.YtajmjilckaifoaaGreatDoor
set_option linter.unusedVariables false
set_option linter.unusedSimpArgs false
namespace Go.Proofs.YtajmjilckaifoaaGreatDoor
open Go.Vm Go.Sx Go.RowKit

def s_alive : T_vitrinelaw10_alive := fun K => K true
def sole (l : List Cnd) : Cnd := Cnd.mk 2 [] 0 ⟨[], [], false⟩ l
def alone (x : Cnd) : Cnd := sole [Cnd.mk 1 [] 0 ⟨[], [], false⟩ [x]]
theorem len_one {α : Type} (x : α) : [x].length ≤ maxLen := by
  rw [maxLen_eq]
  show 1 ≤ _
  omega
theorem len_sole {x : Cnd} (h : LenC x) (k : Int) : LenC (Cnd.mk k [] 0 ⟨[], [], false⟩ [x]) :=
  LenC.mk (len_one x) ⟨by rw [maxLen_eq]; exact Nat.zero_le _, fun v hv => by cases hv⟩ fun y hy => by
    rcases List.mem_cons.1 hy with rfl | hy
    · exact h
    · cases hy
theorem len_alone {x : Cnd} (h : LenC x) : LenC (alone x) := len_sole (len_sole h 1) 2
theorem med_sole {x : Cnd} (h : queryB x = true) : medB (sole [x]) = true := by
  unfold medB sole listedB noD
  simp [h]
theorem plan_one {x : Cnd} (h : featB x = true) : planB (Cnd.mk 1 [] 0 ⟨[], [], false⟩ [x]) = true := by
  rw [plan_all]
  unfold listedB noD emL
  simp [allB, oneB, h]
theorem med_alone {x : Cnd} (h : featB x = true) : medB (alone x) = true := by
  refine med_sole ?_
  unfold queryB
  rw [if_neg (show ¬ ((1 : Int) = 3) by decide)]
  exact plan_one h
theorem cnt_one (w : Int) (x : Cnd) : cnt w [x] = if hM w x then 1 else 0 := by
  rw [cnt, cnt, Nat.add_zero]
theorem hM_sole (w : Int) (x : Cnd) : hM w (sole [x]) = hM w x := by
  rw [hM_eq]
  unfold sole
  simp (config := { decide := true }) only [if_true, if_false, cnt_one]
  cases hM w x <;> rfl
theorem hM_alone (w : Int) (x : Cnd) : hM w (alone x) = hM w x := by
  unfold alone
  rw [hM_sole, hM_eq]
  simp (config := { decide := true }) only [if_true, if_false, cnt_one]
  cases hM w x <;> rfl
theorem cnt_full (w : Int) : ∀ {l : List Cnd}, cnt w l = l.length → ∀ x ∈ l, hM w x = true
  | c :: r, h, x, hx => by
    have := cnt_le w r
    rw [cnt, List.length_cons] at h
    cases hc : hM w c with
    | false => rw [hc, if_neg (by decide)] at h; omega
    | true =>
      rw [hc, if_pos rfl] at h
      rcases List.mem_cons.1 hx with rfl | hx
      · exact hc
      · exact cnt_full w (by omega) x hx
theorem plan_kind {q : Cnd} (h : planB q = true) : q.kind = 1 := by
  unfold planB at h
  simp only [Bool.and_eq_true, decide_eq_true_iff] at h
  exact h.1
theorem plan_mem {q x : Cnd} (h : planB q = true) (hx : x ∈ q.list) (h4 : x.kind ≠ 4) : featB x = true := by
  unfold planB at h
  cases hl : q.list with
  | nil => rw [hl] at hx; cases hx
  | cons y r =>
    rw [hl] at h hx
    simp only [Bool.and_eq_true, Bool.or_eq_true] at h
    obtain ⟨_, _, h1, h2⟩ := h
    rcases List.mem_cons.1 hx with rfl | hx
    · rcases h1 with h1 | h1
      · unfold typeB at h1
        simp only [Bool.and_eq_true, decide_eq_true_iff] at h1
        exact absurd h1.1 h4
      · exact h1
    · exact List.all_eq_true.1 h2 x hx
theorem feat_kind {x : Cnd} (h : featB x = true) : x.kind = 5 ∨ x.kind = 6 := by
  unfold featB at h
  simp only [Bool.and_eq_true, Bool.or_eq_true, decide_eq_true_iff] at h
  exact h.1
theorem plan_holds {q : Cnd} (h : planB q = true) {w : Int} (ho : hM w q = true) : ∀ x ∈ q.list, hM w x = true := by
  rw [hM_eq] at ho
  have hk := plan_kind h
  simp (config := { decide := true }) only [hk, if_true, if_false] at ho
  exact cnt_full w (of_decide_eq_true ho)

theorem p_l14 (a b : Int) (ha : 0 ≤ a) (hab : a ≤ b) (hb : b ≤ 1000000000) (c q : Cnd) (i0 : Nat) (hi0 : i0 < c.list.length) (hq : c.list.getD i0 (dfltD Cd.cnd) = q) (hc : LenC q) (hp : planB q = true) (x7 : Bool) (x8 : Int) (x9 : Bool)
    (Ke : Int → Int → Bool → Int → Bool → Int → Int → List UInt8 → Int → List UInt8 → List Val → Bool → List Cnd → Prop) (Kr : Bool → Prop) (h : Ke a b x7 x8 x9 i0 c.kind c.name c.num c.decl.name c.decl.val c.decl.imp c.list) :
    ∀ (n k : Nat), q.list.length < n + k → k ≤ q.list.length → F_vitrinelaw10_CondWide_l14 s_Gr s_Chk s_alive s_Holds n a b x7 x8 x9 (i0 : Int) (hM (a * 1000) q) (k : Int) c.kind c.name c.num c.decl.name c.decl.val c.decl.imp c.list Ke Kr
  | 0, k, h1, h2 => by omega
  | n + 1, k, h1, h2 => by
    unfold F_vitrinelaw10_CondWide_l14
    rw [Int.toNat_natCast, hq]
    refine ⟨⟨by omega, by omega⟩, fun w => ?_, fun _ => h⟩
    have w := of_decide_eq_true w
    have hk : k < q.list.length := by omega
    have ih := p_l14 a b ha hab hb c q i0 hi0 hq hc hp x7 x8 x9 Ke Kr h n (k + 1) (by omega) hk
    have next : I64 ((k : Int) + 1) ∧ F_vitrinelaw10_CondWide_l14 s_Gr s_Chk s_alive s_Holds n a b x7 x8 x9 (i0 : Int) (hM (a * 1000) q) ((k : Int) + 1) c.kind c.name c.num c.decl.name c.decl.val c.decl.imp c.list Ke Kr := ⟨i64_succ hk hc.list, ih⟩
    have hm := getD_mem (α := Cnd) (dfltD Cd.cnd) hk
    rw [Int.toNat_natCast]
    generalize q.list.getD k (dfltD Cd.cnd) = x at hm ⊢
    refine ⟨⟨by omega, by omega⟩, ⟨by omega, w⟩, fun _ => next, fun r => ?_⟩
    have r := of_decide_eq_false r
    have hf := plan_mem hp hm r
    have hx := hc.all x hm
    have one := fun ho => plan_holds hp (w := a * 1000) ho x hm
    rw [eta x]
    refine ⟨len_alone hx, med_alone hf, rfl, ⟨ha, by omega⟩, len_alone hx, med_alone hf, rfl, ⟨by omega, hb⟩, ?_⟩
    have e1 : hM (a * 1000) (Cnd.mk 2 [] 0 ⟨[], [], false⟩ [Cnd.mk 1 [] 0 ⟨[], [], false⟩ [x]]) = hM (a * 1000) x := hM_alone _ x
    have e2 : hM (b * 1000) (Cnd.mk 2 [] 0 ⟨[], [], false⟩ [Cnd.mk 1 [] 0 ⟨[], [], false⟩ [x]]) = hM (b * 1000) x := hM_alone _ x
    rw [e1, e2]
    have f5 : x.kind = 5 → hM (a * 1000) x = true → hM (b * 1000) x = true := fun k5 => by
      rw [hM_eq, hM_eq, if_neg (by omega), if_pos k5, if_neg (by omega), if_pos k5, decide_eq_true_iff, decide_eq_true_iff]
      omega
    have f6 : x.kind = 6 → hM (b * 1000) x = true → hM (a * 1000) x = true := fun k6 => by
      rw [hM_eq, hM_eq, if_neg (by omega), if_neg (by omega), if_pos k6, if_neg (by omega), if_neg (by omega), if_pos k6, decide_eq_true_iff, decide_eq_true_iff]
      omega
    generalize hM (a * 1000) x = p at one f5 f6 ⊢
    generalize hM (b * 1000) x = p2 at f5 f6 ⊢
    generalize hM (a * 1000) q = o at one next ⊢
    have k5 : decide (x.kind = 5) = true ∧ decide (x.kind = 6) = false ∨ decide (x.kind = 5) = false ∧ decide (x.kind = 6) = true := by
      rcases feat_kind hf with z | z
      · exact .inl ⟨decide_eq_true z, decide_eq_false (by omega)⟩
      · exact .inr ⟨decide_eq_false (by omega), decide_eq_true z⟩
    have d1 : decide ((0 : Int) ≠ 0) = false := rfl
    rcases k5 with ⟨z1, z2⟩ | ⟨z1, z2⟩
    · have z := of_decide_eq_true z1
      simp only [z1, z2, d1, Bool.false_eq_true, Bool.true_eq_false, false_implies, true_implies, true_and, and_true]
      cases p <;> cases p2 <;> cases o <;> simp only [Bool.not_true, Bool.not_false, Bool.false_eq_true, Bool.true_eq_false, false_implies, true_implies, true_and, and_true] <;> first
        | exact next
        | exact absurd (one rfl) (by decide)
        | exact absurd (f5 z rfl) (by decide)
    · have z := of_decide_eq_true z2
      simp only [z1, z2, d1, Bool.false_eq_true, Bool.true_eq_false, false_implies, true_implies, true_and, and_true]
      cases p <;> cases p2 <;> cases o <;> simp only [Bool.not_true, Bool.not_false, Bool.false_eq_true, Bool.true_eq_false, false_implies, true_implies, true_and, and_true] <;> first
        | exact next
        | exact absurd (one rfl) (by decide)
        | exact absurd (f6 z rfl) (by decide)
theorem take_one {l : List Cnd} {i : Nat} (h : i < l.length) : (l.drop i).take (((i : Int) + 1).toNat - ((i : Int)).toNat) = [l.getD i (dfltD Cd.cnd)] := by
  rw [show ((i : Int) + 1).toNat - ((i : Int)).toNat = 1 by omega, drop_getD (α := Cnd) (dfltD Cd.cnd) h]
  rfl
theorem any_take {α : Type} {p : α → Bool} {l : List α} {i : Nat} (d : α) (h : i < l.length) : (l.take (i + 1)).any p = ((l.take i).any p || p (l.getD i d)) := by
  rw [List.take_succ_eq_append_getElem h, List.any_append, List.getD_eq_getElem?_getD, List.getElem?_eq_getElem h]
  simp
theorem p_l6 (a b : Int) (ha : 0 ≤ a) (hab : a ≤ b) (hb : b ≤ 1000000000) (c : Cnd) (hc : LenC c) (hq : ∀ x ∈ c.list, queryB x = true) (x7 : Bool) (x8 : Int) (z : Bool)
    (Ke : Bool → Int → Bool → Prop) (Kr : Bool → Prop) (h : Ke x7 x8 (z || c.list.any (hM (a * 1000)))) :
    ∀ (n i : Nat), c.list.length < n + i → i ≤ c.list.length → F_vitrinelaw10_CondWide_l6 s_Gr s_Chk s_alive s_Holds n a b x7 x8 (z || (c.list.take i).any (hM (a * 1000))) (i : Int) c.kind c.name c.num c.decl.name c.decl.val c.decl.imp c.list Ke Kr
  | 0, i, h1, h2 => by omega
  | n + 1, i, h1, h2 => by
    unfold F_vitrinelaw10_CondWide_l6
    refine ⟨fun w => ?_, fun w => ?_⟩
    · have w := of_decide_eq_true w
      have hi : i < c.list.length := by omega
      have ih := p_l6 a b ha hab hb c hc hq x7 x8 z Ke Kr h n (i + 1) (by omega) hi
      rw [any_take (α := Cnd) (dfltD Cd.cnd) hi, ← Bool.or_assoc] at ih
      have hm := getD_mem (α := Cnd) (dfltD Cd.cnd) hi
      have i64 := i64_succ hi hc.list
      refine ⟨i64, ⟨by omega, by omega, by omega⟩, ?_⟩
      rw [Int.toNat_natCast]
      have e := take_one hi
      rw [Int.toNat_natCast] at e
      rw [e]
      have l14 := fun (hp : planB (c.list.getD i (dfltD Cd.cnd)) = true) (x9 : Bool) Ke2 Kr2 hk => p_l14 a b ha hab hb c (c.list.getD i (dfltD Cd.cnd)) i hi rfl (hc.all _ hm) hp x7 x8 x9 Ke2 Kr2 hk ((c.list.getD i (dfltD Cd.cnd)).list.length + 1) 0 (by omega) (Nat.zero_le _)
      generalize hx : c.list.getD i (dfltD Cd.cnd) = x at hm ih l14 ⊢
      have hqx := hq x hm
      refine ⟨len_sole (hc.all x hm) 2, med_sole hqx, rfl, ⟨ha, by omega⟩, ?_⟩
      have e1 : hM (a * 1000) (Cnd.mk 2 [] 0 ⟨[], [], false⟩ [x]) = hM (a * 1000) x := hM_sole _ x
      rw [e1]
      have pl : x.kind = 1 → planB x = true := fun k1 => by
        unfold queryB at hqx
        rwa [if_neg (by omega)] at hqx
      refine ⟨fun q => absurd rfl (of_decide_eq_true q), fun _ => ⟨fun r => ⟨⟨by omega, w⟩, fun s => ⟨i64, ?_⟩, fun s => ⟨_, l14 (pl ?_) _ _ _ ⟨i64, ?_⟩⟩⟩, fun r => ⟨⟨by omega, w⟩, fun s => ⟨i64, ?_⟩, fun s => ⟨_, l14 (pl ?_) _ _ _ ⟨i64, ?_⟩⟩⟩⟩⟩
      · rw [r, Bool.false_or] at ih; exact ih
      · have := of_decide_eq_false s; omega
      · rw [r, Bool.false_or] at ih; exact ih
      · rw [r, Bool.true_or] at ih; exact ih
      · have := of_decide_eq_false s; omega
      · rw [r, Bool.true_or] at ih; exact ih
    · have w := of_decide_eq_false w
      have hi : i = c.list.length := by omega
      subst hi
      rw [List.take_length]
      exact h
theorem cnt_any (w : Int) : ∀ l : List Cnd, decide (0 < cnt w l) = l.any (hM w)
  | [] => rfl
  | c :: r => by
    rw [cnt, List.any_cons, ← cnt_any w r]
    cases hM w c with
    | true => rw [if_pos rfl, decide_eq_true (by omega)]; rfl
    | false => rw [if_neg (by decide), Nat.zero_add]; rfl
theorem med_any {c : Cnd} (h : medB c = true) (w : Int) : hM w c = (decide (c.kind = 1) || c.list.any (hM w)) ∧ ∀ x ∈ c.list, queryB x = true := by
  unfold medB at h
  simp only [Bool.and_eq_true, Bool.or_eq_true, decide_eq_true_iff] at h
  rw [hM_eq]
  rcases h.2 with ⟨h1, h2⟩ | ⟨h1, _, _, h2⟩
  · have hl := List.eq_nil_of_length_eq_zero h2
    simp (config := { decide := true }) only [h1, if_true, if_false]
    rw [hl]
    exact ⟨rfl, fun x hx => by cases hx⟩
  · simp (config := { decide := true }) only [h1, if_true, if_false]
    rw [cnt_any]
    exact ⟨rfl, fun x hx => List.all_eq_true.1 h2 x hx⟩
theorem law_wide (c : Cnd) (a b : Int) (K : Bool → Prop) (h : LenC c ∧ K true) : F_vitrinelaw10_CondWide s_Gr s_Chk s_alive s_Holds c a b K := by
  obtain ⟨hc, h⟩ := h
  unfold F_vitrinelaw10_CondWide
  rw [eta c]
  refine ⟨hc, fun g => ⟨fun _ => ⟨hc, fun hm => ⟨fun _ => ⟨fun q1 => ⟨fun q2 => ⟨fun _ => h, fun q3 => ?_⟩, fun _ => h⟩, fun _ => h⟩, fun _ => h⟩, fun _ => ⟨fun q => absurd (of_decide_eq_false q) (by decide), fun _ => h⟩⟩, fun _ => h⟩⟩
  have q1 := of_decide_eq_false q1
  have q2 := of_decide_eq_false q2
  have q3 := of_decide_eq_false q3
  obtain ⟨m1, m2⟩ := med_any hm (a * 1000)
  refine ⟨hc, hm, rfl, ⟨by omega, by omega⟩, c.list.length + 1, ?_⟩
  rw [m1]
  have := p_l6 a b (by omega) (by omega) (by omega) c hc m2 (decide (c.kind = 1) || c.list.any (hM (a * 1000))) 0 (decide (c.kind = 1)) (fun y6 y7 y8 => ((decide (y7 = (0 : Int))) = true → (((y6 == y8) = true → K true) ∧ ((y6 == y8) = false → K false))) ∧ ((decide (y7 = (0 : Int))) = false → K false)) (fun y10 => K y10)
    ⟨fun _ => ⟨fun _ => h, fun q => by simp at q⟩, fun q => absurd (of_decide_eq_false q) (by decide)⟩ (c.list.length + 1) 0 (by omega) (Nat.zero_le _)
  rw [List.take_zero, List.any_nil, Bool.or_false] at this
  exact this
end Go.Proofs.YtajmjilckaifoaaGreatDoor
set_option linter.unusedVariables false
namespace Go.Proofs.YtajmjilckaifoaaGreatDoor
open Go.Vm Go.Sx Go.RowKit
variable {ro : Nat}

def s_law : T_vitrinelaw10_CondWide := fun c _ _ K => LenC c ∧ K true
theorem t_188 : FnOK sy Tryz.prog GT (ovD ro) ro 188 (q_stringslite_IndexByte s_ib) := by
  intro o0 us k h st vs hn hg ho hr
  unfold q_stringslite_IndexByte at h
  split at h
  · rename_i a0 a1
    obtain ⟨⟨hl, hl2⟩, hk⟩ := h
    obtain ⟨v0, r0, rfl, hv0, hr0⟩ := hr
    obtain ⟨v1, r1, rfl, hv1, hr1⟩ := hr0
    have hr1 : r1 = [] := hr1
    have hv0 : v0 = V.str a0 := hv0
    have hv1 : v1 = .i .u8 a1 := hv1
    subst hr1 hv0 hv1
    obtain ⟨c, rfl⟩ : ∃ c : Nat, a1 = .ofNat c := ⟨a1.toNat, by show a1 = (a1.toNat : Int); omega⟩
    have hc : c < 256 := by have : ((c : Nat) : Int) < 256 := hl2; omega
    refine ⟨.i .i64 (Lib.indexByte a0 (UInt8.ofNat c)), st, ⟨1, fun n hn => ?_⟩, .i .i64 (Lib.indexByte a0 (UInt8.ofNat c)), rfl, ⟨Nat.le_refl _, fun _ _ => rfl, fun _ _ q => q⟩, hk⟩
    cases n with
    | zero => omega
    | succ n =>
      have e : ovD ro 188 [V.str a0, .i .u8 (.ofNat c)] st = some (.i .i64 (Lib.indexByte a0 (UInt8.ofNat c)), st) := by
        have hb : Nat.blt c 256 = true := by rw [Nat.blt_eq]; exact hc
        have hx : ixN a0.length (packL a0) c 0 = Lib.indexByte a0 (UInt8.ofNat c) := by
          have h2 := (ixN_eq c hc a0.length (packL a0) 0).2
          rw [unpackL_packL] at h2
          rw [h2]
          split
          · rename_i z; exact z.symm
          · show _ + ((0 : Nat) : Int) = _
            omega
        have h0 : ovI 188 [V.str a0, .i .u8 (.ofNat c)] = some (V.i .i64 (Lib.indexByte a0 (UInt8.ofNat c))) := by
          show cond (Nat.blt c 256) (some (V.i .i64 (ixN a0.length (packL a0) c 0))) none = _
          rw [hb, hx]
          rfl
        show ofOv0 ovI 188 [V.str a0, .i .u8 (.ofNat c)] st = _
        unfold ofOv0
        rw [h0]
      unfold evF callGo
      rw [e]
  · exact h.elim
theorem t_18 : FnOK sy Tryz.prog GT (ovD ro) ro 18 (q_vitrinelaw10_alive s_alive) := by
  intro o0 us k h st vs hn hg ho hr
  unfold q_vitrinelaw10_alive at h
  split at h
  · have e : vs = [] := hr
    subst e
    exact ⟨.b true, st, ⟨1, fun n hn => by
      cases n with
      | zero => omega
      | succ n => rfl⟩, .b true, rfl, ⟨Nat.le_refl _, fun _ _ => rfl, fun _ _ q => q⟩, h⟩
  · exact h.elim
theorem t_149 : FnOK sy Tryz.prog GT (ovD ro) ro 149 (q_input_lowerByte s_lowb) := q_input_lowerByte_weak (ok_input_lowerByte) p_lowb
theorem t_144 : FnOK sy Tryz.prog GT (ovD ro) ro 144 (q_vitrineref01_Small s_Small) := q_vitrineref01_Small_weak (ok_vitrineref01_Small) p_Small
theorem t_152 : FnOK syc Tryz.prog GT (ovD ro) ro 152 (q_input_Lower s_Low) := q_input_Lower_weak (ok_input_Lower s_lowb (t_149).cv) p_Low
theorem t_98 : FnOK syc Tryz.prog GT (ovD ro) ro 98 (q_vitrineref01_Lower s_rLow) := q_vitrineref01_Lower_weak (ok_vitrineref01_Lower s_Small (t_144).cv) p_rLow
theorem t_148 : FnOK syw Tryz.prog GT (ovD ro) ro 148 (q_r4_Closer s_Cl) := q_r4_Closer_weak (ok_r4_Closer) p_Cl
theorem tk_121 : ∀ k, FnOK syw Tryz.prog GT (ovD ro) ro 121 (q_r4_Size (sSz k))
  | 0 => fun o0 us kk h => by
    unfold q_r4_Size at h
    split at h
    · exact absurd h.1 (Nat.not_lt_zero _)
    · exact h.elim
  | k + 1 => q_r4_Size_weak (ok_r4_Size (sSz k) (tk_121 k)) (p_Sz k)
theorem t_121 : FnOK syw Tryz.prog GT (ovD ro) ro 121 (q_r4_Size s_Sz) := fun o0 us kk h => by
  unfold q_r4_Size at h
  split at h
  · exact tk_121 (_ + 1) o0 _ kk ⟨Nat.lt_succ_self _, h⟩
  · exact h.elim
theorem tk_122 : ∀ k, FnOK syw Tryz.prog GT (ovD ro) ro 122 (q_r4_Deep (sDp k))
  | 0 => fun o0 us kk h => by
    unfold q_r4_Deep at h
    split at h
    · exact absurd h.1 (Nat.not_lt_zero _)
    · exact h.elim
  | k + 1 => q_r4_Deep_weak (ok_r4_Deep s_Cl (sDp k) t_148 (tk_122 k)) (p_Dp k)
theorem t_122 : FnOK syw Tryz.prog GT (ovD ro) ro 122 (q_r4_Deep s_Dp) := fun o0 us kk h => by
  unfold q_r4_Deep at h
  split at h
  · exact tk_122 (_ + 1) o0 _ kk ⟨Nat.lt_succ_self _, h⟩
  · exact h.elim
theorem t_83 : FnOK syw Tryz.prog GT (ovD ro) ro 83 (q_r5_Great s_G5) := q_r5_Great_weak (ok_r5_Great s_Sz s_Dp t_121 t_122) p_G5
theorem tk_44 : ∀ k, FnOK syw Tryz.prog GT (ovD ro) ro 44 (q_ra_Size (sSc k))
  | 0 => fun o0 us kk h => by
    unfold q_ra_Size at h
    split at h
    · exact absurd h.1 (Nat.not_lt_zero _)
    · exact h.elim
  | k + 1 => q_ra_Size_weak (ok_ra_Size (sSc k) (tk_44 k)) (p_Sc k)
theorem t_44 : FnOK syw Tryz.prog GT (ovD ro) ro 44 (q_ra_Size s_Sc) := fun o0 us kk h => by
  unfold q_ra_Size at h
  split at h
  · exact tk_44 (_ + 1) o0 _ kk ⟨Nat.lt_succ_self _, h⟩
  · exact h.elim
theorem tk_45 : ∀ k, FnOK syw Tryz.prog GT (ovD ro) ro 45 (q_ra_long (sLg k))
  | 0 => fun o0 us kk h => by
    unfold q_ra_long at h
    split at h
    · exact absurd h.1 (Nat.not_lt_zero _)
    · exact h.elim
  | k + 1 => q_ra_long_weak (ok_ra_long s_G5 (sLg k) t_83 (tk_45 k)) (p_Lg k)
theorem t_45 : FnOK syw Tryz.prog GT (ovD ro) ro 45 (q_ra_long s_Lg) := fun o0 us kk h => by
  unfold q_ra_long at h
  split at h
  · exact tk_45 (_ + 1) o0 _ kk ⟨Nat.lt_succ_self _, h⟩
  · exact h.elim
theorem t_19 : FnOK syw Tryz.prog GT (ovD ro) ro 19 (q_ra_Great s_Gr) := q_ra_Great_weak (ok_ra_Great s_Sc s_Lg t_44 t_45) p_Gr
theorem t_165 : FnOK sy Tryz.prog GT (ovD ro) ro 165 (q_r6_Is s_is) := q_r6_Is_weak (ok_r6_Is) p_is
theorem t_123 : FnOK sy Tryz.prog GT (ovD ro) ro 123 (q_ra_plain s_plain) := q_ra_plain_weak (ok_ra_plain) p_plain
theorem t_86 : FnOK sy Tryz.prog GT (ovD ro) ro 86 (q_ra_listed s_listed) := q_ra_listed_weak (ok_ra_listed s_plain t_123) p_listed
theorem t_164 : FnOK sy Tryz.prog GT (ovD ro) ro 164 (q_ra_medium s_med) := q_ra_medium_weak (ok_ra_medium s_rLow (t_98).ofCv) p_med
theorem t_124 : FnOK sy Tryz.prog GT (ovD ro) ro 124 (q_ra_all s_all) := q_ra_all_weak (ok_ra_all s_listed s_plain s_med s_is t_86 t_123 t_164 t_165) p_all
theorem t_87 : FnOK sy Tryz.prog GT (ovD ro) ro 87 (q_ra_query s_rq) := q_ra_query_weak (ok_ra_query s_listed s_all t_86 t_124) p_rq
theorem t_48 : FnOK sy Tryz.prog GT (ovD ro) ro 48 (q_ra_Medial s_Med) := q_ra_Medial_weak (ok_ra_Medial s_listed s_rq t_86 t_87) p_Med
theorem t_24 : FnOK sy Tryz.prog GT (ovD ro) ro 24 (q_ra_CheckMedia s_Chk) := q_ra_CheckMedia_weak (ok_ra_CheckMedia s_Med t_48) p_Chk
theorem t_151 : FnOK sy Tryz.prog GT (ovD ro) ro 151 (q_strings_IndexByte s_ibS) := q_strings_IndexByte_weak (ok_strings_IndexByte s_ib t_188) p_ibS
theorem t_111 : FnOK sy Tryz.prog GT (ovD ro) ro 111 (q_cond_isNoDecl s_noD) := q_cond_isNoDecl_weak (ok_cond_isNoDecl) p_noD
theorem t_67 : FnOK sy Tryz.prog GT (ovD ro) ro 67 (q_cond_isPure s_pure) := q_cond_isPure_weak (ok_cond_isPure s_noD t_111) p_pure
theorem t_193 : FnOK sy Tryz.prog GT (ovD ro) ro 193 (q_cond_isLength s_len) := q_cond_isLength_weak (ok_cond_isLength) p_len
theorem t_192 : FnOK sy Tryz.prog GT (ovD ro) ro 192 (q_cond_isName s_nm) := q_cond_isName_weak (ok_cond_isName s_ibS s_Low t_151 (t_152).ofCv) p_nm
theorem t_158 : FnOK sy Tryz.prog GT (ovD ro) ro 158 (q_cond_isType s_type) := q_cond_isType_weak (ok_cond_isType s_pure s_nm t_67 t_192) p_type
theorem t_160 : FnOK sy Tryz.prog GT (ovD ro) ro 160 (q_cond_isFeature s_feat) := q_cond_isFeature_weak (ok_cond_isFeature s_pure s_len t_67 t_193) p_feat
theorem t_118 : FnOK sy Tryz.prog GT (ovD ro) ro 118 (q_cond_isPlainQuery s_plan) := q_cond_isPlainQuery_weak (ok_cond_isPlainQuery s_pure s_type s_feat t_67 t_158 t_160) p_plan
theorem t_76 : FnOK sy Tryz.prog GT (ovD ro) ro 76 (q_cond_isQuery s_query) := q_cond_isQuery_weak (ok_cond_isQuery s_plan s_pure t_118 t_67) p_query
theorem t_38 : FnOK sy Tryz.prog GT (ovD ro) ro 38 (q_cond_isMedia s_isMed) := q_cond_isMedia_weak (ok_cond_isMedia s_pure s_query t_67 t_76) p_isMed
theorem tk_77_h : ∀ k, ShOK sy Tryz.prog GT (ovD ro) ro Tryz.f77.ntmps (bodyOf Tryz.f77) sl_cond_holds_1_h sr_cond_holds_1_h (g_cond_holds_1_h (sH k))
  | 0 => fun _ _ _ _ _ h => absurd h.1 (Nat.not_lt_zero _)
  | k + 1 => (ok_cond_holds_1_h (sH k) (tk_77_h k)).weak (fun _ _ h => p_H k _ _ _ _ _ _ _ _ _ _ h)
theorem t_77_h : ShOK sy Tryz.prog GT (ovD ro) ro Tryz.f77.ntmps (bodyOf Tryz.f77) sl_cond_holds_1_h sr_cond_holds_1_h (g_cond_holds_1_h s_H) := fun o0 B hB x K h => tk_77_h (_ + 1) o0 B hB x K ⟨Nat.lt_succ_self _, h⟩
theorem t_40 : FnOK sy Tryz.prog GT (ovD ro) ro 40 (q_cond_holds s_holds) := q_cond_holds_weak (ok_cond_holds s_H t_77_h) p_holds
theorem tk_39_d : ∀ k, ShOK sy Tryz.prog GT (ovD ro) ro Tryz.f39.ntmps (bodyOf Tryz.f39) sl_cond_appendDecls_d sr_cond_appendDecls_d (g_cond_appendDecls_d (sA k))
  | 0 => fun _ _ _ _ _ h => absurd h.1 (Nat.not_lt_zero _)
  | k + 1 => (ok_cond_appendDecls_d (sA k) (tk_39_d k)).weak (fun _ _ h => p_A k _ _ _ _ _ _ _ _ _ _ _ _ _ _ _ _ _ h)
theorem t_39_d : ShOK sy Tryz.prog GT (ovD ro) ro Tryz.f39.ntmps (bodyOf Tryz.f39) sl_cond_appendDecls_d sr_cond_appendDecls_d (g_cond_appendDecls_d s_A) := fun o0 B hB x K h => tk_39_d (_ + 1) o0 B hB x K ⟨Nat.lt_succ_self _, h⟩
theorem t_14 : FnOK sy Tryz.prog GT (ovD ro) ro 14 (q_cond_Holds s_Holds) := q_cond_Holds_weak (ok_cond_Holds s_isMed s_A s_holds t_38 t_39_d t_40) p_Holds
theorem t_7 : FnOK sy Tryz.prog GT (ovD ro) ro 7 (q_vitrinelaw10_CondWide s_law) := q_vitrinelaw10_CondWide_weak (ok_vitrinelaw10_CondWide s_Gr s_Chk s_alive s_Holds (t_19).ofWr t_24 t_18 t_14) law_wide

theorem datA_rel {own : Nat → Prop} {st : St} {E : En} {u : W} {v : V} (h : DatA sy own st u v) : RelV sy (Dat sy own st) E u v := by
  cases h with
  | b x => rfl
  | i k n => rfl
  | s l => rfl
  | sn => rfl
  | l hd => exact hd
theorem cells_vs {W : World} : ∀ {us : List (U sg)} {cs : List Value}, CellsOK sy W us cs → ∃ vs, V.reals (JW W.heap.size) vs = cs ∧ V.oks (JW W.heap.size).nx vs ∧ RelL sy (Dat sy (fun _ => False) (stW W)) [] us vs
  | [], [], _ => ⟨[], rfl, trivial, rfl⟩
  | [], _ :: _, h => by cases h.1
  | _ :: _, [], h => by cases h.1
  | u :: us, c :: cs, h => by
    obtain ⟨l, g⟩ := h
    obtain ⟨v, h1, h2⟩ := g 0 u c rfl rfl
    obtain ⟨vs, h3, h4, h5⟩ := cells_vs (W := W) (us := us) (cs := cs) ⟨Nat.succ.inj l, fun j u x hu hx => g (j + 1) u x hu hx⟩
    obtain ⟨q1, q2, q3⟩ := toV_spec h1
    exact ⟨v :: vs, by simp only [V.reals, q1, h3], ⟨q2, h4⟩, v, vs, rfl, datA_rel h2, h5⟩
theorem open_cnd {H : Type} {enc : TypeId × Value → H} {W : World} {v : Value} {d : DataW H} {ps : List MemPlace} (h : DataW.Trod enc Tryz.prog W 0 (fun _ => true) true 30 v d ps) : ∃ (cs : List Value) (y : Cnd), v = .agg cs.toArray ∧ CellsOK sy W (sy.cells Cd.cnd y) cs ∧ LenC y := by
  obtain ⟨fuel, hf⟩ := h
  obtain ⟨y, h1, h2⟩ := rdC fuel fuel (Nat.le_refl _) v.cells.toList _ hf
  have hl : v.cells.toList.length = 7 := h1.1
  cases v with
  | agg cs => exact ⟨cs.toList, y, by rw [Array.toArray_toList], h1, h2⟩
  | _ => exact absurd hl (by simp [Value.cells])
theorem calls (a b : Int) (W : World) (hL : laidMetH Tryz.prog Rows.condWideRow.laid W) (hB : W.ShapedOpen Tryz.prog) (cs : List Value) (y : Cnd) (hc : CellsOK sy W (sy.cells Cd.cnd y) cs) (hy : LenC y) : Calls Tryz.prog 7 #[.agg cs.toArray, .int .i64 a, .int .i64 b] W fun e w' => e = .returned (.bool true) ∧ Below W.heap.size W w' := by
  obtain ⟨vs, h1, h2, h3⟩ := cells_vs hc
  refine law_callsW (ov := ovA (GL + W.heap.size)) (ovA_ok hB (gon hL)) mixed name_of (args := [.a vs, .i .i64 a, .i .i64 b]) ⟨h2, trivial, trivial, trivial⟩ ?_ _ (by simp only [V.reals, V.real, h1])
  obtain ⟨v', st', ⟨M, g1⟩, u, g2, _, g3⟩ := t_7 (ro := GL + W.heap.size) (fun _ => False) [.a (sy.cells Cd.cnd y), .i .i64 a, .i .i64 b] (fun u => u = .b true) ⟨(show LenC (Cnd.mk y.kind y.name y.num ⟨y.decl.name, y.decl.val, y.decl.imp⟩ y.list) by rw [eta y]; exact hy), rfl⟩ (stW W) [.a vs, .i .i64 a, .i .i64 b] (Nat.le_refl _) (fun g k l h => by cases h) (fun _ q => q.elim) ⟨_, _, rfl, ⟨vs, rfl, h3⟩, _, _, rfl, rfl, _, _, rfl, rfl, rfl⟩
  subst g3
  have e : v' = .b true := g2
  subst e
  exact ⟨M, st', g1 M (Nat.le_refl _)⟩
end Go.Proofs.YtajmjilckaifoaaGreatDoor
