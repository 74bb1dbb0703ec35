/-
  What a law is handed, read as data: lists, in the memory that holds the whole world. Nothing is claimed here.
-/
import Derived.Test.YtfpobnafniefpaaAr
import Derived.Test.YtfpobnafniefpaaSm
import Derived.OpenShut
import Derived.DataReads
set_option linter.unusedVariables false
namespace Go.Sx
open Go.Vm Go.RowKit

section
variable {S : Sg} {Y : Sy S} {P : Program} {H : Type} {enc : TypeId × Value → H} {W : World}

/-- Cells of the world stand for data. -/
def CellsOK (Y : Sy S) (W : World) (us : List (U S)) (cs : List Value) : Prop :=
  cs.length = us.length ∧ ∀ (j : Nat) u x, us[j]? = some u → cs[j]? = some x → ∃ v, toV W.heap.size x = some v ∧ DatA Y (fun _ => False) (stW W) u v

/-- What lies where a type is read, up to some depth, is data of a kind. -/
def Rd (Y : Sy S) (P : Program) (enc : TypeId × Value → H) (W : World) (N : Nat) (e : TypeId) (c : S.Cd) : Prop :=
  ∀ fuel, fuel ≤ N → ∀ cs x, DataW.trod enc P W 0 (fun _ => true) true fuel e cs = some x → ∃ y : S.Den c, CellsOK Y W (Y.cells c y) cs

theorem cell_block {a : Addr} {v : Value} (h : W.cell? a = some v) : ∃ c e fz, W.heap[a.block]? = some (.cells c e fz) ∧ a.spot = none ∧ c[a.off]? = some v := by
  unfold World.cell? at h
  split at h
  · rename_i c e fz hc
    split at h
    · cases h
    · rename_i hs
      exact ⟨c, e, fz, hc, by simpa using hs, h⟩
  · cases h

theorem rd_slice {N : Nat} {t e : TypeId} {c : S.Cd} (ht : P.underlying t = some (.slice e)) (hw : P.cellsOf e = Y.wid c) (hr : Rd Y P enc W N e c) {fuel : Nat} (hf : fuel ≤ N + 1) {cs : List Value} {x : DataW H × List MemPlace}
    (h : DataW.trod enc P W 0 (fun _ => true) true fuel t cs = some x) : ∃ val v xs, cs = [val] ∧ toV W.heap.size val = some v ∧ Dat Y (fun _ => False) (stW W) c xs v := by
  rcases DataW.trod_slice ht h with ⟨rfl, _⟩ | ⟨a, len, cap, elems, rest, n, rfl, rfl, _, _, hlc, _, hel, hE, hR, _⟩
  · exact ⟨_, _, [], rfl, rfl, .nil c⟩
  have hpos := Y.wpos c
  obtain ⟨hrl, hR⟩ := hR rfl
  rw [hw] at hE hR
  -- an element's cells
  have elem : ∀ i, i < cap → ∃ (y : S.Den c) (cs' : List Value), W.cells? 0 (a.add (i * Y.wid c)) (Y.wid c) = some cs' ∧ CellsOK Y W (Y.cells c y) cs' := by
    intro i hi
    have key : ∃ z, (W.cells? 0 (a.add (i * Y.wid c)) (Y.wid c)).bind (DataW.trod enc P W 0 (fun _ => true) true n e) = some z := by
      by_cases hil : i < len
      · rw [hE i hil]
        exact ⟨_, List.getElem?_eq_getElem (by omega)⟩
      · have := hR (i - len) (by omega)
        rw [show len + (i - len) = i from by omega] at this
        rw [this]
        exact ⟨_, List.getElem?_eq_getElem (by omega)⟩
    obtain ⟨z, hz⟩ := key
    obtain ⟨cs', h1, h2⟩ := Option.bind_eq_some_iff.1 hz
    obtain ⟨y, hy⟩ := hr n (by omega) cs' z h2
    exact ⟨y, cs', h1, hy⟩
  by_cases hc0 : cap = 0
  · have hl0 : len = 0 := by omega
    subst hc0 hl0
    exact ⟨_, .ze a, [], rfl, rfl, .ze c a⟩
  · -- the block
    obtain ⟨y0, cs0, h1, h2⟩ := elem 0 (by omega)
    obtain ⟨_, hl0, hc1⟩ := World.cells?_some h1
    have hcell0 := hc1 0 (by omega)
    rw [List.getElem?_eq_getElem (by omega), Nat.zero_mul] at hcell0
    obtain ⟨cc, et, fz, hb, hs, hoff⟩ := cell_block (a := (a.add 0).add 0) hcell0
    have haa : (a.add 0).add 0 = a := by simp [Addr.add]
    rw [haa] at hb hs hoff
    obtain ⟨r, o, sp⟩ := a
    simp only at hb hs hoff
    subst hs
    have hlt : r < W.heap.size := (Array.getElem?_eq_some_iff.1 hb).1
    -- each cell
    have cells : ∀ (i : Nat) (cs' : List Value), W.cells? 0 (Addr.add ⟨r, o, none⟩ (i * Y.wid c)) (Y.wid c) = some cs' → ∀ j v, cs'[j]? = some v → cc[o + (i * Y.wid c + j)]? = some v := by
      intro i cs' h1 j v hj
      obtain ⟨_, hl, hc⟩ := World.cells?_some h1
      have hjl : j < Y.wid c := by rw [← hl]; exact (List.getElem?_eq_some_iff.1 hj).1
      have := hc j hjl
      rw [hj, Addr.add_lit, Addr.add_lit] at this
      simp only [World.cell?, hb] at this
      rw [← Nat.add_assoc]
      simpa using this
    let ys : Nat → S.Den c := fun i => if hi : i < cap then Classical.choose (elem i hi) else y0
    have hys : ∀ i, i < cap → ∃ cs' : List Value, W.cells? 0 (Addr.add ⟨r, o, none⟩ (i * Y.wid c)) (Y.wid c) = some cs' ∧ CellsOK Y W (Y.cells c (ys i)) cs' := by
      intro i hi
      have := Classical.choose_spec (elem i hi)
      simp only [ys, dif_pos hi]
      exact this
    have hxs : ∀ (i : Nat) x, ((List.range len).map ys)[i]? = some x → i < len ∧ x = ys i := by
      intro i x hx
      rw [List.getElem?_map] at hx
      cases hq : (List.range len)[i]? with
      | none => rw [hq] at hx; cases hx
      | some k =>
        obtain ⟨q1, q2⟩ := List.getElem?_eq_some_iff.1 hq
        have hk : k = i := by simpa using q2.symm
        subst hk
        rw [hq] at hx
        exact ⟨by simpa using q1, (Option.some.inj hx).symm⟩
    have hcel : Cel Y c ((List.range len).map ys) (fun k => (blkW W.heap.size cc).get (o + k)) (DatA Y (fun _ => False) (stW W)) := by
      intro i x hx j u hu
      obtain ⟨hi, rfl⟩ := hxs i x hx
      obtain ⟨cs', k1, k2, k3⟩ := hys i (by omega)
      have hjl : j < cs'.length := by rw [k2]; exact (List.getElem?_eq_some_iff.1 hu).1
      obtain ⟨v, k4, k5⟩ := k3 j u _ hu (List.getElem?_eq_getElem hjl)
      exact ⟨v, blkW_get.2 ⟨_, cells i cs' k1 j _ (List.getElem?_eq_getElem hjl), k4⟩, k5⟩
    obtain ⟨vs, r1, r2⟩ := rows_of_cel hcel
    have hlen : ((List.range len).map ys).length = len := by simp
    have hd := Dat.mk (Y := Y) (own := fun _ => False) (st := stW W) (c := c) (xs := (List.range len).map ys) (id := idOf r) (off := o) (cap := cap) (op := false) (b := blkW W.heap.size cc) vs (fun q => q) (idOf_lt hlt) (hpW_get.2 ⟨r, cc, et, fz, rfl, hb, rfl⟩) r1 r2 (by rw [hlen]; exact hlc)
    rw [hlen] at hd
    refine ⟨_, .sl (idOf r) o len cap false, (List.range len).map ys, rfl, ?_, hd⟩
    have : toV W.heap.size (.slice (some ⟨r, o, none⟩) len cap) = if r < W.heap.size ∧ len ≤ cap then some (.sl (idOf r) o len cap false) else none := by
      cases cap with
      | zero => exact absurd rfl hc0
      | succ cap => cases len <;> rfl
    rw [this, if_pos ⟨hlt, hlc⟩]

/-- One cell of a struct. -/
theorem one_at {cs : List Value} {o : Nat} {v : Value} (h : (cs.drop o).take 1 = [v]) : cs[o]? = some v := by
  have := congrArg (·[0]?) h
  simpa [List.getElem?_take, List.getElem?_drop] using this

/-- The listed variables hold what they hold. -/
theorem gok_world {G : Gl} (h : ∀ g k l, G g = some (k, l) → g < GL ∧ ∃ c e fz, W.heap[g]? = some (.cells c e fz) ∧ ∀ j, j < l.length → c[j]? = some (.int k (l.getD j 0))) : GOK G (GL + W.heap.size) (stW W) := by
  intro g k l hg
  obtain ⟨h1, c, e, fz, h2, h3⟩ := h g k l hg
  refine ⟨by omega, blkW W.heap.size c, hpW_get.2 ⟨g, c, e, fz, by unfold idOf; rw [if_pos h1], h2, rfl⟩, fun j hj => blkW_get.2 ⟨_, h3 j hj, rfl⟩⟩
end
end Go.Sx
