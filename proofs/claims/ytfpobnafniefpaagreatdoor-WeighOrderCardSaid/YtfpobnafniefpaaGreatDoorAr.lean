/-
  A whole world in the evaluator's memory: every block has a place, none of them is written. Nothing is claimed here.
-/
import Derived.Test.YtfpobnafniefpaaGreatDoorVl
set_option linter.unusedVariables false
namespace Go.Vm
open Go.RowKit

/-- The name of a block of the world. -/
def idOf (r : Nat) : Nat := if r < GL then r else GL + r
theorem idOf_inj {r s : Nat} (h : idOf r = idOf s) : r = s := by
  unfold idOf at h
  have : GL = 64 := rfl
  split at h <;> split at h <;> omega

def JW (n : Nat) : Inj := ⟨GL + n, fun g => if g < GL then (g, 0, 0) else (g - GL, 0, 0), fun g h => ⟨by omega, by simp [h]⟩⟩
theorem JW_id (n r : Nat) : (JW n).m (idOf r) = (r, 0, 0) := by
  show (if idOf r < GL then _ else _) = _
  unfold idOf
  by_cases h : r < GL
  · rw [if_pos h, if_pos h]
  · rw [if_neg h, if_neg (by omega)]
    simp
theorem idOf_lt {n r : Nat} (h : r < n) : idOf r < (JW n).nx := by
  show idOf r < GL + n
  unfold idOf
  split <;> omega

/-- A cell of the world. -/
def toV (n : Nat) : Value → Option V
  | .bool x => some (.b x)
  | .int k x => some (.i k x)
  | .string x => some (.str x.data.toList)
  | .pointer none => some .pn
  | .slice none 0 0 => some .sn
  | .slice (some a) 0 0 => some (.ze a)
  | .slice (some ⟨r, o, none⟩) l c => if r < n ∧ l ≤ c then some (.sl (idOf r) o l c false) else none
  | .nilFunc => some .fz
  | .nilIface => some .nz
  | _ => none
theorem toV_spec {n : Nat} {x : Value} {v : V} (h : toV n x = some v) : v.real (JW n) = x ∧ v.ok (JW n).nx ∧ v.atom = true := by
  unfold toV at h
  split at h
  · cases h; exact ⟨rfl, trivial, rfl⟩
  · cases h; exact ⟨rfl, trivial, rfl⟩
  · cases h; exact ⟨by rw [V.str_real], V.str_ok _ _, rfl⟩
  · cases h; exact ⟨rfl, trivial, rfl⟩
  · cases h; exact ⟨rfl, trivial, rfl⟩
  · cases h; exact ⟨rfl, trivial, rfl⟩
  · rename_i r o l c _
    split at h
    · rename_i hc
      cases h
      refine ⟨?_, ⟨idOf_lt hc.1, hc.2⟩, rfl⟩
      simp only [V.real, JW_id, cond_false, Nat.zero_add, Nat.add_zero]
    · cases h
  · cases h; exact ⟨rfl, trivial, rfl⟩
  · cases h; exact ⟨rfl, trivial, rfl⟩
  · cases h

/-- A tree of what stands in a list, from a number on. -/
def treeOf {α : Type} (nm : Nat → Nat) : List (Option α) → Nat → T α
  | [], _ => .e
  | x :: r, i => match x with
    | some v => (treeOf nm r (i + 1)).upd (nm i) (some v)
    | none => treeOf nm r (i + 1)
theorem treeOf_get {α : Type} {nm : Nat → Nat} (hn : ∀ {a b}, nm a = nm b → a = b) : ∀ (l : List (Option α)) (i g : Nat) (v : α), (treeOf nm l i).get g = some v ↔ ∃ k, g = nm (i + k) ∧ l[k]? = some (some v)
  | [], i, g, v => by simp [treeOf, T.get_e]
  | x :: r, i, g, v => by
    have ih := treeOf_get hn r (i + 1) g v
    have shift : (∃ k, g = nm (i + k) ∧ (x :: r)[k]? = some (some v)) ↔ (g = nm i ∧ x = some v) ∨ ∃ k, g = nm (i + 1 + k) ∧ r[k]? = some (some v) := by
      constructor
      · rintro ⟨k, h1, h2⟩
        cases k with
        | zero => exact .inl ⟨h1, by simpa using h2⟩
        | succ k => exact .inr ⟨k, by rw [h1]; congr 1; omega, by simpa using h2⟩
      · rintro (⟨h1, h2⟩ | ⟨k, h1, h2⟩)
        · exact ⟨0, h1, by simpa using h2⟩
        · exact ⟨k + 1, by rw [h1]; congr 1; omega, by simpa using h2⟩
    rw [shift]
    cases x with
    | none =>
      simp only [treeOf]
      rw [ih]
      simp
    | some u =>
      simp only [treeOf]
      rw [T.get_upd]
      by_cases hg : g = nm i
      · rw [if_pos hg]
        constructor
        · intro h; exact .inl ⟨hg, h⟩
        · rintro (⟨_, h⟩ | ⟨k, h1, h2⟩)
          · exact h
          · exfalso
            have := hn (hg.symm.trans h1)
            omega
      · rw [if_neg hg, ih]
        constructor
        · exact .inr
        · rintro (⟨h, _⟩ | h)
          · exact absurd h hg
          · exact h

def blkW (n : Nat) (c : Array Value) : Blk := ⟨treeOf (fun i => i) (c.toList.map (toV n)) 0, [], c.size, 1, false, none⟩
theorem blkW_get {n : Nat} {c : Array Value} {o : Nat} {v : V} : (blkW n c).get o = some v ↔ ∃ x, c[o]? = some x ∧ toV n x = some v := by
  have key : (blkW n c).cs.get o = some v ↔ ∃ x, c[o]? = some x ∧ toV n x = some v := by
    show (treeOf _ _ 0).get o = some v ↔ _
    rw [treeOf_get (fun h => h)]
    constructor
    · rintro ⟨k, h1, h2⟩
      rw [Nat.zero_add] at h1
      subst h1
      rw [List.getElem?_map, Array.getElem?_toList] at h2
      cases hx : c[o]? with
      | none => rw [hx] at h2; cases h2
      | some x => rw [hx] at h2; exact ⟨x, rfl, by simpa using h2⟩
    · rintro ⟨x, h1, h2⟩
      exact ⟨o, by rw [Nat.zero_add], by rw [List.getElem?_map, Array.getElem?_toList, h1, Option.map_some, h2]⟩
  unfold Blk.get
  cases hb : Nat.blt o (blkW n c).sz with
  | false =>
    simp only [cond_false]
    constructor
    · intro h; cases h
    · rintro ⟨x, h1, _⟩
      have := (Array.getElem?_eq_some_iff.1 h1).1
      have hlt : o < (blkW n c).sz := this
      rw [← Nat.blt_eq, hb] at hlt
      cases hlt
  | true =>
    simp only [cond_true]
    rw [← key]
    cases (blkW n c).cs.get o with
    | some u => rfl
    | none =>
      have : (blkW n c).zero = [] := rfl
      simp [this]

def objW (n : Nat) : Option Obj → Option Blk
  | some (.cells c _ _) => some (blkW n c)
  | _ => none
/-- The memory that holds the whole world. -/
def hpW (W : World) : T Blk := treeOf idOf ((List.range W.heap.size).map fun r => objW W.heap.size W.heap[r]?) 0
def stW (W : World) : St := ⟨GL + W.heap.size, hpW W, GL + W.heap.size⟩
theorem hpW_get {W : World} {g : Nat} {b : Blk} : (hpW W).get g = some b ↔ ∃ r c e fz, g = idOf r ∧ W.heap[r]? = some (.cells c e fz) ∧ b = blkW W.heap.size c := by
  unfold hpW
  rw [treeOf_get idOf_inj]
  constructor
  · rintro ⟨k, h1, h2⟩
    rw [Nat.zero_add] at h1
    rw [List.getElem?_map] at h2
    cases hk : (List.range W.heap.size)[k]? with
    | none => rw [hk] at h2; cases h2
    | some r =>
      obtain rfl : k = r := by
        have := List.getElem?_eq_some_iff.1 hk
        obtain ⟨h3, h4⟩ := this
        simpa using h4
      rw [hk, Option.map_some, Option.some.injEq] at h2
      unfold objW at h2
      split at h2
      · rename_i c e fz ho
        exact ⟨k, c, e, fz, h1, ho, (Option.some.inj h2).symm⟩
      · cases h2
  · rintro ⟨r, c, e, fz, h1, h2, h3⟩
    have hlt := (Array.getElem?_eq_some_iff.1 h2).1
    refine ⟨r, by rw [Nat.zero_add]; exact h1, ?_⟩
    rw [List.getElem?_map, List.getElem?_range hlt, Option.map_some, h2, h3]
    rfl

/-- The world stands for itself, and no block of it is one that may be written. -/
theorem HR.world (W : World) : HR (JW W.heap.size) (GL + W.heap.size) W (hpW W).get W := by
  refine ⟨Old.refl W, fun g b hg => ?_, fun g g' b b' hg hg' he => ?_⟩
  · obtain ⟨r, c, e, fz, rfl, h2, rfl⟩ := hpW_get.1 hg
    have hlt := (Array.getElem?_eq_some_iff.1 h2).1
    have hid : idOf r < GL + W.heap.size := idOf_lt hlt
    refine BR.of_cells rfl ?_
    unfold CR
    rw [JW_id]
    refine ⟨hid, c, e, fz, h2, by simp [blkW], fun q => (by cases q), fun q => absurd hid (Nat.not_lt.2 q), fun o v hv => ?_⟩
    obtain ⟨x, h4, h5⟩ := blkW_get.1 hv
    obtain ⟨h6, h7, h8⟩ := toV_spec h5
    exact ⟨h7, h8, by rw [h6]; simpa using h4⟩
  · obtain ⟨r, c, e, fz, rfl, h2, rfl⟩ := hpW_get.1 hg
    obtain ⟨r', c', e', fz', rfl, h2', rfl⟩ := hpW_get.1 hg'
    rw [JW_id, JW_id] at he
    have : r = r' := he
    rw [this]

/-- What the evaluator tells of a call, from a world as it is. -/
theorem law_callsW {P : Program} {ov : Ov} {W : World} (hov : OvR P (GL + W.heap.size) W ov) (hmix : P.follows .mixedOrders = true) (hname : ∀ (f : Nat) (fn : Func), P.funcs[f]? = some fn → (fn.name == "runtime.NumGoroutine") = false) {f : FuncId} {args : List V} (hok : V.oks (JW W.heap.size).nx args)
    (h : ∃ n st', evF P ov (GL + W.heap.size) n f args (stW W) = some (.b true, st')) (rargs : Array Value) (hr : (V.reals (JW W.heap.size) args).toArray = rargs) :
    Calls P f rargs W fun e w' => e = .returned (.bool true) ∧ Below W.heap.size W w' := by
  obtain ⟨n, st', h⟩ := h
  have := (evF_sound (P := P) (ro := GL + W.heap.size) (B := W) hov hmix hname n f args (stW W) _ st' h (JW W.heap.size) W rfl (HR.world W) (Nat.le_refl _) hok).2
  rw [hr] at this
  refine this.mono ?_
  rintro e w' ⟨J', h1, _, h3⟩
  exact ⟨by rw [h1]; simp [V.real], h3.below⟩
end Go.Vm
