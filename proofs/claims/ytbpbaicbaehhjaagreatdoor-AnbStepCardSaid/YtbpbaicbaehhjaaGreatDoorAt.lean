/-
  What a law is handed, read as data; it reads as it did; a struct of two numbers. Nothing is claimed here. (The texts Ar, As, At, An, one behind the other.)
-/
import Derived.Test.YtbpbaicbaehhjaaGreatDoorVl
import Derived.Test.YtbpbaicbaehhjaaGreatDoorSm
import Derived.OpenShut
import Derived.DataReads
import Derived.ReadAgain
import Derived.ChangeSame
import Derived.ChangeShapes
set_option linter.unusedVariables false
namespace Go.Vm
open Go.RowKit

/-- The name of a block of the world. -/
def idOf (r : Nat) : Nat := if r < GL then r else GL + r
theorem idOf_inj {r s : Nat} (h : idOf r = idOf s) : r = s := by
  unfold idOf at h
  have : GL = 64 := rfl
  split at h <;> split at h <;> omega

def JW (n : Nat) : Inj := ⟨GL + n, fun g => if g < GL then (g, 0, 0) else (g - GL, 0, 0), fun g h => ⟨by omega, by simp [h]⟩⟩
theorem JW_id (n r : Nat) : (JW n).m (idOf r) = (r, 0, 0) := by
  show (if idOf r < GL then _ else _) = _
  unfold idOf
  by_cases h : r < GL
  · rw [if_pos h, if_pos h]
  · rw [if_neg h, if_neg (by omega)]
    simp
theorem idOf_lt {n r : Nat} (h : r < n) : idOf r < (JW n).nx := by
  show idOf r < GL + n
  unfold idOf
  split <;> omega

/-- A cell of the world. -/
def toV (n : Nat) : Value → Option V
  | .bool x => some (.b x)
  | .int k x => some (.i k x)
  | .string x => some (.str x.data.toList)
  | .pointer none => some .pn
  | .slice none 0 0 => some .sn
  | .slice (some a) 0 0 => some (.ze a)
  | .slice (some ⟨r, o, none⟩) l c => if r < n ∧ l ≤ c then some (.sl (idOf r) o l c false) else none
  | .nilFunc => some .fz
  | .nilIface => some .nz
  | _ => none
theorem toV_spec {n : Nat} {x : Value} {v : V} (h : toV n x = some v) : v.real (JW n) = x ∧ v.ok (JW n).nx ∧ v.atom = true := by
  unfold toV at h
  split at h
  · cases h; exact ⟨rfl, trivial, rfl⟩
  · cases h; exact ⟨rfl, trivial, rfl⟩
  · cases h; exact ⟨by rw [V.str_real], V.str_ok _ _, rfl⟩
  · cases h; exact ⟨rfl, trivial, rfl⟩
  · cases h; exact ⟨rfl, trivial, rfl⟩
  · cases h; exact ⟨rfl, trivial, rfl⟩
  · rename_i r o l c _
    split at h
    · rename_i hc
      cases h
      refine ⟨?_, ⟨idOf_lt hc.1, hc.2⟩, rfl⟩
      simp only [V.real, JW_id, cond_false, Nat.zero_add, Nat.add_zero]
    · cases h
  · cases h; exact ⟨rfl, trivial, rfl⟩
  · cases h; exact ⟨rfl, trivial, rfl⟩
  · cases h

/-- A tree of what stands in a list, from a number on. -/
def treeOf {α : Type} (nm : Nat → Nat) : List (Option α) → Nat → T α
  | [], _ => .e
  | x :: r, i => match x with
    | some v => (treeOf nm r (i + 1)).upd (nm i) (some v)
    | none => treeOf nm r (i + 1)
theorem treeOf_get {α : Type} {nm : Nat → Nat} (hn : ∀ {a b}, nm a = nm b → a = b) : ∀ (l : List (Option α)) (i g : Nat) (v : α), (treeOf nm l i).get g = some v ↔ ∃ k, g = nm (i + k) ∧ l[k]? = some (some v)
  | [], i, g, v => by simp [treeOf, T.get_e]
  | x :: r, i, g, v => by
    have ih := treeOf_get hn r (i + 1) g v
    have shift : (∃ k, g = nm (i + k) ∧ (x :: r)[k]? = some (some v)) ↔ (g = nm i ∧ x = some v) ∨ ∃ k, g = nm (i + 1 + k) ∧ r[k]? = some (some v) := by
      constructor
      · rintro ⟨k, h1, h2⟩
        cases k with
        | zero => exact .inl ⟨h1, by simpa using h2⟩
        | succ k => exact .inr ⟨k, by rw [h1]; congr 1; omega, by simpa using h2⟩
      · rintro (⟨h1, h2⟩ | ⟨k, h1, h2⟩)
        · exact ⟨0, h1, by simpa using h2⟩
        · exact ⟨k + 1, by rw [h1]; congr 1; omega, by simpa using h2⟩
    rw [shift]
    cases x with
    | none =>
      simp only [treeOf]
      rw [ih]
      simp
    | some u =>
      simp only [treeOf]
      rw [T.get_upd]
      by_cases hg : g = nm i
      · rw [if_pos hg]
        constructor
        · intro h; exact .inl ⟨hg, h⟩
        · rintro (⟨_, h⟩ | ⟨k, h1, h2⟩)
          · exact h
          · exfalso
            have := hn (hg.symm.trans h1)
            omega
      · rw [if_neg hg, ih]
        constructor
        · exact .inr
        · rintro (⟨h, _⟩ | h)
          · exact absurd h hg
          · exact h

def blkW (n : Nat) (c : Array Value) : Blk := ⟨treeOf (fun i => i) (c.toList.map (toV n)) 0, [], c.size, 1, false⟩
theorem blkW_get {n : Nat} {c : Array Value} {o : Nat} {v : V} : (blkW n c).get o = some v ↔ ∃ x, c[o]? = some x ∧ toV n x = some v := by
  have key : (blkW n c).cs.get o = some v ↔ ∃ x, c[o]? = some x ∧ toV n x = some v := by
    show (treeOf _ _ 0).get o = some v ↔ _
    rw [treeOf_get (fun h => h)]
    constructor
    · rintro ⟨k, h1, h2⟩
      rw [Nat.zero_add] at h1
      subst h1
      rw [List.getElem?_map, Array.getElem?_toList] at h2
      cases hx : c[o]? with
      | none => rw [hx] at h2; cases h2
      | some x => rw [hx] at h2; exact ⟨x, rfl, by simpa using h2⟩
    · rintro ⟨x, h1, h2⟩
      exact ⟨o, by rw [Nat.zero_add], by rw [List.getElem?_map, Array.getElem?_toList, h1, Option.map_some, h2]⟩
  unfold Blk.get
  cases hb : Nat.blt o (blkW n c).sz with
  | false =>
    simp only [cond_false]
    constructor
    · intro h; cases h
    · rintro ⟨x, h1, _⟩
      have := (Array.getElem?_eq_some_iff.1 h1).1
      have hlt : o < (blkW n c).sz := this
      rw [← Nat.blt_eq, hb] at hlt
      cases hlt
  | true =>
    simp only [cond_true]
    rw [← key]
    cases (blkW n c).cs.get o with
    | some u => rfl
    | none =>
      have : (blkW n c).zero = [] := rfl
      simp [this]

def objW (n : Nat) : Option Obj → Option Blk
  | some (.cells c _ _) => some (blkW n c)
  | _ => none
/-- The memory that holds the whole world. -/
def hpW (W : World) : T Blk := treeOf idOf ((List.range W.heap.size).map fun r => objW W.heap.size W.heap[r]?) 0
def stW (W : World) : St := ⟨GL + W.heap.size, hpW W, GL + W.heap.size⟩
theorem hpW_get {W : World} {g : Nat} {b : Blk} : (hpW W).get g = some b ↔ ∃ r c e fz, g = idOf r ∧ W.heap[r]? = some (.cells c e fz) ∧ b = blkW W.heap.size c := by
  unfold hpW
  rw [treeOf_get idOf_inj]
  constructor
  · rintro ⟨k, h1, h2⟩
    rw [Nat.zero_add] at h1
    rw [List.getElem?_map] at h2
    cases hk : (List.range W.heap.size)[k]? with
    | none => rw [hk] at h2; cases h2
    | some r =>
      obtain rfl : k = r := by
        have := List.getElem?_eq_some_iff.1 hk
        obtain ⟨h3, h4⟩ := this
        simpa using h4
      rw [hk, Option.map_some, Option.some.injEq] at h2
      unfold objW at h2
      split at h2
      · rename_i c e fz ho
        exact ⟨k, c, e, fz, h1, ho, (Option.some.inj h2).symm⟩
      · cases h2
  · rintro ⟨r, c, e, fz, h1, h2, h3⟩
    have hlt := (Array.getElem?_eq_some_iff.1 h2).1
    refine ⟨r, by rw [Nat.zero_add]; exact h1, ?_⟩
    rw [List.getElem?_map, List.getElem?_range hlt, Option.map_some, h2, h3]
    rfl

/-- The world stands for itself, and no block of it is one that may be written. -/
theorem HR.world (W : World) : HR (JW W.heap.size) (GL + W.heap.size) W (hpW W).get W := by
  refine ⟨Old.refl W, fun g b hg => ?_, fun g g' b b' hg hg' he => ?_⟩
  · obtain ⟨r, c, e, fz, rfl, h2, rfl⟩ := hpW_get.1 hg
    have hlt := (Array.getElem?_eq_some_iff.1 h2).1
    have hid : idOf r < GL + W.heap.size := idOf_lt hlt
    unfold BR
    rw [JW_id]
    refine ⟨hid, c, e, fz, h2, by simp [blkW], fun q => (by cases q), fun q => absurd hid (Nat.not_lt.2 q), fun o v hv => ?_⟩
    obtain ⟨x, h4, h5⟩ := blkW_get.1 hv
    obtain ⟨h6, h7, h8⟩ := toV_spec h5
    exact ⟨h7, h8, by rw [h6]; simpa using h4⟩
  · obtain ⟨r, c, e, fz, rfl, h2, rfl⟩ := hpW_get.1 hg
    obtain ⟨r', c', e', fz', rfl, h2', rfl⟩ := hpW_get.1 hg'
    rw [JW_id, JW_id] at he
    have : r = r' := he
    rw [this]

/-- What the evaluator tells of a call, from a world as it is. -/
theorem law_callsW {P : Program} {ov : Ov} {W : World} (hov : OvR P (GL + W.heap.size) W ov) (hmix : P.follows .mixedOrders = true) (hname : ∀ (f : Nat) (fn : Func), P.funcs[f]? = some fn → (fn.name == "runtime.NumGoroutine") = false) {f : FuncId} {args : List V} (hok : V.oks (JW W.heap.size).nx args)
    (h : ∃ n st', evF P ov (GL + W.heap.size) n f args (stW W) = some (.b true, st')) (rargs : Array Value) (hr : (V.reals (JW W.heap.size) args).toArray = rargs) :
    Calls P f rargs W fun e w' => e = .returned (.bool true) ∧ Below W.heap.size W w' := by
  obtain ⟨n, st', h⟩ := h
  have := (evF_sound (P := P) (ro := GL + W.heap.size) (B := W) hov hmix hname n f args (stW W) _ st' h (JW W.heap.size) W rfl (HR.world W) (Nat.le_refl _) hok).2
  rw [hr] at this
  refine this.mono ?_
  rintro e w' ⟨J', h1, _, h3⟩
  exact ⟨by rw [h1]; simp [V.real], h3.below⟩
end Go.Vm

set_option linter.unusedVariables false
namespace Go.Sx
open Go.Vm Go.RowKit

section
variable {S : Sg} {Y : Sy S} {P : Program} {H : Type} {enc : TypeId × Value → H} {W : World}

/-- Cells of the world stand for data. -/
def CellsOK (Y : Sy S) (W : World) (us : List (U S)) (cs : List Value) : Prop :=
  cs.length = us.length ∧ ∀ (j : Nat) u x, us[j]? = some u → cs[j]? = some x → ∃ v, toV W.heap.size x = some v ∧ DatA Y (fun _ => False) (stW W) u v

/-- What lies where a type is read, up to some depth, is data of a kind. -/
def Rd (Y : Sy S) (P : Program) (enc : TypeId × Value → H) (W : World) (N : Nat) (e : TypeId) (c : S.Cd) : Prop :=
  ∀ fuel, fuel ≤ N → ∀ cs x, DataW.trod enc P W 0 (fun _ => true) true fuel e cs = some x → ∃ y : S.Den c, CellsOK Y W (Y.cells c y) cs

theorem cell_block {a : Addr} {v : Value} (h : W.cell? a = some v) : ∃ c e fz, W.heap[a.block]? = some (.cells c e fz) ∧ a.spot = none ∧ c[a.off]? = some v := by
  unfold World.cell? at h
  split at h
  · rename_i c e fz hc
    split at h
    · cases h
    · rename_i hs
      exact ⟨c, e, fz, hc, by simpa using hs, h⟩
  · cases h

theorem rd_slice {N : Nat} {t e : TypeId} {c : S.Cd} (ht : P.underlying t = some (.slice e)) (hw : P.cellsOf e = Y.wid c) (hr : Rd Y P enc W N e c) {fuel : Nat} (hf : fuel ≤ N + 1) {cs : List Value} {x : DataW H × List MemPlace}
    (h : DataW.trod enc P W 0 (fun _ => true) true fuel t cs = some x) : ∃ val v xs, cs = [val] ∧ toV W.heap.size val = some v ∧ Dat Y (fun _ => False) (stW W) c xs v := by
  rcases DataW.trod_slice ht h with ⟨rfl, _⟩ | ⟨a, len, cap, elems, rest, n, rfl, rfl, _, _, hlc, _, hel, hE, hR, _⟩
  · exact ⟨_, _, [], rfl, rfl, .nil c⟩
  have hpos := Y.wpos c
  obtain ⟨hrl, hR⟩ := hR rfl
  rw [hw] at hE hR
  -- an element's cells
  have elem : ∀ i, i < cap → ∃ (y : S.Den c) (cs' : List Value), W.cells? 0 (a.add (i * Y.wid c)) (Y.wid c) = some cs' ∧ CellsOK Y W (Y.cells c y) cs' := by
    intro i hi
    have key : ∃ z, (W.cells? 0 (a.add (i * Y.wid c)) (Y.wid c)).bind (DataW.trod enc P W 0 (fun _ => true) true n e) = some z := by
      by_cases hil : i < len
      · rw [hE i hil]
        exact ⟨_, List.getElem?_eq_getElem (by omega)⟩
      · have := hR (i - len) (by omega)
        rw [show len + (i - len) = i from by omega] at this
        rw [this]
        exact ⟨_, List.getElem?_eq_getElem (by omega)⟩
    obtain ⟨z, hz⟩ := key
    obtain ⟨cs', h1, h2⟩ := Option.bind_eq_some_iff.1 hz
    obtain ⟨y, hy⟩ := hr n (by omega) cs' z h2
    exact ⟨y, cs', h1, hy⟩
  by_cases hc0 : cap = 0
  · have hl0 : len = 0 := by omega
    subst hc0 hl0
    exact ⟨_, .ze a, [], rfl, rfl, .ze c a⟩
  · -- the block
    obtain ⟨y0, cs0, h1, h2⟩ := elem 0 (by omega)
    obtain ⟨_, hl0, hc1⟩ := World.cells?_some h1
    have hcell0 := hc1 0 (by omega)
    rw [List.getElem?_eq_getElem (by omega), Nat.zero_mul] at hcell0
    obtain ⟨cc, et, fz, hb, hs, hoff⟩ := cell_block (a := (a.add 0).add 0) hcell0
    have haa : (a.add 0).add 0 = a := by simp [Addr.add]
    rw [haa] at hb hs hoff
    obtain ⟨r, o, sp⟩ := a
    simp only at hb hs hoff
    subst hs
    have hlt : r < W.heap.size := (Array.getElem?_eq_some_iff.1 hb).1
    -- each cell
    have cells : ∀ (i : Nat) (cs' : List Value), W.cells? 0 (Addr.add ⟨r, o, none⟩ (i * Y.wid c)) (Y.wid c) = some cs' → ∀ j v, cs'[j]? = some v → cc[o + (i * Y.wid c + j)]? = some v := by
      intro i cs' h1 j v hj
      obtain ⟨_, hl, hc⟩ := World.cells?_some h1
      have hjl : j < Y.wid c := by rw [← hl]; exact (List.getElem?_eq_some_iff.1 hj).1
      have := hc j hjl
      rw [hj, Addr.add_lit, Addr.add_lit] at this
      simp only [World.cell?, hb] at this
      rw [← Nat.add_assoc]
      simpa using this
    let ys : Nat → S.Den c := fun i => if hi : i < cap then Classical.choose (elem i hi) else y0
    have hys : ∀ i, i < cap → ∃ cs' : List Value, W.cells? 0 (Addr.add ⟨r, o, none⟩ (i * Y.wid c)) (Y.wid c) = some cs' ∧ CellsOK Y W (Y.cells c (ys i)) cs' := by
      intro i hi
      have := Classical.choose_spec (elem i hi)
      simp only [ys, dif_pos hi]
      exact this
    have hxs : ∀ (i : Nat) x, ((List.range len).map ys)[i]? = some x → i < len ∧ x = ys i := by
      intro i x hx
      rw [List.getElem?_map] at hx
      cases hq : (List.range len)[i]? with
      | none => rw [hq] at hx; cases hx
      | some k =>
        obtain ⟨q1, q2⟩ := List.getElem?_eq_some_iff.1 hq
        have hk : k = i := by simpa using q2.symm
        subst hk
        rw [hq] at hx
        exact ⟨by simpa using q1, (Option.some.inj hx).symm⟩
    have hcel : Cel Y c ((List.range len).map ys) (fun k => (blkW W.heap.size cc).get (o + k)) (DatA Y (fun _ => False) (stW W)) := by
      intro i x hx j u hu
      obtain ⟨hi, rfl⟩ := hxs i x hx
      obtain ⟨cs', k1, k2, k3⟩ := hys i (by omega)
      have hjl : j < cs'.length := by rw [k2]; exact (List.getElem?_eq_some_iff.1 hu).1
      obtain ⟨v, k4, k5⟩ := k3 j u _ hu (List.getElem?_eq_getElem hjl)
      exact ⟨v, blkW_get.2 ⟨_, cells i cs' k1 j _ (List.getElem?_eq_getElem hjl), k4⟩, k5⟩
    obtain ⟨vs, r1, r2⟩ := rows_of_cel hcel
    have hlen : ((List.range len).map ys).length = len := by simp
    have hd := Dat.mk (Y := Y) (own := fun _ => False) (st := stW W) (c := c) (xs := (List.range len).map ys) (id := idOf r) (off := o) (cap := cap) (op := false) (b := blkW W.heap.size cc) vs (fun q => q) (idOf_lt hlt) (hpW_get.2 ⟨r, cc, et, fz, rfl, hb, rfl⟩) r1 r2 (by rw [hlen]; exact hlc)
    rw [hlen] at hd
    refine ⟨_, .sl (idOf r) o len cap false, (List.range len).map ys, rfl, ?_, hd⟩
    have : toV W.heap.size (.slice (some ⟨r, o, none⟩) len cap) = if r < W.heap.size ∧ len ≤ cap then some (.sl (idOf r) o len cap false) else none := by
      cases cap with
      | zero => exact absurd rfl hc0
      | succ cap => cases len <;> rfl
    rw [this, if_pos ⟨hlt, hlc⟩]

/-- One cell of a struct. -/
theorem one_at {cs : List Value} {o : Nat} {v : Value} (h : (cs.drop o).take 1 = [v]) : cs[o]? = some v := by
  have := congrArg (·[0]?) h
  simpa [List.getElem?_take, List.getElem?_drop] using this

/-- The listed variables hold what they hold. -/
theorem gok_world {G : Gl} (h : ∀ g k l, G g = some (k, l) → g < GL ∧ ∃ c e fz, W.heap[g]? = some (.cells c e fz) ∧ ∀ j, j < l.length → c[j]? = some (.int k (l.getD j 0))) : GOK G (GL + W.heap.size) (stW W) := by
  intro g k l hg
  obtain ⟨h1, c, e, fz, h2, h3⟩ := h g k l hg
  refine ⟨by omega, blkW W.heap.size c, hpW_get.2 ⟨g, c, e, fz, by unfold idOf; rw [if_pos h1], h2, rfl⟩, fun j hj => blkW_get.2 ⟨_, h3 j hj, rfl⟩⟩
end
end Go.Sx

set_option linter.unusedVariables false
namespace Go.Vm
open Go.RowKit Go.ChangeShapes Go.WideShapes Go.ChangeAt

section
variable {H : Type} {enc : TypeId × Value → H} {P : Program}

theorem trodAll_carry {w w' : World} {base : Nat} {spare : Nat → Bool} {held : Bool} : ∀ {ts : List TypeId} {vs : List Value} {ds : List (DataW H)} {ps : List MemPlace}, DataW.TrodAll enc P w base spare held ts vs ds ps → (∀ p ∈ ps, w.sameAt w' p) → DataW.TrodAll enc P w' base spare held ts vs ds ps
  | [], [], [], _, h, _ => h
  | _ :: _, _ :: _, _ :: _, _, ⟨p, q, ⟨n, h1⟩, h2, e⟩, hs => ⟨p, q, ⟨n, DataW.trod_carry n _ _ _ h1 (fun x hx => hs x (by rw [e]; exact List.mem_append_left _ hx))⟩, trodAll_carry h2 (fun x hx => hs x (by rw [e]; exact List.mem_append_right _ hx)), e⟩

/-- A law that answers true, and leaves all old memory alone: whatever the types of its arguments are. -/
theorem law_postW (K : Kids P (· < P.types.size)) (hz : ∀ t e, t < P.types.size → P.underlying t = some (.slice e) → 0 < P.cellsOf e) {f : Func} {s : ChangeSpec} {W W' : World} {args : Array Value} {ds : List (DataW H)} {pa : List MemPlace} {tb : TypeId}
    (hT : ∀ t ∈ f.params.toList, t < P.types.size) (hv : s.vars = []) (hW : DataW.Whole enc P f.params.toList s.vars false W args.toList ds [] pa) (hfn : s.fn H (ds ++ []) = { results := [.lit (.bool true)], args := ds })
    (hrt : f.resultTypes = #[tb]) (ht : P.underlying tb = some .bool) (hb : Below W.heap.size W W') : s.post enc P f false true false false W args (.bool true) W' := by
  refine law_post hv hW hfn hrt ht ?_ hb
  have hlt := hW.lt
  obtain ⟨p, q, hA, hV, rfl, _, _⟩ := hW
  rw [hv] at hV
  have hq : q = [] := hV
  subst hq
  rw [List.append_nil] at *
  refine trodAll_carry (DataW.TrodAll.respare K hz hT hA fun p hp => by simpa using hlt p hp) fun x hx => ?_
  have hx' := hlt x hx
  cases x with
  | cell b off =>
    have hbl : b < W.heap.size := hx'
    show W'.cell? _ = W.cell? _
    unfold World.cell?
    rw [hb.block b hbl]
  | map b => exact hb.block b hx'
end
end Go.Vm

set_option linter.unusedVariables false
namespace Go.Vm
open Go.RowKit Go.ChangeShapes Go.WideShapes

theorem open_pair {P : Program} {H : Type} {enc : TypeId × Value → H} {w : World} {base : Nat} {spare : Nat → Bool} {held : Bool} {t : TypeId} {f0 f1 : Field} {v : Value} {d : DataW H} {ps : List MemPlace}
    (ht : P.underlying t = some (.struct #[f0, f1])) (hc : P.cellsOf t = 2) (o0 : f0.offset = 0) (o1 : f1.offset = 1) (c0 : P.cellsOf f0.type = 1) (c1 : P.cellsOf f1.type = 1) (k0 : P.underlying f0.type = some (.int .i64)) (k1 : P.underlying f1.type = some (.int .i64))
    (hd : DataW.Trod enc P w base spare held t v d ps) : ∃ a b, v = .agg #[.int .i64 a, .int .i64 b] := by
  obtain ⟨fuel, hf⟩ := hd
  obtain ⟨y0, y1, n, hx, hl, h0, h1⟩ := trod_struct2 ht hf
  rw [o0, c0] at h0
  rw [o1, c1] at h1
  obtain ⟨a, e0, -, -⟩ := DataW.trod_int k0 h0
  obtain ⟨b, e1, -, -⟩ := DataW.trod_int k1 h1
  rw [hc] at hl
  refine ⟨a, b, ?_⟩
  have hcs : v.cells.toList = [.int .i64 a, .int .i64 b] := by
    generalize v.cells.toList = cs at hl e0 e1
    match cs, hl with
    | [x, y], _ =>
      simp at e0 e1
      rw [e0, e1]
  cases v with
  | agg cs =>
    have : cs = #[.int .i64 a, .int .i64 b] := Array.ext' hcs
    rw [this]
  | _ => exact absurd (congrArg List.length hcs) (by simp [Value.cells])
end Go.Vm

