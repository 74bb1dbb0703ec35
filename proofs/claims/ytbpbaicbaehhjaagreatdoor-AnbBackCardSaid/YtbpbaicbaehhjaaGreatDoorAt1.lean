/-
 A whole world in the evaluator's memory: every block has a place, none of them is written. Nothing is claimed here.
-/
import Derived.Test.YtbpbaicbaehhjaaGreatDoorVa4
import Derived.ReadAgain
import Derived.ChangeSame
import Derived.ChangeShapes
import Derived.DataReads
import Derived.OpenShut
set_option linter.unusedVariables false
namespace Go.Vm
open Go.RowKit
def jeX (r : Nat) : Nat := if r < GL then r else GL + r
theorem ZfX {r s : Nat} (h : jeX r = jeX s) : r = s := by
 unfold jeX at h
 have : GL = 64 := rfl
 split at h <;> split at h <;> omega
def JW (n : Nat) : Inj := ⟨GL + n, fun g => if g < GL then (g, 0, 0) else (g - GL, 0, 0), fun g h => ⟨by omega, by simp [h]⟩⟩
theorem JfX (n r : Nat) : (JW n).m (jeX r) = (r, 0, 0) := by
 show (if jeX r < GL then _ else _) = _
 unfold jeX
 by_cases h : r < GL
 ·rw [if_pos h, if_pos h]
 ·rw [if_neg h, if_neg (by omega)]
  simp
theorem Jfh {n r : Nat} (h : r < n) : jeX r < (JW n).nx := by
 show jeX r < GL + n
 unfold jeX
 split <;> omega
def toV (n : Nat) : Value → Option V
 | .bool x => some (.b x)
 | .int k x => some (.i k x)
 | .string x => some (.str x.data.toList)
 | .pointer none => some .pn
 | .slice none 0 0 => some .sn
 | .slice (some a) 0 0 => some (.ze a)
 | .slice (some ⟨r, o, none⟩) l c => if r < n ∧ l ≤ c then some (.sl (jeX r) o l c false) else none
 | .nilFunc => some .fz
 | .nilIface => some .nz
 | _ => none
theorem zfY {n : Nat} {x : Value} {v : V} (h : toV n x = some v) : v.real (JW n) = x ∧ v.ok (JW n).nx ∧ v.atom = true := by
 unfold toV at h
 split at h
 ·cases h; exact ⟨rfl, trivial, rfl⟩
 ·cases h; exact ⟨rfl, trivial, rfl⟩
 ·cases h; exact ⟨by rw [V.str_real], V.str_ok _ _, rfl⟩
 ·cases h; exact ⟨rfl, trivial, rfl⟩
 ·cases h; exact ⟨rfl, trivial, rfl⟩
 ·cases h; exact ⟨rfl, trivial, rfl⟩
 ·rename_i r o l c _
  split at h
  ·rename_i hc
   cases h
   refine ⟨?_, ⟨Jfh hc.1, hc.2⟩, rfl⟩
   simp only [V.real, JfX, cond_false, Nat.zero_add, Nat.add_zero]
  ·cases h
 ·cases h; exact ⟨rfl, trivial, rfl⟩
 ·cases h; exact ⟨rfl, trivial, rfl⟩
 ·cases h
def jbP {α : Type} (nm : Nat → Nat) : List (Option α) → Nat → T α
 | [], _ => .e
 | x :: r, i => match x with
  | some v => (jbP nm r (i + 1)).upd (nm i) (some v)
  | none => jbP nm r (i + 1)
theorem jb4 {α : Type} {nm : Nat → Nat} (hn : ∀ {a b}, nm a = nm b → a = b) : ∀ (l : List (Option α)) (i g : Nat) (v : α), (jbP nm l i).get g = some v ↔ ∃ k, g = nm (i + k) ∧ l[k]? = some (some v)
 | [], i, g, v => by simp [jbP, T.get_e]
 | x :: r, i, g, v => by
  have ih := jb4 hn r (i + 1) g v
  have shift : (∃ k, g = nm (i + k) ∧ (x :: r)[k]? = some (some v)) ↔ (g = nm i ∧ x = some v) ∨ ∃ k, g = nm (i + 1 + k) ∧ r[k]? = some (some v) := by
   constructor
   ·rintro ⟨k, h1, h2⟩
    cases k with
    | zero => exact .inl ⟨h1, by simpa using h2⟩
    | succ k => exact .inr ⟨k, by rw [h1]; congr 1; omega, by simpa using h2⟩
   ·rintro (⟨h1, h2⟩ | ⟨k, h1, h2⟩)
    ·exact ⟨0, h1, by simpa using h2⟩
    ·exact ⟨k + 1, by rw [h1]; congr 1; omega, by simpa using h2⟩
  rw [shift]
  cases x with
  | none =>
   simp only [jbP]
   rw [ih]
   simp
  | some u =>
   simp only [jbP]
   rw [T.get_upd]
   by_cases hg : g = nm i
   ·rw [if_pos hg]
    constructor
    ·intro h; exact .inl ⟨hg, h⟩
    ·rintro (⟨_, h⟩ | ⟨k, h1, h2⟩)
     ·exact h
     ·exfalso
      have := hn (hg.symm.trans h1)
      omega
   ·rw [if_neg hg, ih]
    constructor
    ·exact .inr
    ·rintro (⟨h, _⟩ | h)
     ·exact absurd h hg
     ·exact h
def jfY (n : Nat) (c : Array Value) : Blk := ⟨jbP (fun i => i) (c.toList.map (toV n)) 0, [], c.size, 1, false⟩
theorem ZfY {n : Nat} {c : Array Value} {o : Nat} {v : V} : (jfY n c).get o = some v ↔ ∃ x, c[o]? = some x ∧ toV n x = some v := by
 have key : (jfY n c).cs.get o = some v ↔ ∃ x, c[o]? = some x ∧ toV n x = some v := by
  show (jbP _ _ 0).get o = some v ↔ _
  rw [jb4 (fun h => h)]
  constructor
  ·rintro ⟨k, h1, h2⟩
   rw [Nat.zero_add] at h1
   subst h1
   rw [List.getElem?_map, Array.getElem?_toList] at h2
   cases hx : c[o]? with
   | none => rw [hx] at h2; cases h2
   | some x => rw [hx] at h2; exact ⟨x, rfl, by simpa using h2⟩
  ·rintro ⟨x, h1, h2⟩
   exact ⟨o, by rw [Nat.zero_add], by rw [List.getElem?_map, Array.getElem?_toList, h1, Option.map_some, h2]⟩
 unfold Blk.get
 cases hb : Nat.blt o (jfY n c).sz with
 | false =>
  simp only [cond_false]
  constructor
  ·intro h; cases h
  ·rintro ⟨x, h1, _⟩
   have := (Array.getElem?_eq_some_iff.1 h1).1
   have hlt : o < (jfY n c).sz := this
   rw [← Nat.blt_eq, hb] at hlt
   cases hlt
 | true =>
  simp only [cond_true]
  rw [← key]
  cases (jfY n c).cs.get o with
  | some u => rfl
  | none =>
   have : (jfY n c).zero = [] := rfl
   simp [this]
def jhF (n : Nat) : Option Obj → Option Blk
 | some (.cells c _ _) => some (jfY n c)
 | _ => none
def hpW (W : World) : T Blk := jbP jeX ((List.range W.heap.size).map fun r => jhF W.heap.size W.heap[r]?) 0
theorem Jej {W : World} {g : Nat} {b : Blk} : (hpW W).get g = some b ↔ ∃ r c e fz, g = jeX r ∧ W.heap[r]? = some (.cells c e fz) ∧ b = jfY W.heap.size c := by
 unfold hpW
 rw [jb4 ZfX]
 constructor
 ·rintro ⟨k, h1, h2⟩
  rw [Nat.zero_add] at h1
  rw [List.getElem?_map] at h2
  cases hk : (List.range W.heap.size)[k]? with
  | none => rw [hk] at h2; cases h2
  | some r =>
   obtain rfl : k = r := by
    have := List.getElem?_eq_some_iff.1 hk
    obtain ⟨h3, h4⟩ := this
    simpa using h4
   rw [hk, Option.map_some, Option.some.injEq] at h2
   unfold jhF at h2
   split at h2
   ·rename_i c e fz ho
    exact ⟨k, c, e, fz, h1, ho, (Option.some.inj h2).symm⟩
   ·cases h2
 ·rintro ⟨r, c, e, fz, h1, h2, h3⟩
  have hlt := (Array.getElem?_eq_some_iff.1 h2).1
  refine ⟨r, by rw [Nat.zero_add]; exact h1, ?_⟩
  rw [List.getElem?_map, List.getElem?_range hlt, Option.map_some, h2, h3]
  rfl
theorem HR.world (W : World) : HR (JW W.heap.size) (GL + W.heap.size) W (hpW W).get W := by
 refine ⟨Old.refl W, fun g b hg => ?_, fun g g' b b' hg hg' he => ?_⟩
 ·obtain ⟨r, c, e, fz, rfl, h2, rfl⟩ := Jej.1 hg
  have hlt := (Array.getElem?_eq_some_iff.1 h2).1
  have hid : jeX r < GL + W.heap.size := Jfh hlt
  unfold BR
  rw [JfX]
  refine ⟨hid, c, e, fz, h2, by simp [jfY], fun q => (by cases q), fun q => absurd hid (Nat.not_lt.2 q), fun o v hv => ?_⟩
  obtain ⟨x, h4, h5⟩ := ZfY.1 hv
  obtain ⟨h6, h7, h8⟩ := zfY h5
  exact ⟨h7, h8, by rw [h6]; simpa using h4⟩
 ·obtain ⟨r, c, e, fz, rfl, h2, rfl⟩ := Jej.1 hg
  obtain ⟨r', c', e', fz', rfl, h2', rfl⟩ := Jej.1 hg'
  rw [JfX, JfX] at he
  have : r = r' := he
  rw [this]
end Go.Vm
set_option linter.unusedVariables false
namespace Go.Vm
open Go.RowKit Go.ChangeShapes Go.WideShapes Go.ChangeAt
section
variable {H : Type} {enc : TypeId × Value → H} {P : Program}
theorem ZbP {w w' : World} {base : Nat} {spare : Nat → Bool} {held : Bool} : ∀ {ts : List TypeId} {vs : List Value} {ds : List (DataW H)} {ps : List MemPlace}, DataW.TrodAll enc P w base spare held ts vs ds ps → (∀ p ∈ ps, w.sameAt w' p) → DataW.TrodAll enc P w' base spare held ts vs ds ps
 | [], [], [], _, h, _ => h
 | _ :: _, _ :: _, _ :: _, _, ⟨p, q, ⟨n, h1⟩, h2, e⟩, hs => ⟨p, q, ⟨n, DataW.trod_carry n _ _ _ h1 (fun x hx => hs x (by rw [e]; exact List.mem_append_left _ hx))⟩, ZbP h2 (fun x hx => hs x (by rw [e]; exact List.mem_append_right _ hx)), e⟩
theorem zfi (K : Kids P (· < P.types.size)) (hz : ∀ t e, t < P.types.size → P.underlying t = some (.slice e) → 0 < P.cellsOf e) {f : Func} {s : ChangeSpec} {W W' : World} {args : Array Value} {ds : List (DataW H)} {pa : List MemPlace} {tb : TypeId}
  (hT : ∀ t ∈ f.params.toList, t < P.types.size) (hv : s.vars = []) (hW : DataW.Whole enc P f.params.toList s.vars false W args.toList ds [] pa) (hfn : s.fn H (ds ++ []) = { results := [.lit (.bool true)], args := ds })
  (hrt : f.resultTypes = #[tb]) (ht : P.underlying tb = some .bool) (hb : Below W.heap.size W W') : s.post enc P f false true false false W args (.bool true) W' := by
 refine jfX hv hW hfn hrt ht ?_ hb
 have hlt := hW.lt
 obtain ⟨p, q, hA, hV, rfl, _, _⟩ := hW
 rw [hv] at hV
 have hq : q = [] := hV
 subst hq
 rw [List.append_nil] at *
 refine ZbP (DataW.TrodAll.respare K hz hT hA fun p hp => by simpa using hlt p hp) fun x hx => ?_
 have hx' := hlt x hx
 cases x with
 | cell b off =>
  have hbl : b < W.heap.size := hx'
  show W'.cell? _ = W.cell? _
  unfold World.cell?
  rw [hb.block b hbl]
 | map b => exact hb.block b hx'
end
end Go.Vm
set_option linter.unusedVariables false
namespace Go.Vm
open Go.RowKit Go.ChangeShapes Go.WideShapes
theorem jdS {P : Program} {H : Type} {enc : TypeId × Value → H} {w : World} {base : Nat} {spare : Nat → Bool} {held : Bool} {t : TypeId} {f0 f1 : Field} {v : Value} {d : DataW H} {ps : List MemPlace}
  (ht : P.underlying t = some (.struct #[f0, f1])) (hc : P.cellsOf t = 2) (o0 : f0.offset = 0) (o1 : f1.offset = 1) (c0 : P.cellsOf f0.type = 1) (c1 : P.cellsOf f1.type = 1) (k0 : P.underlying f0.type = some (.int .i64)) (k1 : P.underlying f1.type = some (.int .i64))
  (hd : DataW.Trod enc P w base spare held t v d ps) : ∃ a b, v = .agg #[.int .i64 a, .int .i64 b] := by
 obtain ⟨fuel, hf⟩ := hd
 obtain ⟨y0, y1, n, hx, hl, h0, h1⟩ := trod_struct2 ht hf
 rw [o0, c0] at h0
 rw [o1, c1] at h1
 obtain ⟨a, e0, -, -⟩ := DataW.trod_int k0 h0
 obtain ⟨b, e1, -, -⟩ := DataW.trod_int k1 h1
 rw [hc] at hl
 refine ⟨a, b, ?_⟩
 have hcs : v.cells.toList = [.int .i64 a, .int .i64 b] := by
  generalize v.cells.toList = cs at hl e0 e1
  match cs, hl with
  | [x, y], _ =>
   simp at e0 e1
   rw [e0, e1]
 cases v with
 | agg cs =>
  have : cs = #[.int .i64 a, .int .i64 b] := Array.ext' hcs
  rw [this]
 | _ => exact absurd (congrArg List.length hcs) (by simp [Value.cells])
end Go.Vm
