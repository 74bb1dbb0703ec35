/-
  A struct of two whole numbers that is handed over. Nothing is claimed here.
-/
import Derived.ChangeSame
import Derived.ChangeShapes
import Derived.DataReads
import Derived.OpenShut
set_option linter.unusedVariables false
namespace Go.Vm
open Go.RowKit Go.ChangeShapes Go.WideShapes

theorem open_pair {P : Program} {H : Type} {enc : TypeId × Value → H} {w : World} {base : Nat} {spare : Nat → Bool} {held : Bool} {t : TypeId} {f0 f1 : Field} {v : Value} {d : DataW H} {ps : List MemPlace}
    (ht : P.underlying t = some (.struct #[f0, f1])) (hc : P.cellsOf t = 2) (o0 : f0.offset = 0) (o1 : f1.offset = 1) (c0 : P.cellsOf f0.type = 1) (c1 : P.cellsOf f1.type = 1) (k0 : P.underlying f0.type = some (.int .i64)) (k1 : P.underlying f1.type = some (.int .i64))
    (hd : DataW.Trod enc P w base spare held t v d ps) : ∃ a b, v = .agg #[.int .i64 a, .int .i64 b] := by
  obtain ⟨fuel, hf⟩ := hd
  obtain ⟨y0, y1, n, hx, hl, h0, h1⟩ := trod_struct2 ht hf
  rw [o0, c0] at h0
  rw [o1, c1] at h1
  obtain ⟨a, e0, -, -⟩ := DataW.trod_int k0 h0
  obtain ⟨b, e1, -, -⟩ := DataW.trod_int k1 h1
  rw [hc] at hl
  refine ⟨a, b, ?_⟩
  have hcs : v.cells.toList = [.int .i64 a, .int .i64 b] := by
    generalize v.cells.toList = cs at hl e0 e1
    match cs, hl with
    | [x, y], _ =>
      simp at e0 e1
      rw [e0, e1]
  cases v with
  | agg cs =>
    have : cs = #[.int .i64 a, .int .i64 b] := Array.ext' hcs
    rw [this]
  | _ => exact absurd (congrArg List.length hcs) (by simp [Value.cells])

/-- An array of three whole numbers that is handed over. -/
theorem open_three {P : Program} {H : Type} {enc : TypeId × Value → H} {w : World} {base : Nat} {spare : Nat → Bool} {held : Bool} {t e : TypeId} {v : Value} {d : DataW H} {ps : List MemPlace}
    (ht : P.underlying t = some (.array 3 e)) (hc : P.cellsOf t = 3) (c0 : P.cellsOf e = 1) (k0 : P.underlying e = some (.int .i64))
    (hd : DataW.Trod enc P w base spare held t v d ps) : ∃ a b c, v = .agg #[.int .i64 a, .int .i64 b, .int .i64 c] := by
  obtain ⟨fuel, hf⟩ := hd
  obtain ⟨xs, m, rfl, _, hl, hn, hx⟩ := DataW.trod_array ht hf
  rw [hc] at hl
  rw [c0] at hx
  have one : ∀ i, i < 3 → ∃ y, DataW.trod enc P w base spare held m e ((v.cells.toList.drop (i * 1)).take 1) = some y := fun i hi => ⟨_, (hx i hi).trans (List.getElem?_eq_getElem (by omega))⟩
  obtain ⟨y0, h0⟩ := one 0 (by omega)
  obtain ⟨y1, h1⟩ := one 1 (by omega)
  obtain ⟨y2, h2⟩ := one 2 (by omega)
  obtain ⟨a, e0, -, -⟩ := DataW.trod_int k0 h0
  obtain ⟨b, e1, -, -⟩ := DataW.trod_int k0 h1
  obtain ⟨c, e2, -, -⟩ := DataW.trod_int k0 h2
  refine ⟨a, b, c, ?_⟩
  have hcs : v.cells.toList = [.int .i64 a, .int .i64 b, .int .i64 c] := by
    generalize v.cells.toList = cs at hl e0 e1 e2
    match cs, hl with
    | [x, y, z], _ =>
      simp at e0 e1 e2
      rw [e0, e1, e2]
  cases v with
  | agg cs =>
    have : cs = #[.int .i64 a, .int .i64 b, .int .i64 c] := Array.ext' hcs
    rw [this]
  | _ => exact absurd (congrArg List.length hcs) (by simp [Value.cells])
end Go.Vm
