/-
  A struct of two whole numbers that is handed over. Nothing is claimed here.
-/
import Derived.ChangeSame
import Derived.ChangeShapes
import Derived.DataReads
import Derived.OpenShut
set_option linter.unusedVariables false
namespace Go.Vm
open Go.RowKit Go.ChangeShapes Go.WideShapes

theorem open_pair {P : Program} {H : Type} {enc : TypeId × Value → H} {w : World} {base : Nat} {spare : Nat → Bool} {held : Bool} {t : TypeId} {f0 f1 : Field} {v : Value} {d : DataW H} {ps : List MemPlace}
    (ht : P.underlying t = some (.struct #[f0, f1])) (hc : P.cellsOf t = 2) (o0 : f0.offset = 0) (o1 : f1.offset = 1) (c0 : P.cellsOf f0.type = 1) (c1 : P.cellsOf f1.type = 1) (k0 : P.underlying f0.type = some (.int .i64)) (k1 : P.underlying f1.type = some (.int .i64))
    (hd : DataW.Trod enc P w base spare held t v d ps) : ∃ a b, v = .agg #[.int .i64 a, .int .i64 b] := by
  obtain ⟨fuel, hf⟩ := hd
  obtain ⟨y0, y1, n, hx, hl, h0, h1⟩ := trod_struct2 ht hf
  rw [o0, c0] at h0
  rw [o1, c1] at h1
  obtain ⟨a, e0, -, -⟩ := DataW.trod_int k0 h0
  obtain ⟨b, e1, -, -⟩ := DataW.trod_int k1 h1
  rw [hc] at hl
  refine ⟨a, b, ?_⟩
  have hcs : v.cells.toList = [.int .i64 a, .int .i64 b] := by
    generalize v.cells.toList = cs at hl e0 e1
    match cs, hl with
    | [x, y], _ =>
      simp at e0 e1
      rw [e0, e1]
  cases v with
  | agg cs =>
    have : cs = #[.int .i64 a, .int .i64 b] := Array.ext' hcs
    rw [this]
  | _ => exact absurd (congrArg List.length hcs) (by simp [Value.cells])
end Go.Vm
