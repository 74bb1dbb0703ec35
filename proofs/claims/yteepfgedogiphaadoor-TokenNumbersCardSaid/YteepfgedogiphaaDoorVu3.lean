/-
  Operations on slices, held against the model's. Nothing is claimed here.
-/
import Derived.Test.YteepfgedogiphaaDoorVu
import Derived.Laws.Slices
namespace Go.Vm
open Go.RowKit

section
variable {P : Program} {J : Inj} {ro : Nat} {B : World} {st : St} {w : World}

/-! ### Slicing -/

theorem vbound_real {x : V} {y m : Nat} (h : vbound x y = some m) (code : BoundsCode) : (Instr.sliceBound (x.real J) y code).run P w = .ok m w ∧ m ≤ y := by
  unfold vbound at h
  split at h
  · rename_i k n
    generalize hc : (ile 0 n && ile n y) = c at h
    cases c with
    | false => simp at h
    | true =>
      simp only [cond_true, natF_eq, Option.some.injEq] at h
      simp only [Bool.and_eq_true, ile, decide_eq_true_eq] at hc
      subst h
      simp only [V.real]
      exact ⟨run_sliceBound w k n y code hc.1 hc.2, by omega⟩
  · simp at h

/-- low, high and max of a slice whose capacity may be greater than is known. -/
theorem vbounds_real {isS : Bool} {len cap capr : Nat} {lo hi mx : Option V} {l h m : Nat} (hcap : cap ≤ capr) (hmx : mx = none ∨ hi.isSome = true) (hl : len ≤ cap) (e : vbounds len cap lo hi mx = some (l, h, m)) :
    (Instr.sliceBounds isS len capr (lo.map (V.real J)) (hi.map (V.real J)) (mx.map (V.real J))).run P w = .ok (l, h, if mx.isSome then m else capr) w ∧ l ≤ h ∧ h ≤ m ∧ m ≤ cap ∧ (mx = none → m = cap) := by
  have up : ∀ {x : V} {a b k : Nat} (code : BoundsCode), a ≤ b → vbound x a = some k → (Instr.sliceBound (x.real J) b code).run P w = .ok k w := by
    intro x a b k code hab hx
    unfold vbound at hx
    split at hx
    · rename_i kk n
      generalize hc : (ile 0 n && ile n a) = c at hx
      cases c with
      | false => simp at hx
      | true =>
        simp only [cond_true, natF_eq, Option.some.injEq] at hx
        simp only [Bool.and_eq_true, ile, decide_eq_true_eq] at hc
        subst hx
        simp only [V.real]
        exact run_sliceBound w kk n b code hc.1 (by omega)
    · simp at hx
  unfold vbounds at e
  cases mx with
  | none =>
    simp only [vboundO] at e
    cases hi with
    | none =>
      simp only at e
      cases lo with
      | none =>
        simp only [Option.some.injEq, Prod.mk.injEq] at e
        obtain ⟨rfl, rfl, rfl⟩ := e
        refine ⟨by simp [Instr.sliceBounds], by omega, hl, Nat.le_refl _, fun _ => rfl⟩
      | some x =>
        simp only at e
        cases hx : vbound x len with
        | none => simp [hx] at e
        | some k =>
          simp only [hx, Option.some.injEq, Prod.mk.injEq] at e
          obtain ⟨rfl, rfl, rfl⟩ := e
          refine ⟨?_, (vbound_real (P := P) (J := J) (w := w) hx .sliceB).2, hl, Nat.le_refl _, fun _ => rfl⟩
          simp [Instr.sliceBounds, (vbound_real (P := P) (J := J) (w := w) hx .sliceB).1]
    | some y =>
      simp only at e
      cases hy : vbound y cap with
      | none => simp [hy] at e
      | some q =>
        simp only [hy] at e
        have hy' := fun code => up (b := capr) code hcap hy
        have hq := (vbound_real (P := P) (J := J) (w := w) hy .sliceB).2
        cases lo with
        | none =>
          simp only [Option.some.injEq, Prod.mk.injEq] at e
          obtain ⟨rfl, rfl, rfl⟩ := e
          refine ⟨?_, by omega, hq, Nat.le_refl _, fun _ => rfl⟩
          simp [Instr.sliceBounds, hy']
        | some x =>
          simp only at e
          cases hx : vbound x q with
          | none => simp [hx] at e
          | some k =>
            simp only [hx, Option.some.injEq, Prod.mk.injEq] at e
            obtain ⟨rfl, rfl, rfl⟩ := e
            refine ⟨?_, (vbound_real (P := P) (J := J) (w := w) hx .sliceB).2, hq, Nat.le_refl _, fun _ => rfl⟩
            simp [Instr.sliceBounds, hy', (vbound_real (P := P) (J := J) (w := w) hx .sliceB).1]
  | some z =>
    simp only [vboundO] at e
    cases hz : vbound z cap with
    | none => simp [hz] at e
    | some p =>
      simp only [hz] at e
      have hz' := fun code => up (b := capr) code hcap hz
      have hp := (vbound_real (P := P) (J := J) (w := w) hz .sliceB).2
      cases hi with
      | none => simp at hmx
      | some y =>
        simp only at e
        cases hy : vbound y p with
        | none => simp [hy] at e
        | some q =>
          simp only [hy] at e
          have hy' := fun code => (vbound_real (P := P) (J := J) (w := w) hy code).1
          have hq := (vbound_real (P := P) (J := J) (w := w) hy .sliceB).2
          cases lo with
          | none =>
            simp only [Option.some.injEq, Prod.mk.injEq] at e
            obtain ⟨rfl, rfl, rfl⟩ := e
            refine ⟨?_, by omega, hq, hp, by simp⟩
            simp [Instr.sliceBounds, hy', hz']
          | some x =>
            simp only at e
            cases hx : vbound x q with
            | none => simp [hx] at e
            | some k =>
              simp only [hx, Option.some.injEq, Prod.mk.injEq] at e
              obtain ⟨rfl, rfl, rfl⟩ := e
              refine ⟨?_, (vbound_real (P := P) (J := J) (w := w) hx .sliceB).2, hq, hp, by simp⟩
              simp [Instr.sliceBounds, hy', hz', fun code => (vbound_real (P := P) (J := J) (w := w) hx code).1]

end
end Go.Vm
