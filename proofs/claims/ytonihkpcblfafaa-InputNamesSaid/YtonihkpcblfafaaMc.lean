/-
  Layer 1 in plain lists: rows and columns. Nothing here speaks of the program.
-/
import Derived.Test.YtonihkpcblfafaaMa
namespace Go.Lay1

def pErr (s : List UInt8) (k : Int) : Int := if check s ≠ 0 then check s else if k < 0 ∨ (s.length : Int) < k then 2 else 0
def pRow (s : List UInt8) (k : Int) : Int := if pErr s k = 0 then (ends (s.take k.toNat) : Int) + 1 else 0
def pCol (s : List UInt8) (k : Int) : Int := if pErr s k = 0 then (col (s.take k.toNat) : Int) else 0
theorem place_bad {s : List UInt8} {k : Int} (h : check s ≠ 0) : pRow s k = 0 ∧ pCol s k = 0 ∧ pErr s k = check s := by
  have e : pErr s k = check s := if_pos h
  refine ⟨?_, ?_, e⟩
  · unfold pRow; rw [e, if_neg h]
  · unfold pCol; rw [e, if_neg h]
theorem place_out {s : List UInt8} {k : Int} (h : check s = 0) (hk : k < 0 ∨ (s.length : Int) < k) : pRow s k = 0 ∧ pCol s k = 0 ∧ pErr s k = 2 := by
  have e : pErr s k = 2 := by unfold pErr; rw [if_neg (by omega), if_pos hk]
  refine ⟨?_, ?_, e⟩
  · unfold pRow; rw [e]; rfl
  · unfold pCol; rw [e]; rfl
theorem place_in {s : List UInt8} {k : Int} (h : check s = 0) (hk : ¬ (k < 0 ∨ (s.length : Int) < k)) : pRow s k = (ends (s.take k.toNat) : Int) + 1 ∧ pCol s k = (col (s.take k.toNat) : Int) ∧ pErr s k = 0 := by
  have e : pErr s k = 0 := by unfold pErr; rw [if_neg (by omega), if_neg hk]
  refine ⟨?_, ?_, e⟩
  · unfold pRow; rw [e, if_pos rfl]
  · unfold pCol; rw [e, if_pos rfl]
theorem place_zero {s : List UInt8} (h : check s = 0) : pErr s 0 = 0 ∧ pRow s 0 = 1 ∧ pCol s 0 = 1 := by
  obtain ⟨h1, h2, h3⟩ := place_in (k := 0) h (by omega)
  exact ⟨h3, by rw [h1]; rfl, by rw [h2]; rfl⟩
theorem pRow_le (s : List UInt8) (k : Int) : 0 ≤ pRow s k ∧ pRow s k ≤ (s.length : Int) + 1 := by
  unfold pRow
  have h1 := ends_le (s.take k.toNat)
  rw [List.length_take] at h1
  split <;> omega
theorem pCol_le (s : List UInt8) (k : Int) : 0 ≤ pCol s k ∧ pCol s k ≤ (s.length : Int) + 1 := by
  unfold pCol
  have h1 := col_le (s.take k.toNat)
  rw [List.length_take] at h1
  split <;> omega
theorem places_lf {s : List UInt8} {k : Int} (h : check s = 0) (h0 : 0 ≤ k) (h1 : k < (s.length : Int)) (hc : ((s.getD k.toNat 0).toNat : Int) = 10) : ((decide (pRow s (k + 1) = (pRow s k + 1)) && decide (pCol s (k + 1) = 1)) && true) = true := by
  obtain ⟨a1, _, _⟩ := place_in (k := k) h (by omega)
  obtain ⟨b1, b2, _⟩ := place_in (k := k + 1) h (by omega)
  rw [show (k + 1).toNat = k.toNat + 1 from by omega] at b1 b2
  rw [a1, b1, b2, ends_yes (by omega) hc, col_yes (by omega) hc]
  simp
theorem places_no {s : List UInt8} {k : Int} (h : check s = 0) (h0 : 0 ≤ k) (h1 : k < (s.length : Int)) (hc : ¬ ((s.getD k.toNat 0).toNat : Int) = 10) : ((decide (pRow s (k + 1) = pRow s k) && decide (pCol s (k + 1) = (pCol s k + 1))) && true) = true := by
  obtain ⟨a1, a2, _⟩ := place_in (k := k) h (by omega)
  obtain ⟨b1, b2, _⟩ := place_in (k := k + 1) h (by omega)
  rw [show (k + 1).toNat = k.toNat + 1 from by omega] at b1 b2
  rw [a1, a2, b1, b2, ends_no (by omega) hc, col_no (by omega) hc]
  simp
end Go.Lay1
