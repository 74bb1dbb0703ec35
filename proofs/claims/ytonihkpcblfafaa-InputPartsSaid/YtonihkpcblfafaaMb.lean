/-
  Layer 1 in plain lists: a text cut in two. Nothing here speaks of the program.
-/
import Derived.Test.YtonihkpcblfafaaMa
namespace Go.Lay1

theorem getD_left {a b : List UInt8} {i : Nat} (h : i < a.length) : (a ++ b).getD i 0 = a.getD i 0 := by
  rw [List.getD_eq_getElem?_getD, List.getD_eq_getElem?_getD, List.getElem?_append_left h]
theorem getD_right (a b : List UInt8) (j : Nat) : (a ++ b).getD (a.length + j) 0 = b.getD j 0 := by
  rw [List.getD_eq_getElem?_getD, List.getD_eq_getElem?_getD, List.getElem?_append_right (by omega)]
  congr 2; omega
theorem drop_left {a b : List UInt8} {i : Nat} (h : i ≤ a.length) : (a ++ b).drop i = a.drop i ++ b := List.drop_append_of_le_length h
theorem drop_right (a b : List UInt8) (j : Nat) : (a ++ b).drop (a.length + j) = b.drop j := by
  rw [List.drop_append, List.drop_eq_nil_of_le (by omega), List.nil_append]
  congr 1; omega

theorem piece_eq {s t : List UInt8} {i j : Nat} (hc : s.getD i 0 = t.getD j 0) (hl : (t.getD j 0).toNat = 13 → (lfNext s i ↔ lfNext t j)) : piece s i = piece t j := by
  unfold piece
  dsimp only
  rw [hc]
  by_cases h0 : ((t.getD j 0).toNat : Int) = 0
  · rw [if_pos h0, if_pos h0]
  · rw [if_neg h0, if_neg h0]
    by_cases h1 : ((t.getD j 0).toNat : Int) = 12
    · rw [if_pos h1, if_pos h1]
    · rw [if_neg h1, if_neg h1]
      by_cases h2 : ((t.getD j 0).toNat : Int) = 13
      · rw [if_pos h2, if_pos h2]
        have hl := hl (by omega)
        by_cases h3 : lfNext t j
        · rw [if_pos h3, if_pos (hl.2 h3)]
        · rw [if_neg h3, if_neg (fun q => h3 (hl.1 q))]
      · rw [if_neg h2, if_neg h2]
theorem piece_left {a b : List UInt8} {i : Nat} (h : i + 1 < a.length) : piece (a ++ b) i = piece a i := by
  refine piece_eq (getD_left (by omega)) fun _ => ?_
  unfold lfNext
  rw [drop_left (by omega), getD_left (by rw [List.length_drop]; omega), List.length_append, List.length_drop]
  constructor <;> (rintro ⟨_, h2⟩; exact ⟨by omega, h2⟩)
theorem not_last (a : List UInt8) {i : Nat} (h : i + 1 = a.length) : ¬ lfNext a i := by
  rintro ⟨h1, _⟩
  rw [List.length_drop] at h1
  omega
theorem lf_last {a b : List UInt8} {i : Nat} (h : i + 1 = a.length) : lfNext (a ++ b) i ↔ ((0 : Int) < (b.length : Int) ∧ ((b.getD 0 0).toNat : Int) = 10) := by
  unfold lfNext
  have := drop_right a b 0
  rw [Nat.add_zero, List.drop_zero] at this
  rw [h, this]
theorem piece_right (a b : List UInt8) (j : Nat) : piece (a ++ b) (a.length + j) = piece b j := by
  refine piece_eq (getD_right a b j) fun _ => ?_
  unfold lfNext
  rw [Nat.add_assoc, drop_right]
theorem cl_right (a b : List UInt8) (m : Nat) : cl (a ++ b) (a.length + m) = cl (a ++ b) a.length ++ cl b m := by
  induction m with
  | zero => simp [cl]
  | succ m ih => rw [← Nat.add_assoc, cl_succ, ih, cl_succ, piece_right, List.append_assoc]
theorem cl_left {a b : List UInt8} (k : Nat) (h : k < a.length) : cl (a ++ b) k = cl a k := by
  induction k with
  | zero => rfl
  | succ k ih => rw [cl_succ, cl_succ, ih (by omega), piece_left h]
theorem cleaned_app (a b : List UInt8) : cleaned (a ++ b) = cl (a ++ b) a.length ++ cleaned b := by
  unfold cleaned
  rw [List.length_append, cl_right]
theorem cl_first (s : List UInt8) (j : Nat) : ∃ r, cl s (j + 1) = piece s 0 ++ r := by
  induction j with
  | zero => exact ⟨[], by rw [cl_succ]; simp [cl]⟩
  | succ j ih =>
    obtain ⟨r, hr⟩ := ih
    exact ⟨r ++ piece s (j + 1), by rw [cl_succ, hr, List.append_assoc]⟩

theorem parts_plain {a b : List UInt8} (h : ¬ ((((0 : Int) < (a.length : Int) ∧ (0 : Int) < (b.length : Int)) ∧ ((a.getD ((a.length : Int) - 1).toNat 0).toNat : Int) = 13) ∧ ((b.getD 0 0).toNat : Int) = 10)) : cleaned (a ++ b) = cleaned a ++ cleaned b := by
  rw [cleaned_app]
  congr 1
  unfold cleaned
  cases hm : a.length with
  | zero => rfl
  | succ m =>
    rw [cl_succ, cl_succ, cl_left m (by omega)]
    congr 1
    refine piece_eq (getD_left (by omega)) fun h13 => ?_
    rw [lf_last hm.symm]
    refine ⟨fun q => (h ⟨⟨⟨by omega, q.1⟩, ?_⟩, q.2⟩).elim, fun q => (not_last a hm.symm q).elim⟩
    rw [show ((a.length : Int) - 1).toNat = m from by omega]
    omega
theorem parts_crlf {a b : List UInt8} (h1 : (0 : Int) < (a.length : Int)) (h2 : (0 : Int) < (b.length : Int)) (h3 : ((a.getD ((a.length : Int) - 1).toNat 0).toNat : Int) = 13) (h4 : ((b.getD 0 0).toNat : Int) = 10) :
    cleaned (a ++ b) = cleaned a ++ (cleaned b).drop (min 1 (cleaned b).length) := by
  obtain ⟨m, hm⟩ : ∃ m, a.length = m + 1 := ⟨a.length - 1, by omega⟩
  obtain ⟨j, hj⟩ : ∃ j, b.length = j + 1 := ⟨b.length - 1, by omega⟩
  rw [show ((a.length : Int) - 1).toNat = m from by omega] at h3
  obtain ⟨r, hr⟩ := cl_first b j
  have hp : piece b 0 = [10] := by
    unfold piece
    dsimp only
    rw [if_neg (by omega), if_neg (by omega), if_neg (by omega), is10.1 h4]
  have hb : cleaned b = [10] ++ r := by unfold cleaned; rw [hj, hr, hp]
  have hab : (a ++ b).getD m 0 = a.getD m 0 := getD_left (by omega)
  rw [cleaned_app, hb]
  have e1 : cl (a ++ b) a.length = cl a m := by rw [hm, cl_crlf (by rw [hab]; exact h3) ((lf_last hm.symm).2 ⟨h2, h4⟩), cl_left m (by omega)]
  have e2 : cleaned a = cl a m ++ [10] := by unfold cleaned; rw [hm, cl_cr h3 (not_last a hm.symm)]
  rw [e1, e2]
  simp
theorem parts_plain_end {a b : List UInt8} (h : ¬ ((((0 : Int) < (a.length : Int) ∧ (0 : Int) < (b.length : Int)) ∧ ((a.getD ((a.length : Int) - 1).toNat 0).toNat : Int) = 13) ∧ ((b.getD 0 0).toNat : Int) = 10)) : ((cleaned (a ++ b) == cleaned a ++ cleaned b) && true) = true := by
  rw [parts_plain h, beq_self_eq_true]; rfl
theorem parts_crlf_end {a b : List UInt8} (h1 : (0 : Int) < (a.length : Int)) (h2 : (0 : Int) < (b.length : Int)) (h3 : ((a.getD ((a.length : Int) - 1).toNat 0).toNat : Int) = 13) (h4 : ((b.getD 0 0).toNat : Int) = 10) :
    ((cleaned (a ++ b) == cleaned a ++ (cleaned b).drop (min 1 (cleaned b).length)) && true) = true := by
  rw [parts_crlf h1 h2 h3 h4, beq_self_eq_true]; rfl
end Go.Lay1
