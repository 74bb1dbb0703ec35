/-
  Layer 1 in plain lists: what its functions compute, and the laws of that. Nothing here speaks of the program.
-/
import Derived.Test.YtonihkpcblfafaaVv
namespace Go.Lay1

theorem byteI (c : UInt8) : 0 ≤ (c.toNat : Int) ∧ (c.toNat : Int) ≤ 255 := by have := c.toNat_lt; omega

/-! ### Small letters -/
def low (c : Int) : Int := if 65 ≤ c ∧ c ≤ 90 then c + 32 else c
theorem low_yes {c : Int} (h : 65 ≤ c ∧ c ≤ 90) : low c = c + 32 := if_pos h
theorem low_no {c : Int} (h : ¬ (65 ≤ c ∧ c ≤ 90)) : low c = c := if_neg h
def lowB (c : UInt8) : UInt8 := if 65 ≤ c.toNat ∧ c.toNat ≤ 90 then UInt8.ofNat (c.toNat + 32) else c
theorem lowB_toNat (c : UInt8) : ((lowB c).toNat : Int) = low (c.toNat : Int) := by
  unfold lowB low
  by_cases h : 65 ≤ c.toNat ∧ c.toNat ≤ 90
  · rw [if_pos h, if_pos (by omega)]; simp; omega
  · rw [if_neg h, if_neg (by omega)]
theorem lowB_of (c : UInt8) (x : Int) (h : x = low (c.toNat : Int)) : UInt8.ofNat x.toNat = lowB c := by
  rw [h, ← lowB_toNat]; simp
theorem lowB_inj_iff (a b : UInt8) : low (a.toNat : Int) = low (b.toNat : Int) ↔ lowB a = lowB b := by
  rw [← lowB_toNat, ← lowB_toNat]
  constructor
  · intro h; exact UInt8.toNat_inj.1 (by omega)
  · intro h; rw [h]
theorem lowB_lowB (c : UInt8) : lowB (lowB c) = lowB c := by
  apply UInt8.toNat_inj.1
  have h1 := lowB_toNat (lowB c)
  have h2 := lowB_toNat c
  have h3 := byteI c
  have : low (low (c.toNat : Int)) = low (c.toNat : Int) := by
    by_cases h : 65 ≤ (c.toNat : Int) ∧ (c.toNat : Int) ≤ 90
    · rw [low_yes h, low_no (by omega)]
    · rw [low_no h, low_no h]
  rw [h2, this, ← h2] at h1
  omega
def lowL (s : List UInt8) : List UInt8 := s.map lowB
def alikeL (a b : List UInt8) : Bool := lowL a == lowL b
theorem alike_len {a b : List UInt8} (h : ¬ a.length = b.length) : alikeL a b = false := by
  unfold alikeL
  rw [beq_eq_false_iff_ne]
  intro e
  have := congrArg List.length e
  simp [lowL] at this
  exact h this
theorem alike_at {a b : List UInt8} {i : Nat} (h1 : i < a.length) (h2 : i < b.length) (h : ¬ low ((a.getD i 0).toNat : Int) = low ((b.getD i 0).toNat : Int)) : alikeL a b = false := by
  unfold alikeL
  rw [beq_eq_false_iff_ne]
  intro e
  apply h
  rw [lowB_inj_iff]
  have := congrArg (fun l => l[i]?) e
  simp only [lowL, List.getElem?_map, List.getElem?_eq_getElem h1, List.getElem?_eq_getElem h2, Option.map_some, Option.some.injEq] at this
  rw [List.getD_eq_getElem?_getD, List.getD_eq_getElem?_getD, List.getElem?_eq_getElem h1, List.getElem?_eq_getElem h2]
  exact this
theorem alike_all {a b : List UInt8} (hl : a.length = b.length) (h : ∀ j : Nat, j < a.length → low ((a.getD j 0).toNat : Int) = low ((b.getD j 0).toNat : Int)) : alikeL a b = true := by
  unfold alikeL
  rw [beq_iff_eq]
  apply List.ext_getElem?
  intro i
  by_cases hi : i < a.length
  · have := (lowB_inj_iff _ _).1 (h i hi)
    rw [List.getD_eq_getElem?_getD, List.getD_eq_getElem?_getD, List.getElem?_eq_getElem hi, List.getElem?_eq_getElem (show i < b.length by omega)] at this
    simp only [lowL, List.getElem?_map, List.getElem?_eq_getElem hi, List.getElem?_eq_getElem (show i < b.length by omega), Option.map_some]
    exact congrArg some this
  · rw [List.getElem?_eq_none (by simp [lowL]; omega), List.getElem?_eq_none (by simp [lowL]; omega)]

theorem low_byte (c : UInt8) : 0 ≤ low (c.toNat : Int) ∧ low (c.toNat : Int) ≤ 255 := by rw [← lowB_toNat]; exact byteI _
theorem lowL_len (s : List UInt8) : (lowL s).length = s.length := by simp [lowL]
theorem lowL_lowL (s : List UInt8) : lowL (lowL s) = lowL s := by
  unfold lowL
  rw [List.map_map]
  exact List.map_congr_left fun c _ => lowB_lowB c
theorem lowL_app (a b : List UInt8) : lowL (a ++ b) = lowL a ++ lowL b := by simp [lowL]
theorem lowL_get {s : List UInt8} {i : Nat} (h : i < s.length) : (((lowL s).getD i 0).toNat : Int) = low ((s.getD i 0).toNat : Int) := by
  rw [← lowB_toNat]
  unfold lowL
  rw [List.getD_eq_getElem?_getD, List.getD_eq_getElem?_getD, List.getElem?_map, List.getElem?_eq_getElem h]
  rfl
theorem alike_low (a : List UInt8) : alikeL a (lowL a) = true := by unfold alikeL; rw [lowL_lowL]; exact beq_self_eq_true _
theorem alike_comm (a b : List UInt8) : alikeL a b = alikeL b a := by
  unfold alikeL
  exact Bool.beq_comm
theorem letters_end (a b c : List UInt8) : (((alikeL a b == (lowL a == lowL b)) && ((!alikeL a b) || (alikeL b c == alikeL a c))) && true) = true := by
  unfold alikeL
  by_cases h : lowL a = lowL b
  · rw [h]; simp
  · rw [beq_eq_false_iff_ne.2 h]; simp
/-- A text whose first i bytes are made small. -/
def mid (s : List UInt8) (i : Nat) : List UInt8 := lowL (s.take i) ++ s.drop i
theorem mid_0 (s : List UInt8) : mid s 0 = s := by simp [mid, lowL]
theorem mid_end (s : List UInt8) : mid s s.length = lowL s := by simp [mid]
theorem mid_len {s : List UInt8} {i : Nat} (h : i ≤ s.length) : (mid s i).length = s.length := by simp [mid, lowL]; omega
theorem mid_get {s : List UInt8} {i : Nat} (h : i < s.length) : (mid s i).getD i 0 = s.getD i 0 := by
  rw [List.getD_eq_getElem?_getD, List.getD_eq_getElem?_getD]
  unfold mid
  rw [List.getElem?_append_right (by simp [lowL]; omega)]
  simp [lowL, Nat.min_eq_left (Nat.le_of_lt h)]
theorem mid_set {s : List UInt8} {i : Nat} (h : i < s.length) : (mid s i).set i (UInt8.ofNat (low (((mid s i).getD i 0).toNat : Int)).toNat) = mid s (i + 1) := by
  rw [mid_get h, lowB_of _ _ rfl]
  have hl : (lowL (s.take i)).length = i := by simp [lowL]; omega
  unfold mid
  rw [List.set_append_right _ _ (by omega), hl, Nat.sub_self, List.drop_eq_getElem_cons h, List.set_cons_zero, List.take_succ_eq_append_getElem h]
  have : s.getD i 0 = s[i] := by rw [List.getD_eq_getElem?_getD, List.getElem?_eq_getElem h]; rfl
  rw [this]
  simp only [lowL, List.map_append, List.map_cons, List.map_nil, List.append_assoc, List.singleton_append]

/-! ### Clean texts -/
def dirty (c : UInt8) : Bool := c == 0 || c == 12 || c == 13
def isClean (s : List UInt8) : Bool := s.all fun c => !dirty c
theorem dirty_of {c : UInt8} (h : ((c.toNat : Int) = 0 ∨ (c.toNat : Int) = 12) ∨ (c.toNat : Int) = 13) : dirty c = true := by
  have key : ∀ n : Nat, n < 256 → (c.toNat : Int) = n → c = UInt8.ofNat n := fun n hn e => by
    apply UInt8.toNat_inj.1; simp; omega
  unfold dirty
  rcases h with (h | h) | h
  · rw [key 0 (by omega) h]; rfl
  · rw [key 12 (by omega) h]; rfl
  · rw [key 13 (by omega) h]; rfl
theorem not_dirty {c : UInt8} (h : ¬ (((c.toNat : Int) = 0 ∨ (c.toNat : Int) = 12) ∨ (c.toNat : Int) = 13)) : dirty c = false := by
  unfold dirty
  rw [Bool.or_eq_false_iff, Bool.or_eq_false_iff]
  refine ⟨⟨?_, ?_⟩, ?_⟩ <;>
  · rw [beq_eq_false_iff_ne]
    intro e
    apply h
    rw [e]
    decide
theorem isClean_not {s : List UInt8} {i : Nat} (h : i < s.length) (hd : dirty (s.getD i 0) = true) : isClean s = false := by
  unfold isClean
  rw [List.all_eq_false]
  refine ⟨s.getD i 0, ?_, by rw [hd]; exact Bool.false_ne_true⟩
  rw [List.getD_eq_getElem?_getD, List.getElem?_eq_getElem h]
  exact List.getElem_mem h
theorem isClean_yes {s : List UInt8} (h : ∀ j : Nat, j < s.length → dirty (s.getD j 0) = false) : isClean s = true := by
  unfold isClean
  rw [List.all_eq_true]
  intro c hc
  obtain ⟨j, hj, rfl⟩ := List.getElem_of_mem hc
  have := h j hj
  rw [List.getD_eq_getElem?_getD, List.getElem?_eq_getElem hj] at this
  simpa using this
def check (s : List UInt8) : Int := if 12000 < s.length then 28 else if isClean s then 0 else 8
theorem check_long {s : List UInt8} (h : 12000 < s.length) : check s = 28 := if_pos h
theorem check_bad {s : List UInt8} (h : ¬ 12000 < s.length) (k : isClean s = false) : check s = 8 := by unfold check; rw [if_neg h, k]; rfl
theorem check_ok {s : List UInt8} (h : ¬ 12000 < s.length) (k : isClean s = true) : check s = 0 := by unfold check; rw [if_neg h, k]; rfl

def lfNext (s : List UInt8) (i : Nat) : Prop := (0 : Int) < ((s.drop (i + 1)).length : Int) ∧ (((s.drop (i + 1)).getD 0 0).toNat : Int) = 10
instance (s : List UInt8) (i : Nat) : Decidable (lfNext s i) := by unfold lfNext; infer_instance
/-- What the byte at i becomes. -/
def piece (s : List UInt8) (i : Nat) : List UInt8 :=
  let c := ((s.getD i 0).toNat : Int)
  if c = 0 then [239, 191, 189] else if c = 12 then [10] else if c = 13 then (if lfNext s i then [] else [10]) else [s.getD i 0]
def cl (s : List UInt8) (i : Nat) : List UInt8 := (List.range i).flatMap (piece s)
def cleaned (s : List UInt8) : List UInt8 := cl s s.length
theorem cl_succ (s : List UInt8) (i : Nat) : cl s (i + 1) = cl s i ++ piece s i := by unfold cl; rw [List.range_succ]; simp
theorem cl_nul {s : List UInt8} {i : Nat} (h : ((s.getD i 0).toNat : Int) = 0) : cl s (i + 1) = cl s i ++ [239, 191, 189] := by rw [cl_succ]; unfold piece; rw [if_pos h]
theorem cl_ff {s : List UInt8} {i : Nat} (h : ((s.getD i 0).toNat : Int) = 12) : cl s (i + 1) = cl s i ++ [10] := by rw [cl_succ]; unfold piece; rw [if_neg (by omega), if_pos h]
theorem cl_cr {s : List UInt8} {i : Nat} (h : ((s.getD i 0).toNat : Int) = 13) (k : ¬ lfNext s i) : cl s (i + 1) = cl s i ++ [10] := by rw [cl_succ]; unfold piece; rw [if_neg (by omega), if_neg (by omega), if_pos h, if_neg k]
theorem cl_crlf {s : List UInt8} {i : Nat} (h : ((s.getD i 0).toNat : Int) = 13) (k : lfNext s i) : cl s (i + 1) = cl s i := by rw [cl_succ]; unfold piece; rw [if_neg (by omega), if_neg (by omega), if_pos h, if_pos k]; simp
theorem cl_other {s : List UInt8} {i : Nat} (h0 : ¬ ((s.getD i 0).toNat : Int) = 0) (h1 : ¬ ((s.getD i 0).toNat : Int) = 12) (h2 : ¬ ((s.getD i 0).toNat : Int) = 13) : cl s (i + 1) = cl s i ++ [s.getD i 0] := by
  rw [cl_succ]; unfold piece; rw [if_neg h0, if_neg h1, if_neg h2]
theorem piece_len (s : List UInt8) (i : Nat) : (piece s i).length ≤ 3 := by
  unfold piece; dsimp only
  split
  · simp
  · split
    · simp
    · split
      · split <;> simp
      · simp
theorem cl_len (s : List UInt8) (i : Nat) : (cl s i).length ≤ 3 * i := by
  induction i with
  | zero => simp [cl]
  | succ i ih => rw [cl_succ, List.length_append]; have := piece_len s i; omega
theorem cleaned_len (s : List UInt8) : (cleaned s).length ≤ 3 * s.length := cl_len s s.length
theorem isClean_app (a b : List UInt8) : isClean (a ++ b) = (isClean a && isClean b) := by simp [isClean]
theorem piece_clean (s : List UInt8) (i : Nat) : isClean (piece s i) = true := by
  unfold piece; dsimp only
  by_cases h0 : ((s.getD i 0).toNat : Int) = 0
  · rw [if_pos h0]; decide
  · rw [if_neg h0]
    by_cases h1 : ((s.getD i 0).toNat : Int) = 12
    · rw [if_pos h1]; decide
    · rw [if_neg h1]
      by_cases h2 : ((s.getD i 0).toNat : Int) = 13
      · rw [if_pos h2]; split <;> decide
      · rw [if_neg h2]
        have := not_dirty (c := s.getD i 0) (by omega)
        unfold isClean
        rw [List.all_cons, this]; rfl
theorem cl_clean (s : List UInt8) (i : Nat) : isClean (cl s i) = true := by
  induction i with
  | zero => rfl
  | succ i ih => rw [cl_succ, isClean_app, ih, piece_clean]; rfl
theorem cleaned_clean (s : List UInt8) : isClean (cleaned s) = true := cl_clean s s.length
theorem dirty_no {c : UInt8} (h : dirty c = false) : ¬ (c.toNat : Int) = 0 ∧ ¬ (c.toNat : Int) = 12 ∧ ¬ (c.toNat : Int) = 13 := by
  refine ⟨fun q => ?_, fun q => ?_, fun q => ?_⟩ <;> (rw [dirty_of (by omega)] at h; cases h)
theorem isClean_at {s : List UInt8} (h : isClean s = true) {i : Nat} (hi : i < s.length) : dirty (s.getD i 0) = false := by
  unfold isClean at h
  have := List.all_eq_true.1 h s[i] (List.getElem_mem hi)
  rw [List.getD_eq_getElem?_getD, List.getElem?_eq_getElem hi]
  simpa using this
theorem cl_of_clean {s : List UInt8} (h : isClean s = true) (i : Nat) (hi : i ≤ s.length) : cl s i = s.take i := by
  induction i with
  | zero => rfl
  | succ i ih =>
    obtain ⟨h0, h1, h2⟩ := dirty_no (isClean_at h (i := i) (by omega))
    rw [cl_other h0 h1 h2, ih (by omega), List.take_succ_eq_append_getElem (show i < s.length by omega)]
    rw [List.getD_eq_getElem?_getD, List.getElem?_eq_getElem (show i < s.length by omega)]; rfl
theorem cleaned_of_clean {s : List UInt8} (h : isClean s = true) : cleaned s = s := by
  unfold cleaned; rw [cl_of_clean h s.length (Nat.le_refl _), List.take_length]
theorem cleaned_iff (s : List UInt8) : (cleaned s == s) = isClean s := by
  cases h : isClean s with
  | true => rw [cleaned_of_clean h]; exact beq_self_eq_true _
  | false =>
    rw [beq_eq_false_iff_ne]
    intro e
    have := cleaned_clean s
    rw [e, h] at this
    cases this

theorem check_zero {s : List UInt8} (h : s.length ≤ 12000) : decide (check s = 0) = isClean s := by
  cases hc : isClean s with
  | true => rw [check_ok (by omega) hc]; rfl
  | false => rw [check_bad (by omega) hc]; rfl
theorem once_end {s : List UInt8} (h : s.length ≤ 500) : (((((decide ((0 : Int) = 0) && decide ((0 : Int) = 0)) && decide (check (cleaned s) = 0)) && (cleaned s == cleaned (cleaned s))) && ((cleaned s == s) == decide (check s = 0))) && true) = true := by
  have hl := cleaned_len s
  rw [check_zero (by omega), check_zero (by omega), cleaned_clean, cleaned_of_clean (cleaned_clean s), cleaned_iff]
  simp

/-! ### Line ends, places -/
def ends (s : List UInt8) : Nat := s.count 10
theorem take_next {s : List UInt8} {i : Nat} (h : i < s.length) : s.take (i + 1) = s.take i ++ [s.getD i 0] := by
  rw [List.take_succ_eq_append_getElem h, List.getD_eq_getElem?_getD, List.getElem?_eq_getElem h]; rfl
theorem is10 {c : UInt8} : ((c.toNat : Int) = 10) ↔ c = 10 := by
  constructor
  · intro h; apply UInt8.toNat_inj.1; simp; omega
  · intro h; rw [h]; decide
theorem ends_yes {s : List UInt8} {i : Nat} (h : i < s.length) (k : ((s.getD i 0).toNat : Int) = 10) : ends (s.take (i + 1)) = ends (s.take i) + 1 := by
  unfold ends; rw [take_next h, List.count_append, is10.1 k]; simp
theorem ends_no {s : List UInt8} {i : Nat} (h : i < s.length) (k : ¬ ((s.getD i 0).toNat : Int) = 10) : ends (s.take (i + 1)) = ends (s.take i) := by
  unfold ends; rw [take_next h, List.count_append]
  have : s.getD i 0 ≠ 10 := fun e => k (is10.2 e)
  generalize s.getD i 0 = c at this
  rw [List.count_eq_zero_of_not_mem (l := [c]) (by simp; exact fun e => this e.symm)]
  rfl
theorem ends_le (s : List UInt8) : ends s ≤ s.length := List.count_le_length
def col (s : List UInt8) : Nat := s.foldl (fun k c => if c = 10 then 1 else k + 1) 1
theorem col_yes {s : List UInt8} {i : Nat} (h : i < s.length) (k : ((s.getD i 0).toNat : Int) = 10) : col (s.take (i + 1)) = 1 := by
  unfold col; rw [take_next h, List.foldl_append, is10.1 k]; simp
theorem col_no {s : List UInt8} {i : Nat} (h : i < s.length) (k : ¬ ((s.getD i 0).toNat : Int) = 10) : col (s.take (i + 1)) = col (s.take i) + 1 := by
  unfold col; rw [take_next h, List.foldl_append]
  have : s.getD i 0 ≠ 10 := fun e => k (is10.2 e)
  simp only [List.foldl_cons, List.foldl_nil, if_neg this]
theorem col_le (s : List UInt8) : col s ≤ s.length + 1 := by
  have key : ∀ (l : List UInt8) (k : Nat), 1 ≤ k → l.foldl (fun k c => if c = 10 then 1 else k + 1) k ≤ l.length + k := by
    intro l
    induction l with
    | nil => intro k _; simp
    | cons c l ih =>
      intro k hk
      simp only [List.foldl_cons, List.length_cons]
      by_cases e : c = 10
      · rw [if_pos e]; have := ih 1 (by omega); omega
      · rw [if_neg e]; have := ih (k + 1) (by omega); omega
  exact key s 1 (by omega)
end Go.Lay1
