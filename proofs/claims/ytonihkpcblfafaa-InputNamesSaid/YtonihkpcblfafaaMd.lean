/-
  Layer 1 in plain lists: cleaning, told by looking back. Nothing here speaks of the program.
-/
import Derived.Test.YtonihkpcblfafaaMc
namespace Go.Lay1

abbrev rskip (s : List UInt8) (i : Nat) : Prop := (((s.getD i 0).toNat : Int) = 10 ∧ (0 : Int) < (i : Int)) ∧ ((s.getD ((i : Int) - 1).toNat 0).toNat : Int) = 13
def rpiece (s : List UInt8) (i : Nat) : List UInt8 :=
  if rskip s i then [] else if ((s.getD i 0).toNat : Int) = 13 ∨ ((s.getD i 0).toNat : Int) = 12 then [10] else if ((s.getD i 0).toNat : Int) = 0 then [239, 191, 189] else [s.getD i 0]
def rcl (s : List UInt8) (i : Nat) : List UInt8 := (List.range i).flatMap (rpiece s)
theorem rcl_succ (s : List UInt8) (i : Nat) : rcl s (i + 1) = rcl s i ++ rpiece s i := by unfold rcl; rw [List.range_succ]; simp
theorem rcl_skip {s : List UInt8} {i : Nat} (h : rskip s i) : rcl s (i + 1) = rcl s i := by rw [rcl_succ]; unfold rpiece; rw [if_pos h]; simp
theorem rcl_lf {s : List UInt8} {i : Nat} (h : ¬ rskip s i) (k : ((s.getD i 0).toNat : Int) = 13 ∨ ((s.getD i 0).toNat : Int) = 12) : rcl s (i + 1) = rcl s i ++ [10] := by rw [rcl_succ]; unfold rpiece; rw [if_neg h, if_pos k]
theorem rcl_nul {s : List UInt8} {i : Nat} (h : ¬ rskip s i) (k : ((s.getD i 0).toNat : Int) = 0) : rcl s (i + 1) = rcl s i ++ [239, 191, 189] := by rw [rcl_succ]; unfold rpiece; rw [if_neg h, if_neg (by omega), if_pos k]
theorem rcl_other {s : List UInt8} {i : Nat} (h : ¬ rskip s i) (k : ¬ (((s.getD i 0).toNat : Int) = 13 ∨ ((s.getD i 0).toNat : Int) = 12)) (l : ¬ ((s.getD i 0).toNat : Int) = 0) : rcl s (i + 1) = rcl s i ++ [s.getD i 0] := by
  rw [rcl_succ]; unfold rpiece; rw [if_neg h, if_neg k, if_neg l]
theorem rpiece_len (s : List UInt8) (i : Nat) : (rpiece s i).length ≤ 3 := by
  unfold rpiece
  split
  · simp
  · split
    · simp
    · split <;> simp
theorem rcl_len (s : List UInt8) (i : Nat) : (rcl s i).length ≤ 3 * i := by
  induction i with
  | zero => simp [rcl]
  | succ i ih => rw [rcl_succ, List.length_append]; have := rpiece_len s i; omega

abbrev pend (s : List UInt8) (i : Nat) : Prop := rskip s i ∧ i < s.length
theorem lfNext_iff (s : List UInt8) (i : Nat) : lfNext s i ↔ i + 1 < s.length ∧ ((s.getD (i + 1) 0).toNat : Int) = 10 := by
  unfold lfNext
  have : (s.drop (i + 1)).getD 0 0 = s.getD (i + 1) 0 := by rw [List.getD_eq_getElem?_getD, List.getD_eq_getElem?_getD, List.getElem?_drop, Nat.add_zero]
  rw [this, List.length_drop]
  constructor <;> (rintro ⟨h1, h2⟩; exact ⟨by omega, h2⟩)
theorem rskip_next (s : List UInt8) (i : Nat) : rskip s (i + 1) ↔ ((s.getD (i + 1) 0).toNat : Int) = 10 ∧ ((s.getD i 0).toNat : Int) = 13 := by
  unfold rskip
  rw [show (((i + 1 : Nat) : Int) - 1).toNat = i from by omega]
  constructor
  · rintro ⟨⟨h1, _⟩, h2⟩; exact ⟨h1, h2⟩
  · rintro ⟨h1, h2⟩; exact ⟨⟨h1, by omega⟩, h2⟩
theorem rcl_cl (s : List UInt8) (i : Nat) (hi : i ≤ s.length) : rcl s i = cl s i ++ (if pend s i then [10] else []) := by
  induction i with
  | zero =>
    rw [if_neg (by rintro ⟨⟨⟨_, h⟩, _⟩, _⟩; omega)]; rfl
  | succ i ih =>
    have ih := ih (by omega)
    by_cases hp : rskip s i
    · rw [if_pos ⟨hp, by omega⟩] at ih
      have h10 := hp.1.1
      rw [if_neg (fun q => by have := (rskip_next s i).1 q.1; omega), List.append_nil, rcl_skip hp, ih, cl_other (by omega) (by omega) (by omega), is10.1 h10]
    · rw [if_neg (fun q => hp q.1), List.append_nil] at ih
      by_cases h13 : ((s.getD i 0).toNat : Int) = 13
      · rw [rcl_lf hp (.inl h13), ih]
        by_cases hl : lfNext s i
        · have hl2 := (lfNext_iff s i).1 hl
          rw [if_pos ⟨(rskip_next s i).2 ⟨hl2.2, h13⟩, hl2.1⟩, cl_crlf h13 hl]
        · rw [if_neg (fun q => hl ((lfNext_iff s i).2 ⟨q.2, ((rskip_next s i).1 q.1).1⟩)), cl_cr h13 hl, List.append_nil]
      · rw [if_neg (fun q => h13 ((rskip_next s i).1 q.1).2), List.append_nil]
        by_cases h12 : ((s.getD i 0).toNat : Int) = 12
        · rw [rcl_lf hp (.inr h12), cl_ff h12, ih]
        · by_cases h0 : ((s.getD i 0).toNat : Int) = 0
          · rw [rcl_nul hp h0, cl_nul h0, ih]
          · rw [rcl_other hp (by omega) h0, cl_other h0 h12 h13, ih]
theorem rcl_all (s : List UInt8) : rcl s s.length = cleaned s := by
  rw [rcl_cl s s.length (Nat.le_refl _), if_neg (fun q => by omega), List.append_nil]; rfl

def cleanT (s : List UInt8) : List UInt8 := if 4000 < s.length then [] else cleaned s
def cleanE (s : List UInt8) : Int := if 4000 < s.length then 28 else 0
theorem clean_long {s : List UInt8} (h : 4000 < s.length) : cleanT s = [] ∧ cleanE s = 28 := ⟨if_pos h, if_pos h⟩
theorem clean_short {s : List UInt8} (h : ¬ 4000 < s.length) : cleanT s = cleaned s ∧ cleanE s = 0 := ⟨if_neg h, if_neg h⟩
theorem lines_in {s : List UInt8} (h : check s = 0) : pRow s (s.length : Int) = (ends s : Int) + 1 ∧ pErr s (s.length : Int) = 0 := by
  obtain ⟨h1, _, h3⟩ := place_in (k := (s.length : Int)) h (by omega)
  rw [Int.toNat_natCast, List.take_length] at h1
  exact ⟨h1, h3⟩
theorem col_stop {s : List UInt8} {i : Nat} (hi : i ≤ s.length) (h : ¬ ((0 : Int) ≤ ((i : Int) - 1) ∧ ((s.getD ((i : Int) - 1).toNat 0).toNat : Int) ≠ 10)) : col (s.take i) = 1 := by
  cases i with
  | zero => rfl
  | succ j =>
    rw [show (((j + 1 : Nat) : Int) - 1).toNat = j from by omega] at h
    exact col_yes (by omega) (by omega)

theorem ends_app (a b : List UInt8) : ends (a ++ b) = ends a + ends b := by unfold ends; rw [List.count_append]
theorem rlen_nul {s : List UInt8} {i : Nat} (h : ¬ rskip s i) (k : ((s.getD i 0).toNat : Int) = 0) : ((rcl s (i + 1)).length : Int) = ((rcl s i).length : Int) + 3 := by rw [rcl_nul h k]; simp
theorem rlen_one {s : List UInt8} {i : Nat} (h : ¬ rskip s i) (k : ¬ ((s.getD i 0).toNat : Int) = 0) : ((rcl s (i + 1)).length : Int) = ((rcl s i).length : Int) + 1 := by
  by_cases h2 : ((s.getD i 0).toNat : Int) = 13 ∨ ((s.getD i 0).toNat : Int) = 12
  · rw [rcl_lf h h2]; simp
  · rw [rcl_other h h2 k]; simp
theorem rends_yes {s : List UInt8} {i : Nat} (h : ¬ rskip s i) (k : (((s.getD i 0).toNat : Int) = 10 ∨ ((s.getD i 0).toNat : Int) = 13) ∨ ((s.getD i 0).toNat : Int) = 12) : (ends (rcl s (i + 1)) : Int) = (ends (rcl s i) : Int) + 1 := by
  by_cases h2 : ((s.getD i 0).toNat : Int) = 13 ∨ ((s.getD i 0).toNat : Int) = 12
  · rw [rcl_lf h h2, ends_app]; rfl
  · rw [rcl_other h h2 (by omega), ends_app, (is10 (c := s.getD i 0)).1 (by omega)]; rfl
theorem ends_one {c : UInt8} (h : ¬ (c.toNat : Int) = 10) : ends [c] = 0 := by
  unfold ends
  rw [List.count_eq_zero_of_not_mem]
  simp only [List.mem_singleton]
  exact fun e => h (is10.2 e.symm)
theorem rends_no {s : List UInt8} {i : Nat} (h : ¬ rskip s i) (k : ¬ ((((s.getD i 0).toNat : Int) = 10 ∨ ((s.getD i 0).toNat : Int) = 13) ∨ ((s.getD i 0).toNat : Int) = 12)) : (ends (rcl s (i + 1)) : Int) = (ends (rcl s i) : Int) := by
  by_cases h0 : ((s.getD i 0).toNat : Int) = 0
  · rw [rcl_nul h h0, ends_app]; rfl
  · rw [rcl_other h (by omega) h0, ends_app, ends_one (by omega)]; rfl
theorem bytes_end {s : List UInt8} (h : s.length ≤ 500) : ((((decide ((0 : Int) = 0) && decide (pErr (cleaned s) ((cleaned s).length : Int) = 0)) && decide (((cleaned s).length : Int) = ((rcl s s.length).length : Int))) && decide (pRow (cleaned s) ((cleaned s).length : Int) = ((ends (rcl s s.length) : Int) + 1))) && true) = true := by
  have hl := cleaned_len s
  have hc : check (cleaned s) = 0 := check_ok (by omega) (cleaned_clean s)
  obtain ⟨h1, _, h3⟩ := place_in (s := cleaned s) (k := ((cleaned s).length : Int)) hc (by omega)
  rw [h1, h3, rcl_all, Int.toNat_natCast, List.take_length]
  simp
end Go.Lay1
namespace Go.Lay1
/-! ### Texts of zeros -/
def zs (l : Nat) : List UInt8 := List.replicate l 0
def rs (l : Nat) : List UInt8 := (List.replicate l [239, 191, 189]).flatten
theorem zs_len (l : Nat) : (zs l).length = l := by simp [zs]
theorem rs_succ (l : Nat) : rs (l + 1) = [239, 191, 189] ++ rs l := by unfold rs; rw [List.replicate_succ]; simp
theorem rs_succ' (l : Nat) : rs (l + 1) = rs l ++ [239, 191, 189] := by unfold rs; rw [List.replicate_succ']; simp
theorem rs_len (l : Nat) : (rs l).length = 3 * l := by
  induction l with
  | zero => rfl
  | succ l ih => rw [rs_succ, List.length_append, ih]; simp; omega
theorem zs_get {l i : Nat} (h : i < l) : (zs l).getD i 0 = 0 := by
  unfold zs
  rw [List.getD_eq_getElem?_getD, List.getElem?_replicate, if_pos h]; rfl
theorem cl_zs (l i : Nat) (h : i ≤ l) : cl (zs l) i = rs i := by
  induction i with
  | zero => rfl
  | succ i ih => rw [cl_nul (by rw [zs_get (by omega)]; rfl), ih (by omega), rs_succ']
theorem cleaned_zs (l : Nat) : cleaned (zs l) = rs l := by unfold cleaned; rw [zs_len]; exact cl_zs l l (Nat.le_refl _)
theorem pack_zs (l : Nat) : Vm.packL (zs l) = 0 := by
  induction l with
  | zero => rfl
  | succ l ih => unfold zs at ih ⊢; rw [List.replicate_succ]; unfold Vm.packL; rw [ih]; rfl
/-- The packed bytes of l replacement characters. -/
def rep (l : Nat) : Nat := 12435439 * ((256 ^ (3 * l) - 1) / 16777215)
theorem pow_rep (l : Nat) : ∃ g, 256 ^ (3 * l) = 16777215 * g + 1 ∧ rep l = 12435439 * g := by
  have key : ∃ g, 256 ^ (3 * l) = 16777215 * g + 1 := by
    induction l with
    | zero => exact ⟨0, rfl⟩
    | succ l ih =>
      obtain ⟨g, hg⟩ := ih
      exact ⟨16777216 * g + 1, by rw [show 3 * (l + 1) = 3 * l + 3 from by omega, Nat.pow_add, hg]; omega⟩
  obtain ⟨g, hg⟩ := key
  refine ⟨g, hg, ?_⟩
  unfold rep
  rw [hg]
  congr 1
  omega
theorem rep_succ (l : Nat) : rep (l + 1) = 12435439 + 16777216 * rep l := by
  obtain ⟨g, h1, h2⟩ := pow_rep l
  obtain ⟨g', h1', h2'⟩ := pow_rep (l + 1)
  rw [show 3 * (l + 1) = 3 * l + 3 from by omega, Nat.pow_add, h1] at h1'
  rw [h2, h2']
  omega
theorem pack_rs (l : Nat) : Vm.packL (rs l) = rep l := by
  induction l with
  | zero => rfl
  | succ l ih =>
    rw [rs_succ, Vm.packL_append, ih, rep_succ]
    rfl
end Go.Lay1
