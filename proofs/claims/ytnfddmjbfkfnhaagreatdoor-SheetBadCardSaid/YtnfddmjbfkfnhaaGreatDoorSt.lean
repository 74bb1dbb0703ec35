/-
  The order of a region of open order, found faster. Nothing is claimed here.
-/
import Derived.Test.YtnfddmjbfkfnhaaGreatDoorVn
namespace Go.Sx
open Go.Vm

/-- Has all that an operation waits for come? -/
def rdy (mask : Nat) (o : Oper) : Bool := o.after.toList.all fun e => !Region.binds .any e || Nat.testBit mask e.on
/-- The others, but this one. -/
def butK {R : Type} (i : Nat) : List (Nat × Oper) → (List (Nat × Oper) → R) → R
  | [], k => k []
  | x :: r, k => cond (Nat.beq x.1 i) (butK i r k) (butK i r fun r => k (x :: r))
theorem butK_eq {R : Type} {i : Nat} : ∀ (l : List (Nat × Oper)) (k : List (Nat × Oper) → R), butK i l k = k (l.filter fun x => !Nat.beq x.1 i)
  | [], k => rfl
  | x :: r, k => by
    rw [butK, List.filter_cons]
    cases h : Nat.beq x.1 i with
    | true => simp only [cond_true, Bool.not_true, Bool.false_eq_true, if_false]; exact butK_eq r k
    | false => simp only [cond_false, Bool.not_false, if_true]; exact butK_eq r _
def numK {R : Type} : Nat → List Oper → (List (Nat × Oper) → R) → R
  | _, [], k => k []
  | i, o :: r, k => natF (i + 1) fun j => numK j r fun l => k ((i, o) :: l)
def freeF (ops : Array Oper) (i : Nat) (oi : Oper) : List (Nat × Oper) → Bool
  | [] => true
  | x :: r => cond (Nat.beq x.1 i || (x.2.after.toList.any (fun e => Region.binds .any e && e.on == i) || oi.apart ops x.2)) (freeF ops i oi r) false
def fstRdy (mask : Nat) : List (Nat × Oper) → Option (Nat × Oper)
  | [] => none
  | x :: r => cond (Nat.ble (opCls x.2.op) 1 && rdy mask x.2) (some x) (fstRdy mask r)
def allRdy (mask : Nat) : List (Nat × Oper) → List (Nat × Oper)
  | [] => []
  | x :: r => cond (rdy mask x.2) (x :: allRdy mask r) (allRdy mask r)
def fastGo (ops : Array Oper) : Nat → Nat → List (Nat × Oper) → Option (List (Nat × Oper))
  | 0, _, rest => match rest with
    | [] => some []
    | _ :: _ => none
  | f + 1, mask, rest => match fstRdy mask rest with
    | some x => cond (freeF ops x.1 x.2 rest) (natF (mask ||| 2 ^ x.1) fun mask' => butK x.1 rest fun rest' => match fastGo ops f mask' rest' with
      | some l => some (x :: l)
      | none => none) none
    | none => match allRdy mask rest with
      | [x] => natF (mask ||| 2 ^ x.1) fun mask' => butK x.1 rest fun rest' => match fastGo ops f mask' rest' with
        | some l => some (x :: l)
        | none => none
      | _ => none

theorem natFe {R : Type} (n : Nat) (k : Nat → R) : natF n k = k n := by cases n <;> rfl
theorem numK_eq {R : Type} : ∀ (l : List Oper) (i : Nat) (k : List (Nat × Oper) → R), ∃ r, numK i l k = k r ∧ r.map (·.1) = (List.range l.length).map (i + ·) ∧ ∀ x ∈ r, i ≤ x.1 ∧ l[x.1 - i]? = some x.2
  | [], i, k => ⟨[], rfl, rfl, fun _ h => by cases h⟩
  | o :: l, i, k => by
    obtain ⟨r, h1, h2, h3⟩ := numK_eq l (i + 1) (fun r => k ((i, o) :: r))
    refine ⟨(i, o) :: r, ?_, ?_, fun x hx => ?_⟩
    · rw [numK, natFe]; exact h1
    · rw [List.map_cons, h2, List.length_cons, List.range_succ_eq_map, List.map_cons, List.map_map]
      simp only [Nat.add_zero, List.cons.injEq, true_and]
      exact List.map_congr_left fun a _ => by show i + 1 + a = i + (a + 1); omega
    · rcases List.mem_cons.1 hx with rfl | hx
      · exact ⟨Nat.le_refl _, by simp⟩
      · obtain ⟨q1, q2⟩ := h3 x hx
        refine ⟨by omega, ?_⟩
        rw [show x.1 - i = (x.1 - (i + 1)) + 1 by omega, List.getElem?_cons_succ]
        exact q2

/-- What is told of what has come. -/
structure Rl (ops : Array Oper) (listed : Array Bool) (mask : Nat) (rest : List (Nat × Oper)) : Prop where
  size : listed.size = ops.size
  bit : ∀ k, listed.getD k false = Nat.testBit mask k
  ids : rest.map (·.1) = (List.range ops.size).filter fun i => !listed.getD i true
  get : ∀ x ∈ rest, ops[x.1]? = some x.2

theorem rdy_eq {ops : Array Oper} {listed : Array Bool} {mask : Nat} {rest : List (Nat × Oper)} (h : Rl ops listed mask rest) {o : Oper} : (o.after.all fun e => !Region.binds .any e || listed.getD e.on false) = rdy mask o := by
  unfold rdy
  rw [← Array.all_toList]
  congr 1
  funext e
  rw [h.bit]
theorem ready_eq {ops : Array Oper} {listed : Array Bool} {mask : Nat} {rest : List (Nat × Oper)} (h : Rl ops listed mask rest) : Region.ready .any ops listed = (rest.filter fun x => rdy mask x.2).map (·.1) := by
  have : Region.ready .any ops listed = ((List.range ops.size).filter fun i => !listed.getD i true).filter fun i => ((ops[i]?).map (fun o => rdy mask o)).getD false := by
    unfold Region.ready
    rw [List.filter_filter]
    congr 1
    funext i
    rw [Bool.and_comm]
    congr 1
    cases ops[i]? with
    | none => rfl
    | some o => exact rdy_eq h
  rw [this, ← h.ids, List.filter_map]
  congr 1
  refine List.filter_congr fun x hx => ?_
  show ((ops[x.1]?).map (fun o => rdy mask o)).getD false = rdy mask x.2
  rw [h.get x hx]
  rfl
theorem allRdy_eq {mask : Nat} : ∀ rest, allRdy mask rest = rest.filter fun x => rdy mask x.2
  | [] => rfl
  | x :: r => by
    rw [allRdy, List.filter_cons, allRdy_eq r]
    cases rdy mask x.2 <;> rfl
theorem fst_find {ops : Array Oper} {mask : Nat} : ∀ (rest : List (Nat × Oper)), (∀ x ∈ rest, ops[x.1]? = some x.2) → (((rest.filter fun x => rdy mask x.2).map (·.1)).find? (clsAt ops)) = (fstRdy mask rest).map (·.1)
  | [], _ => rfl
  | x :: r, h => by
    have ih := fst_find (mask := mask) r fun y hy => h y (List.mem_cons_of_mem _ hy)
    have hc : clsAt ops x.1 = Nat.ble (opCls x.2.op) 1 := by
      unfold clsAt
      rw [h x List.mem_cons_self]
    rw [fstRdy, List.filter_cons]
    cases hr : rdy mask x.2 with
    | false => rw [Bool.and_false, cond_false]; simpa only [Bool.false_eq_true, if_false] using ih
    | true =>
      rw [Bool.and_true]
      simp only [if_true, List.map_cons, List.find?_cons, hc]
      cases Nat.ble (opCls x.2.op) 1 with
      | true => rfl
      | false => exact ih
theorem fst_mem {mask : Nat} {x : Nat × Oper} : ∀ {rest : List (Nat × Oper)}, fstRdy mask rest = some x → x ∈ rest
  | [], h => by cases h
  | y :: r, h => by
    rw [fstRdy] at h
    cases hc : (Nat.ble (opCls y.2.op) 1 && rdy mask y.2) with
    | true => rw [hc] at h; cases h; exact List.mem_cons_self
    | false => rw [hc] at h; exact List.mem_cons_of_mem _ (fst_mem h)
theorem free_all {ops : Array Oper} {i : Nat} {oi : Oper} : ∀ {rest : List (Nat × Oper)}, freeF ops i oi rest = true → ∀ x ∈ rest, (Nat.beq x.1 i || (x.2.after.toList.any (fun e => Region.binds .any e && e.on == i) || oi.apart ops x.2)) = true
  | [], _, x, hx => by cases hx
  | y :: r, h, x, hx => by
    rw [freeF] at h
    cases hc : (Nat.beq y.1 i || (y.2.after.toList.any (fun e => Region.binds .any e && e.on == i) || oi.apart ops y.2)) with
    | false => rw [hc] at h; cases h
    | true =>
      rw [hc] at h
      rcases List.mem_cons.1 hx with rfl | hx
      · exact hc
      · exact free_all h x hx
theorem free_ok {ops : Array Oper} {listed : Array Bool} {mask : Nat} {rest : List (Nat × Oper)} (h : Rl ops listed mask rest) {x : Nat × Oper} (hx : x ∈ rest) (hf : freeF ops x.1 x.2 rest = true) : Region.free .any ops listed x.1 = true := by
  unfold Region.free
  rw [h.get x hx]
  refine List.all_eq_true.2 fun j hj => ?_
  cases hl : listed.getD j true with
  | true => simp
  | false =>
    have hm : j ∈ rest.map (·.1) := by
      rw [h.ids]
      exact List.mem_filter.2 ⟨hj, by rw [hl]; rfl⟩
    obtain ⟨y, hy, rfl⟩ := List.mem_map.1 hm
    have := free_all hf y hy
    rw [h.get y hy]
    simp only [Bool.or_false]
    rw [Bool.or_eq_true] at this ⊢
    refine this.imp (fun q => by rw [Nat.beq_eq] at q; exact beq_iff_eq.2 q) fun q => ?_
    rw [← Array.any_toList]
    exact q
theorem Rl.step {ops : Array Oper} {listed : Array Bool} {mask : Nat} {rest : List (Nat × Oper)} (h : Rl ops listed mask rest) {x : Nat × Oper} (hx : x ∈ rest) : Rl ops (listed.setIfInBounds x.1 true) (mask ||| 2 ^ x.1) (rest.filter fun y => !Nat.beq y.1 x.1) := by
  have hi : x.1 < listed.size := by
    rw [h.size]
    exact (Array.getElem?_eq_some_iff.1 (h.get x hx)).1
  have hget : ∀ (k : Nat) (d : Bool), (listed.setIfInBounds x.1 true).getD k d = cond (Nat.beq k x.1) true (listed.getD k d) := fun k d => by
    rw [Array.getD_eq_getD_getElem?, Array.getD_eq_getD_getElem?, Array.getElem?_setIfInBounds]
    by_cases q : x.1 = k
    · subst q
      rw [if_pos rfl, if_pos hi]
      simp
    · rw [if_neg q]
      have : Nat.beq k x.1 = false := by
        cases e : Nat.beq k x.1 with
        | false => rfl
        | true => rw [Nat.beq_eq] at e; exact absurd e.symm q
      rw [this]
      rfl
  refine ⟨by rw [Array.size_setIfInBounds]; exact h.size, fun k => ?_, ?_, fun y hy => h.get y (List.mem_filter.1 hy).1⟩
  · rw [hget, h.bit, Nat.testBit_or, Nat.testBit_two_pow]
    cases e : Nat.beq k x.1 with
    | true => rw [Nat.beq_eq] at e; subst e; simp
    | false =>
      have : ¬ x.1 = k := fun q => by rw [q] at e; simp at e
      simp [this]
  · have hm : (rest.filter fun y => !Nat.beq y.1 x.1).map (·.1) = (rest.map (·.1)).filter fun k => !Nat.beq k x.1 := by rw [List.filter_map]; rfl
    rw [hm, h.ids, List.filter_filter]
    refine List.filter_congr fun k _ => ?_
    rw [hget]
    cases Nat.beq k x.1 <;> simp

theorem fastGo_ok {ops : Array Oper} : ∀ (f : Nat) {listed : Array Bool} {mask : Nat} {rest : List (Nat × Oper)} {l : List (Nat × Oper)}, Rl ops listed mask rest → fastGo ops f mask rest = some l → planGo ops f listed = some l
  | 0, listed, mask, rest, l, hR, h => by
    rw [planGo, ready_eq hR]
    cases rest with
    | nil => exact h
    | cons x r => cases h
  | f + 1, listed, mask, rest, l, hR, h => by
    rw [planGo, ready_eq hR, fst_find rest hR.get]
    rw [fastGo] at h
    cases hx : fstRdy mask rest with
    | some x =>
      rw [hx] at h
      have hm := fst_mem hx
      dsimp only [Option.map_some] at h ⊢
      cases hf : freeF ops x.1 x.2 rest with
      | false => rw [hf] at h; cases h
      | true =>
        rw [hf, cond_true, natFe, butK_eq] at h
        rw [free_ok hR hm hf, hR.get x hm]
        dsimp only
        cases hg : fastGo ops f (mask ||| 2 ^ x.1) (rest.filter fun y => !Nat.beq y.1 x.1) with
        | none => rw [hg] at h; cases h
        | some l' =>
          rw [hg] at h
          rw [fastGo_ok f (hR.step hm) hg]
          exact h
    | none =>
      rw [hx] at h
      dsimp only [Option.map_none] at h ⊢
      rw [allRdy_eq] at h
      cases hy : (rest.filter fun x => rdy mask x.2) with
      | nil => rw [hy] at h; cases h
      | cons x r => cases r with
        | cons _ _ => rw [hy] at h; cases h
        | nil =>
          rw [hy] at h
          have hm : x ∈ rest := (List.mem_filter.1 (by rw [hy]; exact List.mem_cons_self : x ∈ rest.filter fun x => rdy mask x.2)).1
          rw [show List.map (fun x : Nat × Oper => x.1) [x] = [x.1] from rfl]
          dsimp only at h ⊢
          rw [natFe, butK_eq] at h
          rw [hR.get x hm]
          dsimp only
          cases hg : fastGo ops f (mask ||| 2 ^ x.1) (rest.filter fun y => !Nat.beq y.1 x.1) with
          | none => rw [hg] at h; cases h
          | some l' =>
            rw [hg] at h
            rw [fastGo_ok f (hR.step hm) hg]
            exact h

variable (P : Program)
def planF (ops : Array Oper) : Option (List (Nat × Oper)) := match Region.noSelect ops with
  | true => numK 0 ops.toList fun rest => match fastGo ops ops.size 0 rest with
    | some l => some l
    | none => planOf P ops
  | false => none
theorem planF_eq (ops : Array Oper) : planF P ops = planOf P ops := by
  unfold planF
  cases hs : Region.noSelect ops with
  | false => unfold planOf; rw [hs]
  | true =>
    dsimp only
    obtain ⟨r, h1, h2, h3⟩ := numK_eq ops.toList 0 (fun rest => match fastGo ops ops.size 0 rest with
      | some l => some l
      | none => planOf P ops)
    rw [h1]
    cases hf : fastGo ops ops.size 0 r with
    | none => rfl
    | some l =>
      have hR : Rl ops (Array.replicate ops.size false) 0 r := by
        refine ⟨by simp, fun k => ?_, ?_, fun x hx => ?_⟩
        · rw [Array.getD_eq_getD_getElem?, Array.getElem?_replicate]
          split <;> simp
        · rw [h2]
          simp only [Nat.zero_add, List.map_id', Array.length_toList]
          refine (List.filter_eq_self.2 fun i hi => ?_).symm
          rw [Array.getD_eq_getD_getElem?, Array.getElem?_replicate, if_pos (List.mem_range.1 hi)]
          rfl
        · have := (h3 x hx).2
          rw [Nat.sub_zero, Array.getElem?_toList] at this
          exact this
      have := fastGo_ok ops.size hR hf
      unfold planOf
      rw [hs]
      dsimp only
      rw [this]
end Go.Sx
