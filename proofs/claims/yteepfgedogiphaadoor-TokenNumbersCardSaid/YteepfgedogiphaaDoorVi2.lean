/-
  The faster evaluator tells nothing but what the evaluator tells: memory. Nothing is claimed here.
-/
import Derived.Test.YteepfgedogiphaaDoorVi
namespace Go.Vk
open Go.Vm

section
variable {P : Program} {ro : Nat}

/-! ### Memory -/

theorem kload_true {t : TypeId} {st : St} {id off : Nat} {k : V → Bool} (h : (kload P t).run st id off k = true) : ∃ v, vload P st t id off = some v ∧ k v = true := by
  unfold kload at h
  unfold vload
  cases hi : P.info? t with
  | none => rw [hi] at h; exact no h
  | some ti =>
    cases hu : P.underlying t with
    | none => rw [hi, hu] at h; exact no h
    | some d =>
      rw [hi, hu] at h
      dsimp only at h
      cases ha : isAggB P t with
      | true =>
        rw [ha] at h
        dsimp only at h
        rw [natF_eq] at h
        obtain ⟨b, h1, h2⟩ := blkK_true h
        rw [onBlk_eq] at h2
        obtain ⟨cs, h3, h4⟩ := rowK_true h2
        exact ⟨.a cs, by simp only [h1, cond_true, h3], h4⟩
      | false =>
        rw [ha] at h
        obtain ⟨b, h1, h2⟩ := blkK_true h
        rw [onBlk_eq] at h2
        obtain ⟨v, h3, h4⟩ := cellK_true h2
        exact ⟨v, by simp only [h1, cond_false, h3], h4⟩

theorem kstore_true {t : TypeId} {st : St} {id off : Nat} {v : V} {k : St → Bool} (h : (kstore P ro t).run st id off v k = true) : ∃ st', vstore P ro st t id off v = some st' ∧ k st' = true := by
  unfold kstore at h
  unfold vstore
  cases hi : P.info? t with
  | none => rw [hi] at h; exact no h
  | some ti =>
    rw [hi] at h
    dsimp only at h
    rw [natF_eq] at h
    obtain ⟨b, h1, h2⟩ := blkK_true h
    rw [cellsV_eq] at h2
    obtain ⟨h3, h4⟩ := ifB_t h2
    rw [lenK_eq] at h4
    obtain ⟨h5, h6⟩ := ifB_t h4
    rw [onBlk_eq] at h6
    obtain ⟨cs, h7, h8⟩ := putK_true h6
    rw [writeK_eq] at h8
    exact ⟨_, by simp only [h1, h3, h5, Bool.and_self, cond_true, h7], h8⟩

theorem kvalloc_true {st : St} {v : V} {es : Nat} {k : V → St → Bool} (h : kvalloc st v es k = true) : ∃ x st', valloc st v es = some (x, st') ∧ k x st' = true := by
  unfold kvalloc at h
  rw [cellsV_eq] at h
  obtain ⟨b, h1, h2⟩ := newK_true h
  rw [allocK_eq] at h2
  exact ⟨_, _, by simp only [valloc, h1, natF_eq], h2⟩

theorem setAt_all : ∀ (vs cs pre : List V), vs.length = cs.length → setAt (pre ++ cs) pre.length vs = pre ++ vs
  | [], cs, pre, h => by
    have : cs = [] := List.length_eq_zero_iff.1 h.symm
    simp [setAt, this]
  | v :: r, [], pre, h => by simp at h
  | v :: r, c :: cs, pre, h => by
    have h' : r.length = cs.length := by simpa using h
    have := setAt_all r cs (pre ++ [v]) h'
    simp only [setAt]
    rw [List.set_append_right _ _ (Nat.le_refl _), Nat.sub_self, List.set_cons_zero]
    rw [List.length_append] at this
    simp only [List.append_assoc, List.singleton_append, List.length_singleton] at this
    exact this

theorem kone_true {t : TypeId} {st : St} {v : V} {k : V → St → Bool} (h : (kone P t).run st v k = true) : ∃ x st', vbuildSlice P st t 1 [(0, v)] = some (x, st') ∧ k x st' = true := by
  unfold kone at h
  split at h
  · rename_i e hu
    cases hs : sizeB P e with
    | none => rw [hs] at h; exact no h
    | some n =>
      cases hz : zeroOf P e with
      | none => rw [hs, hz] at h; exact no h
      | some z =>
        rw [hs, hz] at h
        dsimp only at h
        cases hc : (Nat.ble (1 * n) 16777216 && Nat.blt 0 n && Nat.beq z.cells.length n) with
        | false => rw [hc] at h; exact no h
        | true =>
          rw [hc] at h
          dsimp only at h
          rw [natF_eq] at h
          dsimp only at h
          rw [cellsV_eq, lenK_eq] at h
          obtain ⟨h1, h2⟩ := ifB_t h
          obtain ⟨b, h3, h4⟩ := newK_true h2
          rw [allocK_eq] at h4
          refine ⟨_, _, ?_, h4⟩
          have hl : v.cells.length = n := Nat.beq_eq ▸ h1
          have hzl : z.cells.length = n := by
            have := hc
            simp only [Bool.and_eq_true, Nat.beq_eq] at this
            exact this.2
          have hset : setAt (repeatL z.cells 1) (0 * n) v.cells = v.cells := by
            have := setAt_all v.cells z.cells [] (by omega)
            simpa [repeatL] using this
          have hle : Nat.ble (0 * n + v.cells.length) (repeatL z.cells 1).length = true := by rw [Nat.ble_eq]; simp [repeatL]; omega
          simp only [vbuildSlice, hu, hs, hz, hc, cond_true, vfill, h1, hle, Bool.and_self, hset, h3, natF_eq]
  · exact no h

theorem bytesK_true : ∀ {n x : Nat} {k : List V → Bool}, bytesK n x k = true → k (cellsOfBytes n x) = true
  | 0, x, k, h => h
  | n + 1, x, k, h => by
    have h' : natK (x % 256) (fun c => natK (x / 256) fun y => bytesK n y fun r => k (.i .u8 (.ofNat c) :: r)) = true := h
    rw [natK_eq, natK_eq] at h'
    exact bytesK_true (n := n) (x := x / 256) (k := fun r => k (.i .u8 (.ofNat (x % 256)) :: r)) h'
theorem firstK_true {st : St} {es : Nat} {x : V} {k : Nat → List V → Bool} (h : firstK st es x k = true) : ∃ n new, vlen x = some n ∧ vfirst st es n x = some new ∧ k n new = true := by
  rcases onSl_true h with ⟨id, off, l, c, op, rfl, hz⟩ | ⟨rfl, hz⟩ | ⟨l, x, rfl, hz⟩ <;> clear h <;> have h := hz <;> clear hz
  · obtain ⟨b, h1, h2⟩ := blkK_true h
    rw [onBlk_eq] at h2
    obtain ⟨cs, h3, h4⟩ := rowK_true h2
    exact ⟨l, cs, rfl, by simp only [vfirst, h1, h3], h4⟩
  · exact ⟨0, [], rfl, rfl, h⟩
  · obtain ⟨h1, h2⟩ := ifB_t h
    exact ⟨l, _, rfl, by simp only [vfirst, h1, cond_true], bytesK_true h2⟩

end
end Go.Vk
