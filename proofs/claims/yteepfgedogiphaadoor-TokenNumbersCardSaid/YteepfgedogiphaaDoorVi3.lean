/-
  The faster evaluator tells nothing but what the evaluator tells: memory. Nothing is claimed here.
-/
import Derived.Test.YteepfgedogiphaaDoorVi2
namespace Go.Vk
open Go.Vm

section
variable {P : Program} {ro : Nat}

/-! ### Memory -/

theorem kappend_true {t : TypeId} {st : St} {s x : V} {k : V → St → Bool} (h : (kappend P ro t).run st s x k = true) : ∃ v st', vappend P ro st t s x = some (v, st') ∧ k v st' = true := by
  unfold kappend at h
  split at h
  · rename_i e hu
    cases hi : P.info? e with
    | none => rw [hi] at h; exact no h
    | some ti =>
      rw [hi] at h
      dsimp only at h
      rw [natF_eq, natF_eq] at h
      cases hc : (Nat.blt 0 ti.size && Nat.blt 0 ti.bytes && zeroFits P e ti.size) with
      | false => rw [hc] at h; exact no h
      | true =>
        rw [hc] at h
        dsimp only at h
        obtain ⟨n, new, h1, h2, h⟩ := firstK_true h
        rcases onSl_true h with ⟨id, off, len, cap, op, rfl, hz⟩ | ⟨rfl, hz⟩ | ⟨_, _, _, hz⟩ <;> clear h <;> have h := hz <;> clear hz
        · obtain ⟨b, h3, h⟩ := blkK_true h
          obtain ⟨h4, h⟩ := ifB_t h
          rcases ifB_true h with ⟨h5, h⟩ | ⟨h5, h⟩
          · obtain ⟨h6, h⟩ := ifB_t h
            rw [onBlk_eq] at h
            obtain ⟨cs, h7, h⟩ := putK_true h
            rw [writeK_eq, natK_eq] at h
            exact ⟨_, _, by simp only [vappend, hu, hi, h1, h2, hc, cond_true, h3, h4, h5, h6, h7, natF_eq], h⟩
          · rw [onBlk_eq] at h
            have fin : ∀ b' : Blk, vgrown b off len ti.size new = some b' → ifB op (ifB (Nat.ble ro id && b.op && Nat.beq b.es ti.size && Nat.beq (off + cap * ti.size) b.sz) (writeK st id none fun st => allocK st b' fun nx st => natK (len + n) fun m => k (.sl nx 0 m m true) st) false)
                  (allocK st b' fun nx st => natK (len + n) fun m => k (.sl nx 0 m m true) st) = true → ∃ v st', vappend P ro st t (.sl id off len cap op) x = some (v, st') ∧ k v st' = true := by
              intro b' hg h
              rcases ifB_true h with ⟨rfl, h⟩ | ⟨rfl, h⟩
              · obtain ⟨h8, h⟩ := ifB_t h
                rw [killK_eq, allocK_eq, natK_eq] at h
                refine ⟨_, _, ?_, h⟩
                simp only [vappend, hu, hi, h1, h2, hc, cond_true, cond_false, h3, h4, h5, hg, h8, natF_eq]
                rw [St.kill_eq]
              · rw [allocK_eq, natK_eq] at h
                refine ⟨_, _, ?_, h⟩
                simp only [vappend, hu, hi, h1, h2, hc, cond_true, cond_false, h3, h4, h5, hg, natF_eq]
            rcases ifB_true h with ⟨h6, h⟩ | ⟨h6, h⟩
            · rw [lenK_eq, natK_eq] at h
              obtain ⟨cs, h7, h⟩ := putK_true (b := ⟨b.cs, b.zero, b.sz + new.length, b.es, true⟩) h
              refine fin _ ?_ h
              simp only [vgrown, h6, cond_true, Blk.grow]
              exact h7
            · obtain ⟨old, h7, h⟩ := rowK_true h
              obtain ⟨b', h8, h⟩ := newK_true h
              refine fin _ ?_ h
              simp only [vgrown, h6, cond_false, h7]
              exact h8
        · obtain ⟨h4, h⟩ := ifB_t h
          rcases ifB_true h with ⟨h5, h⟩ | ⟨h5, h⟩
          · exact ⟨_, _, by simp only [vappend, hu, hi, h1, h2, hc, cond_true, h4, h5], h⟩
          · obtain ⟨b, h6, h⟩ := newK_true h
            rw [allocK_eq] at h
            exact ⟨_, _, by simp only [vappend, hu, hi, h1, h2, hc, cond_true, cond_false, h4, h5, h6, natF_eq], h⟩
        · exact no h
  · exact no h

end
end Go.Vk
