/-
  The faster evaluator tells nothing but what the evaluator tells: memory. Nothing is claimed here.
-/
import Derived.Test.YteepfgedogiphaaDoorVi3
namespace Go.Vk
open Go.Vm

section
variable {P : Program} {ro : Nat}

/-! ### Memory -/

theorem textK_step {k : Nat → Nat → Bool} : ∀ (cs : List V) (l pw acc : Nat), (List.rec (motive := fun _ => Nat → Nat → Nat → Bool) (fun l _ acc => k l acc) (fun v _ ih l pw acc => onI v fun kd n => ifB (Nat.beq (kindN kd) 4) (onN n (fun c => natK (l + 1) fun l => natK (acc + c % 256 * pw) fun acc => natK (256 * pw) fun pw => ih l pw acc) false) false) cs l pw acc : Bool) = true →
    ∃ r, bytesOfCells cs = some r ∧ k (l + r.length) (acc + pw * packL r) = true
  | [], l, pw, acc, h => ⟨[], rfl, by simpa [packL] using h⟩
  | v :: cs, l, pw, acc, h => by
    obtain ⟨kd, n, rfl, hz⟩ := onI_true h
    clear h
    have h := hz
    clear hz
    obtain ⟨h1, h⟩ := ifB_t h
    have hk : kd = .u8 := kindN_inj (b := .u8) h1
    subst hk
    rcases onN_true h with ⟨c, rfl, hz⟩ | hz <;> clear h <;> have h := hz <;> clear hz
    · rw [natK_eq, natK_eq, natK_eq] at h
      obtain ⟨r, h2, h3⟩ := textK_step cs _ _ _ h
      refine ⟨UInt8.ofNat c :: r, by simp only [bytesOfCells, h2]; rfl, ?_⟩
      have e1 : (UInt8.ofNat c).toNat = c % 256 := by simp
      simp only [packL, List.length_cons, e1]
      have e2 : acc + pw * (c % 256 + 256 * packL r) = acc + c % 256 * pw + 256 * pw * packL r := by
        rw [Nat.mul_add, Nat.mul_comm pw (c % 256), ← Nat.mul_assoc, Nat.mul_comm pw 256, Nat.add_assoc]
      rw [e2, show l + (r.length + 1) = l + 1 + r.length from by omega]
      exact h3
    · exact no h
theorem textK_true {cs : List V} {k : Nat → Nat → Bool} (h : textK cs k = true) : ∃ r, bytesOfCells cs = some r ∧ k r.length (packL r) = true := by
  obtain ⟨r, h1, h2⟩ := textK_step cs 0 1 0 h
  exact ⟨r, h1, by simpa using h2⟩

theorem kconv_true {s d : TypeId} {st : St} {x : V} {k : V → St → Bool} (h : (kconv P s d).run st x k = true) : ∃ v st', vconvert P st s d x = some (v, st') ∧ k v st' = true := by
  unfold kconv at h
  split at h
  · rename_i e hs hd
    split at h
    · rename_i he
      rcases onSl_true h with ⟨id, off, len, c, op, rfl, hz⟩ | ⟨rfl, hz⟩ | ⟨_, _, _, hz⟩ <;> clear h <;> have h := hz <;> clear hz
      · obtain ⟨b, h1, h⟩ := blkK_true h
        rw [onBlk_eq] at h
        obtain ⟨cs, h2, h⟩ := rowK_true h
        obtain ⟨r, h3, h⟩ := textK_true h
        refine ⟨_, _, ?_, h⟩
        simp only [vconvert, hs, hd, he, h1, vtext_of h2 h3]
        rfl
      · exact ⟨_, _, by simp only [vconvert, hs, hd, he], h⟩
      · exact no h
    · exact no h
  · rename_i ds hno hs hd
    obtain ⟨l, y, rfl, hz⟩ := onS_true h
    clear h
    have h := hz
    clear hz
    refine ⟨_, _, ?_, h⟩
    unfold vconvert
    rw [hs, hd]
  · rename_i ds kd hs hd
    obtain ⟨k0, n, rfl, hz⟩ := onI_true h
    clear h
    have h := hz
    clear hz
    rw [wrapV_eq] at h
    refine ⟨_, _, ?_, h⟩
    unfold vconvert
    rw [hs, hd]
  · obtain ⟨v, st', h1, h2⟩ := optSt_true h
    rw [forceK_eq] at h2
    exact ⟨v, st', h1, h2⟩
end
end Go.Vk
