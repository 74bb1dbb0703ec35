/-
  The faster evaluator tells nothing but what the evaluator tells: operations, code, calls. Nothing is claimed here.
-/
import Derived.Test.YteepfgedogiphaaDoorVj
namespace Go.Vk
open Go.Vm

section
variable {P : Program} {ro : Nat}

/-! ### Values -/

theorem optV_true {r : Option V} {k : V → Bool} (h : optV r k = true) : ∃ v, r = some v ∧ k v = true := by
  cases r with
  | none => exact no h
  | some v => exact ⟨v, rfl, (forceK_eq _ _).symm.trans h⟩
theorem optSt_true {r : Option (V × St)} {k : V → St → Bool} (h : optSt r k = true) : ∃ v st, r = some (v, st) ∧ k v st = true := by
  cases r with
  | none => exact no h
  | some x => exact ⟨x.1, x.2, rfl, h⟩
theorem kindN_inj {a b : IntKind} (h : Nat.beq (kindN a) (kindN b) = true) : a = b := by cases a <;> cases b <;> first | rfl | cases h
theorem sameK_true {x y : V} {k : IntKind → Int → Int → Bool} (h : sameK x y k = true) : ∃ kd a b, x = .i kd a ∧ y = .i kd b ∧ k kd a b = true := by
  obtain ⟨ka, a, rfl, h1⟩ := onI_true h
  clear h
  obtain ⟨kb, b, rfl, h2⟩ := onI_true h1
  obtain ⟨h3, h4⟩ := ifB_t h2
  obtain rfl := kindN_inj h3
  exact ⟨ka, a, b, rfl, rfl, h4⟩
theorem wrap_small {kd : IntKind} {m : Nat} (h : Nat.blt m (limN kd) = true) : kd.wrap (.ofNat m) = .ofNat m := by
  rw [Nat.blt_eq] at h
  cases kd <;> simp only [limN] at h <;> simp [IntKind.wrap, IntKind.bits, IntKind.signed] <;> omega
theorem wrapK_eq (kd : IntKind) (n : Int) (k : V → Bool) : wrapK kd n k = k (.i kd (kd.wrap n)) := forceK_eq _ _
theorem smallK_eq (kd : IntKind) (m : Nat) (k : V → Bool) : smallK kd m k = k (.i kd (kd.wrap (.ofNat m))) := by
  unfold smallK
  cases e : Nat.blt m (limN kd) with
  | false => exact wrapK_eq _ _ _
  | true => show natK m (fun m => k (.i kd (.ofNat m))) = _; rw [natK_eq, wrap_small e]
theorem wrapV_eq (kd : IntKind) (n : Int) (k : V → Bool) : wrapV kd n k = k (.i kd (kd.wrap n)) := by
  cases n with
  | ofNat m => exact smallK_eq kd m k
  | negSucc m => exact wrapK_eq _ _ _
theorem vbin_i {op : BinOp} {t : TypeId} {kd : IntKind} {a b : Int} (h1 : op ≠ .shl) (h2 : op ≠ .shr) : vbin P op t (.i kd a) (.i kd b) = vint op kd a b := by cases op <;> simp_all [vbin]

theorem kbinI_true {op : BinOp} {t : TypeId} {x y : V} {k : V → Bool} (h : (kbinI P t op).run x y k = true) : ∃ v, vbin P op t x y = some v ∧ k v = true := by
  have other : (match vbin P op t x y with | some v => forceK v k | none => false) = true → ∃ v, vbin P op t x y = some v ∧ k v = true := by
    intro h
    cases e : vbin P op t x y with
    | none => rw [e] at h; exact no h
    | some v => rw [e] at h; exact ⟨v, rfl, (forceK_eq _ _).symm.trans h⟩
  cases op with
  | add =>
    obtain ⟨kd, a, b, rfl, rfl, h0⟩ := sameK_true h
    clear h
    have h := h0
    clear h0
    refine ⟨_, by rw [vbin_i (by simp) (by simp)]; rfl, ?_⟩
    rcases onNN_true h with ⟨m, n, rfl, rfl, h2⟩ | h2 <;> clear h <;> have h := h2 <;> clear h2
    · rw [smallK_eq] at h; exact h
    · rw [wrapK_eq] at h; exact h
  | sub =>
    obtain ⟨kd, a, b, rfl, rfl, h0⟩ := sameK_true h
    clear h
    have h := h0
    clear h0
    refine ⟨_, by rw [vbin_i (by simp) (by simp)]; rfl, ?_⟩
    rcases onNN_true h with ⟨m, n, rfl, rfl, h2⟩ | h2 <;> clear h <;> have h := h2 <;> clear h2
    · rcases ifB_true h with ⟨h1, h2⟩ | ⟨_, h2⟩
      · rw [smallK_eq] at h2
        rw [Nat.ble_eq] at h1
        have e : (Int.ofNat (m - n)) = Int.ofNat m - Int.ofNat n := by simp only [Int.ofNat_eq_natCast]; omega
        rw [e] at h2; exact h2
      · rw [wrapK_eq] at h2; exact h2
    · rw [wrapK_eq] at h; exact h
  | mul =>
    obtain ⟨kd, a, b, rfl, rfl, h0⟩ := sameK_true h
    clear h
    have h := h0
    clear h0
    refine ⟨_, by rw [vbin_i (by simp) (by simp)]; rfl, ?_⟩
    rcases onNN_true h with ⟨m, n, rfl, rfl, h2⟩ | h2 <;> clear h <;> have h := h2 <;> clear h2
    · rw [smallK_eq] at h; exact h
    · rw [wrapK_eq] at h; exact h
  | lss =>
    obtain ⟨kd, a, b, rfl, rfl, h0⟩ := sameK_true h
    clear h
    have h := h0
    clear h0
    refine ⟨_, by rw [vbin_i (by simp) (by simp)]; rfl, ?_⟩
    rcases onNN_true h with ⟨m, n, rfl, rfl, h2⟩ | h2 <;> clear h <;> have h := h2 <;> clear h2
    · rw [boolF_eq] at h
      have e : Nat.blt m n = ilt (.ofNat m) (.ofNat n) := by rw [Bool.eq_iff_iff, Nat.blt_eq]; simp [ilt, Int.ofNat_eq_natCast]
      rw [e] at h; exact h
    · rw [boolF_eq] at h; exact h
  | leq =>
    obtain ⟨kd, a, b, rfl, rfl, h0⟩ := sameK_true h
    clear h
    have h := h0
    clear h0
    refine ⟨_, by rw [vbin_i (by simp) (by simp)]; rfl, ?_⟩
    rcases onNN_true h with ⟨m, n, rfl, rfl, h2⟩ | h2 <;> clear h <;> have h := h2 <;> clear h2
    · rw [boolF_eq] at h
      have e : Nat.ble m n = ile (.ofNat m) (.ofNat n) := by rw [Bool.eq_iff_iff, Nat.ble_eq]; simp [ile, Int.ofNat_eq_natCast]
      rw [e] at h; exact h
    · rw [boolF_eq] at h; exact h
  | gtr =>
    obtain ⟨kd, a, b, rfl, rfl, h0⟩ := sameK_true h
    clear h
    have h := h0
    clear h0
    refine ⟨_, by rw [vbin_i (by simp) (by simp)]; rfl, ?_⟩
    rcases onNN_true h with ⟨m, n, rfl, rfl, h2⟩ | h2 <;> clear h <;> have h := h2 <;> clear h2
    · rw [boolF_eq] at h
      have e : Nat.blt n m = ilt (.ofNat n) (.ofNat m) := by rw [Bool.eq_iff_iff, Nat.blt_eq]; simp [ilt, Int.ofNat_eq_natCast]
      rw [e] at h; exact h
    · rw [boolF_eq] at h; exact h
  | geq =>
    obtain ⟨kd, a, b, rfl, rfl, h0⟩ := sameK_true h
    clear h
    have h := h0
    clear h0
    refine ⟨_, by rw [vbin_i (by simp) (by simp)]; rfl, ?_⟩
    rcases onNN_true h with ⟨m, n, rfl, rfl, h2⟩ | h2 <;> clear h <;> have h := h2 <;> clear h2
    · rw [boolF_eq] at h
      have e : Nat.ble n m = ile (.ofNat n) (.ofNat m) := by rw [Bool.eq_iff_iff, Nat.ble_eq]; simp [ile, Int.ofNat_eq_natCast]
      rw [e] at h; exact h
    · rw [boolF_eq] at h; exact h
  | eql =>
    obtain ⟨kd, a, b, rfl, rfl, h0⟩ := sameK_true h
    clear h
    have h := h0
    clear h0
    refine ⟨_, by rw [vbin_i (by simp) (by simp)]; rfl, ?_⟩
    rcases onNN_true h with ⟨m, n, rfl, rfl, h2⟩ | h2 <;> clear h <;> have h := h2 <;> clear h2
    · rw [boolF_eq] at h
      have e : Nat.beq m n = (Int.ofNat m == Int.ofNat n) := by rw [Bool.eq_iff_iff, Nat.beq_eq]; simp [Int.ofNat_eq_natCast]; omega
      rw [e] at h; exact h
    · rw [boolF_eq] at h; exact h
  | neq =>
    obtain ⟨kd, a, b, rfl, rfl, h0⟩ := sameK_true h
    clear h
    have h := h0
    clear h0
    refine ⟨_, by rw [vbin_i (by simp) (by simp)]; rfl, ?_⟩
    rcases onNN_true h with ⟨m, n, rfl, rfl, h2⟩ | h2 <;> clear h <;> have h := h2 <;> clear h2
    · rw [boolF_eq] at h
      have e : Nat.beq m n = (Int.ofNat m == Int.ofNat n) := by rw [Bool.eq_iff_iff, Nat.beq_eq]; simp [Int.ofNat_eq_natCast]; omega
      rw [e] at h; exact h
    · rw [boolF_eq] at h; exact h
  | _ => exact other h

theorem kbin_true {op : BinOp} {t : TypeId} {x y : V} {k : V → Bool} (h : (kbin P op t).run x y k = true) : ∃ v, vbin P op t x y = some v ∧ k v = true := by
  unfold kbin at h
  split at h
  · exact kbinI_true h
  · dsimp only at h
    cases e : vbin P op t x y with
    | none => rw [e] at h; exact no h
    | some v => rw [e] at h; exact ⟨v, rfl, (forceK_eq _ _).symm.trans h⟩

theorem kindex_true {t : TypeId} {x y : V} {k : V → Bool} (h : (kindex P t).run x y k = true) : ∃ kd i v, y = .i kd i ∧ vindex P t x i = some v ∧ k v = true := by
  unfold kindex at h
  split at h
  · rename_i ht
    obtain ⟨len, bits, rfl, hz⟩ := onS_true h
    clear h
    have h := hz
    clear hz
    obtain ⟨kd, i, rfl, hz⟩ := onI_true h
    clear h
    have h := hz
    clear hz
    rcases onN_true h with ⟨m, rfl, hz⟩ | hz <;> clear h <;> have h := hz <;> clear hz
    · obtain ⟨h1, h2⟩ := ifB_t h
      rw [natK_eq] at h2
      rw [Nat.blt_eq] at h1
      refine ⟨kd, _, _, rfl, ?_, h2⟩
      have hb : (ile 0 (Int.ofNat m) && ilt (Int.ofNat m) len) = true := by simp [ile, ilt, Int.ofNat_eq_natCast]; omega
      simp only [vindex, ht, hb, cond_true]
      rfl
    · exact no h
  · obtain ⟨kd, i, rfl, hz⟩ := onI_true h
    clear h
    have h := hz
    clear hz
    cases e : vindex P t x i with
    | none => rw [e] at h; exact no h
    | some v => rw [e] at h; exact ⟨kd, i, v, rfl, e, (forceK_eq _ _).symm.trans h⟩

end
end Go.Vk
