/-
  The fast evaluator is sound. Nothing is claimed here. (The texts Vi, Vi2, Vi3, Vi4, one behind the other.)
-/
import Derived.Test.YtnfddmjbfkfnhaaGreatDoorVj
namespace Go.Vk
open Go.Vm

section
variable {P : Program} {ro : Nat}

/-! ### Values -/

theorem optV_true {r : Option V} {k : V → Bool} (h : optV r k = true) : ∃ v, r = some v ∧ k v = true := by
  cases r with
  | none => exact no h
  | some v => exact ⟨v, rfl, (forceK_eq _ _).symm.trans h⟩
theorem optSt_true {r : Option (V × St)} {k : V → St → Bool} (h : optSt r k = true) : ∃ v st, r = some (v, st) ∧ k v st = true := by
  cases r with
  | none => exact no h
  | some x => exact ⟨x.1, x.2, rfl, h⟩
theorem kindN_inj {a b : IntKind} (h : Nat.beq (kindN a) (kindN b) = true) : a = b := by cases a <;> cases b <;> first | rfl | cases h
theorem sameK_true {x y : V} {k : IntKind → Int → Int → Bool} (h : sameK x y k = true) : ∃ kd a b, x = .i kd a ∧ y = .i kd b ∧ k kd a b = true := by
  obtain ⟨ka, a, rfl, h1⟩ := onI_true h
  clear h
  obtain ⟨kb, b, rfl, h2⟩ := onI_true h1
  obtain ⟨h3, h4⟩ := ifB_t h2
  obtain rfl := kindN_inj h3
  exact ⟨ka, a, b, rfl, rfl, h4⟩
theorem wrap_small {kd : IntKind} {m : Nat} (h : Nat.blt m (limN kd) = true) : kd.wrap (.ofNat m) = .ofNat m := by
  rw [Nat.blt_eq] at h
  cases kd <;> simp only [limN] at h <;> simp [IntKind.wrap, IntKind.bits, IntKind.signed] <;> omega
theorem wrapK_eq (kd : IntKind) (n : Int) (k : V → Bool) : wrapK kd n k = k (.i kd (kd.wrap n)) := forceK_eq _ _
theorem smallK_eq (kd : IntKind) (m : Nat) (k : V → Bool) : smallK kd m k = k (.i kd (kd.wrap (.ofNat m))) := by
  unfold smallK
  cases e : Nat.blt m (limN kd) with
  | false => exact wrapK_eq _ _ _
  | true => show natK m (fun m => k (.i kd (.ofNat m))) = _; rw [natK_eq, wrap_small e]
theorem wrapV_eq (kd : IntKind) (n : Int) (k : V → Bool) : wrapV kd n k = k (.i kd (kd.wrap n)) := by
  cases n with
  | ofNat m => exact smallK_eq kd m k
  | negSucc m => exact wrapK_eq _ _ _
theorem vbin_i {op : BinOp} {t : TypeId} {kd : IntKind} {a b : Int} (h1 : op ≠ .shl) (h2 : op ≠ .shr) : vbin P op t (.i kd a) (.i kd b) = vint op kd a b := by cases op <;> simp_all [vbin]

theorem kbinI_true {op : BinOp} {t : TypeId} {x y : V} {k : V → Bool} (h : (kbinI P t op).run x y k = true) : ∃ v, vbin P op t x y = some v ∧ k v = true := by
  have other : (match vbin P op t x y with | some v => forceK v k | none => false) = true → ∃ v, vbin P op t x y = some v ∧ k v = true := by
    intro h
    cases e : vbin P op t x y with
    | none => rw [e] at h; exact no h
    | some v => rw [e] at h; exact ⟨v, rfl, (forceK_eq _ _).symm.trans h⟩
  cases op with
  | add =>
    obtain ⟨kd, a, b, rfl, rfl, h0⟩ := sameK_true h
    clear h
    have h := h0
    clear h0
    refine ⟨_, by rw [vbin_i (by simp) (by simp)]; rfl, ?_⟩
    rcases onNN_true h with ⟨m, n, rfl, rfl, h2⟩ | h2 <;> clear h <;> have h := h2 <;> clear h2
    · rw [smallK_eq] at h; exact h
    · rw [wrapK_eq] at h; exact h
  | sub =>
    obtain ⟨kd, a, b, rfl, rfl, h0⟩ := sameK_true h
    clear h
    have h := h0
    clear h0
    refine ⟨_, by rw [vbin_i (by simp) (by simp)]; rfl, ?_⟩
    rcases onNN_true h with ⟨m, n, rfl, rfl, h2⟩ | h2 <;> clear h <;> have h := h2 <;> clear h2
    · rcases ifB_true h with ⟨h1, h2⟩ | ⟨_, h2⟩
      · rw [smallK_eq] at h2
        rw [Nat.ble_eq] at h1
        have e : (Int.ofNat (m - n)) = Int.ofNat m - Int.ofNat n := by simp only [Int.ofNat_eq_natCast]; omega
        rw [e] at h2; exact h2
      · rw [wrapK_eq] at h2; exact h2
    · rw [wrapK_eq] at h; exact h
  | mul =>
    obtain ⟨kd, a, b, rfl, rfl, h0⟩ := sameK_true h
    clear h
    have h := h0
    clear h0
    refine ⟨_, by rw [vbin_i (by simp) (by simp)]; rfl, ?_⟩
    rcases onNN_true h with ⟨m, n, rfl, rfl, h2⟩ | h2 <;> clear h <;> have h := h2 <;> clear h2
    · rw [smallK_eq] at h; exact h
    · rw [wrapK_eq] at h; exact h
  | lss =>
    obtain ⟨kd, a, b, rfl, rfl, h0⟩ := sameK_true h
    clear h
    have h := h0
    clear h0
    refine ⟨_, by rw [vbin_i (by simp) (by simp)]; rfl, ?_⟩
    rcases onNN_true h with ⟨m, n, rfl, rfl, h2⟩ | h2 <;> clear h <;> have h := h2 <;> clear h2
    · rw [boolF_eq] at h
      have e : Nat.blt m n = ilt (.ofNat m) (.ofNat n) := by rw [Bool.eq_iff_iff, Nat.blt_eq]; simp [ilt, Int.ofNat_eq_natCast]
      rw [e] at h; exact h
    · rw [boolF_eq] at h; exact h
  | leq =>
    obtain ⟨kd, a, b, rfl, rfl, h0⟩ := sameK_true h
    clear h
    have h := h0
    clear h0
    refine ⟨_, by rw [vbin_i (by simp) (by simp)]; rfl, ?_⟩
    rcases onNN_true h with ⟨m, n, rfl, rfl, h2⟩ | h2 <;> clear h <;> have h := h2 <;> clear h2
    · rw [boolF_eq] at h
      have e : Nat.ble m n = ile (.ofNat m) (.ofNat n) := by rw [Bool.eq_iff_iff, Nat.ble_eq]; simp [ile, Int.ofNat_eq_natCast]
      rw [e] at h; exact h
    · rw [boolF_eq] at h; exact h
  | gtr =>
    obtain ⟨kd, a, b, rfl, rfl, h0⟩ := sameK_true h
    clear h
    have h := h0
    clear h0
    refine ⟨_, by rw [vbin_i (by simp) (by simp)]; rfl, ?_⟩
    rcases onNN_true h with ⟨m, n, rfl, rfl, h2⟩ | h2 <;> clear h <;> have h := h2 <;> clear h2
    · rw [boolF_eq] at h
      have e : Nat.blt n m = ilt (.ofNat n) (.ofNat m) := by rw [Bool.eq_iff_iff, Nat.blt_eq]; simp [ilt, Int.ofNat_eq_natCast]
      rw [e] at h; exact h
    · rw [boolF_eq] at h; exact h
  | geq =>
    obtain ⟨kd, a, b, rfl, rfl, h0⟩ := sameK_true h
    clear h
    have h := h0
    clear h0
    refine ⟨_, by rw [vbin_i (by simp) (by simp)]; rfl, ?_⟩
    rcases onNN_true h with ⟨m, n, rfl, rfl, h2⟩ | h2 <;> clear h <;> have h := h2 <;> clear h2
    · rw [boolF_eq] at h
      have e : Nat.ble n m = ile (.ofNat n) (.ofNat m) := by rw [Bool.eq_iff_iff, Nat.ble_eq]; simp [ile, Int.ofNat_eq_natCast]
      rw [e] at h; exact h
    · rw [boolF_eq] at h; exact h
  | eql =>
    obtain ⟨kd, a, b, rfl, rfl, h0⟩ := sameK_true h
    clear h
    have h := h0
    clear h0
    refine ⟨_, by rw [vbin_i (by simp) (by simp)]; rfl, ?_⟩
    rcases onNN_true h with ⟨m, n, rfl, rfl, h2⟩ | h2 <;> clear h <;> have h := h2 <;> clear h2
    · rw [boolF_eq] at h
      have e : Nat.beq m n = (Int.ofNat m == Int.ofNat n) := by rw [Bool.eq_iff_iff, Nat.beq_eq]; simp [Int.ofNat_eq_natCast]; omega
      rw [e] at h; exact h
    · rw [boolF_eq] at h; exact h
  | neq =>
    obtain ⟨kd, a, b, rfl, rfl, h0⟩ := sameK_true h
    clear h
    have h := h0
    clear h0
    refine ⟨_, by rw [vbin_i (by simp) (by simp)]; rfl, ?_⟩
    rcases onNN_true h with ⟨m, n, rfl, rfl, h2⟩ | h2 <;> clear h <;> have h := h2 <;> clear h2
    · rw [boolF_eq] at h
      have e : Nat.beq m n = (Int.ofNat m == Int.ofNat n) := by rw [Bool.eq_iff_iff, Nat.beq_eq]; simp [Int.ofNat_eq_natCast]; omega
      rw [e] at h; exact h
    · rw [boolF_eq] at h; exact h
  | _ => exact other h

theorem kbin_true {op : BinOp} {t : TypeId} {x y : V} {k : V → Bool} (h : (kbin P op t).run x y k = true) : ∃ v, vbin P op t x y = some v ∧ k v = true := by
  unfold kbin at h
  split at h
  · exact kbinI_true h
  · dsimp only at h
    cases e : vbin P op t x y with
    | none => rw [e] at h; exact no h
    | some v => rw [e] at h; exact ⟨v, rfl, (forceK_eq _ _).symm.trans h⟩

theorem kindex_true {t : TypeId} {x y : V} {k : V → Bool} (h : (kindex P t).run x y k = true) : ∃ kd i v, y = .i kd i ∧ vindex P t x i = some v ∧ k v = true := by
  unfold kindex at h
  split at h
  · rename_i ht
    obtain ⟨len, bits, rfl, hz⟩ := onS_true h
    clear h
    have h := hz
    clear hz
    obtain ⟨kd, i, rfl, hz⟩ := onI_true h
    clear h
    have h := hz
    clear hz
    rcases onN_true h with ⟨m, rfl, hz⟩ | hz <;> clear h <;> have h := hz <;> clear hz
    · obtain ⟨h1, h2⟩ := ifB_t h
      rw [natK_eq] at h2
      rw [Nat.blt_eq] at h1
      refine ⟨kd, _, _, rfl, ?_, h2⟩
      have hb : (ile 0 (Int.ofNat m) && ilt (Int.ofNat m) len) = true := by simp [ile, ilt, Int.ofNat_eq_natCast]; omega
      simp only [vindex, ht, hb, cond_true]
      rfl
    · exact no h
  · obtain ⟨kd, i, rfl, hz⟩ := onI_true h
    clear h
    have h := hz
    clear hz
    cases e : vindex P t x i with
    | none => rw [e] at h; exact no h
    | some v => rw [e] at h; exact ⟨kd, i, v, rfl, e, (forceK_eq _ _).symm.trans h⟩

end
end Go.Vk

namespace Go.Vk
open Go.Vm

section
variable {P : Program} {ro : Nat}

/-! ### Memory -/

theorem kload_true {t : TypeId} {st : St} {id off : Nat} {k : V → Bool} (h : (kload P t).run st id off k = true) : ∃ v, vload P st t id off = some v ∧ k v = true := by
  unfold kload at h
  unfold vload
  cases hi : P.info? t with
  | none => rw [hi] at h; exact no h
  | some ti =>
    cases hu : P.underlying t with
    | none => rw [hi, hu] at h; exact no h
    | some d =>
      rw [hi, hu] at h
      dsimp only at h
      cases ha : isAggB P t with
      | true =>
        rw [ha] at h
        dsimp only at h
        rw [natF_eq] at h
        obtain ⟨b, h1, h2⟩ := blkK_true h
        rw [onBlk_eq] at h2
        obtain ⟨cs, h3, h4⟩ := rowK_true h2
        exact ⟨.a cs, by simp only [h1, cond_true, h3], h4⟩
      | false =>
        rw [ha] at h
        obtain ⟨b, h1, h2⟩ := blkK_true h
        rw [onBlk_eq] at h2
        obtain ⟨v, h3, h4⟩ := cellK_true h2
        exact ⟨v, by simp only [h1, cond_false, h3], h4⟩

theorem kstore_true {t : TypeId} {st : St} {id off : Nat} {v : V} {k : St → Bool} (h : (kstore P ro t).run st id off v k = true) : ∃ st', vstore P ro st t id off v = some st' ∧ k st' = true := by
  unfold kstore at h
  unfold vstore
  cases hi : P.info? t with
  | none => rw [hi] at h; exact no h
  | some ti =>
    rw [hi] at h
    dsimp only at h
    rw [natF_eq] at h
    obtain ⟨b, h1, h2⟩ := blkK_true h
    rw [cellsV_eq] at h2
    obtain ⟨h3, h4⟩ := ifB_t h2
    rw [lenK_eq] at h4
    obtain ⟨h5, h6⟩ := ifB_t h4
    rw [onBlkM_eq] at h6
    obtain ⟨cs, h7, h8⟩ := putK_true h6
    rw [writeK_eq] at h8
    exact ⟨_, by simp only [h1, h3, h5, Bool.and_self, cond_true, h7], h8⟩

theorem kvalloc_true {st : St} {v : V} {es : Nat} {k : V → St → Bool} (h : kvalloc st v es k = true) : ∃ x st', valloc st v es = some (x, st') ∧ k x st' = true := by
  unfold kvalloc at h
  rw [cellsV_eq] at h
  obtain ⟨b, h1, h2⟩ := newK_true h
  rw [allocK_eq] at h2
  exact ⟨_, _, by simp only [valloc, h1, natF_eq], h2⟩

theorem setAt_all : ∀ (vs cs pre : List V), vs.length = cs.length → setAt (pre ++ cs) pre.length vs = pre ++ vs
  | [], cs, pre, h => by
    have : cs = [] := List.length_eq_zero_iff.1 h.symm
    simp [setAt, this]
  | v :: r, [], pre, h => by simp at h
  | v :: r, c :: cs, pre, h => by
    have h' : r.length = cs.length := by simpa using h
    have := setAt_all r cs (pre ++ [v]) h'
    simp only [setAt]
    rw [List.set_append_right _ _ (Nat.le_refl _), Nat.sub_self, List.set_cons_zero]
    rw [List.length_append] at this
    simp only [List.append_assoc, List.singleton_append, List.length_singleton] at this
    exact this

theorem kone_true {t : TypeId} {st : St} {v : V} {k : V → St → Bool} (h : (kone P t).run st v k = true) : ∃ x st', vbuildSlice P st t 1 [(0, v)] = some (x, st') ∧ k x st' = true := by
  unfold kone at h
  split at h
  · rename_i e hu
    cases hs : sizeB P e with
    | none => rw [hs] at h; exact no h
    | some n =>
      cases hz : zeroOf P e with
      | none => rw [hs, hz] at h; exact no h
      | some z =>
        rw [hs, hz] at h
        dsimp only at h
        cases hc : (Nat.ble (1 * n) 16777216 && Nat.blt 0 n && Nat.beq z.cells.length n) with
        | false => rw [hc] at h; exact no h
        | true =>
          rw [hc] at h
          dsimp only at h
          rw [natF_eq] at h
          dsimp only at h
          rw [cellsV_eq, lenK_eq] at h
          obtain ⟨h1, h2⟩ := ifB_t h
          obtain ⟨b, h3, h4⟩ := newK_true h2
          rw [allocK_eq] at h4
          refine ⟨_, _, ?_, h4⟩
          have hl : v.cells.length = n := Nat.beq_eq ▸ h1
          have hzl : z.cells.length = n := by
            have := hc
            simp only [Bool.and_eq_true, Nat.beq_eq] at this
            exact this.2
          have hset : setAt (repeatL z.cells 1) (0 * n) v.cells = v.cells := by
            have := setAt_all v.cells z.cells [] (by omega)
            simpa [repeatL] using this
          have hle : Nat.ble (0 * n + v.cells.length) (repeatL z.cells 1).length = true := by rw [Nat.ble_eq]; simp [repeatL]; omega
          simp only [vbuildSlice, hu, hs, hz, hc, cond_true, vfill, h1, hle, Bool.and_self, hset, h3, natF_eq]
  · exact no h

theorem bytesK_true : ∀ {n x : Nat} {k : List V → Bool}, bytesK n x k = true → k (cellsOfBytes n x) = true
  | 0, x, k, h => h
  | n + 1, x, k, h => by
    have h' : natK (x % 256) (fun c => natK (x / 256) fun y => bytesK n y fun r => k (.i .u8 (.ofNat c) :: r)) = true := h
    rw [natK_eq, natK_eq] at h'
    exact bytesK_true (n := n) (x := x / 256) (k := fun r => k (.i .u8 (.ofNat (x % 256)) :: r)) h'
theorem firstK_true {st : St} {es : Nat} {x : V} {k : Nat → List V → Bool} (h : firstK st es x k = true) : ∃ n new, vlen x = some n ∧ vfirst st es n x = some new ∧ k n new = true := by
  rcases onSl_true h with ⟨id, off, l, c, op, rfl, hz⟩ | ⟨rfl, hz⟩ | ⟨l, x, rfl, hz⟩ <;> clear h <;> have h := hz <;> clear hz
  · obtain ⟨b, h1, h2⟩ := blkK_true h
    rw [onBlk_eq] at h2
    obtain ⟨cs, h3, h4⟩ := rowK_true h2
    exact ⟨l, cs, rfl, by simp only [vfirst, h1, h3], h4⟩
  · exact ⟨0, [], rfl, rfl, h⟩
  · obtain ⟨h1, h2⟩ := ifB_t h
    exact ⟨l, _, rfl, by simp only [vfirst, h1, cond_true], bytesK_true h2⟩

end
end Go.Vk

namespace Go.Vk
open Go.Vm

section
variable {P : Program} {ro : Nat}

/-! ### Memory -/

theorem kappend_true {t : TypeId} {st : St} {s x : V} {k : V → St → Bool} (h : (kappend P ro t).run st s x k = true) : ∃ v st', vappend P ro st t s x = some (v, st') ∧ k v st' = true := by
  unfold kappend at h
  split at h
  · rename_i e hu
    cases hi : P.info? e with
    | none => rw [hi] at h; exact no h
    | some ti =>
      rw [hi] at h
      dsimp only at h
      rw [natF_eq, natF_eq] at h
      cases hc : (Nat.blt 0 ti.size && Nat.blt 0 ti.bytes && zeroFits P e ti.size) with
      | false => rw [hc] at h; exact no h
      | true =>
        rw [hc] at h
        dsimp only at h
        obtain ⟨n, new, h1, h2, h⟩ := firstK_true h
        rcases onSl_true h with ⟨id, off, len, cap, op, rfl, hz⟩ | ⟨rfl, hz⟩ | ⟨_, _, _, hz⟩ <;> clear h <;> have h := hz <;> clear hz
        · obtain ⟨b, h3, h⟩ := blkK_true h
          obtain ⟨h4, h⟩ := ifB_t h
          rcases ifB_true h with ⟨h5, h⟩ | ⟨h5, h⟩
          · obtain ⟨h6, h⟩ := ifB_t h
            rw [onBlkM_eq] at h
            obtain ⟨cs, h7, h⟩ := putK_true h
            rw [writeK_eq, natK_eq] at h
            exact ⟨_, _, by simp only [vappend, hu, hi, h1, h2, hc, cond_true, h3, h4, h5, h6, h7, natF_eq], h⟩
          · rw [onBlkM_eq] at h
            obtain ⟨hmp, h⟩ := noMap_true h
            have fin : ∀ b' : Blk, vgrown b off len ti.size new = some b' → ifB op (ifB (Nat.ble ro id && b.op && Nat.beq b.es ti.size && Nat.beq (off + cap * ti.size) b.sz) (writeK st id none fun st => allocK st b' fun nx st => natK (len + n) fun m => k (.sl nx 0 m m true) st) false)
                  (allocK st b' fun nx st => natK (len + n) fun m => k (.sl nx 0 m m true) st) = true → ∃ v st', vappend P ro st t (.sl id off len cap op) x = some (v, st') ∧ k v st' = true := by
              intro b' hg h
              rcases ifB_true h with ⟨rfl, h⟩ | ⟨rfl, h⟩
              · obtain ⟨h8, h⟩ := ifB_t h
                rw [killK_eq, allocK_eq, natK_eq] at h
                refine ⟨_, _, ?_, h⟩
                simp only [vappend, hu, hi, h1, h2, hc, cond_true, cond_false, h3, h4, h5, hg, h8, natF_eq]
                rw [St.kill_eq]
              · rw [allocK_eq, natK_eq] at h
                refine ⟨_, _, ?_, h⟩
                simp only [vappend, hu, hi, h1, h2, hc, cond_true, cond_false, h3, h4, h5, hg, natF_eq]
            rcases ifB_true h with ⟨h6, h⟩ | ⟨h6, h⟩
            · rw [lenK_eq, natK_eq] at h
              obtain ⟨cs, h7, h⟩ := putK_true (b := ⟨b.cs, b.zero, b.sz + new.length, b.es, true, none⟩) h
              refine fin _ ?_ h
              simp only [vgrown, hmp, h6, cond_true, Blk.grow]
              exact h7
            · obtain ⟨old, h7, h⟩ := rowK_true h
              obtain ⟨b', h8, h⟩ := newK_true h
              refine fin _ ?_ h
              simp only [vgrown, hmp, h6, cond_false, h7]
              exact h8
        · obtain ⟨h4, h⟩ := ifB_t h
          rcases ifB_true h with ⟨h5, h⟩ | ⟨h5, h⟩
          · exact ⟨_, _, by simp only [vappend, hu, hi, h1, h2, hc, cond_true, h4, h5], h⟩
          · obtain ⟨b, h6, h⟩ := newK_true h
            rw [allocK_eq] at h
            exact ⟨_, _, by simp only [vappend, hu, hi, h1, h2, hc, cond_true, cond_false, h4, h5, h6, natF_eq], h⟩
        · exact no h
  · exact no h

end
end Go.Vk

namespace Go.Vk
open Go.Vm

section
variable {P : Program} {ro : Nat}

/-! ### Memory -/

theorem textK_step {k : Nat → Nat → Bool} : ∀ (cs : List V) (l pw acc : Nat), (List.rec (motive := fun _ => Nat → Nat → Nat → Bool) (fun l _ acc => k l acc) (fun v _ ih l pw acc => onI v fun kd n => ifB (Nat.beq (kindN kd) 4) (onN n (fun c => natK (l + 1) fun l => natK (acc + c % 256 * pw) fun acc => natK (256 * pw) fun pw => ih l pw acc) false) false) cs l pw acc : Bool) = true →
    ∃ r, bytesOfCells cs = some r ∧ k (l + r.length) (acc + pw * packL r) = true
  | [], l, pw, acc, h => ⟨[], rfl, by simpa [packL] using h⟩
  | v :: cs, l, pw, acc, h => by
    obtain ⟨kd, n, rfl, hz⟩ := onI_true h
    clear h
    have h := hz
    clear hz
    obtain ⟨h1, h⟩ := ifB_t h
    have hk : kd = .u8 := kindN_inj (b := .u8) h1
    subst hk
    rcases onN_true h with ⟨c, rfl, hz⟩ | hz <;> clear h <;> have h := hz <;> clear hz
    · rw [natK_eq, natK_eq, natK_eq] at h
      obtain ⟨r, h2, h3⟩ := textK_step cs _ _ _ h
      refine ⟨UInt8.ofNat c :: r, by simp only [bytesOfCells, h2]; rfl, ?_⟩
      have e1 : (UInt8.ofNat c).toNat = c % 256 := by simp
      simp only [packL, List.length_cons, e1]
      have e2 : acc + pw * (c % 256 + 256 * packL r) = acc + c % 256 * pw + 256 * pw * packL r := by
        rw [Nat.mul_add, Nat.mul_comm pw (c % 256), ← Nat.mul_assoc, Nat.mul_comm pw 256, Nat.add_assoc]
      rw [e2, show l + (r.length + 1) = l + 1 + r.length from by omega]
      exact h3
    · exact no h
theorem textK_true {cs : List V} {k : Nat → Nat → Bool} (h : textK cs k = true) : ∃ r, bytesOfCells cs = some r ∧ k r.length (packL r) = true := by
  obtain ⟨r, h1, h2⟩ := textK_step cs 0 1 0 h
  exact ⟨r, h1, by simpa using h2⟩

theorem kconv_true {s d : TypeId} {st : St} {x : V} {k : V → St → Bool} (h : (kconv P s d).run st x k = true) : ∃ v st', vconvert P st s d x = some (v, st') ∧ k v st' = true := by
  unfold kconv at h
  split at h
  · rename_i e hs hd
    split at h
    · rename_i he
      rcases onSl_true h with ⟨id, off, len, c, op, rfl, hz⟩ | ⟨rfl, hz⟩ | ⟨_, _, _, hz⟩ <;> clear h <;> have h := hz <;> clear hz
      · obtain ⟨b, h1, h⟩ := blkK_true h
        rw [onBlk_eq] at h
        obtain ⟨cs, h2, h⟩ := rowK_true h
        obtain ⟨r, h3, h⟩ := textK_true h
        refine ⟨_, _, ?_, h⟩
        simp only [vconvert, hs, hd, he, h1, vtext_of h2 h3]
        rfl
      · exact ⟨_, _, by simp only [vconvert, hs, hd, he], h⟩
      · exact no h
    · exact no h
  · rename_i ds hno hs hd
    obtain ⟨l, y, rfl, hz⟩ := onS_true h
    clear h
    have h := hz
    clear hz
    refine ⟨_, _, ?_, h⟩
    unfold vconvert
    rw [hs, hd]
  · rename_i ds kd hs hd
    obtain ⟨k0, n, rfl, hz⟩ := onI_true h
    clear h
    have h := hz
    clear hz
    rw [wrapV_eq] at h
    refine ⟨_, _, ?_, h⟩
    unfold vconvert
    rw [hs, hd]
  · obtain ⟨v, st', h1, h2⟩ := optSt_true h
    rw [forceK_eq] at h2
    exact ⟨v, st', h1, h2⟩
theorem kconv2_true {ro : Nat} {s d : TypeId} {st : St} {x : V} {k : V → St → Bool} (h : (kconv2 P ro s d).run st x k = true) : ∃ v st', vconv2 P ro st s d x = some (v, st') ∧ k v st' = true := by
  unfold kconv2 at h
  split at h
  · obtain ⟨v, st', h1, h2⟩ := optSt_true h
    rw [forceK_eq] at h2
    exact ⟨v, st', h1, h2⟩
  · obtain ⟨v, st', h1, h2⟩ := kconv_true h
    exact ⟨v, st', vconv2_of h1, h2⟩
end
end Go.Vk

