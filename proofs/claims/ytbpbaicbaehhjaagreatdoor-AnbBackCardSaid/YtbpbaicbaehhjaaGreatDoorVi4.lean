/-
 The fast evaluator is sound. Nothing is claimed here. (The texts Vi, Vi2, Vi3, Vi4, one behind the other.)
-/
import Derived.Test.YtbpbaicbaehhjaaGreatDoorVj
namespace Go.Vk
open Go.Vm
section
variable {P : Program} {ro : Nat}
theorem jaS {r : Option V} {k : V → Bool} (h : jgF r k = true) : ∃ v, r = some v ∧ k v = true := by
 cases r with
 | none => exact no h
 | some v => exact ⟨v, rfl, (ZY _ _).symm.trans h⟩
theorem ZaS {r : Option (V × St)} {k : V → St → Bool} (h : zeZ r k = true) : ∃ v st, r = some (v, st) ∧ k v st = true := by
 cases r with
 | none => exact no h
 | some x => exact ⟨x.1, x.2, rfl, h⟩
theorem jdW {a b : IntKind} (h : Nat.beq (JeY a) (JeY b) = true) : a = b := by cases a <;> cases b <;> first | rfl | cases h
theorem Z9 {x y : V} {k : IntKind → Int → Int → Bool} (h : jc5 x y k = true) : ∃ kd a b, x = .i kd a ∧ y = .i kd b ∧ k kd a b = true := by
 obtain ⟨ka, a, rfl, h1⟩ := Zax h
 clear h
 obtain ⟨kb, b, rfl, h2⟩ := Zax h1
 obtain ⟨h3, h4⟩ := ja8 h2
 obtain rfl := jdW h3
 exact ⟨ka, a, b, rfl, rfl, h4⟩
theorem ZeZ {kd : IntKind} {m : Nat} (h : Nat.blt m (Jhn kd) = true) : kd.wrap (.ofNat m) = .ofNat m := by
 rw [Nat.blt_eq] at h
 cases kd <;> simp only [Jhn] at h <;> simp [IntKind.wrap, IntKind.bits, IntKind.signed] <;> omega
theorem zbr (kd : IntKind) (n : Int) (k : V → Bool) : Zeo kd n k = k (.i kd (kd.wrap n)) := ZY _ _
theorem zbT (kd : IntKind) (m : Nat) (k : V → Bool) : zdh kd m k = k (.i kd (kd.wrap (.ofNat m))) := by
 unfold zdh
 cases e : Nat.blt m (Jhn kd) with
 | false => exact zbr _ _ _
 | true => show Jao m (fun m => k (.i kd (.ofNat m))) = _; rw [zx, ZeZ e]
theorem Zf3 (kd : IntKind) (n : Int) (k : V → Bool) : Jg5 kd n k = k (.i kd (kd.wrap n)) := by
 cases n with
 | ofNat m => exact zbT kd m k
 | negSucc m => exact zbr _ _ _
theorem jbT {op : BinOp} {t : TypeId} {kd : IntKind} {a b : Int} (h1 : op ≠ .shl) (h2 : op ≠ .shr) : jb3 P op t (.i kd a) (.i kd b) = Jfc op kd a b := by cases op <;> simp_all [jb3]
theorem JeZ {op : BinOp} {t : TypeId} {x y : V} {k : V → Bool} (h : (zg6 P t op).run x y k = true) : ∃ v, jb3 P op t x y = some v ∧ k v = true := by
 have other : (match jb3 P op t x y with | some v => jaB v k | none => false) = true → ∃ v, jb3 P op t x y = some v ∧ k v = true := by
  intro h
  cases e : jb3 P op t x y with
  | none => rw [e] at h; exact no h
  | some v => rw [e] at h; exact ⟨v, rfl, (ZY _ _).symm.trans h⟩
 cases op with
 | add =>
  obtain ⟨kd, a, b, rfl, rfl, h0⟩ := Z9 h
  clear h
  have h := h0
  clear h0
  refine ⟨_, by rw [jbT (by simp) (by simp)]; rfl, ?_⟩
  rcases Zaj h with ⟨m, n, rfl, rfl, h2⟩ | h2 <;> clear h <;> have h := h2 <;> clear h2
  ·rw [zbT] at h; exact h
  ·rw [zbr] at h; exact h
 | sub =>
  obtain ⟨kd, a, b, rfl, rfl, h0⟩ := Z9 h
  clear h
  have h := h0
  clear h0
  refine ⟨_, by rw [jbT (by simp) (by simp)]; rfl, ?_⟩
  rcases Zaj h with ⟨m, n, rfl, rfl, h2⟩ | h2 <;> clear h <;> have h := h2 <;> clear h2
  ·rcases Zbq h with ⟨h1, h2⟩ | ⟨_, h2⟩
   ·rw [zbT] at h2
    rw [Nat.ble_eq] at h1
    have e : (Int.ofNat (m - n)) = Int.ofNat m - Int.ofNat n := by simp only [Int.ofNat_eq_natCast]; omega
    rw [e] at h2; exact h2
   ·rw [zbr] at h2; exact h2
  ·rw [zbr] at h; exact h
 | mul =>
  obtain ⟨kd, a, b, rfl, rfl, h0⟩ := Z9 h
  clear h
  have h := h0
  clear h0
  refine ⟨_, by rw [jbT (by simp) (by simp)]; rfl, ?_⟩
  rcases Zaj h with ⟨m, n, rfl, rfl, h2⟩ | h2 <;> clear h <;> have h := h2 <;> clear h2
  ·rw [zbT] at h; exact h
  ·rw [zbr] at h; exact h
 | lss =>
  obtain ⟨kd, a, b, rfl, rfl, h0⟩ := Z9 h
  clear h
  have h := h0
  clear h0
  refine ⟨_, by rw [jbT (by simp) (by simp)]; rfl, ?_⟩
  rcases Zaj h with ⟨m, n, rfl, rfl, h2⟩ | h2 <;> clear h <;> have h := h2 <;> clear h2
  ·rw [J8] at h
   have e : Nat.blt m n = ilt (.ofNat m) (.ofNat n) := by rw [Bool.eq_iff_iff, Nat.blt_eq]; simp [ilt, Int.ofNat_eq_natCast]
   rw [e] at h; exact h
  ·rw [J8] at h; exact h
 | leq =>
  obtain ⟨kd, a, b, rfl, rfl, h0⟩ := Z9 h
  clear h
  have h := h0
  clear h0
  refine ⟨_, by rw [jbT (by simp) (by simp)]; rfl, ?_⟩
  rcases Zaj h with ⟨m, n, rfl, rfl, h2⟩ | h2 <;> clear h <;> have h := h2 <;> clear h2
  ·rw [J8] at h
   have e : Nat.ble m n = ile (.ofNat m) (.ofNat n) := by rw [Bool.eq_iff_iff, Nat.ble_eq]; simp [ile, Int.ofNat_eq_natCast]
   rw [e] at h; exact h
  ·rw [J8] at h; exact h
 | gtr =>
  obtain ⟨kd, a, b, rfl, rfl, h0⟩ := Z9 h
  clear h
  have h := h0
  clear h0
  refine ⟨_, by rw [jbT (by simp) (by simp)]; rfl, ?_⟩
  rcases Zaj h with ⟨m, n, rfl, rfl, h2⟩ | h2 <;> clear h <;> have h := h2 <;> clear h2
  ·rw [J8] at h
   have e : Nat.blt n m = ilt (.ofNat n) (.ofNat m) := by rw [Bool.eq_iff_iff, Nat.blt_eq]; simp [ilt, Int.ofNat_eq_natCast]
   rw [e] at h; exact h
  ·rw [J8] at h; exact h
 | geq =>
  obtain ⟨kd, a, b, rfl, rfl, h0⟩ := Z9 h
  clear h
  have h := h0
  clear h0
  refine ⟨_, by rw [jbT (by simp) (by simp)]; rfl, ?_⟩
  rcases Zaj h with ⟨m, n, rfl, rfl, h2⟩ | h2 <;> clear h <;> have h := h2 <;> clear h2
  ·rw [J8] at h
   have e : Nat.ble n m = ile (.ofNat n) (.ofNat m) := by rw [Bool.eq_iff_iff, Nat.ble_eq]; simp [ile, Int.ofNat_eq_natCast]
   rw [e] at h; exact h
  ·rw [J8] at h; exact h
 | eql =>
  obtain ⟨kd, a, b, rfl, rfl, h0⟩ := Z9 h
  clear h
  have h := h0
  clear h0
  refine ⟨_, by rw [jbT (by simp) (by simp)]; rfl, ?_⟩
  rcases Zaj h with ⟨m, n, rfl, rfl, h2⟩ | h2 <;> clear h <;> have h := h2 <;> clear h2
  ·rw [J8] at h
   have e : Nat.beq m n = (Int.ofNat m == Int.ofNat n) := by rw [Bool.eq_iff_iff, Nat.beq_eq]; simp [Int.ofNat_eq_natCast]; omega
   rw [e] at h; exact h
  ·rw [J8] at h; exact h
 | neq =>
  obtain ⟨kd, a, b, rfl, rfl, h0⟩ := Z9 h
  clear h
  have h := h0
  clear h0
  refine ⟨_, by rw [jbT (by simp) (by simp)]; rfl, ?_⟩
  rcases Zaj h with ⟨m, n, rfl, rfl, h2⟩ | h2 <;> clear h <;> have h := h2 <;> clear h2
  ·rw [J8] at h
   have e : Nat.beq m n = (Int.ofNat m == Int.ofNat n) := by rw [Bool.eq_iff_iff, Nat.beq_eq]; simp [Int.ofNat_eq_natCast]; omega
   rw [e] at h; exact h
  ·rw [J8] at h; exact h
 | _ => exact other h
theorem Zfu {op : BinOp} {t : TypeId} {x y : V} {k : V → Bool} (h : (jhs P op t).run x y k = true) : ∃ v, jb3 P op t x y = some v ∧ k v = true := by
 unfold jhs at h
 split at h
 ·exact JeZ h
 ·dsimp only at h
  cases e : jb3 P op t x y with
  | none => rw [e] at h; exact no h
  | some v => rw [e] at h; exact ⟨v, rfl, (ZY _ _).symm.trans h⟩
theorem Zep {t : TypeId} {x y : V} {k : V → Bool} (h : (zfr P t).run x y k = true) : ∃ kd i v, y = .i kd i ∧ za7 P t x i = some v ∧ k v = true := by
 unfold zfr at h
 split at h
 ·rename_i ht
  obtain ⟨len, bits, rfl, hz⟩ := zdu h
  clear h
  have h := hz
  clear hz
  obtain ⟨kd, i, rfl, hz⟩ := Zax h
  clear h
  have h := hz
  clear hz
  rcases zeO h with ⟨m, rfl, hz⟩ | hz <;> clear h <;> have h := hz <;> clear hz
  ·obtain ⟨h1, h2⟩ := ja8 h
   rw [zx] at h2
   rw [Nat.blt_eq] at h1
   refine ⟨kd, _, _, rfl, ?_, h2⟩
   have hb : (ile 0 (Int.ofNat m) && ilt (Int.ofNat m) len) = true := by simp [ile, ilt, Int.ofNat_eq_natCast]; omega
   simp only [za7, ht, hb, cond_true]
   rfl
  ·exact no h
 ·obtain ⟨kd, i, rfl, hz⟩ := Zax h
  clear h
  have h := hz
  clear hz
  cases e : za7 P t x i with
  | none => rw [e] at h; exact no h
  | some v => rw [e] at h; exact ⟨kd, i, v, rfl, e, (ZY _ _).symm.trans h⟩
end
end Go.Vk
namespace Go.Vk
open Go.Vm
section
variable {P : Program} {ro : Nat}
theorem jbr {t : TypeId} {st : St} {id off : Nat} {k : V → Bool} (h : (Jeo P t).run st id off k = true) : ∃ v, J3 P st t id off = some v ∧ k v = true := by
 unfold Jeo at h
 unfold J3
 cases hi : P.info? t with
 | none => rw [hi] at h; exact no h
 | some ti =>
  cases hu : P.underlying t with
  | none => rw [hi, hu] at h; exact no h
  | some d =>
   rw [hi, hu] at h
   dsimp only at h
   cases ha : JaE P t with
   | true =>
    rw [ha] at h
    dsimp only at h
    rw [jh] at h
    obtain ⟨b, h1, h2⟩ := zaS h
    rw [JaX] at h2
    obtain ⟨cs, h3, h4⟩ := Jbc h2
    exact ⟨.a cs, by simp only [h1, cond_true, h3], h4⟩
   | false =>
    rw [ha] at h
    obtain ⟨b, h1, h2⟩ := zaS h
    rw [JaX] at h2
    obtain ⟨v, h3, h4⟩ := Jdh h2
    exact ⟨v, by simp only [h1, cond_false, h3], h4⟩
theorem Jep {t : TypeId} {st : St} {id off : Nat} {v : V} {k : St → Bool} (h : (Zfr P ro t).run st id off v k = true) : ∃ st', jbN P ro st t id off v = some st' ∧ k st' = true := by
 unfold Zfr at h
 unfold jbN
 cases hi : P.info? t with
 | none => rw [hi] at h; exact no h
 | some ti =>
  rw [hi] at h
  dsimp only at h
  rw [jh] at h
  obtain ⟨b, h1, h2⟩ := zaS h
  rw [JcJ] at h2
  obtain ⟨h3, h4⟩ := ja8 h2
  rw [jdu] at h4
  obtain ⟨h5, h6⟩ := ja8 h4
  rw [JaX] at h6
  obtain ⟨cs, h7, h8⟩ := zbd h6
  rw [zdW] at h8
  exact ⟨_, by simp only [h1, h3, h5, Bool.and_self, cond_true, h7], h8⟩
theorem jcl {st : St} {v : V} {es : Nat} {k : V → St → Bool} (h : jdt st v es k = true) : ∃ x st', Jby st v es = some (x, st') ∧ k x st' = true := by
 unfold jdt at h
 rw [JcJ] at h
 obtain ⟨b, h1, h2⟩ := JbS h
 rw [jbd] at h2
 exact ⟨_, _, by simp only [Jby, h1, jh], h2⟩
theorem ZdW : ∀ (vs cs pre : List V), vs.length = cs.length → setAt (pre ++ cs) pre.length vs = pre ++ vs
 | [], cs, pre, h => by
  have : cs = [] := List.length_eq_zero_iff.1 h.symm
  simp [setAt, this]
 | v :: r, [], pre, h => by simp at h
 | v :: r, c :: cs, pre, h => by
  have h' : r.length = cs.length := by simpa using h
  have := ZdW r cs (pre ++ [v]) h'
  simp only [setAt]
  rw [List.set_append_right _ _ (Nat.le_refl _), Nat.sub_self, List.set_cons_zero]
  rw [List.length_append] at this
  simp only [List.append_assoc, List.singleton_append, List.length_singleton] at this
  exact this
theorem Jfu {t : TypeId} {st : St} {v : V} {k : V → St → Bool} (h : (Zhs P t).run st v k = true) : ∃ x st', Jv P st t 1 [(0, v)] = some (x, st') ∧ k x st' = true := by
 unfold Zhs at h
 split at h
 ·rename_i e hu
  cases hs : jH P e with
  | none => rw [hs] at h; exact no h
  | some n =>
   cases hz : jal P e with
   | none => rw [hs, hz] at h; exact no h
   | some z =>
    rw [hs, hz] at h
    dsimp only at h
    cases hc : (Nat.ble (1 * n) 16777216 && Nat.blt 0 n && Nat.beq z.cells.length n) with
    | false => rw [hc] at h; exact no h
    | true =>
     rw [hc] at h
     dsimp only at h
     rw [jh] at h
     dsimp only at h
     rw [JcJ, jdu] at h
     obtain ⟨h1, h2⟩ := ja8 h
     obtain ⟨b, h3, h4⟩ := JbS h2
     rw [jbd] at h4
     refine ⟨_, _, ?_, h4⟩
     have hl : v.cells.length = n := Nat.beq_eq ▸ h1
     have hzl : z.cells.length = n := by
      have := hc
      simp only [Bool.and_eq_true, Nat.beq_eq] at this
      exact this.2
     have hset : setAt (JN z.cells 1) (0 * n) v.cells = v.cells := by
      have := ZdW v.cells z.cells [] (by omega)
      simpa [JN] using this
     have hle : Nat.ble (0 * n + v.cells.length) (JN z.cells 1).length = true := by rw [Nat.ble_eq]; simp [JN]; omega
     simp only [Jv, hu, hs, hz, hc, cond_true, ZbN, h1, hle, Bool.and_self, hset, h3, jh]
 ·exact no h
theorem zcK : ∀ {n x : Nat} {k : List V → Bool}, Jfr n x k = true → k (ZT n x) = true
 | 0, x, k, h => h
 | n + 1, x, k, h => by
  have h' : Jao (x % 256) (fun c => Jao (x / 256) fun y => Jfr n y fun r => k (.i .u8 (.ofNat c) :: r)) = true := h
  rw [zx, zx] at h'
  exact zcK (n := n) (x := x / 256) (k := fun r => k (.i .u8 (.ofNat (x % 256)) :: r)) h'
theorem zeq {st : St} {es : Nat} {x : V} {k : Nat → List V → Bool} (h : Zgq st es x k = true) : ∃ n new, zeh x = some n ∧ jai st es n x = some new ∧ k n new = true := by
 rcases ZbS h with ⟨id, off, l, c, op, rfl, hz⟩ | ⟨rfl, hz⟩ | ⟨l, x, rfl, hz⟩ <;> clear h <;> have h := hz <;> clear hz
 ·obtain ⟨b, h1, h2⟩ := zaS h
  rw [JaX] at h2
  obtain ⟨cs, h3, h4⟩ := Jbc h2
  exact ⟨l, cs, rfl, by simp only [jai, h1, h3], h4⟩
 ·exact ⟨0, [], rfl, rfl, h⟩
 ·obtain ⟨h1, h2⟩ := ja8 h
  exact ⟨l, _, rfl, by simp only [jai, h1, cond_true], zcK h2⟩
end
end Go.Vk
namespace Go.Vk
open Go.Vm
section
variable {P : Program} {ro : Nat}
theorem JdW {t : TypeId} {st : St} {s x : V} {k : V → St → Bool} (h : (zep P ro t).run st s x k = true) : ∃ v st', zR P ro st t s x = some (v, st') ∧ k v st' = true := by
 unfold zep at h
 split at h
 ·rename_i e hu
  cases hi : P.info? e with
  | none => rw [hi] at h; exact no h
  | some ti =>
   rw [hi] at h
   dsimp only at h
   rw [jh, jh] at h
   cases hc : (Nat.blt 0 ti.size && Nat.blt 0 ti.bytes && Zai P e ti.size) with
   | false => rw [hc] at h; exact no h
   | true =>
    rw [hc] at h
    dsimp only at h
    obtain ⟨n, new, h1, h2, h⟩ := zeq h
    rcases ZbS h with ⟨id, off, len, cap, op, rfl, hz⟩ | ⟨rfl, hz⟩ | ⟨_, _, _, hz⟩ <;> clear h <;> have h := hz <;> clear hz
    ·obtain ⟨b, h3, h⟩ := zaS h
     obtain ⟨h4, h⟩ := ja8 h
     rcases Zbq h with ⟨h5, h⟩ | ⟨h5, h⟩
     ·obtain ⟨h6, h⟩ := ja8 h
      rw [JaX] at h
      obtain ⟨cs, h7, h⟩ := zbd h
      rw [zdW, zx] at h
      exact ⟨_, _, by simp only [zR, hu, hi, h1, h2, hc, cond_true, h3, h4, h5, h6, h7, jh], h⟩
     ·rw [JaX] at h
      have fin : ∀ b' : Blk, ja7 b off len ti.size new = some b' → ifB op (ifB (Nat.ble ro id && b.op && Nat.beq b.es ti.size && Nat.beq (off + cap * ti.size) b.sz) (zcl st id none fun st => jbS st b' fun nx st => Jao (len + n) fun m => k (.sl nx 0 m m true) st) false)
         (jbS st b' fun nx st => Jao (len + n) fun m => k (.sl nx 0 m m true) st) = true → ∃ v st', zR P ro st t (.sl id off len cap op) x = some (v, st') ∧ k v st' = true := by
       intro b' hg h
       rcases Zbq h with ⟨rfl, h⟩ | ⟨rfl, h⟩
       ·obtain ⟨h8, h⟩ := ja8 h
        rw [zcx, jbd, zx] at h
        refine ⟨_, _, ?_, h⟩
        simp only [zR, hu, hi, h1, h2, hc, cond_true, cond_false, h3, h4, h5, hg, h8, jh]
        rw [St.kill_eq]
       ·rw [jbd, zx] at h
        refine ⟨_, _, ?_, h⟩
        simp only [zR, hu, hi, h1, h2, hc, cond_true, cond_false, h3, h4, h5, hg, jh]
      rcases Zbq h with ⟨h6, h⟩ | ⟨h6, h⟩
      ·rw [jdu, zx] at h
       obtain ⟨cs, h7, h⟩ := zbd (b := ⟨b.cs, b.zero, b.sz + new.length, b.es, true⟩) h
       refine fin _ ?_ h
       simp only [ja7, h6, cond_true, Blk.grow]
       exact h7
      ·obtain ⟨old, h7, h⟩ := Jbc h
       obtain ⟨b', h8, h⟩ := JbS h
       refine fin _ ?_ h
       simp only [ja7, h6, cond_false, h7]
       exact h8
    ·obtain ⟨h4, h⟩ := ja8 h
     rcases Zbq h with ⟨h5, h⟩ | ⟨h5, h⟩
     ·exact ⟨_, _, by simp only [zR, hu, hi, h1, h2, hc, cond_true, h4, h5], h⟩
     ·obtain ⟨b, h6, h⟩ := JbS h
      rw [jbd] at h
      exact ⟨_, _, by simp only [zR, hu, hi, h1, h2, hc, cond_true, cond_false, h4, h5, h6, jh], h⟩
    ·exact no h
 ·exact no h
end
end Go.Vk
namespace Go.Vk
open Go.Vm
section
variable {P : Program} {ro : Nat}
theorem zdi {k : Nat → Nat → Bool} : ∀ (cs : List V) (l pw acc : Nat), (List.rec (motive := fun _ => Nat → Nat → Nat → Bool) (fun l _ acc => k l acc) (fun v _ ih l pw acc => onI v fun kd n => ifB (Nat.beq (JeY kd) 4) (onN n (fun c => Jao (l + 1) fun l => Jao (acc + c % 256 * pw) fun acc => Jao (256 * pw) fun pw => ih l pw acc) false) false) cs l pw acc : Bool) = true →
  ∃ r, jj cs = some r ∧ k (l + r.length) (acc + pw * ZG r) = true
 | [], l, pw, acc, h => ⟨[], rfl, by simpa [ZG] using h⟩
 | v :: cs, l, pw, acc, h => by
  obtain ⟨kd, n, rfl, hz⟩ := Zax h
  clear h
  have h := hz
  clear hz
  obtain ⟨h1, h⟩ := ja8 h
  have hk : kd = .u8 := jdW (b := .u8) h1
  subst hk
  rcases zeO h with ⟨c, rfl, hz⟩ | hz <;> clear h <;> have h := hz <;> clear hz
  ·rw [zx, zx, zx] at h
   obtain ⟨r, h2, h3⟩ := zdi cs _ _ _ h
   refine ⟨UInt8.ofNat c :: r, by simp only [jj, h2]; rfl, ?_⟩
   have e1 : (UInt8.ofNat c).toNat = c % 256 := by simp
   simp only [ZG, List.length_cons, e1]
   have e2 : acc + pw * (c % 256 + 256 * ZG r) = acc + c % 256 * pw + 256 * pw * ZG r := by
    rw [Nat.mul_add, Nat.mul_comm pw (c % 256), ← Nat.mul_assoc, Nat.mul_comm pw 256, Nat.add_assoc]
   rw [e2, show l + (r.length + 1) = l + 1 + r.length from by omega]
   exact h3
  ·exact no h
theorem ze0 {cs : List V} {k : Nat → Nat → Bool} (h : Zg6 cs k = true) : ∃ r, jj cs = some r ∧ k r.length (ZG r) = true := by
 obtain ⟨r, h1, h2⟩ := zdi cs 0 1 0 h
 exact ⟨r, h1, by simpa using h2⟩
theorem je0 {s d : TypeId} {st : St} {x : V} {k : V → St → Bool} (h : (zgF P s d).run st x k = true) : ∃ v st', zu P st s d x = some (v, st') ∧ k v st' = true := by
 unfold zgF at h
 split at h
 ·rename_i e hs hd
  split at h
  ·rename_i he
   rcases ZbS h with ⟨id, off, len, c, op, rfl, hz⟩ | ⟨rfl, hz⟩ | ⟨_, _, _, hz⟩ <;> clear h <;> have h := hz <;> clear hz
   ·obtain ⟨b, h1, h⟩ := zaS h
    rw [JaX] at h
    obtain ⟨cs, h2, h⟩ := Jbc h
    obtain ⟨r, h3, h⟩ := ze0 h
    refine ⟨_, _, ?_, h⟩
    simp only [zu, hs, hd, he, h1, JeH h2 h3]
    rfl
   ·exact ⟨_, _, by simp only [zu, hs, hd, he], h⟩
   ·exact no h
  ·exact no h
 ·rename_i ds hno hs hd
  obtain ⟨l, y, rfl, hz⟩ := zdu h
  clear h
  have h := hz
  clear hz
  refine ⟨_, _, ?_, h⟩
  unfold zu
  rw [hs, hd]
 ·rename_i ds kd hs hd
  obtain ⟨k0, n, rfl, hz⟩ := Zax h
  clear h
  have h := hz
  clear hz
  rw [Zf3] at h
  refine ⟨_, _, ?_, h⟩
  unfold zu
  rw [hs, hd]
 ·obtain ⟨v, st', h1, h2⟩ := ZaS h
  rw [ZY] at h2
  exact ⟨v, st', h1, h2⟩
theorem jeq {ro : Nat} {s d : TypeId} {st : St} {x : V} {k : V → St → Bool} (h : (zfs P ro s d).run st x k = true) : ∃ v st', zbz P ro st s d x = some (v, st') ∧ k v st' = true := by
 unfold zfs at h
 split at h
 ·obtain ⟨v, st', h1, h2⟩ := ZaS h
  rw [ZY] at h2
  exact ⟨v, st', h1, h2⟩
 ·obtain ⟨v, st', h1, h2⟩ := je0 h
  exact ⟨v, st', zdR h1, h2⟩
end
end Go.Vk
