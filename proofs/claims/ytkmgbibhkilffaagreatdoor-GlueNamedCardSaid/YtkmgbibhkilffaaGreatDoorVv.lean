/-
  The operations that leave the memory alone, at values that are not known. Nothing is claimed here.
-/
import Derived.Test.YtkmgbibhkilffaaGreatDoorVe
namespace Go.Vm

theorem packL_append (a b : List UInt8) : packL (a ++ b) = packL a + 256 ^ a.length * packL b := by
  induction a with
  | nil => simp [packL]
  | cons c r ih =>
    simp only [List.cons_append, packL, ih, List.length_cons, Nat.pow_succ]
    rw [Nat.mul_add, Nat.mul_comm (256 ^ r.length) 256, Nat.mul_assoc]; omega
theorem str_app (a b : List UInt8) : sApp a.length (packL a) b.length (packL b) = V.str (a ++ b) := by simp [sApp, V.str, packL_append]
theorem str_of (n x : Nat) (h : x < 256 ^ n) : V.s n x = V.str (unpackL n x) := by simp [V.str, length_unpackL, packL_unpackL n x h]
theorem str_cut (s : List UInt8) (lo hi : Nat) (h1 : lo ≤ hi) (h2 : hi ≤ s.length) : sCut (packL s) lo hi = V.str ((s.drop lo).take (hi - lo)) := by
  have h := unpackL_cut s.length (packL s) lo hi h1 h2
  rw [unpackL_packL] at h
  unfold sCut
  rw [str_of _ _ (Nat.mod_lt _ (Nat.pow_pos (by decide))), h]
theorem byteAt_packL (s : List UInt8) (i : Nat) (h : i < s.length) : byteAt (packL s) i = (s.getD i 0).toNat := by
  have h1 := unpackL_get s.length (packL s) i h
  rw [unpackL_packL] at h1
  have h2 : s.getD i 0 = UInt8.ofNat (byteAt (packL s) i) := by rw [List.getD_eq_getElem?_getD, h1]; rfl
  rw [h2]
  have := byteAt_lt (packL s) i
  simp; omega
theorem str_beq (a b : List UInt8) : (Nat.beq a.length b.length && Nat.beq (packL a) (packL b)) = (a == b) := by
  have h := unpackL_beq a.length b.length (packL a) (packL b) (packL_lt a) (packL_lt b)
  rw [unpackL_packL, unpackL_packL] at h
  exact h.symm

section
variable {P : Program} {ro : Nat} {call : CallF} {fr : T V}

theorem Val.move {x : Operand} {v : V} (h : opnd fr x = some v) : Val P ro call fr (.move x) v := ⟨rfl, fun st => by simp only [vop, h]⟩
theorem Val.assign {x : Operand} {v : V} (h : opnd fr x = some v) : Val P ro call fr (.assign x) v := ⟨rfl, fun st => by simp only [vop, h]⟩
theorem Val.pick {c a b : Operand} {x : Bool} {v : V} (hc : opnd fr c = some (.b x)) (h : opnd fr (cond x a b) = some v) : Val P ro call fr (.pick c a b) v := ⟨rfl, fun st => by simp only [vop, hc, h]⟩
theorem Val.extract {x : Operand} {i : Nat} {vs : List V} {v : V} (h : opnd fr x = some (.t vs)) (hv : vs[i]? = some v) : Val P ro call fr (.extract x i) v := ⟨rfl, fun st => by simp only [vop, h, hv]⟩
theorem Val.not {x : Operand} {t : TypeId} {p : Bool} (h : opnd fr x = some (.b p)) : Val P ro call fr (.unOp .not t x) (.b (!p)) := ⟨rfl, fun st => by simp only [vop, h, vun]⟩

/-! integers -/
theorem Val.bini {op : BinOp} {t t' : TypeId} {x y : Operand} {k : IntKind} {a b : Int} {v : V} (hx : opnd fr x = some (.i k a)) (hy : opnd fr y = some (.i k b)) (hv : vbin P op t (.i k a) (.i k b) = some v) : Val P ro call fr (.binOp op t x y t') v :=
  ⟨rfl, fun st => by simp only [vop, hx, hy, hv]⟩
theorem Val.lss {t t' : TypeId} {x y : Operand} {k : IntKind} {a b : Int} (hx : opnd fr x = some (.i k a)) (hy : opnd fr y = some (.i k b)) : Val P ro call fr (.binOp .lss t x y t') (.b (decide (a < b))) := Val.bini hx hy (by simp [vbin, vint, ilt])
theorem Val.leq {t t' : TypeId} {x y : Operand} {k : IntKind} {a b : Int} (hx : opnd fr x = some (.i k a)) (hy : opnd fr y = some (.i k b)) : Val P ro call fr (.binOp .leq t x y t') (.b (decide (a ≤ b))) := Val.bini hx hy (by simp [vbin, vint, ile])
theorem Val.gtr {t t' : TypeId} {x y : Operand} {k : IntKind} {a b : Int} (hx : opnd fr x = some (.i k a)) (hy : opnd fr y = some (.i k b)) : Val P ro call fr (.binOp .gtr t x y t') (.b (decide (b < a))) := Val.bini hx hy (by simp [vbin, vint, ilt])
theorem Val.geq {t t' : TypeId} {x y : Operand} {k : IntKind} {a b : Int} (hx : opnd fr x = some (.i k a)) (hy : opnd fr y = some (.i k b)) : Val P ro call fr (.binOp .geq t x y t') (.b (decide (b ≤ a))) := Val.bini hx hy (by simp [vbin, vint, ile])
theorem wrap64 {a : Int} (h1 : -9223372036854775808 ≤ a) (h2 : a ≤ 9223372036854775807) : IntKind.i64.wrap a = a := by rw [IntKind.wrap_i64]; omega
/-! bools -/
/-! strings -/
end

/-! ### Small things that the texts below need -/

theorem el {t i : Nat} {W : List Nat} (h : W.elem t = false) (hi : W.elem i = true) : Nat.beq t i = false := by
  cases e : Nat.beq t i with
  | false => rfl
  | true => rw [Nat.beq_eq] at e; subst e; rw [h] at hi; cases hi

section
variable {P : Program} {ov : Ov} {ro n nt : Nat}
/-- The end of a call with one result. -/
theorem Fin.one {fn : Func} {Q : V → St → Prop} {e : Ex} {fr : T V} {st : St} {t : Nat} {v : V} (he : e = .nrm ∨ e = .ret) (hr : fn.results.toList = [.tmp t]) (hv : fr.get t = some v) (h : Q v st) : Fin P fn Q e fr st := by
  have key : ∃ vs, resultsOf P fr st fn.results.toList = some vs ∧ Q (oneOf vs) st := ⟨[v], by rw [hr]; simp only [resultsOf, resultOf, hv], h⟩
  rcases he with rfl | rfl <;> exact key
theorem Fin.two {fn : Func} {Q : V → St → Prop} {e : Ex} {fr : T V} {st : St} {t u : Nat} {v x : V} (he : e = .nrm ∨ e = .ret) (hr : fn.results.toList = [.tmp t, .tmp u]) (hv : fr.get t = some v) (hx : fr.get u = some x) (h : Q (.t [v, x]) st) : Fin P fn Q e fr st := by
  have key : ∃ vs, resultsOf P fr st fn.results.toList = some vs ∧ Q (oneOf vs) st := ⟨[v, x], by rw [hr]; simp only [resultsOf, resultOf, hv, hx], h⟩
  rcases he with rfl | rfl <;> exact key
end

end Go.Vm
