/-
  The operations that leave the memory alone, at values that are not known. Nothing is claimed here.
-/
import Derived.Test.YtbpbaicbaehhjaaGreatDoorVe
namespace Go.Vm

theorem packL_append (a b : List UInt8) : packL (a ++ b) = packL a + 256 ^ a.length * packL b := by
  induction a with
  | nil => simp [packL]
  | cons c r ih =>
    simp only [List.cons_append, packL, ih, List.length_cons, Nat.pow_succ]
    rw [Nat.mul_add, Nat.mul_comm (256 ^ r.length) 256, Nat.mul_assoc]; omega
theorem str_app (a b : List UInt8) : sApp a.length (packL a) b.length (packL b) = V.str (a ++ b) := by simp [sApp, V.str, packL_append]
theorem str_of (n x : Nat) (h : x < 256 ^ n) : V.s n x = V.str (unpackL n x) := by simp [V.str, length_unpackL, packL_unpackL n x h]
theorem str_cut (s : List UInt8) (lo hi : Nat) (h1 : lo ≤ hi) (h2 : hi ≤ s.length) : sCut (packL s) lo hi = V.str ((s.drop lo).take (hi - lo)) := by
  have h := unpackL_cut s.length (packL s) lo hi h1 h2
  rw [unpackL_packL] at h
  unfold sCut
  rw [str_of _ _ (Nat.mod_lt _ (Nat.pow_pos (by decide))), h]
theorem byteAt_packL (s : List UInt8) (i : Nat) (h : i < s.length) : byteAt (packL s) i = (s.getD i 0).toNat := by
  have h1 := unpackL_get s.length (packL s) i h
  rw [unpackL_packL] at h1
  have h2 : s.getD i 0 = UInt8.ofNat (byteAt (packL s) i) := by rw [List.getD_eq_getElem?_getD, h1]; rfl
  rw [h2]
  have := byteAt_lt (packL s) i
  simp; omega
theorem str_beq (a b : List UInt8) : (Nat.beq a.length b.length && Nat.beq (packL a) (packL b)) = (a == b) := by
  have h := unpackL_beq a.length b.length (packL a) (packL b) (packL_lt a) (packL_lt b)
  rw [unpackL_packL, unpackL_packL] at h
  exact h.symm

section
variable {P : Program} {ro : Nat} {call : CallF} {fr : T V}

theorem Val.move {x : Operand} {v : V} (h : opnd fr x = some v) : Val P ro call fr (.move x) v := ⟨rfl, fun st => by simp only [vop, h]⟩
theorem Val.assign {x : Operand} {v : V} (h : opnd fr x = some v) : Val P ro call fr (.assign x) v := ⟨rfl, fun st => by simp only [vop, h]⟩
theorem Val.pick {c a b : Operand} {x : Bool} {v : V} (hc : opnd fr c = some (.b x)) (h : opnd fr (cond x a b) = some v) : Val P ro call fr (.pick c a b) v := ⟨rfl, fun st => by simp only [vop, hc, h]⟩
theorem Val.pickT {c a b : Operand} {x : Bool} {v : V} (hc : opnd fr c = some (.b x)) (hx : x = true) (h : opnd fr a = some v) : Val P ro call fr (.pick c a b) v := ⟨rfl, fun st => by subst hx; simp only [vop, hc, cond_true, h]⟩
theorem Val.pickF {c a b : Operand} {x : Bool} {v : V} (hc : opnd fr c = some (.b x)) (hx : x = false) (h : opnd fr b = some v) : Val P ro call fr (.pick c a b) v := ⟨rfl, fun st => by subst hx; simp only [vop, hc, cond_false, h]⟩
theorem Val.extract {x : Operand} {i : Nat} {vs : List V} {v : V} (h : opnd fr x = some (.t vs)) (hv : vs[i]? = some v) : Val P ro call fr (.extract x i) v := ⟨rfl, fun st => by simp only [vop, h, hv]⟩
theorem Val.not {x : Operand} {t : TypeId} {p : Bool} (h : opnd fr x = some (.b p)) : Val P ro call fr (.unOp .not t x) (.b (!p)) := ⟨rfl, fun st => by simp only [vop, h, vun]⟩

/-! integers -/
theorem Val.bini {op : BinOp} {t t' : TypeId} {x y : Operand} {k : IntKind} {a b : Int} {v : V} (hx : opnd fr x = some (.i k a)) (hy : opnd fr y = some (.i k b)) (hv : vbin P op t (.i k a) (.i k b) = some v) : Val P ro call fr (.binOp op t x y t') v :=
  ⟨rfl, fun st => by simp only [vop, hx, hy, hv]⟩
theorem Val.lss {t t' : TypeId} {x y : Operand} {k : IntKind} {a b : Int} (hx : opnd fr x = some (.i k a)) (hy : opnd fr y = some (.i k b)) : Val P ro call fr (.binOp .lss t x y t') (.b (decide (a < b))) := Val.bini hx hy (by simp [vbin, vint, ilt])
theorem Val.leq {t t' : TypeId} {x y : Operand} {k : IntKind} {a b : Int} (hx : opnd fr x = some (.i k a)) (hy : opnd fr y = some (.i k b)) : Val P ro call fr (.binOp .leq t x y t') (.b (decide (a ≤ b))) := Val.bini hx hy (by simp [vbin, vint, ile])
theorem Val.gtr {t t' : TypeId} {x y : Operand} {k : IntKind} {a b : Int} (hx : opnd fr x = some (.i k a)) (hy : opnd fr y = some (.i k b)) : Val P ro call fr (.binOp .gtr t x y t') (.b (decide (b < a))) := Val.bini hx hy (by simp [vbin, vint, ilt])
theorem Val.geq {t t' : TypeId} {x y : Operand} {k : IntKind} {a b : Int} (hx : opnd fr x = some (.i k a)) (hy : opnd fr y = some (.i k b)) : Val P ro call fr (.binOp .geq t x y t') (.b (decide (b ≤ a))) := Val.bini hx hy (by simp [vbin, vint, ile])
theorem Val.ieql {t t' : TypeId} {x y : Operand} {k : IntKind} {a b : Int} (hx : opnd fr x = some (.i k a)) (hy : opnd fr y = some (.i k b)) : Val P ro call fr (.binOp .eql t x y t') (.b (decide (a = b))) := Val.bini hx hy (by
  have : (a == b) = decide (a = b) := by by_cases e : a = b <;> simp [e]
  simp [vbin, vint, this])
theorem Val.ineq {t t' : TypeId} {x y : Operand} {k : IntKind} {a b : Int} (hx : opnd fr x = some (.i k a)) (hy : opnd fr y = some (.i k b)) : Val P ro call fr (.binOp .neq t x y t') (.b (decide (a ≠ b))) := Val.bini hx hy (by
  have : (a != b) = decide (a ≠ b) := by by_cases e : a = b <;> simp [e]
  simp [vbin, vint, this])
theorem Val.iadd {t t' : TypeId} {x y : Operand} {k : IntKind} {a b c : Int} (hx : opnd fr x = some (.i k a)) (hy : opnd fr y = some (.i k b)) (hc : k.wrap (a + b) = c) : Val P ro call fr (.binOp .add t x y t') (.i k c) := Val.bini hx hy (by simp [vbin, vint, hc])
theorem Val.isub {t t' : TypeId} {x y : Operand} {k : IntKind} {a b c : Int} (hx : opnd fr x = some (.i k a)) (hy : opnd fr y = some (.i k b)) (hc : k.wrap (a - b) = c) : Val P ro call fr (.binOp .sub t x y t') (.i k c) := Val.bini hx hy (by simp [vbin, vint, hc])
theorem Val.imul {t t' : TypeId} {x y : Operand} {k : IntKind} {a b c : Int} (hx : opnd fr x = some (.i k a)) (hy : opnd fr y = some (.i k b)) (hc : k.wrap (a * b) = c) : Val P ro call fr (.binOp .mul t x y t') (.i k c) := Val.bini hx hy (by simp [vbin, vint, hc])
theorem wrap64 {a : Int} (h1 : -9223372036854775808 ≤ a) (h2 : a ≤ 9223372036854775807) : IntKind.i64.wrap a = a := by rw [IntKind.wrap_i64]; omega
theorem wrapu8 {a : Int} (h1 : 0 ≤ a) (h2 : a ≤ 255) : IntKind.u8.wrap a = a := by
  simp [IntKind.wrap, IntKind.bits, IntKind.signed]; omega
theorem Val.toInt {s d : TypeId} {ds : TypeDesc} {x : Operand} {k k' : IntKind} {a c : Int} (h1 : P.underlying s = some ds) (h2 : P.underlying d = some (.int k')) (hx : opnd fr x = some (.i k a)) (hc : k'.wrap a = c) (st : St) :
    vop P ro call fr st (.convert s d x) = some (some (.i k' c), st) := by simp only [vop, hx, vconv2, vconvert, h1, h2, hc]

/-! bools -/
theorem Val.beql {t t' : TypeId} {x y : Operand} {a b : Bool} (ht : P.underlying t = some .bool) (hx : opnd fr x = some (.b a)) (hy : opnd fr y = some (.b b)) : Val P ro call fr (.binOp .eql t x y t') (.b (a == b)) :=
  ⟨rfl, fun st => by simp only [vop, hx, hy, vbin, vequal, veq, ht]⟩
theorem Val.bneq {t t' : TypeId} {x y : Operand} {a b : Bool} (ht : P.underlying t = some .bool) (hx : opnd fr x = some (.b a)) (hy : opnd fr y = some (.b b)) : Val P ro call fr (.binOp .neq t x y t') (.b (!(a == b))) :=
  ⟨rfl, fun st => by simp only [vop, hx, hy, vbin, vequal, veq, ht]⟩

/-! strings -/
theorem Val.slen {t : TypeId} {x : Operand} {s : List UInt8} (ht : P.underlying t = some .string) (hx : opnd fr x = some (V.str s)) : Val P ro call fr (.call ⟨.builtin .len, #[x], #[t]⟩) (.i .i64 (s.length : Int)) :=
  ⟨rfl, fun st => by simp only [vop, opnds, hx, vbuiltin, V.str, vlenOp, ht]; rfl⟩
theorem Val.sidx {t : TypeId} {x y : Operand} {s : List UInt8} {k : IntKind} {i : Nat} (ht : P.underlying t = some .string) (hx : opnd fr x = some (V.str s)) (hy : opnd fr y = some (.i k (i : Int))) (hi : i < s.length) :
    Val P ro call fr (.index t x y) (.i .u8 ((s.getD i 0).toNat : Int)) :=
  ⟨rfl, fun st => by
    have h1 : (ile 0 (i : Int) && ilt (i : Int) (s.length : Int)) = true := by simp [ile, ilt]; omega
    simp only [vop, hx, hy, V.str, vindex, ht, h1, cond_true, Int.toNat_natCast, byteAt_packL s i hi]; rfl⟩
theorem Val.sadd {t t' : TypeId} {x y : Operand} {a b : List UInt8} (hx : opnd fr x = some (V.str a)) (hy : opnd fr y = some (V.str b)) (hl : a.length + b.length ≤ 1099511627776) : Val P ro call fr (.binOp .add t x y t') (V.str (a ++ b)) :=
  ⟨rfl, fun st => by
    have h1 : Nat.ble (a.length + b.length) 1099511627776 = true := by rw [Nat.ble_eq]; exact hl
    simp only [vop, hx, hy, V.str, vbin, vstr, h1, cond_true, str_app]⟩
theorem Val.seql {t t' : TypeId} {x y : Operand} {a b : List UInt8} (hx : opnd fr x = some (V.str a)) (hy : opnd fr y = some (V.str b)) : Val P ro call fr (.binOp .eql t x y t') (.b (a == b)) :=
  ⟨rfl, fun st => by simp only [vop, hx, hy, V.str, vbin, vstr, str_beq]⟩
theorem Val.sneq {t t' : TypeId} {x y : Operand} {a b : List UInt8} (hx : opnd fr x = some (V.str a)) (hy : opnd fr y = some (V.str b)) : Val P ro call fr (.binOp .neq t x y t') (.b (!(a == b))) :=
  ⟨rfl, fun st => by simp only [vop, hx, hy, V.str, vbin, vstr, str_beq]⟩
theorem Val.ssl {t : TypeId} {x lo hi : Operand} {s : List UInt8} {k k' : IntKind} {l h : Nat} (ht : P.underlying t = some .string) (hx : opnd fr x = some (V.str s)) (hlo : opnd fr lo = some (.i k (l : Int))) (hhi : opnd fr hi = some (.i k' (h : Int))) (h1 : l ≤ h) (h2 : h ≤ s.length) :
    Val P ro call fr (.slice t x (some lo) (some hi) none) (V.str ((s.drop l).take (h - l))) :=
  ⟨rfl, fun st => by
    have e1 : (ile 0 (h : Int) && ile (h : Int) (s.length : Int)) = true := by simp [ile]; omega
    have e2 : (ile 0 (l : Int) && ile (l : Int) (h : Int)) = true := by simp [ile]; omega
    simp only [vop, hx, hlo, hhi, Option.map_some, V.str, vslice, ht, vbounds, vboundO, vbound, e1, e2, cond_true, natF_eq, Int.toNat_natCast, str_cut s l h h1 h2]⟩
theorem Val.sslF {t : TypeId} {x lo : Operand} {s : List UInt8} {k : IntKind} {l : Nat} (ht : P.underlying t = some .string) (hx : opnd fr x = some (V.str s)) (hlo : opnd fr lo = some (.i k (l : Int))) (h1 : l ≤ s.length) :
    Val P ro call fr (.slice t x (some lo) none none) (V.str (s.drop l)) :=
  ⟨rfl, fun st => by
    have e2 : (ile 0 (l : Int) && ile (l : Int) (s.length : Int)) = true := by simp [ile]; omega
    have e3 := str_cut s l s.length h1 (Nat.le_refl _)
    rw [List.take_of_length_le (by simp)] at e3
    simp only [vop, hx, hlo, Option.map_some, V.str, vslice, ht, vbounds, vboundO, vbound, e2, cond_true, natF_eq, Int.toNat_natCast, e3]⟩
theorem Val.sslT {t : TypeId} {x hi : Operand} {s : List UInt8} {k : IntKind} {h : Nat} (ht : P.underlying t = some .string) (hx : opnd fr x = some (V.str s)) (hhi : opnd fr hi = some (.i k (h : Int))) (h1 : h ≤ s.length) :
    Val P ro call fr (.slice t x none (some hi) none) (V.str (s.take h)) :=
  ⟨rfl, fun st => by
    have e2 : (ile 0 (h : Int) && ile (h : Int) (s.length : Int)) = true := by simp [ile]; omega
    have e3 := str_cut s 0 h (Nat.zero_le _) h1
    simp only [List.drop_zero, Nat.sub_zero] at e3
    simp only [vop, hx, hhi, Option.map_some, V.str, vslice, ht, vbounds, vboundO, vbound, e2, cond_true, natF_eq, Int.toNat_natCast, e3]⟩
theorem Val.minii {ts : Array TypeId} {x y : Operand} {k : IntKind} {a b : Int} (hx : opnd fr x = some (.i k a)) (hy : opnd fr y = some (.i k b)) : Val P ro call fr (.call ⟨.builtin .min, #[x, y], ts⟩) (.i k (if b < a then b else a)) :=
  ⟨rfl, fun st => by
    simp only [vop, opnds, hx, hy, vbuiltin, vminL, vmin2, cond_true, ilt]
    by_cases e : b < a <;> simp [e]⟩
end

/-! ### Small things that the texts below need -/

theorem frame1 (a : V) : frameOf [a] 0 .e = (T.e : T V).upd 0 (some a) := by simp only [frameOf, V.force_eq]
theorem frame2 (a b : V) : frameOf [a, b] 0 .e = ((T.e : T V).upd 0 (some a)).upd 1 (some b) := by simp only [frameOf, V.force_eq]
theorem frame3 (a b c : V) : frameOf [a, b, c] 0 .e = (((T.e : T V).upd 0 (some a)).upd 1 (some b)).upd 2 (some c) := by simp only [frameOf, V.force_eq]
theorem frame4 (a b c d : V) : frameOf [a, b, c, d] 0 .e = ((((T.e : T V).upd 0 (some a)).upd 1 (some b)).upd 2 (some c)).upd 3 (some d) := by simp only [frameOf, V.force_eq]
theorem opnds0 {fr : T V} : opnds fr [] = some [] := rfl
theorem opndsC {fr : T V} {x : Operand} {l : List Operand} {v : V} {vs : List V} (h : opnd fr x = some v) (hs : opnds fr l = some vs) : opnds fr (x :: l) = some (v :: vs) := by simp only [opnds, h, hs]
theorem el {t i : Nat} {W : List Nat} (h : W.elem t = false) (hi : W.elem i = true) : Nat.beq t i = false := by
  cases e : Nat.beq t i with
  | false => rfl
  | true => rw [Nat.beq_eq] at e; subst e; rw [h] at hi; cases hi

section
variable {P : Program} {ov : Ov} {ro n nt : Nat}
theorem Ops.cutN {ops : Array Oper} {l : List Oper} {fr : T V} {st : St} {K : T V → St → Prop} (k : Nat) (W : List Nat) (d : Nat) (v : V)
    (h : Ops P ov ro n nt ops (l.take k) fr st (fun fr' st' => fr'.get d = some v ∧ (∀ t, W.elem t = false → fr'.get t = fr.get t) ∧ st' = st))
    (kk : ∀ fr' : T V, fr'.get d = some v → (∀ t, W.elem t = false → fr'.get t = fr.get t) → Ops P ov ro n nt ops (l.drop k) fr' st K) : Ops P ov ro n nt ops l fr st K := by
  have := Ops.cut h (l2 := l.drop k) (K := K) (fun fr' st' ⟨h1, h2, h3⟩ => by subst h3; exact kk fr' h1 h2)
  rwa [List.take_append_drop] at this
theorem OpsQ.cutN {ops : Array Oper} {l : List Oper} {fr : T V} {st : St} {K : T V → Prop} (k : Nat) (W : List Nat) (d : Nat) (v : V)
    (h : OpsQ P ov ro n nt ops (l.take k) fr st (fun fr' => fr'.get d = some v ∧ (∀ t, W.elem t = false → fr'.get t = fr.get t)))
    (kk : ∀ fr' : T V, fr'.get d = some v → (∀ t, W.elem t = false → fr'.get t = fr.get t) → OpsQ P ov ro n nt ops (l.drop k) fr' st K) : OpsQ P ov ro n nt ops l fr st K := by
  have := OpsQ.cut h (l2 := l.drop k) (K := K) (fun fr' ⟨h1, h2⟩ => kk fr' h1 h2)
  rwa [List.take_append_drop] at this

/-- The frame under a new name. -/
theorem Wp.rebase {c : Code} {fr : T V} {st : St} {Q : Ex → T V → St → Prop} (h : ∀ fr' : T V, (∀ t, fr'.get t = fr.get t) → Wp P ov ro n nt c fr' st Q) : Wp P ov ro n nt c fr st Q := h fr fun _ => rfl

/-- The end of a call with one result. -/
theorem Fin.one {fn : Func} {Q : V → St → Prop} {e : Ex} {fr : T V} {st : St} {t : Nat} {v : V} (he : e = .nrm ∨ e = .ret) (hr : fn.results.toList = [.tmp t]) (hv : fr.get t = some v) (h : Q v st) : Fin P fn Q e fr st := by
  have key : ∃ vs, resultsOf P fr st fn.results.toList = some vs ∧ Q (oneOf vs) st := ⟨[v], by rw [hr]; simp only [resultsOf, resultOf, hv], h⟩
  rcases he with rfl | rfl <;> exact key
theorem Fin.two {fn : Func} {Q : V → St → Prop} {e : Ex} {fr : T V} {st : St} {t u : Nat} {v x : V} (he : e = .nrm ∨ e = .ret) (hr : fn.results.toList = [.tmp t, .tmp u]) (hv : fr.get t = some v) (hx : fr.get u = some x) (h : Q (.t [v, x]) st) : Fin P fn Q e fr st := by
  have key : ∃ vs, resultsOf P fr st fn.results.toList = some vs ∧ Q (oneOf vs) st := ⟨[v, x], by rw [hr]; simp only [resultsOf, resultOf, hv, hx], h⟩
  rcases he with rfl | rfl <;> exact key
theorem Fin.three {fn : Func} {Q : V → St → Prop} {e : Ex} {fr : T V} {st : St} {t u s : Nat} {v x y : V} (he : e = .nrm ∨ e = .ret) (hr : fn.results.toList = [.tmp t, .tmp u, .tmp s]) (hv : fr.get t = some v) (hx : fr.get u = some x) (hy : fr.get s = some y) (h : Q (.t [v, x, y]) st) : Fin P fn Q e fr st := by
  have key : ∃ vs, resultsOf P fr st fn.results.toList = some vs ∧ Q (oneOf vs) st := ⟨[v, x, y], by rw [hr]; simp only [resultsOf, resultOf, hv, hx, hy], h⟩
  rcases he with rfl | rfl <;> exact key
end

theorem cutAT {x y : Bool} (h : x = true) : some (V.b y) = some (V.b (x && y)) := by rw [h, Bool.true_and]
theorem cutOF {x y : Bool} (h : x = false) : some (V.b y) = some (V.b (x || y)) := by rw [h, Bool.false_or]
theorem cutAF {x y : Bool} (h : x = false) : some (V.b false) = some (V.b (x && y)) := by rw [h, Bool.false_and]
theorem cutOT {x y : Bool} (h : x = true) : some (V.b true) = some (V.b (x || y)) := by rw [h, Bool.true_or]
theorem notB {x y : Bool} (h : (!x) = y) : x = !y := by cases x <;> cases y <;> simp_all
theorem andL {x y : Bool} (h : (x && y) = true) : x = true := by cases x <;> simp_all
theorem andR {x y : Bool} (h : (x && y) = true) : y = true := by cases y <;> simp_all
theorem orL {x y : Bool} (h : (x || y) = false) : x = false := by cases x <;> simp_all
theorem orR {x y : Bool} (h : (x || y) = false) : y = false := by cases y <;> simp_all
theorem iffD {p : Prop} [Decidable p] : decide p = true ↔ p := decide_eq_true_iff
theorem iffN {x : Bool} {p : Prop} (h : x = true ↔ p) : (!x) = true ↔ ¬ p := by cases x <;> simp_all
theorem iffA {x y : Bool} {p q : Prop} (h : x = true ↔ p) (k : y = true ↔ q) : (x && y) = true ↔ p ∧ q := by rw [Bool.and_eq_true, h, k]
theorem iffO {x y : Bool} {p q : Prop} (h : x = true ↔ p) (k : y = true ↔ q) : (x || y) = true ↔ p ∨ q := by rw [Bool.or_eq_true, h, k]
theorem iffE {a b : List UInt8} : (a == b) = true ↔ a = b := beq_iff_eq
theorem beqT {a b : List UInt8} (h : (a == b) = true) : a = b := beq_iff_eq.1 h
theorem beqF {a b : List UInt8} (h : (a == b) = false) : ¬ a = b := fun e => by rw [beq_iff_eq.2 e] at h; cases h
theorem andF {x y : Bool} {p q : Prop} (h : x = true ↔ p) (k : y = true ↔ q) (e : (x && y) = false) : ¬ (p ∧ q) := fun ⟨a, b⟩ => by rw [h.2 a, k.2 b] at e; cases e
theorem orT {x y : Bool} {p q : Prop} (h : x = true ↔ p) (k : y = true ↔ q) (e : (x || y) = true) : p ∨ q := by rw [Bool.or_eq_true, h, k] at e; exact e
theorem elW {t : Nat} {W W' : List Nat} (h : W.elem t = false) (hs : W'.all (W.elem ·) = true) : W'.elem t = false := by
  rw [Bool.eq_false_iff] at h ⊢
  intro q
  rw [List.all_eq_true] at hs
  exact h (hs t (List.elem_iff.1 q))
end Go.Vm
