/-
  Binary and unary operations, indexing, slicing, building: held against the model's. Nothing is claimed here.
-/
import Derived.Test.YtnfddmjbfkfnhaaGreatDoorVo
namespace Go.Vm
open Go.RowKit

section
variable {P : Program} {J : Inj} (w : World)

theorem vint_real {op : BinOp} {k : IntKind} {a b : Int} {v : V} {t : TypeId} (h1 : op ≠ .shl) (h2 : op ≠ .shr) (h : vint op k a b = some v) :
    (binOp op t (.int k a) (.int k b)).run P w = .ok (v.real J) w ∧ ∀ n, v.ok n := by
  cases op <;> simp only [vint, vbits] at h
  case quo =>
    by_cases hb : b = 0
    · simp [hb] at h
    · simp only [hb, decide_false, cond_false, Option.some.injEq] at h
      subst h
      simp [binOp, Op.intDiv, hb, V.real, V.ok]
  case rem =>
    by_cases hb : b = 0
    · simp [hb] at h
    · simp only [hb, decide_false, cond_false, Option.some.injEq] at h
      subst h
      simp [binOp, Op.intDiv, hb, V.real, V.ok]
  all_goals first
    | (simp only [Option.some.injEq] at h; subst h; simp [binOp, Op.intArith, Op.intBits, Op.intCmp, V.real, V.ok, ilt, ile]; done)
    | (simp only [Option.some.injEq] at h; subst h; constructor <;> simp [binOp, Op.intArith, Op.intBits, Op.intCmp, V.real, V.ok, ilt, ile] <;> rfl)
    | simp_all

theorem vshift_real {op : BinOp} {k yk : IntKind} {a b : Int} {v : V} {t : TypeId} (h : vshift op k a b = some v) :
    (binOp op t (.int k a) (.int yk b)).run P w = .ok (v.real J) w ∧ ∀ n, v.ok n := by
  cases op <;> simp only [vshift] at h
  case shl =>
    by_cases hb : b < 0
    · simp [ilt, hb] at h
    · simp only [ilt, hb, decide_false, cond_false, Option.some.injEq] at h
      subst h
      simp [binOp, Op.shift, hb, V.real, V.ok]
  case shr =>
    by_cases hb : b < 0
    · simp [ilt, hb] at h
    · simp only [ilt, hb, decide_false, cond_false, Option.some.injEq] at h
      subst h
      simp [binOp, Op.shift, hb, V.real, V.ok]
  all_goals simp at h

theorem ofList_append (a b : List UInt8) : (⟨a.toArray⟩ : ByteArray) ++ ⟨b.toArray⟩ = ⟨(a ++ b).toArray⟩ := by
  apply ByteArray.ext
  simp

theorem vstr_real {op : BinOp} {l x m y : Nat} {v : V} {t : TypeId} (hx : x < 256 ^ l) (hy : y < 256 ^ m) (h : vstr op l x m y = some v) :
    (binOp op t ((V.s l x).real J) ((V.s m y).real J)).run P w = .ok (v.real J) w ∧ ∀ n, v.ok n := by
  have hs : ∀ n x, (⟨(unpackL n x).toArray⟩ : ByteArray).size = n := fun n x => by simp [ByteArray.size, length_unpackL]
  cases op <;> simp only [vstr] at h
  case add =>
    cases hb : Nat.ble (l + m) 1099511627776 with
    | false => simp [hb] at h
    | true =>
      simp only [hb, cond_true, Option.some.injEq] at h
      rw [Nat.ble_eq] at hb
      subst h
      refine ⟨?_, fun n => by simp only [sApp, V.ok]; exact app_lt l m x y hx hy⟩
      have : ¬ (((l + m : Nat) : Int) > IntKind.i64.max) := by simp; omega
      simp only [V.real, binOp, Op.stringOp, hs, this, if_false, Sem.run_pure, sApp, unpackL_app l m x y hx, ofList_append]
  all_goals first
    | (simp only [Option.some.injEq] at h; subst h; constructor <;> simp [V.real, binOp, Op.stringOp, V.ok, ByteArray.toList_mk, unpackL_beq _ _ _ _ hx hy]; done)
    | simp at h
theorem vequal_real {n : Nat} {t : TypeId} {x y : V} {r : Bool} (hx : x.ok n) (hy : y.ok n) (h : vequal P t x y = some r) :
    (Op.equal t (x.real J) (y.real J)).run P w = .ok r w ∧ ∀ (op : BinOp) (a b : Operand), (eqGuard op t a b (x.real J) (y.real J)).run P w = .ok () w := by
  unfold vequal at h
  split at h
  · rename_i xs ys
    cases hg : P.eqGuardType P.depth t with
    | true => simp [hg] at h
    | false =>
      simp only [hg, cond_false] at h
      exact ⟨veq_real w 60 Op.maxDepth t _ _ r (by decide) hx hy h, fun op a b => by simp only [V.real]; exact run_eqGuard_agg w op t a b _ _ hg⟩
  · simp at h
  · rename_i h1 h2
    refine ⟨veq_real w 60 Op.maxDepth t _ _ r (by decide) hx hy h, fun op a b => ?_⟩
    have : eqGuard op t a b (x.real J) (y.real J) = pure () := by
      unfold eqGuard
      cases x <;> cases y <;> simp only [V.real] <;> first
        | rfl
        | (cases op <;> rfl)
        | (exact absurd rfl (h1 _ _ rfl))
        | (exact absurd rfl (h2 rfl))
        | (exact (h1 _ _ rfl rfl).elim)
        | (exact (h2 rfl rfl).elim)
    rw [this]; rfl

theorem binOp_eql {t : TypeId} {x y : V} (h1 : ∀ k a k' b, x = .i k a → y = .i k' b → False) (h2 : ∀ l a m b, x = .s l a → y = .s m b → False) :
    binOp .eql t (x.real J) (y.real J) = (do pure (.bool (← Op.equal t (x.real J) (y.real J)))) := by
  cases x <;> cases y <;> first
    | (exact (h1 _ _ _ _ rfl rfl).elim)
    | (exact (h2 _ _ _ _ rfl rfl).elim)
    | (simp only [V.real, binOp]; done)
    | (simp only [V.real]; unfold binOp; rfl)
theorem binOp_neq {t : TypeId} {x y : V} (h1 : ∀ k a k' b, x = .i k a → y = .i k' b → False) (h2 : ∀ l a m b, x = .s l a → y = .s m b → False) :
    binOp .neq t (x.real J) (y.real J) = (do pure (.bool (!(← Op.equal t (x.real J) (y.real J))))) := by
  cases x <;> cases y <;> first
    | (exact (h1 _ _ _ _ rfl rfl).elim)
    | (exact (h2 _ _ _ _ rfl rfl).elim)
    | (simp only [V.real, binOp]; done)
    | (simp only [V.real]; unfold binOp; rfl)

theorem vbin_real {n : Nat} {op : BinOp} {t : TypeId} {x y : V} {v : V} (a b : Operand) (hx : x.ok n) (hy : y.ok n) (h : vbin P op t x y = some v) :
    (do eqGuard op t a b (x.real J) (y.real J); binOp op t (x.real J) (y.real J) : Sem Value).run P w = .ok (v.real J) w ∧ v.ok n := by
  unfold vbin at h
  split at h
  · rename_i k p k' q
    simp only [V.real, eqGuard_at_int]
    split at h
    · obtain ⟨q1, q2⟩ := vshift_real (P := P) (J := J) w (t := t) (yk := k') h
      exact ⟨by simpa using q1, q2 n⟩
    · obtain ⟨q1, q2⟩ := vshift_real (P := P) (J := J) w (t := t) (yk := k') h
      exact ⟨by simpa using q1, q2 n⟩
    · rename_i h1 h2
      by_cases hk : k = k'
      · subst hk
        simp only [decide_true, cond_true] at h
        obtain ⟨q1, q2⟩ := vint_real (P := P) (J := J) w (t := t) (fun e => h1 e) (fun e => h2 e) h
        exact ⟨by simpa using q1, q2 n⟩
      · simp [hk] at h
  · rename_i l p m q
    simp only [V.ok] at hx hy
    obtain ⟨q1, q2⟩ := vstr_real (P := P) (J := J) w (t := t) hx hy h
    have : eqGuard op t a b ((V.s l p).real J) ((V.s m q).real J) = pure () := by simp only [V.real, eqGuard_at_string]
    rw [this]
    exact ⟨by simpa using q1, q2 n⟩
  · rename_i h1 h2
    split at h
    · cases he : vequal P t x y with
      | none => simp [he] at h
      | some r =>
        simp only [he, Option.some.injEq] at h
        subst h
        obtain ⟨q1, q2⟩ := vequal_real (J := J) w hx hy he
        rw [binOp_eql (fun k a k' b e1 e2 => h1 k a k' b e1 e2) (fun k a k' b e1 e2 => h2 k a k' b e1 e2)]
        simp [q1, q2, V.real, V.ok]
    · cases he : vequal P t x y with
      | none => simp [he] at h
      | some r =>
        simp only [he, Option.some.injEq] at h
        subst h
        obtain ⟨q1, q2⟩ := vequal_real (J := J) w hx hy he
        rw [binOp_neq (fun k a k' b e1 e2 => h1 k a k' b e1 e2) (fun k a k' b e1 e2 => h2 k a k' b e1 e2)]
        simp [q1, q2, V.real, V.ok]
    · simp at h

theorem vun_real {op : UnOp} {x v : V} (h : vun op x = some v) : (Op.unary op (x.real J)).run P w = .ok (v.real J) w ∧ ∀ n, v.ok n := by
  unfold vun at h
  split at h
  · simp only [Option.some.injEq] at h; subst h; simp [Op.unary, Op.intArith, V.real, V.ok]
  · simp only [vbits, Option.some.injEq] at h; subst h; simp [Op.unary, Op.intBits, V.real, V.ok]
  · simp only [Option.some.injEq] at h; subst h; simp [Op.unary, V.real, V.ok]
  · simp at h

theorem sizeB_run {t : TypeId} {n : Nat} (h : sizeB P t = some n) : (sizeOf t).run P w = .ok n w := by
  unfold sizeB at h
  cases hi : P.info? t with
  | none => simp [hi] at h
  | some ti => simp only [hi, Option.some.injEq] at h; subst h; simp [sizeOf, typeInfo, hi]

theorem vindex_real {n : Nat} {t : TypeId} {x v : V} {k : IntKind} {i : Int} (hx : x.ok n) (h : vindex P t x i = some v) :
    (Instr.index t (x.real J) (.int k i)).run P w = .ok (v.real J) w ∧ v.ok n := by
  unfold vindex at h
  split at h
  · rename_i len bits e
    simp only [V.ok] at hx
    cases hb : (ile 0 i && ilt i len) with
    | false => simp [hb] at h
    | true =>
      simp only [hb, cond_true, Option.some.injEq] at h
      simp only [ile, ilt, Bool.and_eq_true, decide_eq_true_eq] at hb
      subst h
      have hs : (⟨(unpackL len bits).toArray⟩ : ByteArray).size = len := by simp [ByteArray.size, length_unpackL]
      simp only [V.real]
      rw [run_index_string w t _ k i e, dif_pos (by rw [hs]; exact hb)]
      refine ⟨?_, by simp [V.ok]⟩
      have hg := unpackL_get len bits i.toNat (by omega)
      have : ((⟨(unpackL len bits).toArray⟩ : ByteArray)[i.toNat]'(by rw [hs]; omega)) = UInt8.ofNat (byteAt bits i.toNat) := by
        have h2 : i.toNat < (unpackL len bits).length := by rw [length_unpackL]; omega
        rw [List.getElem?_eq_getElem h2, Option.some.injEq] at hg
        rw [← hg]; rfl
      rw [this]
      have := byteAt_lt bits i.toNat
      simp; omega
  · rename_i len el cs e
    cases hn : sizeB P el with
    | none => simp [hn] at h
    | some sz =>
      simp only [hn] at h
      cases hb : (ile 0 i && ilt i len) with
      | false => simp [hb] at h
      | true =>
        simp only [hb, cond_true] at h
        simp only [ile, ilt, Bool.and_eq_true, decide_eq_true_eq] at hb
        simp only [V.ok, V.oks_iff] at hx
        refine ⟨?_, vpart_ok h hx⟩
        simp only [V.real, V.reals_eq, Instr.index, Sem.run_bind, asIntOf, Sem.run_pure, Result.andThen_ok, run_underlying e, Sem.run_ite, hb, and_self, if_true, sizeB_run w hn, vpart_real w h]
  · simp at h

theorem vfield_real {n : Nat} {t : TypeId} {x v : V} {f : Nat} (hx : x.ok n) (h : vfield P t x f = some v) :
    (Instr.field t (x.real J) f).run P w = .ok (v.real J) w ∧ v.ok n := by
  unfold vfield at h
  split at h
  · rename_i fs cs e
    cases hf : fs[f]? with
    | none => simp [hf] at h
    | some fd =>
      simp only [hf] at h
      simp only [V.ok, V.oks_iff] at hx
      refine ⟨?_, vpart_ok h hx⟩
      simp only [V.real, V.reals_eq, Instr.field, Sem.run_bind, run_underlying e, Result.andThen_ok, hf, asAgg, Sem.run_pure, vpart_real w h]
  · simp at h

theorem vfieldAddr_real {n : Nat} {t : TypeId} {g off f : Nat} {v : V} (hx : g < n) (h : vfieldAddr P t g off f = some v) :
    (Instr.fieldAt t ((V.p g off).real J) f).run P w = .ok (v.real J) w ∧ v.ok n := by
  unfold vfieldAddr at h
  split at h
  · rename_i fs e
    cases hf : fs[f]? with
    | none => simp [hf] at h
    | some fd =>
      simp only [hf] at h
      cases hn : sizeB P fd.type with
      | none => simp [hn] at h
      | some sz =>
        simp only [hn] at h
        cases hb : Nat.blt 0 sz with
        | false => simp [hb] at h
        | true =>
          simp only [hb, cond_true, Option.some.injEq] at h
          rw [Nat.blt_eq] at hb
          subst h
          refine ⟨?_, by simp only [V.ok]; exact hx⟩
          simp only [V.real, Instr.fieldAt, Sem.run_bind, run_underlying e, Result.andThen_ok, hf, Instr.sureAddr, Sem.run_pure, fieldPlace, sizeB_run w hn, Sem.run_ite, if_neg (show ¬ sz = 0 by omega), Addr.add_lit, Nat.add_assoc]
  · simp at h

theorem vindexAddr_real {n : Nat} {t : TypeId} {x v : V} {k : IntKind} {i : Int} (hx : x.ok n) (h : vindexAddr P t x i = some v) :
    (Instr.indexAt t (x.real J) (.int k i)).run P w = .ok (v.real J) w ∧ v.ok n := by
  unfold vindexAddr at h
  split at h
  · rename_i el g off len cap op e
    cases hn : sizeB P el with
    | none => simp [hn] at h
    | some sz =>
      simp only [hn] at h
      cases hb : (ile 0 i && ilt i len) with
      | false => simp [hb] at h
      | true =>
        simp only [hb, cond_true, Option.some.injEq] at h
        simp only [ile, ilt, Bool.and_eq_true, decide_eq_true_eq] at hb
        subst h
        simp only [V.ok] at hx
        refine ⟨?_, by simp only [V.ok]; exact hx.1⟩
        simp only [V.real, Instr.indexAt, Sem.run_bind, asIntOf, Sem.run_pure, Result.andThen_ok, run_underlying e, Sem.run_ite, hb, and_self, if_true, sizeB_run w hn, Addr.add_lit, Nat.add_assoc]
  · rename_i len el g off e
    cases hn : sizeB P el with
    | none => simp [hn] at h
    | some sz =>
      simp only [hn] at h
      cases hb : (ile 0 i && ilt i len) with
      | false => simp [hb] at h
      | true =>
        simp only [hb, cond_true, Option.some.injEq] at h
        simp only [ile, ilt, Bool.and_eq_true, decide_eq_true_eq] at hb
        subst h
        simp only [V.ok] at hx
        refine ⟨?_, by simp only [V.ok]; exact hx⟩
        simp only [V.real, Instr.indexAt, Sem.run_bind, asIntOf, Sem.run_pure, Result.andThen_ok, run_underlying e, Sem.run_ite, hb, and_self, if_true, sizeB_run w hn, Addr.add_lit, Nat.add_assoc, Instr.sureAddr]
  · simp at h
end
end Go.Vm
