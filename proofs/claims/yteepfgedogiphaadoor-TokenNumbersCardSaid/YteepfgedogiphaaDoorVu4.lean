/-
  Operations on slices, held against the model's. Nothing is claimed here.
-/
import Derived.Test.YteepfgedogiphaaDoorVu3
import Derived.Laws.Slices
namespace Go.Vm
open Go.RowKit

section
variable {P : Program} {J : Inj} {ro : Nat} {B : World} {st : St} {w : World}

/-! ### Slicing -/

theorem vslice_real {n : Nat} {t : TypeId} {x v : V} {lo hi mx : Option V} (hx : x.ok n) (h : vslice P t x lo hi mx = some v) :
    (Instr.sliceAt t (x.real J) (lo.map (V.real J)) (hi.map (V.real J)) (mx.map (V.real J))).run P w = .ok (v.real J) w ∧ v.ok n := by
  unfold vslice at h
  split at h
  · rename_i len bits e
    cases mx with
    | some z => simp at h
    | none =>
      simp only at h
      cases hb : vbounds len len lo hi none with
      | none => simp [hb] at h
      | some q =>
        obtain ⟨l, hh, m⟩ := q
        simp only [hb, Option.some.injEq] at h
        subst h
        simp only [V.ok] at hx
        obtain ⟨r1, r2, r3, r4, r5⟩ := vbounds_real (P := P) (J := J) (w := w) (isS := false) (capr := len) (Nat.le_refl _) (.inl rfl) (Nat.le_refl _) hb
        have hs : (⟨(unpackL len bits).toArray⟩ : ByteArray).size = len := by simp [ByteArray.size, length_unpackL]
        refine ⟨?_, by simp only [sCut, V.ok]; exact Nat.mod_lt _ (Nat.pow_pos (by decide))⟩
        simp only [V.real, Instr.sliceAt, Sem.run_bind, run_underlying e, Result.andThen_ok, Instr.slice, Option.map_none]
        simp only [Option.map_none, Option.isSome_none] at r1
        simp only [hs, r1, Result.andThen_ok, Option.isSome_none, Bool.false_eq_true, if_false, Sem.run_pure, Sem.run_bind]
        rw [ByteArray.extract_mk, sCut, V.real, unpackL_cut len bits l hh r2 (by omega)]
  · rename_i el g off len cap op e
    cases hs : sizeB P el with
    | none => simp [hs] at h
    | some k =>
      simp only [hs] at h
      have hmx : mx = none ∨ hi.isSome = true := by cases hi <;> cases mx <;> simp_all
      have h' : (match vbounds len cap lo hi mx with
        | some (l, h, m) => cond (op && mx.isNone)
          (cond (Nat.blt l cap || Nat.beq l 0) (some (V.sl g (off + l * k) (h - l) (cap - l) true)) none)
          (some (V.sl g (cond (Nat.beq m l) off (off + l * k)) (h - l) (m - l) false))
        | none => none) = some v := by
        cases hi <;> cases mx <;> first | exact h | simp at h
      clear h
      cases hb : vbounds len cap lo hi mx with
      | none => simp [hb] at h'
      | some q =>
        obtain ⟨l, hh, m⟩ := q
        simp only [hb] at h'
        simp only [V.ok] at hx
        obtain ⟨r1, r2, r3, r4, r5⟩ := vbounds_real (P := P) (J := J) (w := w) (isS := true) (capr := cap + cond op (J.m g).2.2 0) (by omega) hmx hx.2 hb
        simp only [V.real, Instr.sliceAt, Sem.run_bind, run_underlying e, Result.andThen_ok, Instr.slice, r1, sizeB_run w hs, Sem.run_pure]
        cases hc : (op && mx.isNone) with
        | true =>
          simp only [hc, cond_true] at h'
          simp only [Bool.and_eq_true, Option.isNone_iff_eq_none] at hc
          obtain ⟨rfl, rfl⟩ := hc
          have hm := r5 rfl
          subst hm
          generalize hd : (Nat.blt l m || Nat.beq l 0) = d at h'
          cases d with
          | false => simp at h'
          | true =>
            simp only [cond_true, Option.some.injEq] at h'
            subst h'
            simp only [Bool.or_eq_true, Nat.blt_eq, Nat.beq_eq] at hd
            refine ⟨?_, by simp only [V.ok]; omega⟩
            simp only [V.real, cond_true, Option.isSome_none, Bool.false_eq_true, if_false, Result.ok.injEq, Value.slice.injEq, and_true, true_and]
            refine ⟨?_, by omega⟩
            by_cases hml : m + (J.m g).2.2 = l
            · rw [if_pos hml]
              have : l = 0 := by omega
              subst this
              simp
            · rw [if_neg hml]
              simp [Addr.add_lit, Nat.add_assoc]
        | false =>
          simp only [hc, cond_false, Option.some.injEq] at h'
          subst h'
          refine ⟨?_, by simp only [V.ok]; omega⟩
          have hM : (if mx.isSome = true then m else cap + cond op (J.m g).2.2 0) = m := by
            cases mx with
            | some z => simp
            | none =>
              have : op = false := by simpa using hc
              subst this
              simp [r5 rfl]
          rw [hM]
          simp only [V.real, cond_false, Nat.add_zero, Result.ok.injEq, Value.slice.injEq, and_true]
          by_cases hml : m = l
          · subst hml; simp
          · have : Nat.beq m l = false := by rw [Bool.eq_false_iff]; intro h; rw [Nat.beq_eq] at h; exact hml h
            simp [hml, this, Addr.add_lit, Nat.add_assoc]
  · rename_i el e
    cases hs : sizeB P el with
    | none => simp [hs] at h
    | some k =>
      simp only [hs] at h
      have hmx : mx = none ∨ hi.isSome = true := by cases hi <;> cases mx <;> simp_all
      have h' : (match vbounds 0 0 lo hi mx with
        | some _ => some V.sn
        | none => none) = some v := by
        cases hi <;> cases mx <;> first | exact h | simp at h
      clear h
      cases hb : vbounds 0 0 lo hi mx with
      | none => simp [hb] at h'
      | some q =>
        obtain ⟨l, hh, m⟩ := q
        simp only [hb, Option.some.injEq] at h'
        subst h'
        obtain ⟨r1, r2, r3, r4, r5⟩ := vbounds_real (P := P) (J := J) (w := w) (isS := true) (capr := 0) (Nat.le_refl _) hmx (Nat.le_refl _) hb
        refine ⟨?_, by simp [V.ok]⟩
        have : m = 0 := by omega
        subst this
        have : hh = 0 := by omega
        subst this
        have : l = 0 := by omega
        subst this
        simp [V.real, Instr.sliceAt, run_underlying e, Instr.slice, r1, sizeB_run w hs]
  · rename_i len el g off e
    cases hs : sizeB P el with
    | none => simp [hs] at h
    | some k =>
      simp only [hs] at h
      have hmx : mx = none ∨ hi.isSome = true := by cases hi <;> cases mx <;> simp_all
      have h' : (match vbounds len len lo hi mx with
        | some (l, h, m) => some (V.sl g (cond (Nat.beq m l) off (off + l * k)) (h - l) (m - l) false)
        | none => none) = some v := by
        cases hi <;> cases mx <;> first | exact h | simp at h
      clear h
      cases hb : vbounds len len lo hi mx with
      | none => simp [hb] at h'
      | some q =>
        obtain ⟨l, hh, m⟩ := q
        simp only [hb, Option.some.injEq] at h'
        subst h'
        simp only [V.ok] at hx
        obtain ⟨r1, r2, r3, r4, r5⟩ := vbounds_real (P := P) (J := J) (w := w) (isS := false) (capr := len) (Nat.le_refl _) hmx (Nat.le_refl _) hb
        refine ⟨?_, by simp only [V.ok]; omega⟩
        have hM : (if mx.isSome = true then m else len) = m := by
          cases mx with
          | some z => simp
          | none => simp [r5 rfl]
        rw [hM] at r1
        simp only [V.real, Instr.sliceAt, Sem.run_bind, run_underlying e, Result.andThen_ok, Instr.sureAddr, Sem.run_pure, r1, sizeB_run w hs]
        by_cases hml : m = l
        · subst hml; simp
        · have : Nat.beq m l = false := by rw [Bool.eq_false_iff]; intro h; rw [Nat.beq_eq] at h; exact hml h
          simp [hml, this, Addr.add_lit, Nat.add_assoc]
  · simp at h
end
end Go.Vm
