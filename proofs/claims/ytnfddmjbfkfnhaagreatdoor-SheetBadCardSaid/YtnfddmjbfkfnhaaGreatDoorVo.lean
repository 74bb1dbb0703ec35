/-
  Operations on values, held against the model's: plain lemmas. Nothing is claimed here.
-/
import Derived.Test.YtnfddmjbfkfnhaaGreatDoorVs
namespace Go.Vm
open Go.RowKit

theorem mapO_spec {α β : Type} {f : α → Option β} : ∀ (l : List α) (r : List β), mapO f l = some r → r.length = l.length ∧ ∀ (i : Nat) (x : α), l[i]? = some x → ∃ y, r[i]? = some y ∧ f x = some y
  | [], r, h => by simp only [mapO, Option.some.injEq] at h; subst h; simp
  | x :: l, r, h => by
    simp only [mapO] at h
    cases h1 : f x with
    | none => simp [h1] at h
    | some y =>
      cases h2 : mapO f l with
      | none => simp [h1, h2] at h
      | some ys =>
        simp only [h1, h2, Option.some.injEq] at h
        subst h
        obtain ⟨q1, q2⟩ := mapO_spec l ys h2
        refine ⟨by simp [q1], fun i z hz => ?_⟩
        cases i with
        | zero => simp only [List.getElem?_cons_zero, Option.some.injEq] at hz; subst hz; exact ⟨y, by simp, h1⟩
        | succ i => simp only [List.getElem?_cons_succ] at hz; obtain ⟨y', a1, a2⟩ := q2 i z hz; exact ⟨y', by simpa using a1, a2⟩

theorem mapO_map {α β γ : Type} {f : α → Option β} {g : β → γ} {k : α → γ} (hk : ∀ x y, f x = some y → g y = k x) : ∀ (l : List α) (r : List β), mapO f l = some r → r.map g = l.map k
  | [], r, h => by simp only [mapO, Option.some.injEq] at h; subst h; simp
  | x :: l, r, h => by
    simp only [mapO] at h
    cases h1 : f x with
    | none => simp [h1] at h
    | some y =>
      cases h2 : mapO f l with
      | none => simp [h1, h2] at h
      | some ys =>
        simp only [h1, h2, Option.some.injEq] at h
        subst h
        simp [hk x y h1, mapO_map hk l ys h2]
theorem mapO_all {α β : Type} {f : α → Option β} {p : β → Prop} (hk : ∀ x y, f x = some y → p y) : ∀ (l : List α) (r : List β), mapO f l = some r → ∀ y ∈ r, p y
  | [], r, h => by simp only [mapO, Option.some.injEq] at h; subst h; simp
  | x :: l, r, h => by
    simp only [mapO] at h
    cases h1 : f x with
    | none => simp [h1] at h
    | some y =>
      cases h2 : mapO f l with
      | none => simp [h1, h2] at h
      | some ys =>
        simp only [h1, h2, Option.some.injEq] at h
        subst h
        intro z hz
        rcases List.mem_cons.1 hz with rfl | hz
        · exact hk x _ h1
        · exact mapO_all hk l ys h2 z hz

theorem V.str_real (J : Inj) (l : List UInt8) : (V.str l).real J = .string ⟨l.toArray⟩ := by simp [V.str, V.real, unpackL_packL]
theorem V.str_ok (n : Nat) (l : List UInt8) : (V.str l).ok n := by simp only [V.str, V.ok]; exact packL_lt l

/-- A constant of the code. -/
theorem ofV_real (J : Inj) (n : Nat) : ∀ (d : Nat) (x : Value) (v : V), ofV d x = some v → v.real J = x ∧ v.ok n := by
  intro d
  induction d with
  | zero => intro x v h; simp [ofV] at h
  | succ d ih =>
    have lst : ∀ (cs : Array Value) (r : List V), mapO (ofV d) cs.toList = some r → (V.reals J r).toArray = cs ∧ V.oks n r := by
      intro cs r h
      refine ⟨?_, ?_⟩
      · rw [V.reals_eq, mapO_map (g := V.real J) (k := id) (fun x y hxy => (ih x y hxy).1) _ _ h]; simp
      · rw [V.oks_iff]; exact mapO_all (fun x y hxy => (ih x y hxy).2) _ _ h
    intro x v h
    unfold ofV at h
    split at h
    · simp at *
    · simp only [Option.some.injEq] at h; subst h; simp [V.real, V.ok]
    · simp only [Option.some.injEq] at h; subst h; simp [V.real, V.ok]
    · rename_i s _
      simp only [Option.some.injEq] at h; subst h; exact ⟨by rw [V.str_real], V.str_ok _ _⟩
    · simp only [Option.some.injEq] at h; subst h; simp [V.real, V.ok]
    · simp only [Option.some.injEq] at h; subst h; simp [V.real, V.ok]
    · simp only [Option.some.injEq] at h; subst h; simp [V.real, V.ok]
    · simp only [Option.some.injEq] at h; subst h; simp [V.real, V.ok]
    · simp only [Option.some.injEq] at h; subst h; simp [V.real, V.ok]
    · rename_i d' cs e
      simp only [Nat.succ_eq_add_one, Nat.add_right_cancel_iff] at e
      subst e
      rw [Option.map_eq_some_iff] at h
      obtain ⟨r, hr, rfl⟩ := h
      obtain ⟨q1, q2⟩ := lst cs r hr
      simp only [V.real, V.ok, q1]; exact ⟨trivial, q2⟩
    · rename_i d' cs e
      simp only [Nat.succ_eq_add_one, Nat.add_right_cancel_iff] at e
      subst e
      rw [Option.map_eq_some_iff] at h
      obtain ⟨r, hr, rfl⟩ := h
      obtain ⟨q1, q2⟩ := lst cs r hr
      simp only [V.real, V.ok, q1]; exact ⟨trivial, q2⟩
    · rename_i d' fn xs ys e
      simp only [Nat.succ_eq_add_one, Nat.add_right_cancel_iff] at e
      subst e
      cases h1 : mapO (ofV d) xs.toList with
      | none => simp [h1] at h
      | some r1 =>
        cases h2 : mapO (ofV d) ys.toList with
        | none => simp [h1, h2] at h
        | some r2 =>
          simp only [h1, h2, Option.some.injEq] at h
          subst h
          obtain ⟨q1, q2⟩ := lst xs r1 h1
          obtain ⟨q3, q4⟩ := lst ys r2 h2
          simp only [V.real, V.ok, q1, q3]; exact ⟨trivial, q2, q4⟩
    · simp at h

section
variable {P : Program} {J : Inj} (w : World)

theorem run_isAgg' {t : TypeId} {d : TypeDesc} (h : P.underlying t = some d) : (isAgg t).run P w = .ok (isAggB P t) w := by
  unfold isAgg isAggB
  simp only [Sem.run_bind, run_underlying h, Result.andThen_ok, h]
  cases d <;> rfl

theorem vpart_real {t : TypeId} {cs : List V} {off : Nat} {v : V} (h : vpart P t cs off = some v) :
    (part t (cs.map (V.real J)).toArray off).run P w = .ok (v.real J) w := by
  unfold vpart at h
  split at h
  · rename_i ti d hi hd
    unfold part
    simp only [Sem.run_bind, run_isAgg' w hd, Result.andThen_ok, Sem.run_ite]
    cases hb : isAggB P t with
    | true =>
      simp only [hb, cond_true, Option.some.injEq] at h
      subst h
      simp [sizeOf, typeInfo, hi, V.real, V.reals_eq, List.map_take, List.map_drop]
    | false =>
      simp only [hb, cond_false] at h
      simp [h]
  · simp at h

theorem vpart_ok {n : Nat} {t : TypeId} {cs : List V} {off : Nat} {v : V} (h : vpart P t cs off = some v) (hc : ∀ c ∈ cs, c.ok n) : v.ok n := by
  unfold vpart at h
  split at h
  · cases hb : isAggB P t with
    | true =>
      simp only [hb, cond_true, Option.some.injEq] at h
      subst h
      simp only [V.ok, V.oks_iff]
      exact fun c hx => hc c (List.mem_of_mem_drop (List.mem_of_mem_take hx))
    | false =>
      simp only [hb, cond_false] at h
      exact hc v (List.mem_of_getElem? h)
  · simp at h

theorem bytes_beq (l m x y : Nat) (hx : x < 256 ^ l) (hy : y < 256 ^ m) : ((⟨(unpackL l x).toArray⟩ : ByteArray).toList == (⟨(unpackL m y).toArray⟩ : ByteArray).toList) = (Nat.beq l m && Nat.beq x y) := by
  rw [ByteArray.toList_mk, ByteArray.toList_mk, unpackL_beq _ _ _ _ hx hy]

theorem veqFields_real {D : Nat} {eq : TypeId → V → V → Option Bool} {n : Nat} {xs ys : List V} (hxs : ∀ c ∈ xs, c.ok n) (hys : ∀ c ∈ ys, c.ok n)
    (he : ∀ t x y r, x.ok n → y.ok n → eq t x y = some r → (Op.equalIn D t (x.real J) (y.real J)).run P w = .ok r w) :
    ∀ (fs : List Field) (r : Bool), veqFields P eq xs ys fs = some r → (Op.eqFields D (xs.map (V.real J)).toArray (ys.map (V.real J)).toArray fs).run P w = .ok r w
  | [], r, h => by simp only [veqFields, Option.some.injEq] at h; subst h; simp [Op.eqFields]
  | f :: fs, r, h => by
    simp only [veqFields] at h
    unfold Op.eqFields
    cases hn : f.name == "_" with
    | true =>
      simp only [hn, cond_true] at h
      have : f.name = "_" := by simpa using hn
      simp only [this, ne_eq, not_true, if_false]
      exact veqFields_real hxs hys he fs r h
    | false =>
      simp only [hn, cond_false] at h
      have : ¬ f.name = "_" := by simpa using hn
      simp only [ne_eq, this, not_false_eq_true, if_true]
      cases h1 : vpart P f.type xs f.offset with
      | none => simp [h1] at h
      | some x =>
        cases h2 : vpart P f.type ys f.offset with
        | none => simp [h1, h2] at h
        | some y =>
          simp only [h1, h2] at h
          cases h3 : eq f.type x y with
          | none => simp [h3] at h
          | some q =>
            have := he f.type x y q (vpart_ok h1 hxs) (vpart_ok h2 hys) h3
            simp only [Sem.run_bind, vpart_real w h1, vpart_real w h2, Result.andThen_ok, this, Sem.run_ite]
            cases q with
            | true => simp only [h3] at h; simpa using veqFields_real hxs hys he fs r h
            | false => simp only [h3, Option.some.injEq] at h; subst h; simp

/-- The loop over an array's elements. -/
theorem run_arrayEq {D : Nat} {eq : TypeId → V → V → Option Bool} {n : Nat} {t : TypeId} {sz : Nat} {xs ys : List V} (hxs : ∀ c ∈ xs, c.ok n) (hys : ∀ c ∈ ys, c.ok n)
    (he : ∀ t x y r, x.ok n → y.ok n → eq t x y = some r → (Op.equalIn D t (x.real J) (y.real J)).run P w = .ok r w) :
    ∀ (m i : Nat) (r : Bool), veqElems P eq t sz xs ys i m = some r →
      (forIn (List.range' i m 1) ((none, PUnit.unit) : Option Bool × PUnit) fun i (_ : Option Bool × PUnit) => do
          if (!(← Op.equalIn D t (← part t (xs.map (V.real J)).toArray (i * sz)) (← part t (ys.map (V.real J)).toArray (i * sz)))) = true then pure (ForInStep.done ((some false, PUnit.unit) : Option Bool × PUnit))
          else pure (ForInStep.yield ((none, PUnit.unit) : Option Bool × PUnit)) : Sem (Option Bool × PUnit)).run P w = .ok (cond r none (some false), PUnit.unit) w
  | 0, i, r, h => by simp only [veqElems, Option.some.injEq] at h; subst h; simp
  | m + 1, i, r, h => by
    simp only [veqElems] at h
    cases h1 : vpart P t xs (i * sz) with
    | none => simp [h1] at h
    | some x =>
      cases h2 : vpart P t ys (i * sz) with
      | none => simp [h1, h2] at h
      | some y =>
        simp only [h1, h2] at h
        cases h3 : eq t x y with
        | none => simp [h3] at h
        | some q =>
          have := he t x y q (vpart_ok h1 hxs) (vpart_ok h2 hys) h3
          rw [List.range'_succ, List.forIn_cons]
          simp only [Sem.run_bind, vpart_real w h1, vpart_real w h2, Result.andThen_ok, this, Sem.run_ite]
          cases q with
          | true =>
            simp only [h3] at h
            have := run_arrayEq hxs hys he m (i + 1) r h
            simpa using this
          | false => simp only [h3, Option.some.injEq] at h; subst h; simp

theorem veq_real {n : Nat} : ∀ (d D : Nat) (t : TypeId) (x y : V) (r : Bool), d ≤ D → x.ok n → y.ok n → veq P d t x y = some r →
    (Op.equalIn D t (x.real J) (y.real J)).run P w = .ok r w := by
  intro d
  induction d with
  | zero => intro D t x y r _ _ _ h; simp [veq] at h
  | succ d ih =>
    intro D t x y r hD hx hy h
    obtain ⟨D, rfl⟩ : ∃ k, D = k + 1 := ⟨D - 1, by omega⟩
    unfold veq at h
    split at h
    · rename_i a b e; simp only [Option.some.injEq] at h; subst h; simp only [V.real]; exact run_equalIn_bool w D t a b e
    · rename_i k a k' b e
      cases hk : decide (k = k') with
      | false => simp [hk] at h
      | true =>
        simp only [hk, cond_true, Option.some.injEq] at h
        subst h
        have := of_decide_eq_true hk
        subst this
        simp only [V.real]; exact run_equalIn_int w D t k _ a b e
    · rename_i e
      simp only [Option.some.injEq] at h; subst h
      simp only [V.ok] at hx hy
      simp only [V.real]; rw [run_equalIn_string w D t _ _ e, bytes_beq _ _ _ _ hx hy]
    · rename_i e; simp only [Option.some.injEq] at h; subst h; simp [V.real, Op.equalIn, run_underlying e]
    · rename_i e; simp only [Option.some.injEq] at h; subst h; simp [V.real, Op.equalIn, run_underlying e]
    · rename_i e; simp only [Option.some.injEq] at h; subst h; simp [V.real, Op.equalIn, run_underlying e]
    · rename_i e; simp only [Option.some.injEq] at h; subst h; simp [V.real, Op.equalIn, run_underlying e]
    · rename_i e; simp only [Option.some.injEq] at h; subst h; simp [V.real, Op.equalIn, run_underlying e]
    · rename_i e; simp only [Option.some.injEq] at h; subst h; simp [V.real, Op.equalIn, run_underlying e]
    · rename_i e; simp only [Option.some.injEq] at h; subst h; simp [V.real, Op.equalIn, run_underlying e]
    · rename_i e; simp only [Option.some.injEq] at h; subst h; simp [V.real, Op.equalIn, run_underlying e]
    · rename_i e; simp only [Option.some.injEq] at h; subst h; simp [V.real, Op.equalIn, run_underlying e]
    · rename_i e; simp only [Option.some.injEq] at h; subst h; simp [V.real, Op.equalIn, run_underlying e]
    · rename_i e; simp only [Option.some.injEq] at h; subst h; simp [V.real, Op.equalIn, run_underlying e]
    · rename_i e; simp only [Option.some.injEq] at h; subst h; simp [V.real, Op.equalIn, run_underlying e]
    · rename_i e; simp only [Option.some.injEq] at h; subst h; simp [V.real, Op.equalIn, run_underlying e]
    · rename_i e; simp only [Option.some.injEq] at h; subst h; simp [V.real, Op.equalIn, run_underlying e]
    · rename_i e; simp only [Option.some.injEq] at h; subst h; simp [V.real, Op.equalIn, run_underlying e]
    · rename_i fs xs ys e
      cases hs : P.stoodInHeld t with
      | true => simp [hs] at h
      | false =>
        simp only [hs, cond_false] at h
        have hf : P.fieldsOf t = fs := by simp [Program.fieldsOf, e]
        simp only [V.real, V.reals_eq]
        rw [run_equalIn_struct w D t _ _ (by rw [hf]; exact e) hs, hf]
        simp only [V.ok, V.oks_iff] at hx hy
        exact veqFields_real w hx hy (fun t x y r h1 h2 h3 => ih D t x y r (by omega) h1 h2 h3) _ _ h
    · rename_i len el xs ys e
      cases hi : P.info? el with
      | none => simp [hi] at h
      | some ti =>
        simp only [hi] at h
        simp only [V.ok, V.oks_iff] at hx hy
        have := run_arrayEq w hx hy (fun t x y r h1 h2 h3 => ih D t x y r (by omega) h1 h2 h3) len 0 r h
        simp only [V.real, V.reals_eq, Op.equalIn, Sem.run_bind, run_underlying e, Result.andThen_ok, sizeOf, typeInfo, run_program, hi, Sem.run_pure, Std.Legacy.Range.forIn_eq_forIn_range', Std.Legacy.Range.size]
        simp only [Nat.sub_zero, Nat.add_sub_cancel, Nat.div_one] at this ⊢
        rw [this]
        cases r <;> rfl
    · simp at h
end
end Go.Vm
