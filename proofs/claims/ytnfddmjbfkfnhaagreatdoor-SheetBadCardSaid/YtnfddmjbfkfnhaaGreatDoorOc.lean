/-
  From a row that lists package-level variables to what the evaluator asks of the world: plain lemmas. Nothing is claimed here.
-/
import Derived.Test.YtnfddmjbfkfnhaaGreatDoorVl
import Derived.Test.YtnfddmjbfkfnhaaGreatDoorVg
import Derived.Lib.LaidU8
import Derived.HandedShaped
import Derived.Handed
namespace Go.Vm
open Go.RowKit

section
variable {H : Type} {enc : TypeId × Value → H}

/-- The plain wrap of a law's contract, with what the row lists and with the world's shape. -/
theorem handed_laid {a : Assume} {C : Checked} {os : Os} {f : FuncId} {fn : Func} {s : ChangeSpec} {conds : List PathCond} {apart fresh handsOn again : Bool} {X : World → Array Value → Prop}
    (hX : ∀ (w w' : World) (args : Array Value), w.heap = w'.heap → X w args → X w' args)
    (own : ownKnob C.prog.godebug = none) (started : os.Started) (noInit : C.prog.inits.idxOf? f = none) (hfn : C.prog.funcs[f]? = some fn)
    (witness : ∃ (w : World) (tape : Tape) (i : Input), w.os = os ∧ (w.forCall tape i).Shaped C.prog ∧ i.vars = [] ∧ Input.okWide C.prog (w.forCall tape i) .any w.heap.size f i ∧
      ((s.pre enc C.prog fn conds apart (w.forCall tape i).memory i.args ∧ X (w.forCall tape i).memory i.args) ∧ sizedMet enc C.prog fn (OpenSpec.ofChange s) apart (w.forCall tape i).memory i.args) ∧ a.holds C.prog (lone (Frame.enter C.prog f i.args .normal) [] (w.forCall tape i)))
    (contract : ∀ (W : World) (base : Nat) (args : Array Value) (ds gs : List (DataW H)) (before : List MemPlace),
      (∀ (j : Nat) t v, fn.params[j]? = some t → args[j]? = some v → Value.okWide C.prog W .any base t v) →
      DataW.Whole enc C.prog fn.params.toList s.vars apart W args.toList ds gs before → X W args → W.ShapedOpen C.prog →
      Calls C.prog f args W fun e W' => ∃ v, e = .returned v ∧ s.post enc C.prog fn apart fresh handsOn again W args v W') :
    ReturnsInHanded a C os f .any (fun w args => (s.pre enc C.prog fn conds apart w args ∧ X w args) ∧ sizedMet enc C.prog fn (OpenSpec.ofChange s) apart w args) (s.post enc C.prog fn apart fresh handsOn again) := by
  refine returnsInHanded_of_calls own started noInit witness ?_
  intro w tape i _ shape _ hok hpre _
  obtain ⟨_, _, _, g, hg, _, _, _, _, hval⟩ := hok
  obtain rfl : g = fn := Option.some.inj (hg.symm.trans hfn)
  obtain ⟨⟨⟨ds, gs, before, hw, _⟩, hx⟩, _⟩ := hpre
  refine (contract (w.forCall tape i) w.heap.size i.args ds gs before hval (DataW.Whole.of_heap (w' := w.forCall tape i) (by rfl) hw) (hX _ _ _ (by rfl) hx) shape).mono fun e W' ⟨v, he, hp⟩ => ?_
  subst he
  exact ChangeSpec.post_blind hp
end

/-! ### What a listed variable holds, cell by cell -/

def flatO (P : Program) : Nat → TypeId → DataW Unit → Option (List V)
  | 0, _, _ => none
  | D + 1, t, d => match P.underlying t, d with
    | some (.int k), .lit (.int k' z) => cond (decide (k = k')) (some [.i k z]) none
    | some .bool, .lit (.bool b) => some [.b b]
    | some .string, .lit (.string l) => some [V.str l]
    | some (.array n e), .agg ds => match mapO (flatO P D e) ds with
      | some yss => cond (Nat.beq ds.length n && yss.all (fun ys => Nat.beq ys.length (P.cellsOf e)) && Nat.beq (P.cellsOf t) (n * P.cellsOf e)) (some yss.flatten) none
      | none => none
    | _, _ => none

theorem chunks {α β : Type} (f : α → β) (sz : Nat) : ∀ (yss : List (List α)) (cs : List β), (∀ ys ∈ yss, ys.length = sz) → cs.length = yss.length * sz → (∀ (i : Nat) ys, yss[i]? = some ys → (cs.drop (i * sz)).take sz = ys.map f) → cs = yss.flatten.map f
  | [], cs, _, h2, _ => by simp at h2; simp [h2]
  | ys :: r, cs, h1, h2, h3 => by
    have e0 := h3 0 ys rfl
    simp only [Nat.zero_mul, List.drop_zero] at e0
    have er := chunks f sz r (cs.drop sz) (fun y hy => h1 y (List.mem_cons_of_mem _ hy)) (by rw [List.length_drop, h2, List.length_cons, Nat.succ_mul]; omega) (fun i y hy => by
      rw [List.drop_drop]
      have := h3 (i + 1) y (by simpa using hy)
      rw [Nat.succ_mul, Nat.add_comm] at this
      exact this)
    rw [List.flatten_cons, List.map_append, ← er, ← e0, List.take_append_drop]

theorem flat_ok {P : Program} {w : World} {base : Nat} {sp : Nat → Bool} {held : Bool} : ∀ (D : Nat) (t : TypeId) (d : DataW Unit) (out : List V), flatO P D t d = some out →
    ∀ (fuel : Nat) (cs : List Value) (p : List MemPlace), DataW.trod (fun _ => ()) P w base sp held fuel t cs = some (d, p) → cs = out.map (V.real J0) ∧ ∀ v ∈ out, v.plain = true ∧ v.ok 0
  | 0, t, d, out, h => by cases h
  | D + 1, t, d, out, h => by
    intro fuel cs p ht
    unfold flatO at h
    split at h
    · rename_i k k' z hu
      cases hk : decide (k = k') with
      | false => rw [hk] at h; cases h
      | true =>
        rw [hk] at h
        obtain rfl := Option.some.inj h
        obtain rfl := of_decide_eq_true hk
        obtain ⟨n, rfl, e, _⟩ := DataW.trod_int hu ht
        simp only [Prod.mk.injEq, DataW.lit.injEq, Lit.int.injEq, true_and] at e
        obtain ⟨rfl, _⟩ := e
        exact ⟨by simp [V.real], fun v hv => by simp only [List.mem_singleton] at hv; subst hv; exact ⟨rfl, trivial⟩⟩
    · rename_i b hu
      obtain rfl := Option.some.inj h
      obtain ⟨n, rfl, e⟩ := DataW.trod_bool hu ht
      simp only [Prod.mk.injEq, DataW.lit.injEq, Lit.bool.injEq] at e
      obtain ⟨rfl, _⟩ := e
      exact ⟨by simp [V.real], fun v hv => by simp only [List.mem_singleton] at hv; subst hv; exact ⟨rfl, trivial⟩⟩
    · rename_i l hu
      obtain rfl := Option.some.inj h
      obtain ⟨s, rfl, e, _⟩ := DataW.trod_string hu ht
      simp only [Prod.mk.injEq, DataW.lit.injEq, Lit.string.injEq] at e
      obtain ⟨rfl, _⟩ := e
      refine ⟨?_, fun v hv => ?_⟩
      · simp only [List.map_cons, List.map_nil, V.str_real]
      · simp only [List.mem_singleton] at hv; subst hv; exact ⟨rfl, V.str_ok 0 s.data.toList⟩
    · rename_i n e ds hu
      cases hm : mapO (flatO P D e) ds with
      | none => rw [hm] at h; cases h
      | some yss =>
        rw [hm] at h
        dsimp only at h
        cases hc : (Nat.beq ds.length n && yss.all (fun ys => Nat.beq ys.length (P.cellsOf e)) && Nat.beq (P.cellsOf t) (n * P.cellsOf e)) with
        | false => rw [hc] at h; cases h
        | true =>
          rw [hc] at h
          obtain rfl := Option.some.inj h
          simp only [Bool.and_eq_true, Nat.beq_eq, List.all_eq_true] at hc
          obtain ⟨⟨c1, c2⟩, c3⟩ := hc
          obtain ⟨xs, m, _, ex, hlen, hxl, hel⟩ := DataW.trod_array hu ht
          obtain ⟨q1, q2⟩ := mapO_spec ds yss hm
          have eds : ds = xs.map (·.1) := by
            have := congrArg Prod.fst ex
            simpa using this
          have step : ∀ (i : Nat) ys, yss[i]? = some ys → (cs.drop (i * P.cellsOf e)).take (P.cellsOf e) = ys.map (V.real J0) ∧ ∀ v ∈ ys, v.plain = true ∧ v.ok 0 := by
            intro i ys hy
            have hi : i < n := by
              rcases Nat.lt_or_ge i yss.length with q | q
              · omega
              · rw [List.getElem?_eq_none q] at hy; cases hy
            obtain ⟨d, hd⟩ : ∃ d, ds[i]? = some d := ⟨ds[i]'(by omega), List.getElem?_eq_getElem (by omega)⟩
            obtain ⟨y, hy2, hfl⟩ := q2 i d hd
            rw [hy] at hy2
            obtain rfl := Option.some.inj hy2
            have hx : xs[i]? = some (xs[i]'(by omega)) := List.getElem?_eq_getElem (by omega)
            have hel' := hel i hi
            rw [hx] at hel'
            have hd2 : d = (xs[i]'(by omega)).1 := by
              rw [eds, List.getElem?_map, hx] at hd
              exact (Option.some.inj hd).symm
            subst hd2
            exact flat_ok D e _ ys hfl m _ _ hel'
          refine ⟨chunks (V.real J0) (P.cellsOf e) yss cs (fun ys hy => ?_) ?_ (fun i ys hy => (step i ys hy).1), fun v hv => ?_⟩
          · exact c2 ys hy
          · rw [hlen, c3, q1, c1]
          · obtain ⟨ys, hys, hv⟩ := List.mem_flatten.1 hv
            obtain ⟨i, hi⟩ := List.getElem?_of_mem hys
            exact (step i ys hi).2 v hv
    · cases h

/-- A listed variable, in the world. -/
theorem laid_at {P : Program} {w : World} {n : String} {d : DataW Unit} (h : Lib.VarReads P w n d) {g0 : Nat} {t0 : TypeId} (D : Nat) {out : List V} (hg : P.globalNamed n = some g0) (ht : (P.globals[g0]?).map (·.type) = some t0) (hlt : g0 < GL) (hf : flatO P D t0 d = some out) :
    (g0, out).1 < GL ∧ (∀ v ∈ (g0, out).2, v.plain = true ∧ v.ok 0) ∧ ∃ c e fz, w.heap[(g0, out).1]? = some (.cells c e fz) ∧ c.toList = (g0, out).2.map (V.real J0) := by
  obtain ⟨g, t, cs, fuel, p, h1, h2, h3, h4⟩ := h
  rw [hg] at h1
  obtain rfl := Option.some.inj h1
  rw [ht] at h2
  obtain rfl := Option.some.inj h2
  obtain ⟨q1, q2⟩ := flat_ok D t0 d out hf fuel _ _ h4
  refine ⟨hlt, q2, ?_⟩
  unfold World.var? at h3
  rw [hg] at h3
  simp only [Option.bind_some] at h3
  cases hb : w.heap[g0]? with
  | none => rw [hb] at h3; cases h3
  | some o =>
    rw [hb] at h3
    cases o with
    | cells c e fz =>
      obtain rfl := Option.some.inj h3
      exact ⟨c, e, fz, rfl, q1⟩
    | _ => cases h3

/-! ### Known answers -/

def eqA : V → V → Bool
  | .b x, .b y => x == y
  | .i k n, .i k' m => decide (k = k') && n == m
  | .s l x, .s m y => Nat.beq l m && Nat.beq x y
  | .sn, .sn => true
  | .pn, .pn => true
  | _, _ => false
theorem eqA_true {x y : V} (h : eqA x y = true) : x = y := by
  unfold eqA at h
  split at h <;> simp_all
def eqL : List V → List V → Bool
  | [], [] => true
  | x :: r, y :: s => eqA x y && eqL r s
  | _, _ => false
theorem eqL_true : ∀ {x y : List V}, eqL x y = true → x = y
  | [], [], _ => rfl
  | [], _ :: _, h => by cases h
  | _ :: _, [], h => by cases h
  | x :: r, y :: s, h => by
    simp only [eqL, Bool.and_eq_true] at h
    rw [eqA_true h.1, eqL_true h.2]
def eqT : V → V → Bool
  | .t xs, .t ys => eqL xs ys
  | x, y => eqA x y
theorem eqT_true {x y : V} (h : eqT x y = true) : x = y := by
  unfold eqT at h
  split at h
  · rw [eqL_true h]
  · exact eqA_true h
end Go.Vm
