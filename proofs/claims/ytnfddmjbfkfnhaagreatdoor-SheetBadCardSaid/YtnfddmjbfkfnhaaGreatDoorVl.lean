/-
  From what the evaluator tells of a law to the law's row: plain lemmas. Nothing is claimed here.
-/
import Derived.Test.YtnfddmjbfkfnhaaGreatDoorVd
import Derived.WalkKit
import Derived.ProofKit
import Derived.OpenShut
namespace Go.Vm
open Go.RowKit Go.ChangeShapes Go.WideShapes Go.ChangeAt
open Go.ChangeMaps (open_string shut_string)

/-- A law that answers true, and leaves all old memory alone. -/
theorem law_post {H : Type} {enc : TypeId × Value → H} {P : Program} {f : Func} {s : ChangeSpec} {W W' : World} {args : Array Value} {ds : List (DataW H)} {pa : List MemPlace} {tb : TypeId}
    (hv : s.vars = []) (hW : DataW.Whole enc P f.params.toList s.vars false W args.toList ds [] pa) (hfn : s.fn H (ds ++ []) = { results := [.lit (.bool true)], args := ds })
    (hrt : f.resultTypes = #[tb]) (ht : P.underlying tb = some .bool) (hargs : DataW.TrodAll enc P W' 0 (fun b => decide (b < W.heap.size)) true f.params.toList args.toList ds pa) (hb : Below W.heap.size W W') :
    s.post enc P f false true false false W args (.bool true) W' := by
  refine ⟨ds, [], pa, [], pa, [], hW, ?_, ?_, ?_, ?_, fun q => by cases q⟩
  · rw [hfn, hrt]
    exact trodAll_cons_mk (shut_bool ht true) trodAll_mk0
  · rw [hfn]; exact hargs
  · rw [hfn, hv]; rfl
  · exact hb.frame _

/-- A string that came in. -/
theorem str_in (J : Inj) (s : ByteArray) : (V.str s.data.toList).real J = .string s := by rw [V.str_real]

/-- What the evaluator tells of a call with such arguments. -/
theorem law_calls {P : Program} {ov : Ov} {B : World} {gs : List (Nat × List V)} (hG : GOn B gs) (hov : OvOK P B ov) (hmix : P.follows .mixedOrders = true) (hname : ∀ (f : Nat) (fn : Func), P.funcs[f]? = some fn → (fn.name == "runtime.NumGoroutine") = false) {f : FuncId} {args : List V} (hok : V.oks 0 args)
    (h : ∃ n st', evF P ov GL n f args (st0 gs) = some (.b true, st')) (rargs : Array Value) (hr : ∀ J, (V.reals J args).toArray = rargs) :
    Calls P f rargs B fun e w' => e = .returned (.bool true) ∧ Below B.heap.size B w' := by
  obtain ⟨n, st', h⟩ := h
  have := answers_sound hG hov hmix hname hok h B (Old.refl B)
  rw [hr] at this
  refine this.mono ?_
  rintro e w' ⟨J', h1, h3⟩
  exact ⟨by rw [h1]; simp [V.real], h3⟩
/-- A function that answers true, known beforehand. -/
theorem ov_true {P : Program} {ov : Ov} {B : World} {gs : List (Nat × List V)} (hG : GOn B gs) (hov : OvOK P B ov) (hmix : P.follows .mixedOrders = true) (hname : ∀ (f : Nat) (fn : Func), P.funcs[f]? = some fn → (fn.name == "runtime.NumGoroutine") = false) {n f : Nat} (h : answersTrue P ov gs n f [] = true)
    (J : Inj) (w : World) (hw : Old B w) : Calls P f (V.reals J []).toArray w fun e w' => e = .returned ((V.b true).real J) ∧ Below w.heap.size w w' := by
  unfold answersTrue at h
  cases hr : evF P ov GL n f [] (st0 gs) with
  | none => simp [hr] at h
  | some r =>
    obtain ⟨v, st'⟩ := r
    cases v <;> simp only [hr, Bool.false_eq_true] at h
    subst h
    refine (answers_sound hG hov hmix hname (by simp [V.oks]) hr w hw).mono ?_
    rintro e w' ⟨J', h1, h3⟩
    exact ⟨by rw [h1]; simp [V.real], h3⟩
end Go.Vm
