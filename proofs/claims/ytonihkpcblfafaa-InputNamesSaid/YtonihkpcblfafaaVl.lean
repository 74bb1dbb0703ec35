/-
  From what the evaluator tells of a law to the law's row: plain lemmas. Nothing is claimed here.
-/
import Derived.Test.YtonihkpcblfafaaVd
import Derived.WalkKit
import Derived.ProofKit
import Derived.OpenShut
namespace Go.Vm
open Go.RowKit Go.ChangeShapes Go.WideShapes Go.ChangeAt
open Go.ChangeMaps (open_string shut_string)

/-- A law that answers true, and leaves all old memory alone. -/
theorem law_post {H : Type} {enc : TypeId × Value → H} {P : Program} {f : Func} {s : ChangeSpec} {W W' : World} {args : Array Value} {ds : List (DataW H)} {pa : List MemPlace} {tb : TypeId}
    (hv : s.vars = []) (hW : DataW.Whole enc P f.params.toList s.vars false W args.toList ds [] pa) (hfn : s.fn H (ds ++ []) = { results := [.lit (.bool true)], args := ds })
    (hrt : f.resultTypes = #[tb]) (ht : P.underlying tb = some .bool) (hargs : DataW.TrodAll enc P W' 0 (fun b => decide (b < W.heap.size)) true f.params.toList args.toList ds pa) (hb : Below W.heap.size W W') :
    s.post enc P f false true false false W args (.bool true) W' := by
  refine ⟨ds, [], pa, [], pa, [], hW, ?_, ?_, ?_, ?_, fun q => by cases q⟩
  · rw [hfn, hrt]
    exact trodAll_cons_mk (shut_bool ht true) trodAll_mk0
  · rw [hfn]; exact hargs
  · rw [hfn, hv]; rfl
  · exact hb.frame _

/-- A string that came in. -/
theorem str_in (J : Inj) (s : ByteArray) : (V.str s.data.toList).real J = .string s := by rw [V.str_real]

/-- What the evaluator tells of a call with such arguments. -/
theorem law_calls {P : Program} {ov : Ov} (hov : OvOK P ov) (hmix : P.follows .mixedOrders = true) (hname : ∀ (f : Nat) (fn : Func), P.funcs[f]? = some fn → (fn.name == "runtime.NumGoroutine") = false) {f : FuncId} {args : List V} (hok : V.oks 0 args)
    (h : ∃ n st', evF P ov 0 n f args ⟨0, .e, 0⟩ = some (.b true, st')) (w : World) (rargs : Array Value) (hr : ∀ J, (V.reals J args).toArray = rargs) :
    Calls P f rargs w fun e w' => e = .returned (.bool true) ∧ Below w.heap.size w w' := by
  obtain ⟨n, st', h⟩ := h
  have := (evF_sound (P := P) (ro := 0) (B := w.heap.size) hov hmix hname n f args ⟨0, .e, 0⟩ _ st' h ⟨0, fun _ => (0, 0, 0)⟩ w rfl (HR.empty 0 _ w (Nat.le_refl _)) (Nat.le_refl _) hok).2
  rw [hr] at this
  refine this.mono ?_
  rintro e w' ⟨J', h1, _, h3⟩
  exact ⟨by rw [h1]; simp [V.real], h3.below⟩
end Go.Vm
