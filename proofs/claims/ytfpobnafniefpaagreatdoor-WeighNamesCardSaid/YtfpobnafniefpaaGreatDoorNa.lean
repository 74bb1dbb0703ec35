/-
  Known answers of calls at texts and numbers. Nothing is claimed here.
-/
import Derived.Test.YtfpobnafniefpaaGreatDoorOb
import Derived.Test.YtfpobnafniefpaaGreatDoorVg
namespace Go.Proofs.YtfpobnafniefpaaGreatDoor
open Go.Vm Go.Vk Go.RowKit
def maskL : List Nat := [0, 0, 0, 1030827, 21267729062197068573142608762082689023, 7951, 985341, 285, 8255, 2113663, 1, 131119, 2105469, 21, 1967, 264173, 16631, 31, 1023, 1085, 4642275165843481345525257149, 4719741, 139293, 15407, 34628706291, 84019187, 15, 92405767, 7, 1207, 278101, 279188633047, 76835947859, 123, 261, 8454455, 604275, 8867095281981, 131635, 2601219034095660069611975149096947, 115, 542675, 2148467759, 8654964723, 37383399547899, 139469034223, 292489781118535007, 5, 5, 19, 19, 5, 275, 5, 9259405266296832243, 19, 563, 8819, 275, 34360788979, 8590065907, 5, 140769834838991, 37, 7197, 5, 67126077, 137443149819, 91, 5, 17854187438431, 19, 702342826256273603086707106465568295829491, 275, 19600230178611273415, 5, 19, 5, 5, 5, 19, 72075254947659775, 16806963, 9481770674628170612851, 1099545183357, 21, 19, 19, 3901, 9671411168673422716715003, 5, 2419036842536553083310559, 19, 0, 5, 151115727469970589747187, 147, 2098205, 5, 1031, 271, 5, 275, 477, 17435721971, 261, 29, 264467, 18031990762639613, 2162845, 2200098570751, 5, 7, 4227639, 55, 4194311, 4103, 0, 1107300861, 1125899940399155, 2149585011, 134484221, 131149, 2109, 1, 1073814511, 5, 5, 8211, 66109, 4243, 262771, 66483, 7, 285, 4157, 19, 19, 1037, 19, 1050579, 70506720530429, 316912838952437276284744179709, 15615293030781833389941184238615215835817264156527165427, 131077, 19955773, 144115222704043005, 51, 4299686643, 1037, 4101, 8205, 2097183, 23, 563, 1049677, 51, 8253, 33725, 0, 0, 0, 0, 0, 0, 0, 0, 0, 0, 0, 0, 0, 0, 0, 0, 0, 0, 0, 0, 0, 0, 0, 0]
def live : Nat → Nat := fun f => maskL.getD f 0
/-- Does the evaluator answer so? -/
noncomputable def ansB (f : Nat) (e : List V × V) : Bool := kcall Tryz.prog live (ov1 GL) GL 100000 200 f e.1 (st0 gs1) fun v _ => eqT v e.2
def strs : List V → Bool
  | [] => true
  | .s _ _ :: r => strs r
  | .i _ _ :: r => strs r
  | _ :: _ => false
def scan : List (List V × V) → List V → Option V
  | [], _ => none
  | e :: r, a => cond (eqL e.1 a) (some e.2) (scan r a)
theorem scan_mem : ∀ {t : List (List V × V)} {a : List V} {v : V}, scan t a = some v → ∃ e ∈ t, e.1 = a ∧ e.2 = v
  | e :: r, a, v, h => by
    rw [scan] at h
    cases hc : eqL e.1 a with
    | true => rw [hc, cond_true] at h; exact ⟨e, List.mem_cons_self .., eqL_true hc, Option.some.inj h⟩
    | false => rw [hc, cond_false] at h; obtain ⟨e', h1, h2⟩ := scan_mem h; exact ⟨e', List.mem_cons_of_mem _ h1, h2⟩
theorem strs_ok {n m : Nat} : ∀ {l : List V}, strs l = true → V.oks n l → V.oks m l
  | [], _, _ => by simp [V.oks]
  | .s _ _ :: r, h, k => by simp only [V.oks, V.ok] at k ⊢; exact ⟨k.1, strs_ok h k.2⟩
  | .i _ _ :: r, h, k => by simp only [V.oks, V.ok] at k ⊢; exact ⟨trivial, strs_ok h k.2⟩
def litB : V → Bool
  | .sn => true
  | .i _ _ => true
  | _ => false
theorem strs_plain : ∀ {l : List V}, strs l = true → l.all V.plain = true
  | [], _ => rfl
  | .s _ _ :: r, h => by simp only [List.all_cons, V.plain, Bool.true_and]; exact strs_plain h
  | .i _ _ :: r, h => by simp only [List.all_cons, V.plain, Bool.true_and]; exact strs_plain h
def fineB (e : List V × V) : Bool := strs e.1 && e.2.plainT && (match e.2 with | .b _ => true | .t l => l.all litB | _ => false)
theorem fine_ok {e : List V × V} (h : fineB e = true) : strs e.1 = true ∧ e.2.plainT = true ∧ e.2.ok 0 := by
  unfold fineB at h
  simp only [Bool.and_eq_true] at h
  refine ⟨h.1.1, h.1.2, ?_⟩
  have h2 := h.2
  split at h2
  · rename_i x e1; rw [e1]; trivial
  · rename_i l e1
    rw [e1]
    simp only [V.ok, V.oks_iff]
    intro v hv
    have := List.all_eq_true.1 h2 v hv
    unfold litB at this
    split at this <;> first | trivial | cases this
  · cases h2
/-- Calls of a function at texts and numbers, whose answers are known. -/
theorem known {f : Nat} (t : List (List V × V)) (hf : ∃ fn c, Tryz.prog.funcs[f]? = some fn ∧ fn.body = some c) (h1 : t.all fineB = true) (h2 : t.all (ansB f) = true) {B : World} (hB : B.ShapedOpen Tryz.prog) (hG : GOn B gs1) :
    Ov0OK Tryz.prog B (fun g a => cond (Nat.beq g f) (scan t a) none) := by
  intro g args v h
  dsimp only at h
  cases hg : Nat.beq g f with
  | false => rw [hg] at h; cases h
  | true =>
    rw [hg, cond_true] at h
    rw [Nat.beq_eq] at hg
    subst hg
    obtain ⟨e, he, rfl, rfl⟩ := scan_mem h
    obtain ⟨q1, q2, q3⟩ := fine_ok (List.all_eq_true.1 h1 e he)
    refine ⟨q2, q3, hf, fun J w ha hw => ?_⟩
    have hk := List.all_eq_true.1 h2 e he
    unfold ansB at hk
    obtain ⟨u, st', ⟨m, hev⟩, hu⟩ := kcall_true _ g _ (st0 gs1) _ hk
    obtain rfl := eqT_true hu
    rw [V.reals_plain J0 J _ (strs_plain q1)]
    refine (answers_sound hG (ov1_ok hB) mixed name_of (strs_ok q1 ha) (hev m (Nat.le_refl _)) w hw).mono ?_
    rintro x w' ⟨J', h3, h4⟩
    exact ⟨by rw [h3, V.real_plainT J J' _ q2], h4⟩
theorem all_app {α : Type} {p : α → Bool} {a b : List α} (ha : a.all p = true) (hb : b.all p = true) : (a ++ b).all p = true := by rw [List.all_append, ha, hb]; rfl
theorem orK {P : Program} {B : World} {a b : Ov0} (ha : Ov0OK P B a) (hb : Ov0OK P B b) : Ov0OK P B (fun f args => match a f args with | some r => some r | none => b f args) := by
  intro f args v h
  dsimp only at h
  cases hc : a f args with
  | some r => rw [hc] at h; exact ha f args v (hc.trans h)
  | none => rw [hc] at h; exact hb f args v h
def tab0 : List (List V × V) := [([.s 26 66500477063784846079453710459035004693985545355222083236948332, .i .i64 1, .i .i64 1, .i .i64 1], .b true), ([.s 30 284087508343612161439843392142650302554135825044359269098259836562532666, .i .i64 0, .i .i64 2, .i .i64 0], .b true)]
def tab1 : List (List V × V) := [([.s 22 15486272064702301960275952554177624886684635085629754, .i .i64 1, .i .i64 0, .i .i64 1], .b true), ([.s 14 2361588330991930750709089741972321, .i .i64 1, .i .i64 3, .i .i64 1], .b true), ([.s 1 42, .i .i64 0, .i .i64 0, .i .i64 0], .b true), ([.s 4 1629708579, .i .i64 2, .i .i64 0, .i .i64 0], .b true)]
def tab2 : List (List V × V) := [([.s 45 921284480715743214982809267574384767287474540806860054886437951337621324279856937888969087009220806228667450, .i .i64 0, .i .i64 6, .i .i64 0], .b true), ([.s 11 50029601388083146602278458, .i .i64 0, .i .i64 1, .i .i64 0], .b true), ([.s 13 3279032828123253374011501460065, .i .i64 1, .i .i64 0, .i .i64 2], .b true)]
def tab3 : List (List V × V) := [([.s 5 176772311354, .i .i64 0, .i .i64 0, .i .i64 0], .b true), ([.s 12 12807513040592394787708499770, .i .i64 0, .i .i64 0, .i .i64 0], .b true), ([.s 18 3588331249729664847936674591756114579451450, .i .i64 0, .i .i64 1, .i .i64 0], .b true), ([.s 7 27901473897717857, .i .i64 0, .i .i64 0, .i .i64 3], .b true)]
def tab4 : List (List V × V) := [([.s 9 1828758735088020106337, .i .i64 1, .i .i64 0, .i .i64 0], .b true)]
def Tw : List (List V × V) := tab0 ++ (tab1 ++ (tab2 ++ (tab3 ++ (tab4
))))end Go.Proofs.YtfpobnafniefpaaGreatDoor
