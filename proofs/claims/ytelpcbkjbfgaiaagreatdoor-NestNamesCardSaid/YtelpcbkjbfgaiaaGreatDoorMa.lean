/-
  Known answers of calls at texts and numbers. Nothing is claimed here.
-/
import Derived.Test.YtelpcbkjbfgaiaaGreatDoorOq
import Derived.Test.YtelpcbkjbfgaiaaGreatDoorVg
namespace Go.Proofs.YtelpcbkjbfgaiaaGreatDoor
open Go.Vm Go.Vk Go.RowKit
def maskL : List Nat := [0, 0, 0, 82102594559319, 43556142965880123323330396776817142508223, 6576757411545206097799181555077280368334850578431, 4642275165843481345525257149, 541, 285, 8189, 8654964723, 278101, 1099545183357, 285, 4157, 255, 1991, 2105469, 2269428390023149, 15, 541, 2301, 16777223, 1, 499, 21, 2105469, 139293, 21, 1, 92405767, 7, 1207, 17389, 1085, 7197, 115, 542675, 2148467759, 1050579, 268699901, 8732149629, 2164293887, 4295230461, 81925, 2253930117726301, 5, 16957, 4719741, 123, 76835947859, 84019187, 15, 140769834838991, 37, 67112861, 16785459, 1180591620717411303623, 1085469, 9007474166333565, 5, 18016598069608509, 19, 3901, 7, 7, 1073653, 19, 34803, 5, 279188633047, 139469034223, 292489781118535007, 8867095281981, 131635, 2601219034095660069611975149096947, 4620983489023705095, 17463, 7, 7, 246867, 115, 295147905181504570311, 5, 19, 16806963, 19, 261, 19, 10223931, 37383399547899, 91, 5, 17854187438431, 5, 19, 5, 275, 5, 9259405266296832243, 19, 563, 8819, 275, 34360788979, 8590065907, 5, 4432473489463, 1037, 77, 1031, 19, 2633041616291031363413610715, 16806963, 0, 3, 2100935, 0, 531, 149987675, 5, 67126077, 137443149819, 5, 2419036842536553083310559, 702342826256273603086707106465568295829491, 275, 19600230178611273415, 5, 19, 5, 5, 5, 19, 72075254947659775, 9481770674628170612851, 5, 5, 5, 1051, 269363, 8392243, 274878431943, 83, 3, 8388627, 51, 281475253567707, 21, 19, 19, 9671411168673422716715003, 5, 7, 4227639, 55, 4194311, 4103, 0, 5, 151115727469970589747187, 147, 2098205, 5, 1031, 271, 5, 275, 477, 17435721971, 29, 264467, 71, 1029, 525, 8796095152187, 8796093317179, 18031990762639613, 2162845, 2200098570751, 5, 5, 1107300861, 1125899940399155, 2149585011, 2247, 79, 1, 4383, 134484221, 131149, 2109, 1073814511, 8211, 66109, 4243, 262771, 5575, 5, 93, 77, 66483, 7, 4157, 19, 1037, 19, 21, 13, 2923003971560093291123168138537876760321514930163, 20426010943356750102455122975, 19, 70506720530429, 316912838952437276284744179709, 15615293030781833389941184238615215835817264156527165427, 5, 16661, 13, 5, 5, 17188391667, 131077, 19955773, 144115222704043005, 51, 4299686643, 1037, 21, 21, 4101, 8205, 2097183, 23, 563, 1049677, 51, 8253, 33725, 0, 0, 0, 0, 0, 0, 0, 0, 0, 0, 0, 0, 0, 0, 0, 0, 0, 0, 0, 0, 0, 0, 0, 0, 0, 0, 0]
def live : Nat → Nat := fun f => maskL.getD f 0
noncomputable def chainB (f : Nat) (t : List (List V × V)) : Bool :=
  List.rec (motive := fun _ => Bool) true (fun e _ ih => kcall Tryz.prog live (ov1 GL) GL 100000 200 f e.1 (st0 gs1) fun v _ => Bool.rec (motive := fun _ => Bool) false ih (eqT v e.2)) t
def AnsP (f : Nat) (e : List V × V) : Prop := ∃ st', Even (fun m => evF Tryz.prog (ov1 GL) GL m f e.1 (st0 gs1)) (e.2, st')
theorem chain_ok {f : Nat} : ∀ {t : List (List V × V)}, chainB f t = true → ∀ e ∈ t, AnsP f e
  | [], _, e, he => by cases he
  | x :: t, h, e, he => by
    have h : kcall Tryz.prog live (ov1 GL) GL 100000 200 f x.1 (st0 gs1) (fun v _ => Bool.rec (motive := fun _ => Bool) false (chainB f t) (eqT v x.2)) = true := h
    obtain ⟨u, st', hev, hu⟩ := kcall_true _ f _ (st0 gs1) _ h
    cases hc : eqT u x.2 with
    | false => rw [hc] at hu; cases hu
    | true =>
      rw [hc] at hu
      obtain rfl := eqT_true hc
      rcases List.mem_cons.1 he with rfl | he
      · exact ⟨st', hev⟩
      · exact chain_ok hu e he
theorem mem_app {α : Type} {p : α → Prop} {a b : List α} (ha : ∀ e ∈ a, p e) (hb : ∀ e ∈ b, p e) : ∀ e ∈ a ++ b, p e := fun e he => (List.mem_append.1 he).elim (ha e) (hb e)
def strs : List V → Bool
  | [] => true
  | .s _ _ :: r => strs r
  | .i _ _ :: r => strs r
  | _ :: _ => false
def scan : List (List V × V) → List V → Option V
  | [], _ => none
  | e :: r, a => cond (eqL e.1 a) (some e.2) (scan r a)
theorem scan_mem : ∀ {t : List (List V × V)} {a : List V} {v : V}, scan t a = some v → ∃ e ∈ t, e.1 = a ∧ e.2 = v
  | e :: r, a, v, h => by
    rw [scan] at h
    cases hc : eqL e.1 a with
    | true => rw [hc, cond_true] at h; exact ⟨e, List.mem_cons_self .., eqL_true hc, Option.some.inj h⟩
    | false => rw [hc, cond_false] at h; obtain ⟨e', h1, h2⟩ := scan_mem h; exact ⟨e', List.mem_cons_of_mem _ h1, h2⟩
theorem strs_ok {n m : Nat} : ∀ {l : List V}, strs l = true → V.oks n l → V.oks m l
  | [], _, _ => by simp [V.oks]
  | .s _ _ :: r, h, k => by simp only [V.oks, V.ok] at k ⊢; exact ⟨k.1, strs_ok h k.2⟩
  | .i _ _ :: r, h, k => by simp only [V.oks, V.ok] at k ⊢; exact ⟨trivial, strs_ok h k.2⟩
def litB : V → Bool
  | .sn => true
  | .i _ _ => true
  | .b _ => true
  | .s l x => Nat.blt x (256 ^ l)
  | _ => false
theorem strs_plain : ∀ {l : List V}, strs l = true → l.all V.plain = true
  | [], _ => rfl
  | .s _ _ :: r, h => by simp only [List.all_cons, V.plain, Bool.true_and]; exact strs_plain h
  | .i _ _ :: r, h => by simp only [List.all_cons, V.plain, Bool.true_and]; exact strs_plain h
def fineB (e : List V × V) : Bool := strs e.1 && e.2.plainT && (match e.2 with | .b _ => true | .t l => l.all litB | _ => false)
theorem fine_ok {e : List V × V} (h : fineB e = true) : strs e.1 = true ∧ e.2.plainT = true ∧ e.2.ok 0 := by
  unfold fineB at h
  simp only [Bool.and_eq_true] at h
  refine ⟨h.1.1, h.1.2, ?_⟩
  have h2 := h.2
  split at h2
  · rename_i x e1; rw [e1]; trivial
  · rename_i l e1
    rw [e1]
    simp only [V.ok, V.oks_iff]
    intro v hv
    have := List.all_eq_true.1 h2 v hv
    unfold litB at this
    split at this <;> first | trivial | cases this | (rw [Nat.blt_eq] at this; exact this)
  · cases h2
/-- Calls of a function at texts and numbers, whose answers are known. -/
theorem known {f : Nat} (t : List (List V × V)) (hf : ∃ fn c, Tryz.prog.funcs[f]? = some fn ∧ fn.body = some c) (h1 : t.all fineB = true) (h2 : ∀ e ∈ t, AnsP f e) {B : World} (hB : B.ShapedOpen Tryz.prog) (hG : GOn B gs1) :
    Ov0OK Tryz.prog B (fun g a => cond (Nat.beq g f) (scan t a) none) := by
  intro g args v h
  dsimp only at h
  cases hg : Nat.beq g f with
  | false => rw [hg] at h; cases h
  | true =>
    rw [hg, cond_true] at h
    rw [Nat.beq_eq] at hg
    subst hg
    obtain ⟨e, he, rfl, rfl⟩ := scan_mem h
    obtain ⟨q1, q2, q3⟩ := fine_ok (List.all_eq_true.1 h1 e he)
    refine ⟨q2, q3, hf, fun J w ha hw => ?_⟩
    obtain ⟨st', m, hev⟩ := h2 e he
    rw [V.reals_plain J0 J _ (strs_plain q1)]
    refine (answers_sound hG (ov1_ok hB) mixed name_of (strs_ok q1 ha) (hev m (Nat.le_refl _)) w hw).mono ?_
    rintro x w' ⟨J', h3, h4⟩
    exact ⟨by rw [h3, V.real_plainT J J' _ q2], h4⟩
theorem orK {P : Program} {B : World} {a b : Ov0} (ha : Ov0OK P B a) (hb : Ov0OK P B b) : Ov0OK P B (fun f args => match a f args with | some r => some r | none => b f args) := by
  intro f args v h
  dsimp only at h
  cases hc : a f args with
  | some r => rw [hc] at h; exact ha f args v (hc.trans h)
  | none => rw [hc] at h; exact hb f args v h
def tab0 : List (List V × V) := [([.s 11 112909373299095829691378017], .t [.s 12 12801794775974243647407401313, .i .i64 1, .b true]), ([.s 7 28193004382726241], .t [.s 9 763046056272001640545, .i .i64 2, .b true])]
def T0 : List (List V × V) := tab0
end Go.Proofs.YtelpcbkjbfgaiaaGreatDoor
