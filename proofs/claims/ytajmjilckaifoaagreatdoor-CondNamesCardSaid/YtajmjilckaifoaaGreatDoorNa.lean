/-
  Known answers of calls at texts and numbers. Nothing is claimed here.
-/
import Derived.Test.YtajmjilckaifoaaGreatDoorOq
import Derived.Test.YtajmjilckaifoaaGreatDoorVg
namespace Go.Proofs.YtajmjilckaifoaaGreatDoor
open Go.Vm Go.Vk Go.RowKit
def maskL : List Nat := [0, 0, 0, 6739986666787659948666753826201415603755225175647984116965989334495, 34078687, 5192296858537188812334881122025279, 79228766977174145183011373055, 5846006549323611753949339181757914724762150502351, 37038746829802703871, 4611686705622220559, 36895739947234885391, 16778365, 4194429, 2066147738109, 2147516639, 66623, 230527, 39, 1, 7, 79, 2147516639, 135199, 39, 39, 39, 67126323, 1085, 4642275165843481345525257149, 1152994072374280255, 16391, 278101, 147575078506763271933, 31, 8654964723, 33773, 19, 4125, 16807, 983643, 255, 11, 33686059, 5, 65655, 67379215, 7, 32927, 4406904881743, 309485019044805618421479391, 5029131409597138863263058031, 31, 84019187, 15, 92405767, 7, 1207, 539002893, 576461336419500147, 115, 542675, 2148467759, 19, 134217853, 275012195197, 268437821, 17592211734783, 140343, 285, 16777223, 39, 67539, 95, 7, 7197, 592606297982060726269, 39, 18665300614484859647, 662799, 75, 137438970939, 8589935587, 1099545183357, 549755816093, 68723802751, 1211360825861431000825967, 7, 262719, 52776558142451, 8650941, 16399, 15, 1031, 1118663, 2199023273011, 8867095281981, 131635, 2601219034095660069611975149096947, 1053, 4645, 2475880080876744305090758813, 268436029, 17179869469, 536879109, 5, 140769834838991, 37, 19, 16806963, 21, 2301, 7, 17389, 81925, 2253930117726301, 5, 157, 37391985279293, 16908303, 68736260443, 15, 32883, 262429, 7, 4835703566691091891093567, 5, 5, 68753031197, 2061, 17179873533, 5, 19, 19, 5, 275, 5, 9259405266296832243, 19, 563, 8819, 275, 34360788979, 8590065907, 5, 261, 288230376151712883, 356811923176489971502512712311432370712478111, 19, 605, 261, 4295230461, 19, 3901, 285, 67112861, 7, 7, 1073653, 7, 1079, 7, 1085469, 9277, 2269428390023149, 4471060955149, 5, 13, 17213554813, 16893, 33571891, 19, 702342826256273603086707106465568295829491, 275, 19600230178611273415, 5, 19, 5, 5, 5, 19, 72075254947659775, 9481770674628170612851, 8333, 21, 13, 9007474166333565, 5, 18016598069608509, 19, 1050579, 4620983489023705095, 17463, 29, 5, 5, 19, 66037, 19, 268437245, 2164293887, 18736171272571586671, 524435, 2663648298409863783675951123854804979, 0, 5, 151115727469970589747187, 147, 2098205, 5, 1031, 271, 5, 275, 477, 17435721971, 29, 264467, 0, 4432473489463, 1037, 77, 1031, 7, 19, 7, 2100935, 17188391667, 4157, 288230444871193075, 34366030579, 69801607197, 71, 5, 275, 37781237847805523395571, 19, 68719739379, 275, 1065011, 68736254451, 34368389619, 1398109, 1107300861, 1125899940399155, 2149585011, 5, 5, 5, 8388627, 21, 13, 2923003971560093291123168138537876760321514930163, 20426010943356750102455122975, 268699901, 21, 275, 288265560524857587, 37470230409059502067, 22118354012121515201326396120064183502845, 618970020228158363894023155, 8211, 66109, 4243, 262771, 71, 5, 16661, 13, 5, 5, 16785459, 1180591620717411303623, 1, 32789, 137473097733, 275, 294963, 5, 19, 1037, 19, 2247, 21, 21, 246867, 115, 295147905181504570311, 316912838952437276284744179709, 15615293030781833389941184238615215835817264156527165427, 5575, 2633041616291031363413610715, 16806963, 0, 3, 1037, 1051, 269363, 8392243, 274878431943, 83, 3, 1029, 525, 0, 0, 0, 0, 0, 0, 0, 0, 0, 0, 0, 0, 0, 0, 0, 0, 0, 0, 0, 0, 0, 0, 0, 0, 0, 0]
def live : Nat → Nat := fun f => maskL.getD f 0
noncomputable def chainB (f : Nat) (t : List (List V × V)) : Bool :=
  List.rec (motive := fun _ => Bool) true (fun e _ ih => kcall Tryz.prog live (ov1 GL) GL 100000 200 f e.1 (st0 gs1) fun v _ => Bool.rec (motive := fun _ => Bool) false ih (eqT v e.2)) t
def AnsP (f : Nat) (e : List V × V) : Prop := ∃ st', Even (fun m => evF Tryz.prog (ov1 GL) GL m f e.1 (st0 gs1)) (e.2, st')
theorem chain_ok {f : Nat} : ∀ {t : List (List V × V)}, chainB f t = true → ∀ e ∈ t, AnsP f e
  | [], _, e, he => by cases he
  | x :: t, h, e, he => by
    have h : kcall Tryz.prog live (ov1 GL) GL 100000 200 f x.1 (st0 gs1) (fun v _ => Bool.rec (motive := fun _ => Bool) false (chainB f t) (eqT v x.2)) = true := h
    obtain ⟨u, st', hev, hu⟩ := kcall_true _ f _ (st0 gs1) _ h
    cases hc : eqT u x.2 with
    | false => rw [hc] at hu; cases hu
    | true =>
      rw [hc] at hu
      obtain rfl := eqT_true hc
      rcases List.mem_cons.1 he with rfl | he
      · exact ⟨st', hev⟩
      · exact chain_ok hu e he
theorem mem_app {α : Type} {p : α → Prop} {a b : List α} (ha : ∀ e ∈ a, p e) (hb : ∀ e ∈ b, p e) : ∀ e ∈ a ++ b, p e := fun e he => (List.mem_append.1 he).elim (ha e) (hb e)
def strs : List V → Bool
  | [] => true
  | .s _ _ :: r => strs r
  | .i _ _ :: r => strs r
  | .b _ :: r => strs r
  | _ :: _ => false
def scan : List (List V × V) → List V → Option V
  | [], _ => none
  | e :: r, a => cond (eqL e.1 a) (some e.2) (scan r a)
theorem scan_mem : ∀ {t : List (List V × V)} {a : List V} {v : V}, scan t a = some v → ∃ e ∈ t, e.1 = a ∧ e.2 = v
  | e :: r, a, v, h => by
    rw [scan] at h
    cases hc : eqL e.1 a with
    | true => rw [hc, cond_true] at h; exact ⟨e, List.mem_cons_self .., eqL_true hc, Option.some.inj h⟩
    | false => rw [hc, cond_false] at h; obtain ⟨e', h1, h2⟩ := scan_mem h; exact ⟨e', List.mem_cons_of_mem _ h1, h2⟩
theorem strs_ok {n m : Nat} : ∀ {l : List V}, strs l = true → V.oks n l → V.oks m l
  | [], _, _ => by simp [V.oks]
  | .s _ _ :: r, h, k => by simp only [V.oks, V.ok] at k ⊢; exact ⟨k.1, strs_ok h k.2⟩
  | .i _ _ :: r, h, k => by simp only [V.oks, V.ok] at k ⊢; exact ⟨trivial, strs_ok h k.2⟩
  | .b _ :: r, h, k => by simp only [V.oks, V.ok] at k ⊢; exact ⟨trivial, strs_ok h k.2⟩
def litB : V → Bool
  | .sn => true
  | .i _ _ => true
  | .b _ => true
  | .s l x => Nat.blt x (256 ^ l)
  | _ => false
theorem strs_plain : ∀ {l : List V}, strs l = true → l.all V.plain = true
  | [], _ => rfl
  | .s _ _ :: r, h => by simp only [List.all_cons, V.plain, Bool.true_and]; exact strs_plain h
  | .i _ _ :: r, h => by simp only [List.all_cons, V.plain, Bool.true_and]; exact strs_plain h
  | .b _ :: r, h => by simp only [List.all_cons, V.plain, Bool.true_and]; exact strs_plain h
def fineB (e : List V × V) : Bool := strs e.1 && e.2.plainT && (match e.2 with | .b _ => true | .t l => l.all litB | _ => false)
theorem fine_ok {e : List V × V} (h : fineB e = true) : strs e.1 = true ∧ e.2.plainT = true ∧ e.2.ok 0 := by
  unfold fineB at h
  simp only [Bool.and_eq_true] at h
  refine ⟨h.1.1, h.1.2, ?_⟩
  have h2 := h.2
  split at h2
  · rename_i x e1; rw [e1]; trivial
  · rename_i l e1
    rw [e1]
    simp only [V.ok, V.oks_iff]
    intro v hv
    have := List.all_eq_true.1 h2 v hv
    unfold litB at this
    split at this <;> first | trivial | cases this | (rw [Nat.blt_eq] at this; exact this)
  · cases h2
/-- Calls of a function at texts and numbers, whose answers are known. -/
theorem known {f : Nat} (t : List (List V × V)) (hf : ∃ fn c, Tryz.prog.funcs[f]? = some fn ∧ fn.body = some c) (h1 : t.all fineB = true) (h2 : ∀ e ∈ t, AnsP f e) {B : World} (hB : B.ShapedOpen Tryz.prog) (hG : GOn B gs1) :
    Ov0OK Tryz.prog B (fun g a => cond (Nat.beq g f) (scan t a) none) := by
  intro g args v h
  dsimp only at h
  cases hg : Nat.beq g f with
  | false => rw [hg] at h; cases h
  | true =>
    rw [hg, cond_true] at h
    rw [Nat.beq_eq] at hg
    subst hg
    obtain ⟨e, he, rfl, rfl⟩ := scan_mem h
    obtain ⟨q1, q2, q3⟩ := fine_ok (List.all_eq_true.1 h1 e he)
    refine ⟨q2, q3, hf, fun J w ha hw => ?_⟩
    obtain ⟨st', m, hev⟩ := h2 e he
    rw [V.reals_plain J0 J _ (strs_plain q1)]
    refine (answers_sound hG (ov1_ok hB) mixed name_of (strs_ok q1 ha) (hev m (Nat.le_refl _)) w hw).mono ?_
    rintro x w' ⟨J', h3, h4⟩
    exact ⟨by rw [h3, V.real_plainT J J' _ q2], h4⟩
theorem orK {P : Program} {B : World} {a b : Ov0} (ha : Ov0OK P B a) (hb : Ov0OK P B b) : Ov0OK P B (fun f args => match a f args with | some r => some r | none => b f args) := by
  intro f args v h
  dsimp only at h
  cases hc : a f args with
  | some r => rw [hc] at h; exact ha f args v (hc.trans h)
  | none => rw [hc] at h; exact hb f args v h
def tab0 : List (List V × V) := [([.s 0 0, .s 0 0, .i .i64 0, .i .i64 99], .b true), ([.s 2 2592, .s 0 0, .i .i64 0, .i .i64 99], .b true), ([.s 3 7105633, .s 3 7105633, .i .i64 0, .i .i64 99], .b true), ([.s 5 500068610672, .s 5 500068610672, .i .i64 1, .i .i64 0], .b true), ([.s 9 2147778328592941084526, .s 9 2147778328592941084526, .i .i64 0, .i .i64 99], .b true), ([.s 11 133460670536088814380412527, .s 6 121381772747635, .i .i64 0, .i .i64 99], .b true)]
def tab1 : List (List V × V) := [([.s 39 1340413592704732853199607679882489656160303500406223829537545404087783357470937573216102214952, .s 37 20624224511593070590977928799226477129773106114148690137552094038013821176194273955638568, .i .i64 5, .i .i64 7], .b true), ([.s 30 286218610691931534047857227891789481430066119415032910662666664130408302, .s 31 73271964326364699010241696236873415939073557436991498479952653214998097774, .i .i64 0, .i .i64 4], .b true), ([.s 13 3263280554526972029433158921512, .s 16 55123698893007271061248102611514649896, .i .i64 0, .i .i64 0], .b true)]
def tab2 : List (List V × V) := [([.s 21 60609148691803635265393419504775309827659878986352, .s 23 3972081168082212438291171253682775904155668381346394736, .i .i64 9, .i .i64 99], .b true), ([.s 2 11384, .s 10 512014827231725186198648, .i .i64 1, .i .i64 0], .b true), ([.s 21 60609148169129919674831939672108003761073874428787, .s 7 30518461896879982, .i .i64 1, .i .i64 0], .b true)]
def tab3 : List (List V × V) := [([.s 19 924822204512105526905997411068483181674262382, .s 7 30518461896879982, .i .i64 1, .i .i64 0], .b true), ([.s 16 55123698976258738703189926098313506088, .s 7 30518461896879982, .i .i64 1, .i .i64 0], .b true), ([.s 15 215102971126516357499590714241674536, .s 7 30518461896879982, .i .i64 1, .i .i64 0], .b true)]
def tab4 : List (List V × V) := [([.s 17 37565839130934132342956041863771785945971, .s 7 30518461896879982, .i .i64 1, .i .i64 0], .b true), ([.s 2 29295, .s 7 30518461896879982, .i .i64 1, .i .i64 0], .b true), ([.s 28 4367349387478685242568247929009439008565234462368618349825216373619, .s 7 30518461896879982, .i .i64 1, .i .i64 0], .b true)]
def tab5 : List (List V × V) := [([.s 36 80495055848193619249587283570215577146476928106812421460100469625922882446078420083539, .s 39 3533796463349160980161211310645499620864386240194509020694201101970640936806658014620360532851, .i .i64 11, .i .i64 99], .b true)]
def tab6 : List (List V × V) := [([.s 5 177741652264, .s 6 45501424230696, .b true, .b false], .b true), ([.s 9 763394583611426754382, .s 10 195427128992261823819630, .b false, .b true], .b true), ([.s 35 314581907862424743603972064441802073229764211423213155010459839825022491811043238184, .s 39 1351119006182399541040245185121273769107240986498663290186373418070868672396163560081169473832, .b true, .b false], .b true), ([.s 7 11585975908116520, .s 6 45501424230696, .b true, .b false], .b true)]
def tab7 : List (List V × V) := [([.s 13 3285541703573791892408165359912, .s 19 923953546311551923359461857521261806263886120, .b true, .b false], .b true), ([.s 33 4773922137391575914200447183077582402790740026405084245390740506645469432195112, .s 36 79893991389208675439161466353692683237894532444153458590742579301527731815512478394408, .b true, .b false], .b true), ([.s 2 10536, .s 9 764276460408531744040, .b false, .b false], .b true), ([.s 8 2982010092237647726, .s 9 764276460408531744040, .b false, .b false], .b true), ([.s 9 764706552738577608232, .s 9 764276460408531744040, .b false, .b false], .b true)]
def tab8 : List (List V × V) := [([.s 18 3585687102167489147138725855054659398692718, .s 25 258377068818548333573353071856848910217331236604002451091310, .b false, .b true], .b true)]
def T0 : List (List V × V) := tab0 ++ (tab1 ++ (tab2 ++ (tab3 ++ (tab4 ++ (tab5)))))
def T1 : List (List V × V) := tab6 ++ (tab7 ++ (tab8))
end Go.Proofs.YtajmjilckaifoaaGreatDoor
