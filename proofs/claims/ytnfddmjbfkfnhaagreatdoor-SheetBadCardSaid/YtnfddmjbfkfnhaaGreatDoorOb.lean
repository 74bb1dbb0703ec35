/-
  What is known beforehand of this program: strings.Index and IndexByte, what the listed variables hold. Nothing is claimed here.
-/
import Derived.Test.YtnfddmjbfkfnhaaGreatDoorOc
import Derived.Test.YtnfddmjbfkfnhaaGreatDoorSh
import Derived.Test.YtnfddmjbfkfnhaaGreatDoorVg
import Derived.Test.YtnfddmjbfkfnhaaGreatDoorRows
import Derived.KernelRfl
import Derived.MakeChecks
namespace Go.Proofs.YtnfddmjbfkfnhaaGreatDoor
open Go.Vm Go.Vk Go.RowKit

theorem mixed : Tryz.prog.follows .mixedOrders = true := by kernel_rfl
theorem names : (Tryz.prog.funcs.toList.all fun fn => !(fn.name == "runtime.NumGoroutine")) = true := by kernel_rfl
theorem name_of (f : Nat) (fn : Func) (h : Tryz.prog.funcs[f]? = some fn) : (fn.name == "runtime.NumGoroutine") = false := by
  have := List.all_eq_true.1 names fn (Array.mem_toList_iff.2 (Array.mem_of_getElem? h))
  simpa using this

def gv0 : List V := [0,0,0,0,0,0,0,0,0,0,0,0,0,0,0,0,0,0,0,0,0,0,0,0,0,0,0,0,0,0,0,0,0,0,0,0,0,0,0,0,21,22,0,0,18,0,0,0,0,0,0,0,0,0,0,0,0,0,16,17,0,0,0,0,0,0,0,0,0,0,0,0,0,0,0,0,0,0,0,0,0,0,0,0,0,0,0,0,0,0,0,19,0,20,0,0,0,0,0,0,0,0,0,0,0,0,0,0,0,0,0,0,0,0,0,0,0,0,0,0,0,0,0,23,0,24].map fun n => .i .u8 (.ofNat n)
def gv4 : List V := [[108, 105, 110, 107],[118, 105, 115, 105, 116, 101, 100],[97, 110, 121, 45, 108, 105, 110, 107],[114, 111, 111, 116],[101, 109, 112, 116, 121],[110, 116, 104, 45, 99, 104, 105, 108, 100],[110, 116, 104, 45, 108, 97, 115, 116, 45, 99, 104, 105, 108, 100],[105, 115],[119, 104, 101, 114, 101],[110, 111, 116],[104, 97, 115]].map V.str
def gs1 : List (Nat × List V) := [(0, gv0), (4, gv4)]
theorem gon {W : World} (h : laidMetH Tryz.prog Rows.sheetBadRow.laid W) : GOn W gs1 := by
  rw [MakeChecks.laidMetH_plain _ _ _ (by kernel_rfl)] at h
  have hr := fun n d hm => Lib.laidMet.reads (n := n) (d := d) h hm
  intro x hx
  simp only [gs1, List.mem_cons, List.not_mem_nil, or_false] at hx
  rcases hx with rfl | rfl
  · exact laid_at (hr _ _ (List.mem_cons_of_mem _ (List.mem_cons_self ..))) 4 (t0 := 186) (by kernel_rfl) (by kernel_rfl) (by decide) (by kernel_rfl)
  · exact laid_at (hr _ _ (List.mem_cons_of_mem _ (List.mem_cons_of_mem _ (List.mem_cons_self ..)))) 4 (t0 := 334) (by kernel_rfl) (by kernel_rfl) (by decide) (by kernel_rfl)

theorem old_cell {B w : World} (h : Old B w) {b o : Nat} {v : Value} (hc : B.cell? ⟨b, o, none⟩ = some v) : w.cell? ⟨b, o, none⟩ = some v := by
  have hb : b < B.heap.size := by
    rcases Nat.lt_or_ge b B.heap.size with q | q
    · exact q
    · unfold World.cell? at hc
      rw [Array.getElem?_eq_none q] at hc
      cases hc
  unfold World.cell? at hc ⊢
  rw [h.block b hb]
  exact hc

/-- The place of a byte. -/
def ixN : Nat → Nat → Nat → Nat → Int
  | 0, _, _, _ => -1
  | n + 1, x, c, i => cond (Nat.beq (x % 256) c) (.ofNat i) (ixN n (x / 256) c (i + 1))
theorem ixN_eq (c : Nat) (hc : c < 256) : ∀ (n x i : Nat), -1 ≤ Lib.indexByte (unpackL n x) (UInt8.ofNat c) ∧ ixN n x c i = if Lib.indexByte (unpackL n x) (UInt8.ofNat c) = -1 then -1 else Lib.indexByte (unpackL n x) (UInt8.ofNat c) + i
  | 0, x, i => by simp [unpackL, Lib.indexByte, ixN]
  | n + 1, x, i => by
    obtain ⟨h1, h2⟩ := ixN_eq c hc n (x / 256) (i + 1)
    have key : (UInt8.ofNat (x % 256) == UInt8.ofNat c) = Nat.beq (x % 256) c := by
      have hx : x % 256 < 256 := Nat.mod_lt _ (by decide)
      rw [Bool.eq_iff_iff, beq_iff_eq, Nat.beq_eq]
      constructor
      · intro h
        have := congrArg UInt8.toNat h
        simpa [Nat.mod_eq_of_lt hx, Nat.mod_eq_of_lt hc] using this
      · intro h; rw [h]
    simp only [unpackL, Lib.indexByte, ixN, key, h2]
    cases Nat.beq (x % 256) c with
    | true => simp
    | false =>
      simp only [cond_false, Bool.false_eq_true, if_false, beq_iff_eq]
      by_cases e : Lib.indexByte (unpackL n (x / 256)) (UInt8.ofNat c) = -1
      · simp [e]
      · simp only [if_neg e]
        refine ⟨by omega, ?_⟩
        rw [if_neg (by omega)]
        omega

def ovI : Ov0 := fun f args => cond (Nat.beq f 198) (match args with
  | [.s l x, .s m y] => cond (Nat.blt l 4294967281) (some (.i .i64 (Lib.index (unpackL l x) (unpackL m y)))) none
  | _ => none) (cond (Nat.beq f 241) (match args with
  | [.s l x, .i .u8 (.ofNat c)] => cond (Nat.blt c 256) (some (.i .i64 (ixN l x c 0))) none
  | _ => none) none)
theorem ovI_ok {B : World} (hB : B.ShapedOpen Tryz.prog) : Ov0OK Tryz.prog B ovI := by
  intro f args v h
  unfold ovI at h
  cases hf : Nat.beq f 198 with
  | false =>
    rw [hf, cond_false] at h
    cases hf' : Nat.beq f 241 with
    | false => rw [hf'] at h; cases h
    | true =>
      rw [hf'] at h
      rw [Nat.beq_eq] at hf'
      subst hf'
      simp only [cond_true] at h
      split at h
      · rename_i l x c
        cases hc : Nat.blt c 256 with
        | false => rw [hc] at h; cases h
        | true =>
          rw [hc] at h
          obtain rfl := Option.some.inj h
          rw [Nat.blt_eq] at hc
          refine ⟨rfl, trivial, ⟨_, _, Tryz.func241, rfl⟩, fun J w _ hw => ?_⟩
          refine (Any.stringslite_IndexByte { Tryz.lays219 with } ⟨(unpackL l x).toArray⟩ (c : Int) w).mono ?_
          rintro e w' ⟨he, rfl⟩
          refine ⟨?_, Below.refl _ _⟩
          rw [he]
          have h2 := (ixN_eq c hc l x 0).2
          have h1 := (ixN_eq c hc l x 0).1
          simp only [V.real]
          rw [h2]
          congr 2
          show Lib.indexByte (unpackL l x) (UInt8.ofNat c) = _
          split
          · assumption
          · omega
      · cases h
  | true =>
    rw [hf] at h
    rw [Nat.beq_eq] at hf
    subst hf
    simp only [cond_true] at h
    split at h
    · rename_i l x m y
      cases hl : Nat.blt l 4294967281 with
      | false => rw [hl] at h; cases h
      | true =>
        rw [hl] at h
        obtain rfl := Option.some.inj h
        rw [Nat.blt_eq] at hl
        refine ⟨rfl, trivial, ⟨_, _, Tryz.func198, rfl⟩, fun J w _ hw => ?_⟩
        obtain ⟨mx, hm⟩ := Tryz.laysM219.s1_3 B hB
        have hs : (⟨(unpackL l x).toArray⟩ : ByteArray).size < 4294967281 := by
          show (unpackL l x).toArray.size < _
          rw [List.size_toArray, length_unpackL]; exact hl
        refine (Tryz.stringslite_Index ⟨(unpackL l x).toArray⟩ ⟨(unpackL m y).toArray⟩ mx w hs (old_cell hw hm)).mono ?_
        rintro e w' ⟨he, rfl⟩
        exact ⟨by rw [he]; simp [V.real], Below.refl _ _⟩
    · cases h

theorem ov_or {P : Program} {ro : Nat} {B : World} {a b : Ov} (ha : OvR P ro B a) (hb : OvR P ro B b) : OvR P ro B (fun f args st => match a f args st with | some r => some r | none => b f args st) := by
  intro B' hB f args st v st' h
  dsimp only at h
  cases hc : a f args st with
  | some r => rw [hc] at h; exact ha B' hB f args st v st' (hc.trans h)
  | none => rw [hc] at h; exact hb B' hB f args st v st' h
def ov1 (_ : Nat) : Ov := ofOv0 ovI
theorem ov1_ok {ro : Nat} {B : World} (hB : B.ShapedOpen Tryz.prog) : OvR Tryz.prog ro B (ov1 ro) := ofOv0_ok (ovI_ok hB)

/-- Which slots of each function are read in another region than where they are written. -/
def maskL : List Nat := [0, 0, 0, 862718293348820473429344486269119618826798487386254299496736815562751, 8390653, 36957, 5192316670411159473073415710048199, 2787637014340823239204831879446050856017661, 74363437116129580413, 17594467746035, 4157, 8255, 33562749, 23, 67108895, 16509, 1073758333, 67126323, 31, 10932911968639058683081671037280976240877, 7, 36028797018968061, 1053, 71, 1075839149, 2105469, 13, 8798240571079, 4157, 1133879762887, 154742652484625126188393459, 67126323, 67126323, 1152994072374280255, 4503634255579251, 8867095281981, 1085, 1085, 4642275165843481345525257149, 268436029, 263245, 34035, 7, 68854759347, 4400228073895, 131255, 8405117, 557373, 73804990968259154943, 5, 19, 18446744082567921727, 31, 5, 84019187, 15, 23, 92405767, 7, 1207, 605, 93724512983436720355970146325878809659062407135359, 4295230589, 35184435007613, 7, 269488159, 7, 135575, 21, 69525, 39, 39, 8693, 1005, 253640365, 1081672559, 77, 16893, 61, 73789, 537133309, 19, 263293, 61, 2252349570035711, 2199023273011, 2199023273011, 131635, 2601219034095660069611975149096947, 293, 7, 16391, 4406904881743, 7, 8423437, 262429, 1152921573328423165, 9024825800786559, 1048703, 16806963, 8389583, 2066147738109, 16778365, 274878958527, 7, 139293, 16777223, 16807, 31, 1073868821, 13, 8650935, 43083891261, 524435, 2663648298409863783675951123854804979, 72079584807362319, 558346829615, 274886303997, 12094697113715, 36897991764226474013, 1053, 536879109, 1272602967209536030040401119229, 41538454096441211389904467857129469, 274915659901, 7, 19, 19, 5, 275, 5, 9259405266296832243, 19, 563, 8819, 275, 34360788979, 8590065907, 5, 65677, 539002893, 576461336419500147, 7, 262719, 65655, 68723802751, 1211360825861431000825967, 5, 7, 4719741, 8732149629, 261, 8654964723, 33773, 19, 4125, 278101, 147575078506763271933, 1099545183357, 4302833629, 7, 123, 76835947859, 81925, 2253930117726301, 5, 140343, 67539, 39, 17592211734783, 285, 39, 95, 7, 19, 71, 5, 275, 37781237847805523395571, 5, 19, 68719739379, 275, 1065011, 68736254451, 34368389619, 1398109, 148727014900495450071, 576460752840294461, 261, 71, 147, 71, 1, 4471060955149, 70437482533363, 1099780199411, 19, 702342826256273603086707106465568295829491, 275, 19600230178611273415, 5, 19, 5, 5, 5, 19, 72075254947659775, 9481770674628170612851, 75557863744056265277663, 4645, 2475880080876744305090758813, 17179869469, 5, 7, 4835703566691091891093567, 33331, 279188633047, 4295230461, 7197, 592606297982060726269, 115, 542675, 2148467759, 5, 19, 134217853, 275012195197, 268437821, 34360324221, 139469034223, 292489781118535007, 3901, 285, 67112861, 7, 7, 1073653, 7, 16908303, 17389, 19, 275, 288265560524857587, 13, 5, 37470230409059502067, 22118354012121515201326396120064183502845, 618970020228158363894023155, 9363, 147, 72568035909607, 5, 0, 5, 151115727469970589747187, 147, 2098205, 5, 1031, 271, 5, 275, 477, 17435721971, 29, 264467, 2254067556417599, 288230376151712883, 356811923176489971502512712311432370712478111, 37383399547899, 9007474166333565, 5, 18016598069608509, 157, 37391985279293, 140769834838991, 37, 19, 21, 2301, 7, 91, 5, 17854187438431, 1050579, 4620983489023705095, 17463, 7, 7, 0, 1, 32789, 137473097733, 275, 294963, 5, 271, 158456329750931191268978524135, 1107300861, 1125899940399155, 2149585011, 5, 22836311535429850663755765990396135262899932287, 8333, 21, 13, 5, 67126077, 137443149819, 1079, 5, 2419036842536553083310559, 4432473489463, 5, 1037, 77, 1031, 7, 19, 7, 29, 5, 73788102194761827389, 35951213, 562950624804839, 8211, 66109, 4243, 262771, 7, 4297196503, 21, 19, 19, 9671411168673422716715003, 5, 7, 4227639, 55, 4194311, 4103, 5, 5, 5, 273679603, 4611687118006190055, 65591, 19, 1037, 19, 18031990762639613, 2162845, 2200098570751, 5, 5, 590368430904844492797, 316912838952437276284744179709, 15615293030781833389941184238615215835817264156527165427, 134484221, 131149, 2109, 1, 1073814511, 134221829, 268435469, 332347563766041324844492521237119229, 79247505368883416779045507059, 1037, 66483, 7, 4157, 70506720530429, 131077, 19955773, 144115222704043005, 51, 4299686643, 4101, 8205, 2097183, 23, 563, 1049677, 51, 8253, 33725, 0, 0, 0, 0, 0, 0, 0, 0, 0, 0, 0, 0, 0, 0, 0, 0, 0, 0, 0, 0, 0, 0, 0, 0]
def live : Nat → Nat := fun f => maskL.getD f 0
set_option maxRecDepth 100000000 in
theorem alive1 : kAnswers Tryz.prog live (ov1 GL) gs1 100000 200 14 [] = true := by kernel_rfl
def ovL : Ov0 := fun f args => cond (Nat.beq f 14) (match args with
  | [] => some (.b true)
  | _ :: _ => none) none
theorem ovL_ok {B : World} (hB : B.ShapedOpen Tryz.prog) (hG : GOn B gs1) : Ov0OK Tryz.prog B ovL := by
  intro f args v h
  unfold ovL at h
  cases hf : Nat.beq f 14 with
  | false => rw [hf] at h; cases h
  | true =>
    rw [hf] at h
    rw [Nat.beq_eq] at hf
    subst hf
    cases args with
    | cons _ _ => cases h
    | nil =>
      obtain rfl := Option.some.inj h
      refine ⟨rfl, trivial, ⟨_, _, Tryz.func14, rfl⟩, fun J w _ hw => ?_⟩
      obtain ⟨m, st', he⟩ := kAnswers_true alive1
      refine (answers_sound hG (ov1_ok hB) mixed name_of (by simp [V.oks]) he w hw).mono ?_
      rintro e w' ⟨J', h1, h3⟩
      exact ⟨by rw [h1]; simp [V.real], h3⟩
def ovA (ro : Nat) : Ov := fun f args st => match ofOv0 ovL f args st with
  | some r => some r
  | none => ov1 ro f args st
theorem ovA_ok {ro : Nat} {B : World} (hB : B.ShapedOpen Tryz.prog) (hG : GOn B gs1) : OvR Tryz.prog ro B (ovA ro) := ov_or (ofOv0_ok (ovL_ok hB hG)) (ov1_ok hB)
end Go.Proofs.YtnfddmjbfkfnhaaGreatDoor
