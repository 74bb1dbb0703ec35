/-
  What is known beforehand of this program: strings.Index and IndexByte, what the listed variables hold. Nothing is claimed here.
-/
import Derived.Test.YtajmjilckaifoaaGreatDoorOc
import Derived.Test.YtajmjilckaifoaaGreatDoorSh
import Derived.Test.YtajmjilckaifoaaGreatDoorJa6
import Derived.Test.YtajmjilckaifoaaGreatDoorRows
import Derived.KernelRfl
import Derived.MakeChecks
namespace Go.Proofs.YtajmjilckaifoaaGreatDoor
open Go.Vm Go.Vk Go.RowKit

theorem mixed : Tryz.prog.follows .mixedOrders = true := by kernel_rfl
theorem names : (Tryz.prog.funcs.toList.all fun fn => !(fn.name == "runtime.NumGoroutine")) = true := by kernel_rfl
theorem name_of (f : Nat) (fn : Func) (h : Tryz.prog.funcs[f]? = some fn) : (fn.name == "runtime.NumGoroutine") = false := by
  have := List.all_eq_true.1 names fn (Array.mem_toList_iff.2 (Array.mem_of_getElem? h))
  simpa using this

def gv3 : List V := [0,1,28,2,29,14,24,3,30,22,20,15,25,17,4,8,31,27,13,23,21,19,16,7,26,12,18,6,11,5,10,9].map fun n => .i .u8 (.ofNat n)
def gv4 : List V := [0,1,56,2,57,49,28,3,61,58,42,50,38,29,17,4,62,47,59,36,45,43,51,22,53,39,33,30,24,18,12,5,63,55,48,27,60,41,37,16,46,35,44,21,52,32,23,11,54,26,40,15,34,20,31,10,25,14,19,9,13,8,7,6].map fun n => .i .u8 (.ofNat n)
def gv2 : List V := [1,10,100,1000,10000,100000,1000000,10000000,100000000,1000000000,10000000000,100000000000,1000000000000,10000000000000,100000000000000,1000000000000000,10000000000000000,100000000000000000,1000000000000000000,10000000000000000000].map fun n => .i .u64 (.ofNat n)
def gv0 : List V := [0,0,0,0,0,0,0,0,0,0,0,0,0,0,0,0,0,0,0,0,0,0,0,0,0,0,0,0,0,0,0,0,0,0,0,0,0,0,0,0,21,22,0,0,18,0,0,0,0,0,0,0,0,0,0,0,0,0,16,17,0,0,0,0,0,0,0,0,0,0,0,0,0,0,0,0,0,0,0,0,0,0,0,0,0,0,0,0,0,0,0,19,0,20,0,0,0,0,0,0,0,0,0,0,0,0,0,0,0,0,0,0,0,0,0,0,0,0,0,0,0,0,0,23,0,24].map fun n => .i .u8 (.ofNat n)
def gs1 : List (Nat × List V) := [(3, gv3), (4, gv4), (2, gv2), (0, gv0)]
theorem gon {W : World} (h : laidMetH Tryz.prog Rows.condWideRow.laid W) : GOn W gs1 := by
  rw [MakeChecks.laidMetH_plain _ _ _ (by kernel_rfl)] at h
  have hr := fun n d hm => Lib.laidMet.reads (n := n) (d := d) h hm
  intro x hx
  simp only [gs1, List.mem_cons, List.not_mem_nil, or_false] at hx
  rcases hx with rfl | rfl | rfl | rfl
  · exact laid_at (hr _ _ (List.mem_cons_self ..)) 4 (t0 := 239) (by kernel_rfl) (by kernel_rfl) (by decide) (by kernel_rfl)
  · exact laid_at (hr _ _ (List.mem_cons_of_mem _ (List.mem_cons_self ..))) 4 (t0 := 240) (by kernel_rfl) (by kernel_rfl) (by decide) (by kernel_rfl)
  · exact laid_at (hr _ _ (List.mem_cons_of_mem _ (List.mem_cons_of_mem _ (List.mem_cons_self ..)))) 4 (t0 := 217) (by kernel_rfl) (by kernel_rfl) (by decide) (by kernel_rfl)
  · exact laid_at (hr _ _ (List.mem_cons_of_mem _ (List.mem_cons_of_mem _ (List.mem_cons_of_mem _ (List.mem_cons_of_mem _ (List.mem_cons_self ..)))))) 4 (t0 := 146) (by kernel_rfl) (by kernel_rfl) (by decide) (by kernel_rfl)

theorem old_cell {B w : World} (h : Old B w) {b o : Nat} {v : Value} (hc : B.cell? ⟨b, o, none⟩ = some v) : w.cell? ⟨b, o, none⟩ = some v := by
  have hb : b < B.heap.size := by
    rcases Nat.lt_or_ge b B.heap.size with q | q
    · exact q
    · unfold World.cell? at hc
      rw [Array.getElem?_eq_none q] at hc
      cases hc
  unfold World.cell? at hc ⊢
  rw [h.block b hb]
  exact hc

/-- The place of a byte. -/
def ixN : Nat → Nat → Nat → Nat → Int
  | 0, _, _, _ => -1
  | n + 1, x, c, i => cond (Nat.beq (x % 256) c) (.ofNat i) (ixN n (x / 256) c (i + 1))
theorem ixN_eq (c : Nat) (hc : c < 256) : ∀ (n x i : Nat), -1 ≤ Lib.indexByte (unpackL n x) (UInt8.ofNat c) ∧ ixN n x c i = if Lib.indexByte (unpackL n x) (UInt8.ofNat c) = -1 then -1 else Lib.indexByte (unpackL n x) (UInt8.ofNat c) + i
  | 0, x, i => by simp [unpackL, Lib.indexByte, ixN]
  | n + 1, x, i => by
    obtain ⟨h1, h2⟩ := ixN_eq c hc n (x / 256) (i + 1)
    have key : (UInt8.ofNat (x % 256) == UInt8.ofNat c) = Nat.beq (x % 256) c := by
      have hx : x % 256 < 256 := Nat.mod_lt _ (by decide)
      rw [Bool.eq_iff_iff, beq_iff_eq, Nat.beq_eq]
      constructor
      · intro h
        have := congrArg UInt8.toNat h
        simpa [Nat.mod_eq_of_lt hx, Nat.mod_eq_of_lt hc] using this
      · intro h; rw [h]
    simp only [unpackL, Lib.indexByte, ixN, key, h2]
    cases Nat.beq (x % 256) c with
    | true => simp
    | false =>
      simp only [cond_false, Bool.false_eq_true, if_false, beq_iff_eq]
      by_cases e : Lib.indexByte (unpackL n (x / 256)) (UInt8.ofNat c) = -1
      · simp [e]
      · simp only [if_neg e]
        refine ⟨by omega, ?_⟩
        rw [if_neg (by omega)]
        omega

def ovI : Ov0 := fun f args => cond (Nat.beq f 171) (match args with
  | [.s l x, .s m y] => cond (Nat.blt l 4294967281) (some (.i .i64 (Lib.index (unpackL l x) (unpackL m y)))) none
  | _ => none) (cond (Nat.beq f 188) (match args with
  | [.s l x, .i .u8 (.ofNat c)] => cond (Nat.blt c 256) (some (.i .i64 (ixN l x c 0))) none
  | _ => none) none)
theorem ovI_ok {B : World} (hB : B.ShapedOpen Tryz.prog) : Ov0OK Tryz.prog B ovI := by
  intro f args v h
  unfold ovI at h
  cases hf : Nat.beq f 171 with
  | false =>
    rw [hf, cond_false] at h
    cases hf' : Nat.beq f 188 with
    | false => rw [hf'] at h; cases h
    | true =>
      rw [hf'] at h
      rw [Nat.beq_eq] at hf'
      subst hf'
      simp only [cond_true] at h
      split at h
      · rename_i l x c
        cases hc : Nat.blt c 256 with
        | false => rw [hc] at h; cases h
        | true =>
          rw [hc] at h
          obtain rfl := Option.some.inj h
          rw [Nat.blt_eq] at hc
          refine ⟨rfl, trivial, ⟨_, _, Tryz.func188, rfl⟩, fun J w _ hw => ?_⟩
          refine (Any.stringslite_IndexByte { Tryz.lays219 with } ⟨(unpackL l x).toArray⟩ (c : Int) w).mono ?_
          rintro e w' ⟨he, rfl⟩
          refine ⟨?_, Below.refl _ _⟩
          rw [he]
          have h2 := (ixN_eq c hc l x 0).2
          have h1 := (ixN_eq c hc l x 0).1
          simp only [V.real]
          rw [h2]
          congr 2
          show Lib.indexByte (unpackL l x) (UInt8.ofNat c) = _
          split
          · assumption
          · omega
      · cases h
  | true =>
    rw [hf] at h
    rw [Nat.beq_eq] at hf
    subst hf
    simp only [cond_true] at h
    split at h
    · rename_i l x m y
      cases hl : Nat.blt l 4294967281 with
      | false => rw [hl] at h; cases h
      | true =>
        rw [hl] at h
        obtain rfl := Option.some.inj h
        rw [Nat.blt_eq] at hl
        refine ⟨rfl, trivial, ⟨_, _, Tryz.func171, rfl⟩, fun J w _ hw => ?_⟩
        obtain ⟨mx, hm⟩ := Tryz.laysM219.s1_3 B hB
        have hs : (⟨(unpackL l x).toArray⟩ : ByteArray).size < 4294967281 := by
          show (unpackL l x).toArray.size < _
          rw [List.size_toArray, length_unpackL]; exact hl
        refine (Tryz.stringslite_Index ⟨(unpackL l x).toArray⟩ ⟨(unpackL m y).toArray⟩ mx w hs (old_cell hw hm)).mono ?_
        rintro e w' ⟨he, rfl⟩
        exact ⟨by rw [he]; simp [V.real], Below.refl _ _⟩
    · cases h

theorem ov_or {P : Program} {ro : Nat} {B : World} {a b : Ov} (ha : OvR P ro B a) (hb : OvR P ro B b) : OvR P ro B (fun f args st => match a f args st with | some r => some r | none => b f args st) := by
  intro B' hB f args st v st' h
  dsimp only at h
  cases hc : a f args st with
  | some r => rw [hc] at h; exact ha B' hB f args st v st' (hc.trans h)
  | none => rw [hc] at h; exact hb B' hB f args st v st' h
def ov1 (_ : Nat) : Ov := ofOv0 ovI
theorem ov1_ok {ro : Nat} {B : World} (hB : B.ShapedOpen Tryz.prog) : OvR Tryz.prog ro B (ov1 ro) := ofOv0_ok (ovI_ok hB)

/-- Which slots of each function are read in another region than where they are written. -/
def maskL : List Nat := [0, 0, 0, 6739986666787659948666753826201415603755225175647984116965989334495, 34078687, 5192296858537188812334881122025279, 79228766977174145183011373055, 5846006549323611753949339181757914724762150502351, 37038746829802703871, 4611686705622220559, 36895739947234885391, 16778365, 4194429, 2066147738109, 2147516639, 66623, 230527, 39, 1, 7, 79, 2147516639, 135199, 39, 39, 39, 67126323, 1085, 4642275165843481345525257149, 1152994072374280255, 16391, 278101, 147575078506763271933, 31, 8654964723, 33773, 19, 4125, 16807, 983643, 255, 11, 33686059, 5, 65655, 67379215, 7, 32927, 4406904881743, 309485019044805618421479391, 5029131409597138863263058031, 31, 84019187, 15, 92405767, 7, 1207, 539002893, 576461336419500147, 115, 542675, 2148467759, 19, 134217853, 275012195197, 268437821, 17592211734783, 140343, 285, 16777223, 39, 67539, 95, 7, 7197, 592606297982060726269, 39, 18665300614484859647, 662799, 75, 137438970939, 8589935587, 1099545183357, 549755816093, 68723802751, 1211360825861431000825967, 7, 262719, 52776558142451, 8650941, 16399, 15, 1031, 1118663, 2199023273011, 8867095281981, 131635, 2601219034095660069611975149096947, 1053, 4645, 2475880080876744305090758813, 268436029, 17179869469, 536879109, 5, 140769834838991, 37, 19, 16806963, 21, 2301, 7, 17389, 81925, 2253930117726301, 5, 157, 37391985279293, 16908303, 68736260443, 15, 32883, 262429, 7, 4835703566691091891093567, 5, 5, 68753031197, 2061, 17179873533, 5, 19, 19, 5, 275, 5, 9259405266296832243, 19, 563, 8819, 275, 34360788979, 8590065907, 5, 261, 288230376151712883, 356811923176489971502512712311432370712478111, 19, 605, 261, 4295230461, 19, 3901, 285, 67112861, 7, 7, 1073653, 7, 1079, 7, 1085469, 9277, 2269428390023149, 4471060955149, 5, 13, 17213554813, 16893, 33571891, 19, 702342826256273603086707106465568295829491, 275, 19600230178611273415, 5, 19, 5, 5, 5, 19, 72075254947659775, 9481770674628170612851, 8333, 21, 13, 9007474166333565, 5, 18016598069608509, 19, 1050579, 4620983489023705095, 17463, 29, 5, 5, 19, 66037, 19, 268437245, 2164293887, 18736171272571586671, 524435, 2663648298409863783675951123854804979, 0, 5, 151115727469970589747187, 147, 2098205, 5, 1031, 271, 5, 275, 477, 17435721971, 29, 264467, 0, 4432473489463, 1037, 77, 1031, 7, 19, 7, 2100935, 17188391667, 4157, 288230444871193075, 34366030579, 69801607197, 71, 5, 275, 37781237847805523395571, 19, 68719739379, 275, 1065011, 68736254451, 34368389619, 1398109, 1107300861, 1125899940399155, 2149585011, 5, 5, 5, 8388627, 21, 13, 2923003971560093291123168138537876760321514930163, 20426010943356750102455122975, 268699901, 21, 275, 288265560524857587, 37470230409059502067, 22118354012121515201326396120064183502845, 618970020228158363894023155, 8211, 66109, 4243, 262771, 71, 5, 16661, 13, 5, 5, 16785459, 1180591620717411303623, 1, 32789, 137473097733, 275, 294963, 5, 19, 1037, 19, 2247, 21, 21, 246867, 115, 295147905181504570311, 316912838952437276284744179709, 15615293030781833389941184238615215835817264156527165427, 5575, 2633041616291031363413610715, 16806963, 0, 3, 1037, 1051, 269363, 8392243, 274878431943, 83, 3, 1029, 525, 0, 0, 0, 0, 0, 0, 0, 0, 0, 0, 0, 0, 0, 0, 0, 0, 0, 0, 0, 0, 0, 0, 0, 0, 0, 0]
def live : Nat → Nat := fun f => maskL.getD f 0
set_option maxRecDepth 100000000 in
theorem alive1 : kAnswers Tryz.prog live (ov1 GL) gs1 100000 200 18 [] = true := by kernel_rfl
def ovL : Ov0 := fun f args => cond (Nat.beq f 18) (match args with
  | [] => some (.b true)
  | _ :: _ => none) none
theorem ovL_ok {B : World} (hB : B.ShapedOpen Tryz.prog) (hG : GOn B gs1) : Ov0OK Tryz.prog B ovL := by
  intro f args v h
  unfold ovL at h
  cases hf : Nat.beq f 18 with
  | false => rw [hf] at h; cases h
  | true =>
    rw [hf] at h
    rw [Nat.beq_eq] at hf
    subst hf
    cases args with
    | cons _ _ => cases h
    | nil =>
      obtain rfl := Option.some.inj h
      refine ⟨rfl, trivial, ⟨_, _, Tryz.func18, rfl⟩, fun J w _ hw => ?_⟩
      obtain ⟨m, st', he⟩ := kAnswers_true alive1
      refine (answers_sound hG (ov1_ok hB) mixed name_of (by simp [V.oks]) he w hw).mono ?_
      rintro e w' ⟨J', h1, h3⟩
      exact ⟨by rw [h1]; simp [V.real], h3⟩
def ovA (ro : Nat) : Ov := fun f args st => match ofOv0 ovL f args st with
  | some r => some r
  | none => ov1 ro f args st
theorem ovA_ok {ro : Nat} {B : World} (hB : B.ShapedOpen Tryz.prog) (hG : GOn B gs1) : OvR Tryz.prog ro B (ovA ro) := ov_or (ofOv0_ok (ovL_ok hB hG)) (ov1_ok hB)
end Go.Proofs.YtajmjilckaifoaaGreatDoor
