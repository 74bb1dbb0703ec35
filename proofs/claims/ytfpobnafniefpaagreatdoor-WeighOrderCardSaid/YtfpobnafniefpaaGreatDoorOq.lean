/-
  What is known beforehand of this program: strings.Index and IndexByte, what the listed variables hold. Nothing is claimed here.
-/
import Derived.Test.YtfpobnafniefpaaGreatDoorOc
import Derived.Test.YtfpobnafniefpaaGreatDoorSh
import Derived.Test.YtfpobnafniefpaaGreatDoorVg
import Derived.Test.YtfpobnafniefpaaGreatDoorRows
import Derived.KernelRfl
import Derived.MakeChecks
namespace Go.Proofs.YtfpobnafniefpaaGreatDoor
open Go.Vm Go.Vk Go.RowKit

theorem mixed : Tryz.prog.follows .mixedOrders = true := by kernel_rfl
theorem names : (Tryz.prog.funcs.toList.all fun fn => !(fn.name == "runtime.NumGoroutine")) = true := by kernel_rfl
theorem name_of (f : Nat) (fn : Func) (h : Tryz.prog.funcs[f]? = some fn) : (fn.name == "runtime.NumGoroutine") = false := by
  have := List.all_eq_true.1 names fn (Array.mem_toList_iff.2 (Array.mem_of_getElem? h))
  simpa using this

def gv0 : List V := [0,0,0,0,0,0,0,0,0,0,0,0,0,0,0,0,0,0,0,0,0,0,0,0,0,0,0,0,0,0,0,0,0,0,0,0,0,0,0,0,21,22,0,0,18,0,0,0,0,0,0,0,0,0,0,0,0,0,16,17,0,0,0,0,0,0,0,0,0,0,0,0,0,0,0,0,0,0,0,0,0,0,0,0,0,0,0,0,0,0,0,19,0,20,0,0,0,0,0,0,0,0,0,0,0,0,0,0,0,0,0,0,0,0,0,0,0,0,0,0,0,0,0,23,0,24].map fun n => .i .u8 (.ofNat n)
def gv2 : List V := [[108, 105, 110, 107],[118, 105, 115, 105, 116, 101, 100],[97, 110, 121, 45, 108, 105, 110, 107],[114, 111, 111, 116],[101, 109, 112, 116, 121],[110, 116, 104, 45, 99, 104, 105, 108, 100],[110, 116, 104, 45, 108, 97, 115, 116, 45, 99, 104, 105, 108, 100],[105, 115],[119, 104, 101, 114, 101],[110, 111, 116],[104, 97, 115]].map V.str
def gs1 : List (Nat × List V) := [(0, gv0), (2, gv2)]
theorem gon {W : World} (h : laidMetH Tryz.prog Rows.weighOrderRow.laid W) : GOn W gs1 := by
  rw [MakeChecks.laidMetH_plain _ _ _ (by kernel_rfl)] at h
  have hr := fun n d hm => Lib.laidMet.reads (n := n) (d := d) h hm
  intro x hx
  simp only [gs1, List.mem_cons, List.not_mem_nil, or_false] at hx
  rcases hx with rfl | rfl
  · exact laid_at (hr _ _ (List.mem_cons_of_mem _ (List.mem_cons_self ..))) 4 (t0 := 113) (by kernel_rfl) (by kernel_rfl) (by decide) (by kernel_rfl)
  · exact laid_at (hr _ _ (List.mem_cons_of_mem _ (List.mem_cons_of_mem _ (List.mem_cons_self ..)))) 4 (t0 := 173) (by kernel_rfl) (by kernel_rfl) (by decide) (by kernel_rfl)

theorem old_cell {B w : World} (h : Old B w) {b o : Nat} {v : Value} (hc : B.cell? ⟨b, o, none⟩ = some v) : w.cell? ⟨b, o, none⟩ = some v := by
  have hb : b < B.heap.size := by
    rcases Nat.lt_or_ge b B.heap.size with q | q
    · exact q
    · unfold World.cell? at hc
      rw [Array.getElem?_eq_none q] at hc
      cases hc
  unfold World.cell? at hc ⊢
  rw [h.block b hb]
  exact hc

/-- The place of a byte. -/
def ixN : Nat → Nat → Nat → Nat → Int
  | 0, _, _, _ => -1
  | n + 1, x, c, i => cond (Nat.beq (x % 256) c) (.ofNat i) (ixN n (x / 256) c (i + 1))
theorem ixN_eq (c : Nat) (hc : c < 256) : ∀ (n x i : Nat), -1 ≤ Lib.indexByte (unpackL n x) (UInt8.ofNat c) ∧ ixN n x c i = if Lib.indexByte (unpackL n x) (UInt8.ofNat c) = -1 then -1 else Lib.indexByte (unpackL n x) (UInt8.ofNat c) + i
  | 0, x, i => by simp [unpackL, Lib.indexByte, ixN]
  | n + 1, x, i => by
    obtain ⟨h1, h2⟩ := ixN_eq c hc n (x / 256) (i + 1)
    have key : (UInt8.ofNat (x % 256) == UInt8.ofNat c) = Nat.beq (x % 256) c := by
      have hx : x % 256 < 256 := Nat.mod_lt _ (by decide)
      rw [Bool.eq_iff_iff, beq_iff_eq, Nat.beq_eq]
      constructor
      · intro h
        have := congrArg UInt8.toNat h
        simpa [Nat.mod_eq_of_lt hx, Nat.mod_eq_of_lt hc] using this
      · intro h; rw [h]
    simp only [unpackL, Lib.indexByte, ixN, key, h2]
    cases Nat.beq (x % 256) c with
    | true => simp
    | false =>
      simp only [cond_false, Bool.false_eq_true, if_false, beq_iff_eq]
      by_cases e : Lib.indexByte (unpackL n (x / 256)) (UInt8.ofNat c) = -1
      · simp [e]
      · simp only [if_neg e]
        refine ⟨by omega, ?_⟩
        rw [if_neg (by omega)]
        omega

def ovI : Ov0 := fun f args => cond (Nat.beq f 72) (match args with
  | [.s l x, .s m y] => cond (Nat.blt l 4294967281) (some (.i .i64 (Lib.index (unpackL l x) (unpackL m y)))) none
  | _ => none) (cond (Nat.beq f 92) (match args with
  | [.s l x, .i .u8 (.ofNat c)] => cond (Nat.blt c 256) (some (.i .i64 (ixN l x c 0))) none
  | _ => none) none)
theorem ovI_ok {B : World} (hB : B.ShapedOpen Tryz.prog) : Ov0OK Tryz.prog B ovI := by
  intro f args v h
  unfold ovI at h
  cases hf : Nat.beq f 72 with
  | false =>
    rw [hf, cond_false] at h
    cases hf' : Nat.beq f 92 with
    | false => rw [hf'] at h; cases h
    | true =>
      rw [hf'] at h
      rw [Nat.beq_eq] at hf'
      subst hf'
      simp only [cond_true] at h
      split at h
      · rename_i l x c
        cases hc : Nat.blt c 256 with
        | false => rw [hc] at h; cases h
        | true =>
          rw [hc] at h
          obtain rfl := Option.some.inj h
          rw [Nat.blt_eq] at hc
          refine ⟨rfl, trivial, ⟨_, _, Tryz.func92, rfl⟩, fun J w _ hw => ?_⟩
          refine (Any.stringslite_IndexByte { Tryz.lays219 with } ⟨(unpackL l x).toArray⟩ (c : Int) w).mono ?_
          rintro e w' ⟨he, rfl⟩
          refine ⟨?_, Below.refl _ _⟩
          rw [he]
          have h2 := (ixN_eq c hc l x 0).2
          have h1 := (ixN_eq c hc l x 0).1
          simp only [V.real]
          rw [h2]
          congr 2
          show Lib.indexByte (unpackL l x) (UInt8.ofNat c) = _
          split
          · assumption
          · omega
      · cases h
  | true =>
    rw [hf] at h
    rw [Nat.beq_eq] at hf
    subst hf
    simp only [cond_true] at h
    split at h
    · rename_i l x m y
      cases hl : Nat.blt l 4294967281 with
      | false => rw [hl] at h; cases h
      | true =>
        rw [hl] at h
        obtain rfl := Option.some.inj h
        rw [Nat.blt_eq] at hl
        refine ⟨rfl, trivial, ⟨_, _, Tryz.func72, rfl⟩, fun J w _ hw => ?_⟩
        obtain ⟨mx, hm⟩ := Tryz.laysM219.s1_3 B hB
        have hs : (⟨(unpackL l x).toArray⟩ : ByteArray).size < 4294967281 := by
          show (unpackL l x).toArray.size < _
          rw [List.size_toArray, length_unpackL]; exact hl
        refine (Tryz.stringslite_Index ⟨(unpackL l x).toArray⟩ ⟨(unpackL m y).toArray⟩ mx w hs (old_cell hw hm)).mono ?_
        rintro e w' ⟨he, rfl⟩
        exact ⟨by rw [he]; simp [V.real], Below.refl _ _⟩
    · cases h

theorem ov_or {P : Program} {ro : Nat} {B : World} {a b : Ov} (ha : OvR P ro B a) (hb : OvR P ro B b) : OvR P ro B (fun f args st => match a f args st with | some r => some r | none => b f args st) := by
  intro B' hB f args st v st' h
  dsimp only at h
  cases hc : a f args st with
  | some r => rw [hc] at h; exact ha B' hB f args st v st' (hc.trans h)
  | none => rw [hc] at h; exact hb B' hB f args st v st' h
def ov1 (_ : Nat) : Ov := ofOv0 ovI
theorem ov1_ok {ro : Nat} {B : World} (hB : B.ShapedOpen Tryz.prog) : OvR Tryz.prog ro B (ov1 ro) := ofOv0_ok (ovI_ok hB)

/-- Which slots of each function are read in another region than where they are written. -/
def maskL : List Nat := [0, 0, 0, 1030827, 21267729062197068573142608762082689023, 7951, 985341, 285, 8255, 2113663, 1, 131119, 2105469, 21, 1967, 264173, 16631, 31, 1023, 1085, 4642275165843481345525257149, 4719741, 139293, 15407, 34628706291, 84019187, 15, 92405767, 7, 1207, 278101, 279188633047, 76835947859, 123, 261, 8454455, 604275, 8867095281981, 131635, 2601219034095660069611975149096947, 115, 542675, 2148467759, 8654964723, 37383399547899, 139469034223, 292489781118535007, 5, 5, 19, 19, 5, 275, 5, 9259405266296832243, 19, 563, 8819, 275, 34360788979, 8590065907, 5, 140769834838991, 37, 7197, 5, 67126077, 137443149819, 91, 5, 17854187438431, 19, 702342826256273603086707106465568295829491, 275, 19600230178611273415, 5, 19, 5, 5, 5, 19, 72075254947659775, 16806963, 9481770674628170612851, 1099545183357, 21, 19, 19, 3901, 9671411168673422716715003, 5, 2419036842536553083310559, 19, 0, 5, 151115727469970589747187, 147, 2098205, 5, 1031, 271, 5, 275, 477, 17435721971, 261, 29, 264467, 18031990762639613, 2162845, 2200098570751, 5, 7, 4227639, 55, 4194311, 4103, 0, 1107300861, 1125899940399155, 2149585011, 134484221, 131149, 2109, 1, 1073814511, 5, 5, 8211, 66109, 4243, 262771, 66483, 7, 285, 4157, 19, 19, 1037, 19, 1050579, 70506720530429, 316912838952437276284744179709, 15615293030781833389941184238615215835817264156527165427, 131077, 19955773, 144115222704043005, 51, 4299686643, 1037, 4101, 8205, 2097183, 23, 563, 1049677, 51, 8253, 33725, 0, 0, 0, 0, 0, 0, 0, 0, 0, 0, 0, 0, 0, 0, 0, 0, 0, 0, 0, 0, 0, 0, 0, 0]
def live : Nat → Nat := fun f => maskL.getD f 0
set_option maxRecDepth 100000000 in
theorem alive1 : kAnswers Tryz.prog live (ov1 GL) gs1 100000 200 10 [] = true := by kernel_rfl
def ovL : Ov0 := fun f args => cond (Nat.beq f 10) (match args with
  | [] => some (.b true)
  | _ :: _ => none) none
theorem ovL_ok {B : World} (hB : B.ShapedOpen Tryz.prog) (hG : GOn B gs1) : Ov0OK Tryz.prog B ovL := by
  intro f args v h
  unfold ovL at h
  cases hf : Nat.beq f 10 with
  | false => rw [hf] at h; cases h
  | true =>
    rw [hf] at h
    rw [Nat.beq_eq] at hf
    subst hf
    cases args with
    | cons _ _ => cases h
    | nil =>
      obtain rfl := Option.some.inj h
      refine ⟨rfl, trivial, ⟨_, _, Tryz.func10, rfl⟩, fun J w _ hw => ?_⟩
      obtain ⟨m, st', he⟩ := kAnswers_true alive1
      refine (answers_sound hG (ov1_ok hB) mixed name_of (by simp [V.oks]) he w hw).mono ?_
      rintro e w' ⟨J', h1, h3⟩
      exact ⟨by rw [h1]; simp [V.real], h3⟩
def ovA (ro : Nat) : Ov := fun f args st => match ofOv0 ovL f args st with
  | some r => some r
  | none => ov1 ro f args st
theorem ovA_ok {ro : Nat} {B : World} (hB : B.ShapedOpen Tryz.prog) (hG : GOn B gs1) : OvR Tryz.prog ro B (ovA ro) := ov_or (ofOv0_ok (ovL_ok hB hG)) (ov1_ok hB)
end Go.Proofs.YtfpobnafniefpaaGreatDoor
