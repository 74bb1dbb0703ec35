/-
 What is known beforehand of this program: strings.Index and IndexByte, what the listed variables hold. Nothing is claimed here.
-/
import Derived.Test.YtbpbaicbaehhjaaGreatDoorOc
import Derived.Test.YtbpbaicbaehhjaaGreatDoorSh
import Derived.Test.YtbpbaicbaehhjaaGreatDoorVg
import Derived.Test.YtbpbaicbaehhjaaGreatDoorLp
import Derived.Test.YtbpbaicbaehhjaaGreatDoorAy
import Derived.Test.YtbpbaicbaehhjaaGreatDoorRows
import Derived.KernelRfl
import Derived.MakeChecks
namespace Go.Proofs.YtbpbaicbaehhjaaGreatDoor
open Go.Vm Go.Vk Go.RowKit
theorem mixed : Tryz.prog.follows .mixedOrders = true := by kernel_rfl
theorem Jb : (Tryz.prog.funcs.toList.all fun fn => !(fn.name == "runtime.NumGoroutine")) = true := by kernel_rfl
theorem Jfv (f : Nat) (fn : Func) (h : Tryz.prog.funcs[f]? = some fn) : (fn.name == "runtime.NumGoroutine") = false := by
 have := List.all_eq_true.1 Jb fn (Array.mem_toList_iff.2 (Array.mem_of_getElem? h))
 simpa using this
def gv3 : List V := [0,1,28,2,29,14,24,3,30,22,20,15,25,17,4,8,31,27,13,23,21,19,16,7,26,12,18,6,11,5,10,9].map fun n => .i .u8 (.ofNat n)
def gv4 : List V := [0,1,56,2,57,49,28,3,61,58,42,50,38,29,17,4,62,47,59,36,45,43,51,22,53,39,33,30,24,18,12,5,63,55,48,27,60,41,37,16,46,35,44,21,52,32,23,11,54,26,40,15,34,20,31,10,25,14,19,9,13,8,7,6].map fun n => .i .u8 (.ofNat n)
def gv1 : List V := [1,10,100,1000,10000,100000,1000000,10000000,100000000,1000000000,10000000000,100000000000,1000000000000,10000000000000,100000000000000,1000000000000000,10000000000000000,100000000000000000,1000000000000000000,10000000000000000000].map fun n => .i .u64 (.ofNat n)
def gv0 : List V := [0,0,0,0,0,0,0,0,0,0,0,0,0,0,0,0,0,0,0,0,0,0,0,0,0,0,0,0,0,0,0,0,0,0,0,0,0,0,0,0,21,22,0,0,18,0,0,0,0,0,0,0,0,0,0,0,0,0,16,17,0,0,0,0,0,0,0,0,0,0,0,0,0,0,0,0,0,0,0,0,0,0,0,0,0,0,0,0,0,0,0,19,0,20,0,0,0,0,0,0,0,0,0,0,0,0,0,0,0,0,0,0,0,0,0,0,0,0,0,0,0,0,0,23,0,24].map fun n => .i .u8 (.ofNat n)
def gs1 : List (Nat × List V) := [(3, gv3), (4, gv4), (1, gv1), (0, gv0)]
theorem gon {W : World} (h : laidMetH Tryz.prog Rows.anbSumRow.laid W) : GOn W gs1 := by
 rw [MakeChecks.laidMetH_plain _ _ _ (by kernel_rfl)] at h
 have hr := fun n d hm => Lib.laidMet.reads (n := n) (d := d) h hm
 intro x hx
 simp only [gs1, List.mem_cons, List.not_mem_nil, or_false] at hx
 rcases hx with rfl | rfl | rfl | rfl
 ·exact jdv (hr _ _ (List.mem_cons_self ..)) 4 (t0 := 114) (by kernel_rfl) (by kernel_rfl) (by decide) (by kernel_rfl)
 ·exact jdv (hr _ _ (List.mem_cons_of_mem _ (List.mem_cons_self ..))) 4 (t0 := 115) (by kernel_rfl) (by kernel_rfl) (by decide) (by kernel_rfl)
 ·exact jdv (hr _ _ (List.mem_cons_of_mem _ (List.mem_cons_of_mem _ (List.mem_cons_self ..)))) 4 (t0 := 97) (by kernel_rfl) (by kernel_rfl) (by decide) (by kernel_rfl)
 ·exact jdv (hr _ _ (List.mem_cons_of_mem _ (List.mem_cons_of_mem _ (List.mem_cons_of_mem _ (List.mem_cons_of_mem _ (List.mem_cons_self ..)))))) 4 (t0 := 81) (by kernel_rfl) (by kernel_rfl) (by decide) (by kernel_rfl)
theorem Jf3 {B w : World} (h : Old B w) {b o : Nat} {v : Value} (hc : B.cell? ⟨b, o, none⟩ = some v) : w.cell? ⟨b, o, none⟩ = some v := by
 have hb : b < B.heap.size := by
  rcases Nat.lt_or_ge b B.heap.size with q | q
  ·exact q
  ·unfold World.cell? at hc
   rw [Array.getElem?_eq_none q] at hc
   cases hc
 unfold World.cell? at hc ⊢
 rw [h.block b hb]
 exact hc
def ixN : Nat → Nat → Nat → Nat → Int
 | 0, _, _, _ => -1
 | n + 1, x, c, i => cond (Nat.beq (x % 256) c) (.ofNat i) (ixN n (x / 256) c (i + 1))
theorem zfw (c : Nat) (hc : c < 256) : ∀ (n x i : Nat), -1 ≤ Lib.indexByte (Zc n x) (UInt8.ofNat c) ∧ ixN n x c i = if Lib.indexByte (Zc n x) (UInt8.ofNat c) = -1 then -1 else Lib.indexByte (Zc n x) (UInt8.ofNat c) + i
 | 0, x, i => by simp [Zc, Lib.indexByte, ixN]
 | n + 1, x, i => by
  obtain ⟨h1, h2⟩ := zfw c hc n (x / 256) (i + 1)
  have key : (UInt8.ofNat (x % 256) == UInt8.ofNat c) = Nat.beq (x % 256) c := by
   have hx : x % 256 < 256 := Nat.mod_lt _ (by decide)
   rw [Bool.eq_iff_iff, beq_iff_eq, Nat.beq_eq]
   constructor
   ·intro h
    have := congrArg UInt8.toNat h
    simpa [Nat.mod_eq_of_lt hx, Nat.mod_eq_of_lt hc] using this
   ·intro h; rw [h]
  simp only [Zc, Lib.indexByte, ixN, key, h2]
  cases Nat.beq (x % 256) c with
  | true => simp
  | false =>
   simp only [cond_false, Bool.false_eq_true, if_false, beq_iff_eq]
   by_cases e : Lib.indexByte (Zc n (x / 256)) (UInt8.ofNat c) = -1
   ·simp [e]
   ·simp only [if_neg e]
    refine ⟨by omega, ?_⟩
    rw [if_neg (by omega)]
    omega
def ovI : Ov0 := fun f args => cond (Nat.beq f 67) (match args with
 | [.s l x, .s m y] => cond (Nat.blt l 4294967281) (some (.i .i64 (Lib.index (Zc l x) (Zc m y)))) none
 | _ => none) (cond (Nat.beq f 83) (match args with
 | [.s l x, .i .u8 (.ofNat c)] => cond (Nat.blt c 256) (some (.i .i64 (ixN l x c 0))) none
 | _ => none) none)
theorem Jg7 {B : World} (hB : B.ShapedOpen Tryz.prog) : Zdp Tryz.prog B ovI := by
 intro f args v h
 unfold ovI at h
 cases hf : Nat.beq f 67 with
 | false =>
  rw [hf, cond_false] at h
  cases hf' : Nat.beq f 83 with
  | false => rw [hf'] at h; cases h
  | true =>
   rw [hf'] at h
   rw [Nat.beq_eq] at hf'
   subst hf'
   simp only [cond_true] at h
   split at h
   ·rename_i l x c
    cases hc : Nat.blt c 256 with
    | false => rw [hc] at h; cases h
    | true =>
     rw [hc] at h
     obtain rfl := Option.some.inj h
     rw [Nat.blt_eq] at hc
     refine ⟨rfl, trivial, ⟨_, _, Tryz.func83, rfl⟩, fun J w _ hw => ?_⟩
     refine (Any.stringslite_IndexByte { Tryz.lays219 with } ⟨(Zc l x).toArray⟩ (c : Int) w).mono ?_
     rintro e w' ⟨he, rfl⟩
     refine ⟨?_, Below.refl _ _⟩
     rw [he]
     have h2 := (zfw c hc l x 0).2
     have h1 := (zfw c hc l x 0).1
     simp only [V.real]
     rw [h2]
     congr 2
     show Lib.indexByte (Zc l x) (UInt8.ofNat c) = _
     split
     ·assumption
     ·omega
   ·cases h
 | true =>
  rw [hf] at h
  rw [Nat.beq_eq] at hf
  subst hf
  simp only [cond_true] at h
  split at h
  ·rename_i l x m y
   cases hl : Nat.blt l 4294967281 with
   | false => rw [hl] at h; cases h
   | true =>
    rw [hl] at h
    obtain rfl := Option.some.inj h
    rw [Nat.blt_eq] at hl
    refine ⟨rfl, trivial, ⟨_, _, Tryz.func67, rfl⟩, fun J w _ hw => ?_⟩
    obtain ⟨mx, hm⟩ := Tryz.laysM219.s1_3 B hB
    have hs : (⟨(Zc l x).toArray⟩ : ByteArray).size < 4294967281 := by
     show (Zc l x).toArray.size < _
     rw [List.size_toArray, Ji]; exact hl
    refine (Tryz.stringslite_Index ⟨(Zc l x).toArray⟩ ⟨(Zc m y).toArray⟩ mx w hs (Jf3 hw hm)).mono ?_
    rintro e w' ⟨he, rfl⟩
    exact ⟨by rw [he]; simp [V.real], Below.refl _ _⟩
  ·cases h
theorem jht {P : Program} {ro : Nat} {B : World} {a b : Ov} (ha : OvR P ro B a) (hb : OvR P ro B b) : OvR P ro B (fun f args st => match a f args st with | some r => some r | none => b f args st) := by
 intro B' hB f args st v st' h
 dsimp only at h
 cases hc : a f args st with
 | some r => rw [hc] at h; exact ha B' hB f args st v st' (hc.trans h)
 | none => rw [hc] at h; exact hb B' hB f args st v st' h
theorem p10 {B : World} (hG : GOn B gs1) : ∃ e fz, B.heap[Tryz.lays173_ren.g 17]? = some (.cells (Lib.pow10Tab.map fun z => Value.int .u64 z).toArray e fz) := by
 obtain ⟨_, _, c, e, fz, h1, h2⟩ := hG (1, gv1) (List.mem_cons_of_mem _ (List.mem_cons_of_mem _ (List.mem_cons_self ..)))
 refine ⟨e, fz, ?_⟩
 show B.heap[1]? = _
 rw [h1]
 have : c = (Lib.pow10Tab.map fun z => Value.int .u64 z).toArray := Array.ext' (by rw [h2]; rfl)
 rw [this]
theorem zg8 {P : Program} {B : World} {a b : Ov0} (ha : Zdp P B a) (hb : Zdp P B b) : Zdp P B (fun f args => match a f args with | some r => some r | none => b f args) := by
 intro f args v h
 dsimp only at h
 cases hc : a f args with
 | some r => rw [hc] at h; exact ha f args v (hc.trans h)
 | none => rw [hc] at h; exact hb f args v h
def ovM : Ov0 := zht 31
theorem jg8 {B : World} (hG : GOn B gs1) : Zdp Tryz.prog B ovM := jgG Tryz.lays173 (p10 hG)
def ov00 : Ov0 := fun f args => match ovM f args with | some r => some r | none => ovI f args
theorem ZgG {B : World} (hB : B.ShapedOpen Tryz.prog) (hG : GOn B gs1) : Zdp Tryz.prog B ov00 := zg8 (jg8 hG) (Jg7 hB)
def ov1 (_ : Nat) : Ov := zc3 ov00
theorem zgs {ro : Nat} {B : World} (hB : B.ShapedOpen Tryz.prog) (hG : GOn B gs1) : OvR Tryz.prog ro B (ov1 ro) := JeI (ZgG hB hG)
def maskL : List Nat := [0, 0, 0, 1569275433846759393939741478314294623230523997480002710191, 154618823159, 5322115055028300259193671459563110399, 324597791493675713611090054090743, 18020997728831479, 7951, 4157, 4157, 132215, 138940919, 4383, 4103, 7, 7, 1085, 70506720530429, 4151, 5, 93, 77, 5, 84019187, 15, 131077, 19955773, 144115222704043005, 51, 4299686643, 19, 8867095281981, 131635, 2601219034095660069611975149096947, 4101, 3901, 8205, 2097183, 23, 563, 1049677, 51, 8253, 33725, 17188391667, 5, 19, 19, 5, 275, 5, 9259405266296832243, 19, 563, 8819, 275, 34360788979, 8590065907, 5, 261, 19, 5, 21, 13, 2923003971560093291123168138537876760321514930163, 20426010943356750102455122975, 702342826256273603086707106465568295829491, 275, 19600230178611273415, 5, 19, 5, 5, 19, 72075254947659775, 16806963, 9481770674628170612851, 5, 16661, 13, 5, 5, 19, 0, 5, 151115727469970589747187, 147, 2098205, 5, 1031, 271, 5, 275, 477, 17435721971, 29, 264467, 21, 21, 0, 1107300861, 1125899940399155, 2149585011, 8211, 66109, 4243, 262771, 19, 1037, 19, 316912838952437276284744179709, 15615293030781833389941184238615215835817264156527165427, 19, 1037, 0, 0, 0, 0, 0, 0, 0, 0, 0, 0, 0, 0, 0, 0, 0, 0, 0, 0, 0, 0, 0, 0, 0, 0, 0, 0]
def ZdX : Nat → Nat := fun f => maskL.getD f 0
set_option maxRecDepth 100000000 in
theorem Zg8 : JeN Tryz.prog ZdX (ov1 GL) gs1 100000 200 15 [] = true := by kernel_rfl
def ovL : Ov0 := fun f args => cond (Nat.beq f 15) (match args with
 | [] => some (.b true)
 | _ :: _ => none) none
theorem Jg8 {B : World} (hB : B.ShapedOpen Tryz.prog) (hG : GOn B gs1) : Zdp Tryz.prog B ovL := by
 intro f args v h
 unfold ovL at h
 cases hf : Nat.beq f 15 with
 | false => rw [hf] at h; cases h
 | true =>
  rw [hf] at h
  rw [Nat.beq_eq] at hf
  subst hf
  cases args with
  | cons _ _ => cases h
  | nil =>
   obtain rfl := Option.some.inj h
   refine ⟨rfl, trivial, ⟨_, _, Tryz.func15, rfl⟩, fun J w _ hw => ?_⟩
   obtain ⟨m, st', he⟩ := zdv Zg8
   refine (zbP hG (zgs hB hG) mixed Jfv (by simp [V.oks]) he w hw).mono ?_
   rintro e w' ⟨J', h1, h3⟩
   exact ⟨by rw [h1]; simp [V.real], h3⟩
def ovA (ro : Nat) : Ov := fun f args st => match zc3 ovL f args st with
 | some r => some r
 | none => ov1 ro f args st
theorem zg9 {ro : Nat} {B : World} (hB : B.ShapedOpen Tryz.prog) (hG : GOn B gs1) : OvR Tryz.prog ro B (ovA ro) := jht (JeI (Jg8 hB hG)) (zgs hB hG)
end Go.Proofs.YtbpbaicbaehhjaaGreatDoor
