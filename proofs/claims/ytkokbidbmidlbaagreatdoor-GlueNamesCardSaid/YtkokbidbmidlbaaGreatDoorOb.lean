/-
 What is known beforehand of this program: strings.Index and IndexByte, what the listed variables hold, slices.Insert. Nothing is claimed here.
-/
import Derived.Test.YtkokbidbmidlbaaGreatDoorOc
import Derived.Test.YtkokbidbmidlbaaGreatDoorSh
import Derived.Test.YtkokbidbmidlbaaGreatDoorVa5
import Derived.Test.YtkokbidbmidlbaaGreatDoorIn1
import Derived.Test.YtkokbidbmidlbaaGreatDoorRows
import Derived.KernelRfl
import Derived.MakeChecks
namespace Go.Proofs.YtkokbidbmidlbaaGreatDoor
open Go.Vm Go.Vk Go.RowKit
theorem mixed : Tryz.prog.follows .mixedOrders = true := by kernel_rfl
theorem jb : (Tryz.prog.funcs.toList.all fun fn => !(fn.name == "runtime.NumGoroutine")) = true := by kernel_rfl
theorem zdO (f : Nat) (fn : Func) (h : Tryz.prog.funcs[f]? = some fn) : (fn.name == "runtime.NumGoroutine") = false := by
 have := List.all_eq_true.1 jb fn (Array.mem_toList_iff.2 (Array.mem_of_getElem? h))
 simpa using this
def gv5 : List V := [0,1,28,2,29,14,24,3,30,22,20,15,25,17,4,8,31,27,13,23,21,19,16,7,26,12,18,6,11,5,10,9].map fun n => .i .u8 (.ofNat n)
def gv6 : List V := [0,1,56,2,57,49,28,3,61,58,42,50,38,29,17,4,62,47,59,36,45,43,51,22,53,39,33,30,24,18,12,5,63,55,48,27,60,41,37,16,46,35,44,21,52,32,23,11,54,26,40,15,34,20,31,10,25,14,19,9,13,8,7,6].map fun n => .i .u8 (.ofNat n)
def gv2 : List V := [1,10,100,1000,10000,100000,1000000,10000000,100000000,1000000000,10000000000,100000000000,1000000000000,10000000000000,100000000000000,1000000000000000,10000000000000000,100000000000000000,1000000000000000000,10000000000000000000].map fun n => .i .u64 (.ofNat n)
def gv0 : List V := [0,0,0,0,0,0,0,0,0,0,0,0,0,0,0,0,0,0,0,0,0,0,0,0,0,0,0,0,0,0,0,0,0,0,0,0,0,0,0,0,21,22,0,0,18,0,0,0,0,0,0,0,0,0,0,0,0,0,16,17,0,0,0,0,0,0,0,0,0,0,0,0,0,0,0,0,0,0,0,0,0,0,0,0,0,0,0,0,0,0,0,19,0,20,0,0,0,0,0,0,0,0,0,0,0,0,0,0,0,0,0,0,0,0,0,0,0,0,0,0,0,0,0,23,0,24].map fun n => .i .u8 (.ofNat n)
def gs1 : List (Nat × List V) := [(5, gv5), (6, gv6), (2, gv2), (0, gv0)]
theorem gon {W : World} (h : laidMetH Tryz.prog Rows.glueNamesRow.laid W) : GOn W gs1 := by
 rw [MakeChecks.laidMetH_plain _ _ _ (by kernel_rfl)] at h
 have hr := fun n d hm => Lib.laidMet.reads (n := n) (d := d) h hm
 intro x hx
 simp only [gs1, List.mem_cons, List.not_mem_nil, or_false] at hx
 rcases hx with rfl | rfl | rfl | rfl
 ·exact Zc1 (hr _ _ (List.mem_cons_self ..)) 4 (t0 := 154) (by kernel_rfl) (by kernel_rfl) (by decide) (by kernel_rfl)
 ·exact Zc1 (hr _ _ (List.mem_cons_of_mem _ (List.mem_cons_self ..))) 4 (t0 := 155) (by kernel_rfl) (by kernel_rfl) (by decide) (by kernel_rfl)
 ·exact Zc1 (hr _ _ (List.mem_cons_of_mem _ (List.mem_cons_of_mem _ (List.mem_cons_self ..)))) 4 (t0 := 144) (by kernel_rfl) (by kernel_rfl) (by decide) (by kernel_rfl)
 ·exact Zc1 (hr _ _ (List.mem_cons_of_mem _ (List.mem_cons_of_mem _ (List.mem_cons_of_mem _ (List.mem_cons_of_mem _ (List.mem_cons_self ..)))))) 4 (t0 := 108) (by kernel_rfl) (by kernel_rfl) (by decide) (by kernel_rfl)
theorem Zfh {B w : World} (h : Old B w) {b o : Nat} {v : Value} (hc : B.cell? ⟨b, o, none⟩ = some v) : w.cell? ⟨b, o, none⟩ = some v := by
 have hb : b < B.heap.size := by
  rcases Nat.lt_or_ge b B.heap.size with q | q
  ·exact q
  ·unfold World.cell? at hc
   rw [Array.getElem?_eq_none q] at hc
   cases hc
 unfold World.cell? at hc ⊢
 rw [h.block b hb]
 exact hc
def ixN : Nat → Nat → Nat → Nat → Int
 | 0, _, _, _ => -1
 | n + 1, x, c, i => cond (Nat.beq (x % 256) c) (.ofNat i) (ixN n (x / 256) c (i + 1))
theorem Jd5 (c : Nat) (hc : c < 256) : ∀ (n x i : Nat), -1 ≤ Lib.indexByte (Zc n x) (UInt8.ofNat c) ∧ ixN n x c i = if Lib.indexByte (Zc n x) (UInt8.ofNat c) = -1 then -1 else Lib.indexByte (Zc n x) (UInt8.ofNat c) + i
 | 0, x, i => by simp [Zc, Lib.indexByte, ixN]
 | n + 1, x, i => by
  obtain ⟨h1, h2⟩ := Jd5 c hc n (x / 256) (i + 1)
  have key : (UInt8.ofNat (x % 256) == UInt8.ofNat c) = Nat.beq (x % 256) c := by
   have hx : x % 256 < 256 := Nat.mod_lt _ (by decide)
   rw [Bool.eq_iff_iff, beq_iff_eq, Nat.beq_eq]
   constructor
   ·intro h
    have := congrArg UInt8.toNat h
    simpa [Nat.mod_eq_of_lt hx, Nat.mod_eq_of_lt hc] using this
   ·intro h; rw [h]
  simp only [Zc, Lib.indexByte, ixN, key, h2]
  cases Nat.beq (x % 256) c with
  | true => simp
  | false =>
   simp only [cond_false, Bool.false_eq_true, if_false, beq_iff_eq]
   by_cases e : Lib.indexByte (Zc n (x / 256)) (UInt8.ofNat c) = -1
   ·simp [e]
   ·simp only [if_neg e]
    refine ⟨by omega, ?_⟩
    rw [if_neg (by omega)]
    omega
def ovI : Ov0 := fun f args => cond (Nat.beq f 141) (match args with
 | [.s l x, .s m y] => cond (Nat.blt l 4294967281) (some (.i .i64 (Lib.index (Zc l x) (Zc m y)))) none
 | _ => none) (cond (Nat.beq f 59) (match args with
 | [.s l x, .i .u8 (.ofNat c)] => cond (Nat.blt c 256) (some (.i .i64 (ixN l x c 0))) none
 | _ => none) none)
theorem Jgj {B : World} (hB : B.ShapedOpen Tryz.prog) : JfH Tryz.prog B ovI := by
 intro f args v h
 unfold ovI at h
 cases hf : Nat.beq f 141 with
 | false =>
  rw [hf, cond_false] at h
  cases hf' : Nat.beq f 59 with
  | false => rw [hf'] at h; cases h
  | true =>
   rw [hf'] at h
   rw [Nat.beq_eq] at hf'
   subst hf'
   simp only [cond_true] at h
   split at h
   ·rename_i l x c
    cases hc : Nat.blt c 256 with
    | false => rw [hc] at h; cases h
    | true =>
     rw [hc] at h
     obtain rfl := Option.some.inj h
     rw [Nat.blt_eq] at hc
     refine ⟨rfl, trivial, ⟨_, _, Tryz.func59, rfl⟩, fun J w _ hw => ?_⟩
     refine (Any.stringslite_IndexByte { Tryz.lays219 with } ⟨(Zc l x).toArray⟩ (c : Int) w).mono ?_
     rintro e w' ⟨he, rfl⟩
     refine ⟨?_, Below.refl _ _⟩
     rw [he]
     have h2 := (Jd5 c hc l x 0).2
     have h1 := (Jd5 c hc l x 0).1
     simp only [V.real]
     rw [h2]
     congr 2
     show Lib.indexByte (Zc l x) (UInt8.ofNat c) = _
     split
     ·assumption
     ·omega
   ·cases h
 | true =>
  rw [hf] at h
  rw [Nat.beq_eq] at hf
  subst hf
  simp only [cond_true] at h
  split at h
  ·rename_i l x m y
   cases hl : Nat.blt l 4294967281 with
   | false => rw [hl] at h; cases h
   | true =>
    rw [hl] at h
    obtain rfl := Option.some.inj h
    rw [Nat.blt_eq] at hl
    refine ⟨rfl, trivial, ⟨_, _, Tryz.func141, rfl⟩, fun J w _ hw => ?_⟩
    obtain ⟨mx, hm⟩ := Tryz.laysM219.s1_3 B hB
    have hs : (⟨(Zc l x).toArray⟩ : ByteArray).size < 4294967281 := by
     show (Zc l x).toArray.size < _
     rw [List.size_toArray, jh]; exact hl
    refine (Tryz.stringslite_Index ⟨(Zc l x).toArray⟩ ⟨(Zc m y).toArray⟩ mx w hs (Zfh hw hm)).mono ?_
    rintro e w' ⟨he, rfl⟩
    exact ⟨by rw [he]; simp [V.real], Below.refl _ _⟩
  ·cases h
theorem Jfh {P : Program} {ro : Nat} {B : World} {a b : Ov} (ha : OvR P ro B a) (hb : OvR P ro B b) : OvR P ro B (fun f args st => match a f args st with | some r => some r | none => b f args st) := by
 intro B' hB f args st v st' h
 dsimp only at h
 cases hc : a f args st with
 | some r => rw [hc] at h; exact ha B' hB f args st v st' (hc.trans h)
 | none => rw [hc] at h; exact hb B' hB f args st v st' h
def ovV (ro : Nat) : Ov := fun f args st => cond (Nat.beq f 58) (JfC ro args st) none
def ov1 (ro : Nat) : Ov := fun f args st => match ovV ro f args st with
 | some r => some r
 | none => zcC ovI f args st
theorem jeN {ro : Nat} {B : World} (hB : B.ShapedOpen Tryz.prog) : OvR Tryz.prog ro B (ov1 ro) := Jfh (fun _ _ => zfT JgY) (JcT (Jgj hB))
def maskL : List Nat := [0, 0, 0, 87452568298681185110087852822516563881983, 70368745226199, 2105469, 9259409630105194493, 137440010227, 81446551669128954700885028507635, 1258491778218828971406065651, 23, 115, 5, 5, 67112861, 268699901, 1085469, 1, 1099513856029, 33341, 79, 79, 525325, 2475880080876744305090758813, 33571891, 1085, 5, 1050941, 2099517, 4620983489023705095, 17463, 16785459, 1180591620717411303623, 5, 19, 19, 17179873533, 2633041616291031363413610715, 356811923176489971502512712311432370712478111, 18736171272571586671, 8333, 52776558142451, 19, 84019187, 15, 563, 8819, 275, 72075254947659775, 4432473489463, 1037, 77, 1031, 7, 19, 7, 246867, 115, 295147905181504570311, 19, 2100935, 17213554813, 16893, 1051, 269363, 8392243, 274878431943, 5, 83, 21, 13, 288230444871193075, 34366030579, 69801607197, 5, 5, 68753031197, 1053, 8867095281981, 131635, 2601219034095660069611975149096947, 275, 5, 19, 19, 19600230178611273415, 5, 5, 19, 1031, 271, 5, 275, 477, 17435721971, 5, 5, 5, 5, 16806963, 16806963, 0, 3, 0, 5, 8388627, 524435, 2663648298409863783675951123854804979, 71, 1029, 21, 261, 275, 13, 5, 19, 19, 275, 9259405266296832243, 34360788979, 8590065907, 5, 5, 147, 2098205, 2149585011, 261, 3, 71, 5, 275, 37781237847805523395571, 19, 68719739379, 275, 1065011, 68736254451, 34368389619, 1398109, 2247, 19, 702342826256273603086707106465568295829491, 9481770674628170612851, 1125899940399155, 8211, 66109, 4243, 262771, 525, 288265560524857587, 37470230409059502067, 22118354012121515201326396120064183502845, 618970020228158363894023155, 5575, 0, 5, 151115727469970589747187, 29, 264467, 19, 1037, 19, 1, 32789, 137473097733, 275, 294963, 5, 21, 13, 2923003971560093291123168138537876760321514930163, 20426010943356750102455122975, 1107300861, 316912838952437276284744179709, 15615293030781833389941184238615215835817264156527165427, 5, 16661, 13, 5, 5, 1037, 21, 21, 0, 0, 0, 0, 0, 0, 0, 0, 0, 0, 0, 0, 0, 0, 0, 0, 0, 0, 0, 0, 0, 0, 0, 0, 0, 0]
def jdf : Nat → Nat := fun f => maskL.getD f 0
set_option maxRecDepth 100000000 in
theorem zgk : zc0 Tryz.prog jdf (ov1 GL) gs1 100000 200 17 [] = true := by kernel_rfl
def ovL : Ov0 := fun f args => cond (Nat.beq f 17) (match args with
 | [] => some (.b true)
 | _ :: _ => none) none
theorem jfD {B : World} (hB : B.ShapedOpen Tryz.prog) (hG : GOn B gs1) : JfH Tryz.prog B ovL := by
 intro f args v h
 unfold ovL at h
 cases hf : Nat.beq f 17 with
 | false => rw [hf] at h; cases h
 | true =>
  rw [hf] at h
  rw [Nat.beq_eq] at hf
  subst hf
  cases args with
  | cons _ _ => cases h
  | nil =>
   obtain rfl := Option.some.inj h
   refine ⟨rfl, trivial, ⟨_, _, Tryz.func17, rfl⟩, fun J w _ hw => ?_⟩
   obtain ⟨m, st', he⟩ := jbx zgk
   refine (jbt hG (jeN hB) mixed zdO (by simp [V.oks]) he w hw).mono ?_
   rintro e w' ⟨J', h1, h3⟩
   exact ⟨by rw [h1]; simp [V.real], h3⟩
def ovA (ro : Nat) : Ov := fun f args st => match zcC ovL f args st with
 | some r => some r
 | none => ov1 ro f args st
theorem jgk {ro : Nat} {B : World} (hB : B.ShapedOpen Tryz.prog) (hG : GOn B gs1) : OvR Tryz.prog ro B (ovA ro) := Jfh (JcT (jfD hB hG)) (jeN hB)
end Go.Proofs.YtkokbidbmidlbaaGreatDoor
