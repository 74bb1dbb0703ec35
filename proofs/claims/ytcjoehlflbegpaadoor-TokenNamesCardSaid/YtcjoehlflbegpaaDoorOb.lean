/-
  What is known beforehand of this program: strings.Index, what the listed variable holds, that it is alive. Nothing is claimed here.
-/
import Derived.Test.YtcjoehlflbegpaaDoorOc
import Derived.Test.YtcjoehlflbegpaaDoorSh
import Derived.Test.YtcjoehlflbegpaaDoorRows
import Derived.KernelRfl
import Derived.MakeChecks
namespace Go.Proofs.YtcjoehlflbegpaaDoor
open Go.Vm Go.Vk Go.RowKit

theorem mixed : Tryd.prog.follows .mixedOrders = true := by kernel_rfl
theorem names : (Tryd.prog.funcs.toList.all fun fn => !(fn.name == "runtime.NumGoroutine")) = true := by kernel_rfl
theorem name_of (f : Nat) (fn : Func) (h : Tryd.prog.funcs[f]? = some fn) : (fn.name == "runtime.NumGoroutine") = false := by
  have := List.all_eq_true.1 names fn (Array.mem_toList_iff.2 (Array.mem_of_getElem? h))
  simpa using this

def u8s (l : List Nat) : List V := l.map fun n => .i .u8 (.ofNat n)
def marksV : List V := u8s [0,0,0,0,0,0,0,0,0,0,0,0,0,0,0,0,0,0,0,0,0,0,0,0,0,0,0,0,0,0,0,0,0,0,0,0,0,0,0,0,21,22,0,0,18,0,0,0,0,0,0,0,0,0,0,0,0,0,16,17,0,0,0,0,0,0,0,0,0,0,0,0,0,0,0,0,0,0,0,0,0,0,0,0,0,0,0,0,0,0,0,19,0,20,0,0,0,0,0,0,0,0,0,0,0,0,0,0,0,0,0,0,0,0,0,0,0,0,0,0,0,0,0,23,0,24]
def gs1 : List (Nat × List V) := [(0, marksV)]
/-- Which slots of each function are read in another region than where they are written. -/
def maskL : List Nat := [0, 0, 0, 5363017559, 33562621, 162259276829222598022613933500413, 1208935043268141006233587, 604462909807351094576381, 309485009821345070872526835, 1085, 1085, 2099517, 1050941, 123, 137474605299, 2147483711, 2101885, 1050941, 8867095281981, 585467951692382771, 33571891, 158456325028528745693279420831, 131117, 84019187, 15, 23, 275, 72075254947659775, 563, 8819, 1065011, 37470230409059502067, 22118354012121515201326396120064183502845, 275, 68719739379, 5, 5, 131635, 2601219034095660069611975149096947, 5, 275, 5, 19, 1031, 271, 5, 275, 477, 17435721971, 5, 19, 19, 19600230178611273415, 275, 5, 275, 13, 19, 5, 288265560524857587, 19, 19, 5, 275, 5, 9259405266296832243, 34360788979, 8590065907, 5, 2149585011, 5, 5, 147, 2098205, 261, 1, 32789, 5, 137473097733, 19, 702342826256273603086707106465568295829491, 16806963, 9481770674628170612851, 8211, 66109, 4243, 262771, 1125899940399155, 19, 0, 5, 151115727469970589747187, 261, 29, 264467, 19, 1037, 19, 0, 1107300861, 316912838952437276284744179709, 15615293030781833389941184238615215835817264156527165427, 19, 1037]
def live : Nat → Nat := fun f => maskL.getD f 0

theorem gon {W : World} (h : laidMetH Tryd.prog Rows.tokenNamesRow.laid W) : GOn W gs1 := by
  rw [MakeChecks.laidMetH_plain _ _ _ (by kernel_rfl)] at h
  have hr := fun n d hm => Lib.laidMet.reads (n := n) (d := d) h hm
  have h1 := hr _ _ (List.mem_cons_of_mem _ (List.mem_cons_self ..))
  intro x hx
  simp only [gs1, List.mem_singleton] at hx
  subst hx
  exact laid_at h1 4 (t0 := 70) (by kernel_rfl) (by kernel_rfl) (by decide) (by kernel_rfl)

theorem old_cell {B w : World} (h : Old B w) {b o : Nat} {v : Value} (hc : B.cell? ⟨b, o, none⟩ = some v) : w.cell? ⟨b, o, none⟩ = some v := by
  have hb : b < B.heap.size := by
    rcases Nat.lt_or_ge b B.heap.size with q | q
    · exact q
    · unfold World.cell? at hc
      rw [Array.getElem?_eq_none q] at hc
      cases hc
  unfold World.cell? at hc ⊢
  rw [h.block b hb]
  exact hc

def ovI : Ov := fun f args => cond (Nat.beq f 80) (match args with
  | [.s l x, .s m y] => cond (Nat.blt l 4294967281) (some (.i .i64 (Lib.index (unpackL l x) (unpackL m y)))) none
  | _ => none) none
theorem ovI_ok {B : World} (hB : B.ShapedOpen Tryd.prog) : OvOK Tryd.prog B ovI := by
  intro f args v h
  unfold ovI at h
  cases hf : Nat.beq f 80 with
  | false => rw [hf] at h; cases h
  | true =>
    rw [hf] at h
    rw [Nat.beq_eq] at hf
    subst hf
    simp only [cond_true] at h
    split at h
    · rename_i l x m y
      cases hl : Nat.blt l 4294967281 with
      | false => rw [hl] at h; cases h
      | true =>
        rw [hl] at h
        obtain rfl := Option.some.inj h
        rw [Nat.blt_eq] at hl
        refine ⟨rfl, trivial, ⟨_, _, Tryd.func80, rfl⟩, fun J w _ hw => ?_⟩
        obtain ⟨mx, hm⟩ := Tryd.laysM219.s1_3 B hB
        have hs : (⟨(unpackL l x).toArray⟩ : ByteArray).size < 4294967281 := by
          show (unpackL l x).toArray.size < _
          rw [List.size_toArray, length_unpackL]; exact hl
        refine (Tryd.stringslite_Index ⟨(unpackL l x).toArray⟩ ⟨(unpackL m y).toArray⟩ mx w hs (old_cell hw hm)).mono ?_
        rintro e w' ⟨he, rfl⟩
        exact ⟨by rw [he]; simp [V.real], Below.refl _ _⟩
    · cases h

theorem alive1 : kAnswers Tryd.prog live ovI gs1 100000 200 15 [] = true := by kernel_rfl
def ovA : Ov := fun f args => cond (Nat.beq f 15) (match args with
  | [] => some (.b true)
  | _ :: _ => none) (ovI f args)
theorem ovA_ok {B : World} (hB : B.ShapedOpen Tryd.prog) (hG : GOn B gs1) : OvOK Tryd.prog B ovA := by
  intro f args v h
  unfold ovA at h
  cases hf : Nat.beq f 15 with
  | false => rw [hf] at h; exact ovI_ok hB f args v h
  | true =>
    rw [hf] at h
    rw [Nat.beq_eq] at hf
    subst hf
    cases args with
    | cons _ _ => cases h
    | nil =>
      obtain rfl := Option.some.inj h
      refine ⟨rfl, trivial, ⟨_, _, Tryd.func15, rfl⟩, fun J w _ hw => ?_⟩
      obtain ⟨m, st', he⟩ := kAnswers_true alive1
      refine (answers_sound hG (ovI_ok hB) mixed name_of (by simp [V.oks]) he w hw).mono ?_
      rintro e w' ⟨J', h1, h3⟩
      exact ⟨by rw [h1]; simp [V.real], h3⟩
end Go.Proofs.YtcjoehlflbegpaaDoor
