/-
  What is known beforehand of this program: strings.Index and IndexByte, what the listed variables hold. Nothing is claimed here.
-/
import Derived.Test.YtnfddmjbfkfnhaaGreatDoorOc
import Derived.Test.YtnfddmjbfkfnhaaGreatDoorSh
import Derived.Test.YtnfddmjbfkfnhaaGreatDoorRows
import Derived.KernelRfl
import Derived.MakeChecks
namespace Go.Proofs.YtnfddmjbfkfnhaaGreatDoor
open Go.Vm Go.RowKit

theorem mixed : Tryz.prog.follows .mixedOrders = true := by kernel_rfl
theorem names : (Tryz.prog.funcs.toList.all fun fn => !(fn.name == "runtime.NumGoroutine")) = true := by kernel_rfl
theorem name_of (f : Nat) (fn : Func) (h : Tryz.prog.funcs[f]? = some fn) : (fn.name == "runtime.NumGoroutine") = false := by
  have := List.all_eq_true.1 names fn (Array.mem_toList_iff.2 (Array.mem_of_getElem? h))
  simpa using this

def gv0 : List V := [0,0,0,0,0,0,0,0,0,0,0,0,0,0,0,0,0,0,0,0,0,0,0,0,0,0,0,0,0,0,0,0,0,0,0,0,0,0,0,0,21,22,0,0,18,0,0,0,0,0,0,0,0,0,0,0,0,0,16,17,0,0,0,0,0,0,0,0,0,0,0,0,0,0,0,0,0,0,0,0,0,0,0,0,0,0,0,0,0,0,0,19,0,20,0,0,0,0,0,0,0,0,0,0,0,0,0,0,0,0,0,0,0,0,0,0,0,0,0,0,0,0,0,23,0,24].map fun n => .i .u8 (.ofNat n)
def gv4 : List V := [[108, 105, 110, 107],[118, 105, 115, 105, 116, 101, 100],[97, 110, 121, 45, 108, 105, 110, 107],[114, 111, 111, 116],[101, 109, 112, 116, 121],[110, 116, 104, 45, 99, 104, 105, 108, 100],[110, 116, 104, 45, 108, 97, 115, 116, 45, 99, 104, 105, 108, 100],[105, 115],[119, 104, 101, 114, 101],[110, 111, 116],[104, 97, 115]].map V.str
def gs1 : List (Nat × List V) := [(0, gv0), (4, gv4)]
theorem gon {W : World} (h : laidMetH Tryz.prog Rows.sheetNamesRow.laid W) : GOn W gs1 := by
  rw [MakeChecks.laidMetH_plain _ _ _ (by kernel_rfl)] at h
  have hr := fun n d hm => Lib.laidMet.reads (n := n) (d := d) h hm
  intro x hx
  simp only [gs1, List.mem_cons, List.not_mem_nil, or_false] at hx
  rcases hx with rfl | rfl
  · exact laid_at (hr _ _ (List.mem_cons_of_mem _ (List.mem_cons_self ..))) 4 (t0 := 186) (by kernel_rfl) (by kernel_rfl) (by decide) (by kernel_rfl)
  · exact laid_at (hr _ _ (List.mem_cons_of_mem _ (List.mem_cons_of_mem _ (List.mem_cons_self ..)))) 4 (t0 := 334) (by kernel_rfl) (by kernel_rfl) (by decide) (by kernel_rfl)

theorem old_cell {B w : World} (h : Old B w) {b o : Nat} {v : Value} (hc : B.cell? ⟨b, o, none⟩ = some v) : w.cell? ⟨b, o, none⟩ = some v := by
  have hb : b < B.heap.size := by
    rcases Nat.lt_or_ge b B.heap.size with q | q
    · exact q
    · unfold World.cell? at hc
      rw [Array.getElem?_eq_none q] at hc
      cases hc
  unfold World.cell? at hc ⊢
  rw [h.block b hb]
  exact hc

/-- The place of a byte. -/
def ixN : Nat → Nat → Nat → Nat → Int
  | 0, _, _, _ => -1
  | n + 1, x, c, i => cond (Nat.beq (x % 256) c) (.ofNat i) (ixN n (x / 256) c (i + 1))
theorem ixN_eq (c : Nat) (hc : c < 256) : ∀ (n x i : Nat), -1 ≤ Lib.indexByte (unpackL n x) (UInt8.ofNat c) ∧ ixN n x c i = if Lib.indexByte (unpackL n x) (UInt8.ofNat c) = -1 then -1 else Lib.indexByte (unpackL n x) (UInt8.ofNat c) + i
  | 0, x, i => by simp [unpackL, Lib.indexByte, ixN]
  | n + 1, x, i => by
    obtain ⟨h1, h2⟩ := ixN_eq c hc n (x / 256) (i + 1)
    have key : (UInt8.ofNat (x % 256) == UInt8.ofNat c) = Nat.beq (x % 256) c := by
      have hx : x % 256 < 256 := Nat.mod_lt _ (by decide)
      rw [Bool.eq_iff_iff, beq_iff_eq, Nat.beq_eq]
      constructor
      · intro h
        have := congrArg UInt8.toNat h
        simpa [Nat.mod_eq_of_lt hx, Nat.mod_eq_of_lt hc] using this
      · intro h; rw [h]
    simp only [unpackL, Lib.indexByte, ixN, key, h2]
    cases Nat.beq (x % 256) c with
    | true => simp
    | false =>
      simp only [cond_false, Bool.false_eq_true, if_false, beq_iff_eq]
      by_cases e : Lib.indexByte (unpackL n (x / 256)) (UInt8.ofNat c) = -1
      · simp [e]
      · simp only [if_neg e]
        refine ⟨by omega, ?_⟩
        rw [if_neg (by omega)]
        omega

def ovI : Ov0 := fun f args => cond (Nat.beq f 198) (match args with
  | [.s l x, .s m y] => cond (Nat.blt l 4294967281) (some (.i .i64 (Lib.index (unpackL l x) (unpackL m y)))) none
  | _ => none) (cond (Nat.beq f 241) (match args with
  | [.s l x, .i .u8 (.ofNat c)] => cond (Nat.blt c 256) (some (.i .i64 (ixN l x c 0))) none
  | _ => none) none)
theorem ovI_ok {B : World} (hB : B.ShapedOpen Tryz.prog) : Ov0OK Tryz.prog B ovI := by
  intro f args v h
  unfold ovI at h
  cases hf : Nat.beq f 198 with
  | false =>
    rw [hf, cond_false] at h
    cases hf' : Nat.beq f 241 with
    | false => rw [hf'] at h; cases h
    | true =>
      rw [hf'] at h
      rw [Nat.beq_eq] at hf'
      subst hf'
      simp only [cond_true] at h
      split at h
      · rename_i l x c
        cases hc : Nat.blt c 256 with
        | false => rw [hc] at h; cases h
        | true =>
          rw [hc] at h
          obtain rfl := Option.some.inj h
          rw [Nat.blt_eq] at hc
          refine ⟨rfl, trivial, ⟨_, _, Tryz.func241, rfl⟩, fun J w _ hw => ?_⟩
          refine (Any.stringslite_IndexByte { Tryz.lays219 with } ⟨(unpackL l x).toArray⟩ (c : Int) w).mono ?_
          rintro e w' ⟨he, rfl⟩
          refine ⟨?_, Below.refl _ _⟩
          rw [he]
          have h2 := (ixN_eq c hc l x 0).2
          have h1 := (ixN_eq c hc l x 0).1
          simp only [V.real]
          rw [h2]
          congr 2
          show Lib.indexByte (unpackL l x) (UInt8.ofNat c) = _
          split
          · assumption
          · omega
      · cases h
  | true =>
    rw [hf] at h
    rw [Nat.beq_eq] at hf
    subst hf
    simp only [cond_true] at h
    split at h
    · rename_i l x m y
      cases hl : Nat.blt l 4294967281 with
      | false => rw [hl] at h; cases h
      | true =>
        rw [hl] at h
        obtain rfl := Option.some.inj h
        rw [Nat.blt_eq] at hl
        refine ⟨rfl, trivial, ⟨_, _, Tryz.func198, rfl⟩, fun J w _ hw => ?_⟩
        obtain ⟨mx, hm⟩ := Tryz.laysM219.s1_3 B hB
        have hs : (⟨(unpackL l x).toArray⟩ : ByteArray).size < 4294967281 := by
          show (unpackL l x).toArray.size < _
          rw [List.size_toArray, length_unpackL]; exact hl
        refine (Tryz.stringslite_Index ⟨(unpackL l x).toArray⟩ ⟨(unpackL m y).toArray⟩ mx w hs (old_cell hw hm)).mono ?_
        rintro e w' ⟨he, rfl⟩
        exact ⟨by rw [he]; simp [V.real], Below.refl _ _⟩
    · cases h

theorem ov_or {P : Program} {ro : Nat} {B : World} {a b : Ov} (ha : OvR P ro B a) (hb : OvR P ro B b) : OvR P ro B (fun f args st => match a f args st with | some r => some r | none => b f args st) := by
  intro B' hB f args st v st' h
  dsimp only at h
  cases hc : a f args st with
  | some r => rw [hc] at h; exact ha B' hB f args st v st' (hc.trans h)
  | none => rw [hc] at h; exact hb B' hB f args st v st' h
def ov1 (_ : Nat) : Ov := ofOv0 ovI
theorem ov1_ok {ro : Nat} {B : World} (hB : B.ShapedOpen Tryz.prog) : OvR Tryz.prog ro B (ov1 ro) := ofOv0_ok (ovI_ok hB)
end Go.Proofs.YtnfddmjbfkfnhaaGreatDoor
