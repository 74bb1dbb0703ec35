/-
  Two calls of Parse, and the memory that they look at. Nothing is claimed here.
-/
import Derived.Test.YtelpcbkjbfgaiaaGreatDoorMa
import Derived.Test.YtelpcbkjbfgaiaaGreatDoorMe
namespace Go.Proofs.YtelpcbkjbfgaiaaGreatDoor
open Go.Vm Go.Vk Go.RowKit
def genT : Nat → (Nat → V) → T V
  | 0, _ => .e
  | d + 1, f => .n (genT d fun k => f (2 * k + 1)) (some (f 0)) (genT d fun k => f (2 * k + 2))
def cellAt (first : Int) (o : Nat) : V := cond (Nat.beq o 0) (.i .u8 first) (match o % 5 with
  | 0 => .i .u8 18
  | 1 => .s 0 0
  | 2 => .i .i64 0
  | 3 => .s 0 0
  | _ => .b false)
def blkA : Blk := ⟨.e, [.i .u8 18, .s 0 0, .i .i64 0, .s 0 0, .b false], 7505, 5, false, none⟩
def blkB : Blk := ⟨genT 13 (cellAt 21), [], 7500, 5, true, none⟩
def me1 : Me := ⟨6, [.sl 64 0 1500 1501 false], 65, [(64, blkA)], .t [.sl 9066 0 1500 1500 true, .i .i64 0], 9067, 65, []⟩
def me2 : Me := ⟨6, [.sl 9068 0 1500 1500 true], 9069, [(9068, blkB)], .t [.sn, .i .i64 4], 19568, 9069, []⟩
def eqM : V → V → Bool
  | .t xs, .t ys => sameL xs ys
  | _, _ => false
theorem eqM_true {u v : V} (h : eqM u v = true) : u = v := by
  unfold eqM at h
  split at h
  · rw [sameL_eq h]
  · cases h
noncomputable def runB (e : Me) (f : Nat) (args : List V) (st : St) : Bool := kcall Tryz.prog live (ov1 GL) GL 100000 200 f args st fun v st' => Bool.rec (motive := fun _ => Bool) false (e.behind st') (eqM v e.v)
theorem run_ok {e : Me} (h : runB e e.f e.args e.small = true) : ∃ st', Even (fun m => evF Tryz.prog (ov1 GL) GL m e.f e.args e.small) (e.v, st') ∧ e.behind st' = true := by
  obtain ⟨u, st', hev, hu⟩ := kcall_true _ e.f _ e.small _ h
  cases hc : eqM u e.v with
  | false => rw [hc] at hu; cases hu
  | true =>
    rw [hc] at hu
    obtain rfl := eqM_true hc
    exact ⟨st', hev, hu⟩
end Go.Proofs.YtelpcbkjbfgaiaaGreatDoor
