/-
  Small letters, followed. Nothing is claimed here.
-/
import Derived.Test.YtbpbaicbaehhjaaGreatDoorTh
import Derived.Test.YtbpbaicbaehhjaaGreatDoorSr
namespace Go.Proofs.YtbpbaicbaehhjaaGreatDoor
open Go.Vm Go.Sx Go.RowKit
variable {ro : Nat}

/-- The bytes of a text are a buffer here. -/
def syc : Sy sg := sy.cv

abbrev T_input_Lower := List UInt8 → (List UInt8 → Prop) → Prop
def q_input_Lower (A : T_input_Lower) (us : List W) (k : W → Prop) : Prop := match us with
  | [.s a0] => A a0 (fun r0 => k (.s r0))
  | _ => False
theorem q_input_Lower_weak {A A2 : T_input_Lower} (h : FnOK syc Tryz.prog GT (ovD ro) ro 36 (q_input_Lower A)) (hA : ∀ a0 K, A2 a0 K → A a0 K) : FnOK syc Tryz.prog GT (ovD ro) ro 36 (q_input_Lower A2) := h.weak (by
  intro us k h
  unfold q_input_Lower at h ⊢
  split at h
  · exact hA _ _ h
  · exact h.elim)

def F_input_Lower_l3 (A60 : T_input_lowerByte) : Nat → Int → Int → List UInt8 → (List UInt8 → Prop) → Prop
  | 0, _, _, _, _ => False
  | n + 1, x9, x10, b0, Ke => (((decide (x10 < x9)) = true → ((0 ≤ x10 ∧ x10 < (b0.length : Int)) ∧ (x10.toNat < b0.length ∧ (A60 (UInt8.toNat (b0.getD x10.toNat (dfltD Cd.u8)) : Int) (fun y1 => ((0 ≤ x10 ∧ x10 < (b0.length : Int)) ∧ (x10.toNat < b0.length ∧ ((0 ≤ y1 ∧ y1 ≤ 255) ∧ (I64 (x10 + (1 : Int)) ∧ F_input_Lower_l3 A60 n x9 (x10 + (1 : Int)) (b0.set x10.toNat (UInt8.ofNat y1.toNat)) Ke))))))))) ∧ ((decide (x10 < x9)) = false → Ke b0))

def F_input_Lower (A60 : T_input_lowerByte) (a0 : List UInt8) (K : List UInt8 → Prop) : Prop :=
  (a0.length ≤ 1099511627776 ∧ (∃ m, F_input_Lower_l3 A60 m (a0.length : Int) (0 : Int) a0 (fun y1 => K y1)))

def C_input_Lower (A60 : T_input_lowerByte) : CallT sg := tab [(60, con [none] (q_input_lowerByte A60))]
theorem Cok_input_Lower (A60 : T_input_lowerByte) (h60 : FnOK syc Tryz.prog GT (ovD ro) ro 60 (q_input_lowerByte A60)) (o0 : Nat → Prop) : CalOK syc Tryz.prog GT (ovD ro) o0 ro (C_input_Lower A60) := (tab_cons (con_ok h60) tab_nil) o0

def ls_input_Lower_3 : LS syc (Unit × Unit × Int × Int × Unit) (List (sg.Den Cd.u8) × Unit) := ⟨[], fCons 3 (vLit syc (.o 0)) (fCons 8 (vLit syc (.o 0)) (fCons 9 (vInt syc .i64) (fCons 10 (vInt syc .i64) (fNil syc)))), hBuf 0 Cd.u8 (hNil syc), 1, []⟩
def le_input_Lower_3 : LS syc (Unit × Unit) (List (sg.Den Cd.u8) × Unit) := ⟨[], fCons 3 (vLit syc (.o 0)) (fNil syc), hBuf 0 Cd.u8 (hNil syc), 1, []⟩
def lr_input_Lower_3 : LS syc Unit Unit := ⟨[], fNil syc, hNil syc, 0, []⟩
def FF_input_Lower_3 (A60 : T_input_lowerByte) (n : Nat) (x : (Unit × Unit × Int × Int × Unit) × (List (sg.Den Cd.u8) × Unit)) (K : Ex → Z sg → Prop) : Prop := F_input_Lower_l3 A60 n x.1.2.2.1 x.1.2.2.2.1 x.2.1 (fun y0 => K (.exit 0) (le_input_Lower_3.put (((), ()), (y0, ()))))
def h_input_Lower_3 (A60 : T_input_lowerByte) (z : Z sg) (K : Ex → Z sg → Prop) : Prop := ls_input_Lower_3.get z (fun x => ∃ n, FF_input_Lower_3 A60 n x K)
def L_input_Lower (A60 : T_input_lowerByte) : LoopT sg := tabL [(3, h_input_Lower_3 A60)]
theorem hs_input_Lower_3 (A60 : T_input_lowerByte) (n : Nat) (x : (Unit × Unit × Int × Int × Unit) × (List (sg.Den Cd.u8) × Unit)) (K : Ex → Z sg → Prop) : forceZ (ls_input_Lower_3.put x) (fun z => sC syc Tryz.prog GT (C_input_Lower A60) (L_input_Lower A60) Tryz.f36.ntmps (nthLoop (bodyOf Tryz.f36) 0) z (rnd ls_input_Lower_3 (czT 0 le_input_Lower_3 lr_input_Lower_3) (fun x => FF_input_Lower_3 A60 n x K) K)) = FF_input_Lower_3 A60 (n + 1) x K := by kernel_rfl
theorem hl_input_Lower_3 (A60 : T_input_lowerByte) (z : Z sg) (K : Ex → Z sg → Prop) : (L_input_Lower A60) (nthLoop (bodyOf Tryz.f36) 0) z K = ls_input_Lower_3.get z (fun x => ∃ n, FF_input_Lower_3 A60 n x K) := by kernel_rfl
theorem lo_input_Lower_3 (A60 : T_input_lowerByte) (h60 : FnOK syc Tryz.prog GT (ovD ro) ro 60 (q_input_lowerByte A60)) : ∀ (o0 : Nat → Prop) (B : Bs sg), B.E.length ≤ 0 → ∀ z K, (L_input_Lower A60) (nthLoop (bodyOf Tryz.f36) 0) z K → Sx.Sem syc Tryz.prog GT (ovD ro) o0 ro Tryz.f36.ntmps B (.loop (nthLoop (bodyOf Tryz.f36) 0)) z K :=
  loop_ok (Cok_input_Lower A60 h60) (lp_of (l := []) (by kernel_rfl) lp_nil) ls_input_Lower_3 (by decide) (czT 0 le_input_Lower_3 lr_input_Lower_3) (fun _ _ hB => czT_ok 0 le_input_Lower_3 lr_input_Lower_3 (Nat.le_trans hB (by decide)) (Nat.le_trans hB (by decide))) (fun _ _ h => h) (hs_input_Lower_3 A60) (hl_input_Lower_3 A60)
theorem Lp_input_Lower (A60 : T_input_lowerByte) (h60 : FnOK syc Tryz.prog GT (ovD ro) ro 60 (q_input_lowerByte A60)) : LpOK syc Tryz.prog GT (ovD ro) ro (L_input_Lower A60) 0 Tryz.f36.ntmps (bodyOf Tryz.f36) := lp_of (l := [(nthLoop (bodyOf Tryz.f36) 0)]) (by kernel_rfl) (lp_cons (lo_input_Lower_3 A60 h60) lp_nil)


theorem raw_input_Lower (A60 : T_input_lowerByte) (a0 : List UInt8) (k : W → Prop) : fnT syc Tryz.prog GT (C_input_Lower A60) (L_input_Lower A60) Tryz.f36.ntmps (bodyOf Tryz.f36) [none] Tryz.f36.results.toList [.s a0] k = F_input_Lower A60 a0 (fun r0 => k (.s r0)) := by kernel_rfl

theorem ok_input_Lower (A60 : T_input_lowerByte) (h60 : FnOK syc Tryz.prog GT (ovD ro) ro 60 (q_input_lowerByte A60)) : FnOK syc Tryz.prog GT (ovD ro) ro 36 (q_input_Lower (F_input_Lower A60)) := (fn_ok (rc := [none]) (f := 36) (fn := Tryz.f36) (c := bodyOf Tryz.f36) (nt := Tryz.f36.ntmps) (res := Tryz.f36.results.toList) (C := C_input_Lower A60) (L := (L_input_Lower A60)) (fun _ _ => rfl) Tryz.func36 (by kernel_rfl) rfl rfl (Cok_input_Lower A60 h60) (Lp_input_Lower A60 h60)).weak (by
  intro us k h
  unfold q_input_Lower at h
  split at h
  · skip
    rename_i a0
    rw [raw_input_Lower A60 a0 k]
    exact h
  · exact h.elim)

end Go.Proofs.YtbpbaicbaehhjaaGreatDoor
