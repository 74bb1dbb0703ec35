/-
  The law, followed but for what it does not call here. Nothing is claimed here.
-/
import Derived.Test.YtnfddmjbfkfnhaaGreatDoorTa
import Derived.Test.YtnfddmjbfkfnhaaGreatDoorOb
import Derived.Test.YtnfddmjbfkfnhaaGreatDoorSm
namespace Go.Proofs.YtnfddmjbfkfnhaaGreatDoor
open Go.Vm Go.Sx Go.RowKit
variable {ro : Nat}

def GT : Gl := fun _ => none
def ovD (ro : Nat) : Ov := ovA ro
def noT (_ : List W) (_ : W → Prop) : Prop := False
theorem noT_ok {ro : Nat} (f : FuncId) : FnOK sy Tryz.prog GT (ovD ro) ro f noT := fun _ _ _ h => h.elim

abbrev T_vitrinelaw11_alive := (Bool → Prop) → Prop
def q_vitrinelaw11_alive (A : T_vitrinelaw11_alive) (us : List W) (k : W → Prop) : Prop := match us with
  | [] => A (fun r0 => k (.b r0))
  | _ => False
theorem q_vitrinelaw11_alive_weak {A A2 : T_vitrinelaw11_alive} (h : FnOK sy Tryz.prog GT (ovD ro) ro 14 (q_vitrinelaw11_alive A)) (hA : ∀  K, A2  K → A  K) : FnOK sy Tryz.prog GT (ovD ro) ro 14 (q_vitrinelaw11_alive A2) := h.weak (by
  intro us k h
  unfold q_vitrinelaw11_alive at h ⊢
  split at h
  · exact hA _ h
  · exact h.elim)

abbrev T_vitrinelaw11_SheetBad := Int → (Bool → Prop) → Prop
def q_vitrinelaw11_SheetBad (A : T_vitrinelaw11_SheetBad) (us : List W) (k : W → Prop) : Prop := match us with
  | [.i .i64 a0] => A a0 (fun r0 => k (.b r0))
  | _ => False
theorem q_vitrinelaw11_SheetBad_weak {A A2 : T_vitrinelaw11_SheetBad} (h : FnOK sy Tryz.prog GT (ovD ro) ro 5 (q_vitrinelaw11_SheetBad A)) (hA : ∀ a0 K, A2 a0 K → A a0 K) : FnOK sy Tryz.prog GT (ovD ro) ro 5 (q_vitrinelaw11_SheetBad A2) := h.weak (by
  intro us k h
  unfold q_vitrinelaw11_SheetBad at h ⊢
  split at h
  · exact hA _ _ h
  · exact h.elim)

def F_vitrinelaw11_SheetBad (A14 : T_vitrinelaw11_alive) (a0 : Int) (K : Bool → Prop) : Prop :=
  (((decide (a0 < (0 : Int))) = false → (((decide ((20 : Int) < a0)) = true → (A14 (fun y1 => K y1))) ∧ ((decide ((20 : Int) < a0)) = false → (((decide (a0 = (20 : Int))) = true → False) ∧ ((decide (a0 = (20 : Int))) = false → False))))) ∧ ((decide (a0 < (0 : Int))) = true → (A14 (fun y2 => K y2))))

def C_vitrinelaw11_SheetBad (A14 : T_vitrinelaw11_alive) : CallT sg := tab [(14, con sy [] (q_vitrinelaw11_alive A14)), (19, con sy [] noT), (11, con sy [] noT), (20, con sy [] noT), (13, con sy [] noT)]
theorem Cok_vitrinelaw11_SheetBad (A14 : T_vitrinelaw11_alive) (h14 : FnOK sy Tryz.prog GT (ovD ro) ro 14 (q_vitrinelaw11_alive A14)) (o0 : Nat → Prop) : CalOK sy Tryz.prog GT (ovD ro) o0 ro (C_vitrinelaw11_SheetBad A14) := (tab_cons (con_ok h14) (tab_cons (con_ok (noT_ok 19)) (tab_cons (con_ok (noT_ok 11)) (tab_cons (con_ok (noT_ok 20)) (tab_cons (con_ok (noT_ok 13)) tab_nil))))) o0

theorem raw_vitrinelaw11_SheetBad (A14 : T_vitrinelaw11_alive) (a0 : Int) (k : W → Prop) : fnT sy Tryz.prog GT (C_vitrinelaw11_SheetBad A14) noL Tryz.f5.ntmps (bodyOf Tryz.f5) [none] Tryz.f5.results.toList [.i .i64 a0] k = F_vitrinelaw11_SheetBad A14 a0 (fun r0 => k (.b r0)) := by kernel_rfl

theorem ok_vitrinelaw11_SheetBad (A14 : T_vitrinelaw11_alive) (h14 : FnOK sy Tryz.prog GT (ovD ro) ro 14 (q_vitrinelaw11_alive A14)) : FnOK sy Tryz.prog GT (ovD ro) ro 5 (q_vitrinelaw11_SheetBad (F_vitrinelaw11_SheetBad A14)) := (fn_ok (rc := [none]) (f := 5) (fn := Tryz.f5) (c := bodyOf Tryz.f5) (nt := Tryz.f5.ntmps) (res := Tryz.f5.results.toList) (C := C_vitrinelaw11_SheetBad A14) (L := noL) (fun _ _ => rfl) Tryz.func5 (by kernel_rfl) rfl rfl (Cok_vitrinelaw11_SheetBad A14 h14) (lp_of (l := []) (by kernel_rfl) lp_nil)).weak (by
  intro us k h
  unfold q_vitrinelaw11_SheetBad at h
  split at h
  · rw [raw_vitrinelaw11_SheetBad]; exact h
  · exact h.elim)

end Go.Proofs.YtnfddmjbfkfnhaaGreatDoor
