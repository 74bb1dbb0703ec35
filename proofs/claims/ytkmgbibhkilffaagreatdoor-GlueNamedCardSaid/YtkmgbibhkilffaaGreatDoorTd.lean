/-
  Functions of the tokenizer, followed. Nothing is claimed here.
-/
import Derived.Test.YtkmgbibhkilffaaGreatDoorTa
import Derived.Test.YtkmgbibhkilffaaGreatDoorOb
import Derived.Test.YtkmgbibhkilffaaGreatDoorSo
namespace Go.Proofs.YtkmgbibhkilffaaGreatDoor
open Go.Vm Go.Sx Go.RowKit
variable {ro : Nat}

def marksL : List Int := [0, 0, 0, 0, 0, 0, 0, 0, 0, 0, 0, 0, 0, 0, 0, 0, 0, 0, 0, 0, 0, 0, 0, 0, 0, 0, 0, 0, 0, 0, 0, 0, 0, 0, 0, 0, 0, 0, 0, 0, 21, 22, 0, 0, 18, 0, 0, 0, 0, 0, 0, 0, 0, 0, 0, 0, 0, 0, 16, 17, 0, 0, 0, 0, 0, 0, 0, 0, 0, 0, 0, 0, 0, 0, 0, 0, 0, 0, 0, 0, 0, 0, 0, 0, 0, 0, 0, 0, 0, 0, 0, 19, 0, 20, 0, 0, 0, 0, 0, 0, 0, 0, 0, 0, 0, 0, 0, 0, 0, 0, 0, 0, 0, 0, 0, 0, 0, 0, 0, 0, 0, 0, 0, 23, 0, 24]
def GT : Gl
  | 0 => some (.u8, marksL)
  | _ => none
noncomputable def ovD (ro : Nat) : Ov := ovA ro
abbrev FO (ro : Nat) (f : FuncId) (pt : List W → (W → Prop) → Prop) : Prop := FnOK sy Tryz.prog GT (ovD ro) ro f pt
def noT (_ : List W) (_ : W → Prop) : Prop := False
theorem noT_ok {ro : Nat} (f : FuncId) : FO ro f noT := fun _ _ _ h => h.elim
theorem ovD_ai {ro : Nat} : ∀ args st v st', vapp Tryz.prog 108 33 ro 108 args st = some (v, st') → ovD ro 108 args st = some (v, st') := fun args st v st' h => by
  unfold ovD ovA ov2 ovN
  show (match (none : Option (V × St)) with | some r => some r | none => match vapp Tryz.prog 108 33 ro 108 args st with | some r => some r | none => _) = _
  rw [h]

abbrev T_k_byteAt := Bt → Int → (Int → Prop) → Prop
def q_k_byteAt (A : T_k_byteAt) (us : List W) (k : W → Prop) : Prop := match us with
  | [.s a0, .i .i64 a1] => A a0 a1 (fun r0 => k (.i .u8 r0))
  | _ => False
theorem q_k_byteAt_weak {A A2 : T_k_byteAt} (h : FO ro 81 (q_k_byteAt A)) (hA : ∀ a0 a1 K, A2 a0 a1 K → A a0 a1 K) : FO ro 81 (q_k_byteAt A2) := h.weak (by
  intro us k h
  unfold q_k_byteAt at h ⊢
  split at h
  · exact hA _ _ _ h
  · exact h.elim)

def F_k_byteAt (a0 : Bt) (a1 : Int) (K : Int → Prop) : Prop :=
  (((decide (a1 < (a0.length : Int))) = true → ((0 ≤ a1 ∧ a1 < (a0.length : Int)) ∧ K ((a0.getD a1.toNat 0).toNat : Int))) ∧ ((decide (a1 < (a0.length : Int))) = false → K (0 : Int)))

def C_k_byteAt : CallT sg := tab []
theorem Cok_k_byteAt (o0 : Nat → Prop) : CalOK sy Tryz.prog GT (ovD ro) o0 ro (C_k_byteAt) := tab_nil o0

theorem raw_k_byteAt (a0 : Bt) (a1 : Int) (k : W → Prop) : fnT sy Tryz.prog GT (C_k_byteAt) noL Tryz.f81.ntmps (bodyOf Tryz.f81) [none] Tryz.f81.results.toList [.s a0, .i .i64 a1] k = F_k_byteAt a0 a1 (fun r0 => k (.i .u8 r0)) := by kernel_rfl

theorem ok_k_byteAt : FO ro 81 (q_k_byteAt (F_k_byteAt)) := (fn_ok (rc := [none]) (f := 81) (fn := Tryz.f81) (c := bodyOf Tryz.f81) (nt := Tryz.f81.ntmps) (res := Tryz.f81.results.toList) (C := C_k_byteAt) (L := noL) (fun _ _ => rfl) Tryz.func81 (by kernel_rfl) rfl rfl (Cok_k_byteAt) (lp_of (l := []) (by kernel_rfl) lp_nil)).weak (by
  intro us k h
  unfold q_k_byteAt at h
  split at h
  · skip
    rename_i a0 a1
    rw [raw_k_byteAt a0 a1 k]
    exact h
  · exact h.elim)

abbrev T_c_IsDigit := Int → (Bool → Prop) → Prop
def q_c_IsDigit (A : T_c_IsDigit) (us : List W) (k : W → Prop) : Prop := match us with
  | [.i .u8 a0] => A a0 (fun r0 => k (.b r0))
  | _ => False
theorem q_c_IsDigit_weak {A A2 : T_c_IsDigit} (h : FO ro 87 (q_c_IsDigit A)) (hA : ∀ a0 K, A2 a0 K → A a0 K) : FO ro 87 (q_c_IsDigit A2) := h.weak (by
  intro us k h
  unfold q_c_IsDigit at h ⊢
  split at h
  · exact hA _ _ h
  · exact h.elim)

def F_c_IsDigit (a0 : Int) (K : Bool → Prop) : Prop :=
  (((decide ((48 : Int) ≤ a0)) = true → K (decide (a0 ≤ 57))) ∧ ((decide ((48 : Int) ≤ a0)) = false → K false))

def C_c_IsDigit : CallT sg := tab []
theorem Cok_c_IsDigit (o0 : Nat → Prop) : CalOK sy Tryz.prog GT (ovD ro) o0 ro (C_c_IsDigit) := tab_nil o0

theorem raw_c_IsDigit (a0 : Int) (k : W → Prop) : fnT sy Tryz.prog GT (C_c_IsDigit) noL Tryz.f87.ntmps (bodyOf Tryz.f87) [none] Tryz.f87.results.toList [.i .u8 a0] k = F_c_IsDigit a0 (fun r0 => k (.b r0)) := by kernel_rfl

theorem ok_c_IsDigit : FO ro 87 (q_c_IsDigit (F_c_IsDigit)) := (fn_ok (rc := [none]) (f := 87) (fn := Tryz.f87) (c := bodyOf Tryz.f87) (nt := Tryz.f87.ntmps) (res := Tryz.f87.results.toList) (C := C_c_IsDigit) (L := noL) (fun _ _ => rfl) Tryz.func87 (by kernel_rfl) rfl rfl (Cok_c_IsDigit) (lp_of (l := []) (by kernel_rfl) lp_nil)).weak (by
  intro us k h
  unfold q_c_IsDigit at h
  split at h
  · skip
    rename_i a0
    rw [raw_c_IsDigit a0 k]
    exact h
  · exact h.elim)

abbrev T_k_isSign := Int → (Bool → Prop) → Prop
def q_k_isSign (A : T_k_isSign) (us : List W) (k : W → Prop) : Prop := match us with
  | [.i .u8 a0] => A a0 (fun r0 => k (.b r0))
  | _ => False
theorem q_k_isSign_weak {A A2 : T_k_isSign} (h : FO ro 86 (q_k_isSign A)) (hA : ∀ a0 K, A2 a0 K → A a0 K) : FO ro 86 (q_k_isSign A2) := h.weak (by
  intro us k h
  unfold q_k_isSign at h ⊢
  split at h
  · exact hA _ _ h
  · exact h.elim)

def F_k_isSign (a0 : Int) (K : Bool → Prop) : Prop :=
  (((decide (a0 = 43)) = false → K (decide (a0 = 45))) ∧ ((decide (a0 = 43)) = true → K true))

def C_k_isSign : CallT sg := tab []
theorem Cok_k_isSign (o0 : Nat → Prop) : CalOK sy Tryz.prog GT (ovD ro) o0 ro (C_k_isSign) := tab_nil o0

theorem raw_k_isSign (a0 : Int) (k : W → Prop) : fnT sy Tryz.prog GT (C_k_isSign) noL Tryz.f86.ntmps (bodyOf Tryz.f86) [none] Tryz.f86.results.toList [.i .u8 a0] k = F_k_isSign a0 (fun r0 => k (.b r0)) := by kernel_rfl

theorem ok_k_isSign : FO ro 86 (q_k_isSign (F_k_isSign)) := (fn_ok (rc := [none]) (f := 86) (fn := Tryz.f86) (c := bodyOf Tryz.f86) (nt := Tryz.f86.ntmps) (res := Tryz.f86.results.toList) (C := C_k_isSign) (L := noL) (fun _ _ => rfl) Tryz.func86 (by kernel_rfl) rfl rfl (Cok_k_isSign) (lp_of (l := []) (by kernel_rfl) lp_nil)).weak (by
  intro us k h
  unfold q_k_isSign at h
  split at h
  · skip
    rename_i a0
    rw [raw_k_isSign a0 k]
    exact h
  · exact h.elim)

abbrev T_k_fSt := Bt → Int → (Bool → Prop) → Prop
def q_k_fSt (A : T_k_fSt) (us : List W) (k : W → Prop) : Prop := match us with
  | [.s a0, .i .i64 a1] => A a0 a1 (fun r0 => k (.b r0))
  | _ => False
theorem q_k_fSt_weak {A A2 : T_k_fSt} (h : FO ro 88 (q_k_fSt A)) (hA : ∀ a0 a1 K, A2 a0 a1 K → A a0 a1 K) : FO ro 88 (q_k_fSt A2) := h.weak (by
  intro us k h
  unfold q_k_fSt at h ⊢
  split at h
  · exact hA _ _ _ h
  · exact h.elim)

def F_k_fSt (A81 : T_k_byteAt) (A87 : T_c_IsDigit) (a0 : Bt) (a1 : Int) (K : Bool → Prop) : Prop :=
  (A81 a0 a1 (fun y1 => (((decide (y1 = 46)) = true → (I64 (a1 + 1) ∧ (A81 a0 (a1 + 1) (fun y2 => (A87 y2 (fun y3 => K y3)))))) ∧ ((decide (y1 = 46)) = false → K false))))

def C_k_fSt (A81 : T_k_byteAt) (A87 : T_c_IsDigit) : CallT sg := tab [(81, con [none, none] (q_k_byteAt A81)), (87, con [none] (q_c_IsDigit A87))]
theorem Cok_k_fSt (A81 : T_k_byteAt) (A87 : T_c_IsDigit) (h81 : FO ro 81 (q_k_byteAt A81)) (h87 : FO ro 87 (q_c_IsDigit A87)) (o0 : Nat → Prop) : CalOK sy Tryz.prog GT (ovD ro) o0 ro (C_k_fSt A81 A87) := (tab_cons (con_ok h81) (tab_cons (con_ok h87) tab_nil)) o0

theorem raw_k_fSt (A81 : T_k_byteAt) (A87 : T_c_IsDigit) (a0 : Bt) (a1 : Int) (k : W → Prop) : fnT sy Tryz.prog GT (C_k_fSt A81 A87) noL Tryz.f88.ntmps (bodyOf Tryz.f88) [none] Tryz.f88.results.toList [.s a0, .i .i64 a1] k = F_k_fSt A81 A87 a0 a1 (fun r0 => k (.b r0)) := by kernel_rfl

theorem ok_k_fSt (A81 : T_k_byteAt) (A87 : T_c_IsDigit) (h81 : FO ro 81 (q_k_byteAt A81)) (h87 : FO ro 87 (q_c_IsDigit A87)) : FO ro 88 (q_k_fSt (F_k_fSt A81 A87)) := (fn_ok (rc := [none]) (f := 88) (fn := Tryz.f88) (c := bodyOf Tryz.f88) (nt := Tryz.f88.ntmps) (res := Tryz.f88.results.toList) (C := C_k_fSt A81 A87) (L := noL) (fun _ _ => rfl) Tryz.func88 (by kernel_rfl) rfl rfl (Cok_k_fSt A81 A87 h81 h87) (lp_of (l := []) (by kernel_rfl) lp_nil)).weak (by
  intro us k h
  unfold q_k_fSt at h
  split at h
  · skip
    rename_i a0 a1
    rw [raw_k_fSt A81 A87 a0 a1 k]
    exact h
  · exact h.elim)

abbrev T_k_nSt := Bt → Int → (Bool → Prop) → Prop
def q_k_nSt (A : T_k_nSt) (us : List W) (k : W → Prop) : Prop := match us with
  | [.s a0, .i .i64 a1] => A a0 a1 (fun r0 => k (.b r0))
  | _ => False
theorem q_k_nSt_weak {A A2 : T_k_nSt} (h : FO ro 47 (q_k_nSt A)) (hA : ∀ a0 a1 K, A2 a0 a1 K → A a0 a1 K) : FO ro 47 (q_k_nSt A2) := h.weak (by
  intro us k h
  unfold q_k_nSt at h ⊢
  split at h
  · exact hA _ _ _ h
  · exact h.elim)

def F_k_nSt (A81 : T_k_byteAt) (A86 : T_k_isSign) (A87 : T_c_IsDigit) (A88 : T_k_fSt) (a0 : Bt) (a1 : Int) (K : Bool → Prop) : Prop :=
  (A81 a0 a1 (fun y1 => (A86 y1 (fun y2 => ((y2 = true → (I64 (a1 + 1) ∧ (A81 a0 (a1 + 1) (fun y3 => (A87 y3 (fun y4 => ((y4 = false → (A88 a0 (a1 + 1) (fun y5 => K y5))) ∧ (y4 = true → K true)))))))) ∧ (y2 = false → (A81 a0 a1 (fun y6 => (A87 y6 (fun y7 => ((y7 = false → (A88 a0 a1 (fun y8 => K y8))) ∧ (y7 = true → K true))))))))))))

def C_k_nSt (A81 : T_k_byteAt) (A86 : T_k_isSign) (A87 : T_c_IsDigit) (A88 : T_k_fSt) : CallT sg := tab [(81, con [none, none] (q_k_byteAt A81)), (86, con [none] (q_k_isSign A86)), (87, con [none] (q_c_IsDigit A87)), (88, con [none, none] (q_k_fSt A88))]
theorem Cok_k_nSt (A81 : T_k_byteAt) (A86 : T_k_isSign) (A87 : T_c_IsDigit) (A88 : T_k_fSt) (h81 : FO ro 81 (q_k_byteAt A81)) (h86 : FO ro 86 (q_k_isSign A86)) (h87 : FO ro 87 (q_c_IsDigit A87)) (h88 : FO ro 88 (q_k_fSt A88)) (o0 : Nat → Prop) : CalOK sy Tryz.prog GT (ovD ro) o0 ro (C_k_nSt A81 A86 A87 A88) := (tab_cons (con_ok h81) (tab_cons (con_ok h86) (tab_cons (con_ok h87) (tab_cons (con_ok h88) tab_nil)))) o0

theorem raw_k_nSt (A81 : T_k_byteAt) (A86 : T_k_isSign) (A87 : T_c_IsDigit) (A88 : T_k_fSt) (a0 : Bt) (a1 : Int) (k : W → Prop) : fnT sy Tryz.prog GT (C_k_nSt A81 A86 A87 A88) noL Tryz.f47.ntmps (bodyOf Tryz.f47) [none] Tryz.f47.results.toList [.s a0, .i .i64 a1] k = F_k_nSt A81 A86 A87 A88 a0 a1 (fun r0 => k (.b r0)) := by kernel_rfl

theorem ok_k_nSt (A81 : T_k_byteAt) (A86 : T_k_isSign) (A87 : T_c_IsDigit) (A88 : T_k_fSt) (h81 : FO ro 81 (q_k_byteAt A81)) (h86 : FO ro 86 (q_k_isSign A86)) (h87 : FO ro 87 (q_c_IsDigit A87)) (h88 : FO ro 88 (q_k_fSt A88)) : FO ro 47 (q_k_nSt (F_k_nSt A81 A86 A87 A88)) := (fn_ok (rc := [none]) (f := 47) (fn := Tryz.f47) (c := bodyOf Tryz.f47) (nt := Tryz.f47.ntmps) (res := Tryz.f47.results.toList) (C := C_k_nSt A81 A86 A87 A88) (L := noL) (fun _ _ => rfl) Tryz.func47 (by kernel_rfl) rfl rfl (Cok_k_nSt A81 A86 A87 A88 h81 h86 h87 h88) (lp_of (l := []) (by kernel_rfl) lp_nil)).weak (by
  intro us k h
  unfold q_k_nSt at h
  split at h
  · skip
    rename_i a0 a1
    rw [raw_k_nSt A81 A86 A87 A88 a0 a1 k]
    exact h
  · exact h.elim)

abbrev T_k_isExponentMark := Int → (Bool → Prop) → Prop
def q_k_isExponentMark (A : T_k_isExponentMark) (us : List W) (k : W → Prop) : Prop := match us with
  | [.i .u8 a0] => A a0 (fun r0 => k (.b r0))
  | _ => False
theorem q_k_isExponentMark_weak {A A2 : T_k_isExponentMark} (h : FO ro 91 (q_k_isExponentMark A)) (hA : ∀ a0 K, A2 a0 K → A a0 K) : FO ro 91 (q_k_isExponentMark A2) := h.weak (by
  intro us k h
  unfold q_k_isExponentMark at h ⊢
  split at h
  · exact hA _ _ h
  · exact h.elim)

def F_k_isExponentMark (a0 : Int) (K : Bool → Prop) : Prop :=
  (((decide (a0 = 101)) = false → K (decide (a0 = 69))) ∧ ((decide (a0 = 101)) = true → K true))

def C_k_isExponentMark : CallT sg := tab []
theorem Cok_k_isExponentMark (o0 : Nat → Prop) : CalOK sy Tryz.prog GT (ovD ro) o0 ro (C_k_isExponentMark) := tab_nil o0

theorem raw_k_isExponentMark (a0 : Int) (k : W → Prop) : fnT sy Tryz.prog GT (C_k_isExponentMark) noL Tryz.f91.ntmps (bodyOf Tryz.f91) [none] Tryz.f91.results.toList [.i .u8 a0] k = F_k_isExponentMark a0 (fun r0 => k (.b r0)) := by kernel_rfl

theorem ok_k_isExponentMark : FO ro 91 (q_k_isExponentMark (F_k_isExponentMark)) := (fn_ok (rc := [none]) (f := 91) (fn := Tryz.f91) (c := bodyOf Tryz.f91) (nt := Tryz.f91.ntmps) (res := Tryz.f91.results.toList) (C := C_k_isExponentMark) (L := noL) (fun _ _ => rfl) Tryz.func91 (by kernel_rfl) rfl rfl (Cok_k_isExponentMark) (lp_of (l := []) (by kernel_rfl) lp_nil)).weak (by
  intro us k h
  unfold q_k_isExponentMark at h
  split at h
  · skip
    rename_i a0
    rw [raw_k_isExponentMark a0 k]
    exact h
  · exact h.elim)

abbrev T_k_digitStarts := Bt → Int → (Bool → Prop) → Prop
def q_k_digitStarts (A : T_k_digitStarts) (us : List W) (k : W → Prop) : Prop := match us with
  | [.s a0, .i .i64 a1] => A a0 a1 (fun r0 => k (.b r0))
  | _ => False
theorem q_k_digitStarts_weak {A A2 : T_k_digitStarts} (h : FO ro 92 (q_k_digitStarts A)) (hA : ∀ a0 a1 K, A2 a0 a1 K → A a0 a1 K) : FO ro 92 (q_k_digitStarts A2) := h.weak (by
  intro us k h
  unfold q_k_digitStarts at h ⊢
  split at h
  · exact hA _ _ _ h
  · exact h.elim)

def F_k_digitStarts (A81 : T_k_byteAt) (A86 : T_k_isSign) (A87 : T_c_IsDigit) (a0 : Bt) (a1 : Int) (K : Bool → Prop) : Prop :=
  (A81 a0 a1 (fun y1 => (A86 y1 (fun y2 => ((y2 = true → (I64 (a1 + 1) ∧ (A81 a0 (a1 + 1) (fun y3 => (A87 y3 (fun y4 => K y4)))))) ∧ (y2 = false → (A81 a0 a1 (fun y5 => (A87 y5 (fun y6 => K y6))))))))))

def C_k_digitStarts (A81 : T_k_byteAt) (A86 : T_k_isSign) (A87 : T_c_IsDigit) : CallT sg := tab [(81, con [none, none] (q_k_byteAt A81)), (86, con [none] (q_k_isSign A86)), (87, con [none] (q_c_IsDigit A87))]
theorem Cok_k_digitStarts (A81 : T_k_byteAt) (A86 : T_k_isSign) (A87 : T_c_IsDigit) (h81 : FO ro 81 (q_k_byteAt A81)) (h86 : FO ro 86 (q_k_isSign A86)) (h87 : FO ro 87 (q_c_IsDigit A87)) (o0 : Nat → Prop) : CalOK sy Tryz.prog GT (ovD ro) o0 ro (C_k_digitStarts A81 A86 A87) := (tab_cons (con_ok h81) (tab_cons (con_ok h86) (tab_cons (con_ok h87) tab_nil))) o0

theorem raw_k_digitStarts (A81 : T_k_byteAt) (A86 : T_k_isSign) (A87 : T_c_IsDigit) (a0 : Bt) (a1 : Int) (k : W → Prop) : fnT sy Tryz.prog GT (C_k_digitStarts A81 A86 A87) noL Tryz.f92.ntmps (bodyOf Tryz.f92) [none] Tryz.f92.results.toList [.s a0, .i .i64 a1] k = F_k_digitStarts A81 A86 A87 a0 a1 (fun r0 => k (.b r0)) := by kernel_rfl

theorem ok_k_digitStarts (A81 : T_k_byteAt) (A86 : T_k_isSign) (A87 : T_c_IsDigit) (h81 : FO ro 81 (q_k_byteAt A81)) (h86 : FO ro 86 (q_k_isSign A86)) (h87 : FO ro 87 (q_c_IsDigit A87)) : FO ro 92 (q_k_digitStarts (F_k_digitStarts A81 A86 A87)) := (fn_ok (rc := [none]) (f := 92) (fn := Tryz.f92) (c := bodyOf Tryz.f92) (nt := Tryz.f92.ntmps) (res := Tryz.f92.results.toList) (C := C_k_digitStarts A81 A86 A87) (L := noL) (fun _ _ => rfl) Tryz.func92 (by kernel_rfl) rfl rfl (Cok_k_digitStarts A81 A86 A87 h81 h86 h87) (lp_of (l := []) (by kernel_rfl) lp_nil)).weak (by
  intro us k h
  unfold q_k_digitStarts at h
  split at h
  · skip
    rename_i a0 a1
    rw [raw_k_digitStarts A81 A86 A87 a0 a1 k]
    exact h
  · exact h.elim)

abbrev T_k_wNu := Bt → (Int → Prop) → Prop
def q_k_wNu (A : T_k_wNu) (us : List W) (k : W → Prop) : Prop := match us with
  | [.s a0] => A a0 (fun r0 => k (.i .i64 r0))
  | _ => False
theorem q_k_wNu_weak {A A2 : T_k_wNu} (h : FO ro 93 (q_k_wNu A)) (hA : ∀ a0 K, A2 a0 K → A a0 K) : FO ro 93 (q_k_wNu A2) := h.weak (by
  intro us k h
  unfold q_k_wNu at h ⊢
  split at h
  · exact hA _ _ h
  · exact h.elim)

def F_k_wNu_l3 : Nat → Bt → Int → Int → Int → (Int → Prop) → Prop
  | 0, _, _, _, _, _ => False
  | n + 1, x0, x3, x6, x7, Ke => (((decide (x7 < x6)) = true → (I64 ((10 : Int) * x3) ∧ ((0 ≤ x7 ∧ x7 < (x0.length : Int)) ∧ (I64 (IntKind.u8.wrap (((x0.getD x7.toNat 0).toNat : Int) - (48 : Int))) ∧ (I64 (((10 : Int) * x3) + (IntKind.u8.wrap (((x0.getD x7.toNat 0).toNat : Int) - (48 : Int)))) ∧ (I64 (x7 + 1) ∧ F_k_wNu_l3 n x0 (if (8000 : Int) < (((10 : Int) * x3) + (IntKind.u8.wrap (((x0.getD x7.toNat 0).toNat : Int) - (48 : Int)))) then (8000 : Int) else (((10 : Int) * x3) + (IntKind.u8.wrap (((x0.getD x7.toNat 0).toNat : Int) - (48 : Int))))) x6 (x7 + 1) Ke)))))) ∧ ((decide (x7 < x6)) = false → Ke x3))

def F_k_wNu (a0 : Bt) (K : Int → Prop) : Prop :=
  (∃ m, F_k_wNu_l3 m a0 (0 : Int) (a0.length : Int) (0 : Int) (fun y1 => K y1))

def C_k_wNu : CallT sg := tab []
theorem Cok_k_wNu (o0 : Nat → Prop) : CalOK sy Tryz.prog GT (ovD ro) o0 ro (C_k_wNu) := tab_nil o0

def ls_k_wNu_3 : LS sy ((Bt) × Int × Int × Int × Unit) Unit := ⟨[], fCons 0 (vStr sy) (fCons 3 (vInt sy .i64) (fCons 6 (vInt sy .i64) (fCons 7 (vInt sy .i64) (fNil sy)))), hNil sy, 0, []⟩
def le_k_wNu_3 : LS sy (Int × Unit) Unit := ⟨[], fCons 3 (vInt sy .i64) (fNil sy), hNil sy, 0, []⟩
def lr_k_wNu_3 : LS sy Unit Unit := ⟨[], fNil sy, hNil sy, 0, []⟩
def FF_k_wNu_3 (n : Nat) (x : ((Bt) × Int × Int × Int × Unit) × Unit) (K : Ex → Z sg → Prop) : Prop := F_k_wNu_l3 n x.1.1 x.1.2.1 x.1.2.2.1 x.1.2.2.2.1 (fun y0 => K (.exit 0) (le_k_wNu_3.put ((y0, ()), ())))
def h_k_wNu_3 (z : Z sg) (K : Ex → Z sg → Prop) : Prop := ls_k_wNu_3.get z (fun x => ∃ n, FF_k_wNu_3 n x K)
def L_k_wNu : LoopT sg := tabL [(3, h_k_wNu_3)]
theorem hs_k_wNu_3 (n : Nat) (x : ((Bt) × Int × Int × Int × Unit) × Unit) (K : Ex → Z sg → Prop) : forceZ (ls_k_wNu_3.put x) (fun z => sC sy Tryz.prog GT (C_k_wNu) (L_k_wNu) Tryz.f93.ntmps (nthLoop (bodyOf Tryz.f93) 0) z (rnd ls_k_wNu_3 (czT 0 le_k_wNu_3 lr_k_wNu_3) (fun x => FF_k_wNu_3 n x K) K)) = FF_k_wNu_3 (n + 1) x K := by kernel_rfl
theorem hl_k_wNu_3 (z : Z sg) (K : Ex → Z sg → Prop) : (L_k_wNu) (nthLoop (bodyOf Tryz.f93) 0) z K = ls_k_wNu_3.get z (fun x => ∃ n, FF_k_wNu_3 n x K) := by kernel_rfl
theorem lo_k_wNu_3 : ∀ (o0 : Nat → Prop) (B : Bs sg), B.E.length ≤ 0 → ∀ z K, (L_k_wNu) (nthLoop (bodyOf Tryz.f93) 0) z K → Sx.Sem sy Tryz.prog GT (ovD ro) o0 ro Tryz.f93.ntmps B (.loop (nthLoop (bodyOf Tryz.f93) 0)) z K :=
  loop_ok (Cok_k_wNu) (lp_of (l := []) (by kernel_rfl) lp_nil) ls_k_wNu_3 (by decide) (czT 0 le_k_wNu_3 lr_k_wNu_3) (fun _ _ hB => czT_ok 0 le_k_wNu_3 lr_k_wNu_3 (Nat.le_trans hB (by decide)) (Nat.le_trans hB (by decide))) (fun _ _ h => h) (hs_k_wNu_3) (hl_k_wNu_3)
theorem Lp_k_wNu : LpOK sy Tryz.prog GT (ovD ro) ro (L_k_wNu) 0 Tryz.f93.ntmps (bodyOf Tryz.f93) := lp_of (l := [(nthLoop (bodyOf Tryz.f93) 0)]) (by kernel_rfl) (lp_cons (lo_k_wNu_3) lp_nil)


theorem raw_k_wNu (a0 : Bt) (k : W → Prop) : fnT sy Tryz.prog GT (C_k_wNu) (L_k_wNu) Tryz.f93.ntmps (bodyOf Tryz.f93) [none] Tryz.f93.results.toList [.s a0] k = F_k_wNu a0 (fun r0 => k (.i .i64 r0)) := by kernel_rfl

theorem ok_k_wNu : FO ro 93 (q_k_wNu (F_k_wNu)) := (fn_ok (rc := [none]) (f := 93) (fn := Tryz.f93) (c := bodyOf Tryz.f93) (nt := Tryz.f93.ntmps) (res := Tryz.f93.results.toList) (C := C_k_wNu) (L := (L_k_wNu)) (fun _ _ => rfl) Tryz.func93 (by kernel_rfl) rfl rfl (Cok_k_wNu) (Lp_k_wNu)).weak (by
  intro us k h
  unfold q_k_wNu at h
  split at h
  · skip
    rename_i a0
    rw [raw_k_wNu a0 k]
    exact h
  · exact h.elim)

abbrev T_gs_tLB := Bt → Int → (Bt → Prop) → Prop
def q_gs_tLB (A : T_gs_tLB) (us : List W) (k : W → Prop) : Prop := match us with
  | [.s a0, .i .u8 a1] => A a0 a1 (fun r0 => k (.s r0))
  | _ => False
theorem q_gs_tLB_weak {A A2 : T_gs_tLB} (h : FO ro 144 (q_gs_tLB A)) (hA : ∀ a0 a1 K, A2 a0 a1 K → A a0 a1 K) : FO ro 144 (q_gs_tLB A2) := h.weak (by
  intro us k h
  unfold q_gs_tLB at h ⊢
  split at h
  · exact hA _ _ _ h
  · exact h.elim)

def F_gs_tLB_l1 : Nat → Bt → Int → (Bt → Prop) → Prop
  | 0, _, _, _ => False
  | n + 1, x0, x1, Ke => (((decide ((0 : Int) < (x0.length : Int))) = true → ((0 ≤ (0 : Int) ∧ (0 : Int) < (x0.length : Int)) ∧ (((decide (((x0.getD 0 0).toNat : Int) = x1)) = true → ((0 ≤ (1 : Int) ∧ (1 : Int) ≤ (x0.length : Int)) ∧ F_gs_tLB_l1 n (x0.drop 1) x1 Ke)) ∧ ((decide (((x0.getD 0 0).toNat : Int) = x1)) = false → Ke x0)))) ∧ ((decide ((0 : Int) < (x0.length : Int))) = false → Ke x0))

def F_gs_tLB (a0 : Bt) (a1 : Int) (K : Bt → Prop) : Prop :=
  (∃ m, F_gs_tLB_l1 m a0 a1 (fun y1 => K y1))

def C_gs_tLB : CallT sg := tab []
theorem Cok_gs_tLB (o0 : Nat → Prop) : CalOK sy Tryz.prog GT (ovD ro) o0 ro (C_gs_tLB) := tab_nil o0

def ls_gs_tLB_1 : LS sy ((Bt) × Int × Unit) Unit := ⟨[], fCons 0 (vStr sy) (fCons 1 (vInt sy .u8) (fNil sy)), hNil sy, 0, []⟩
def le_gs_tLB_1 : LS sy ((Bt) × Unit) Unit := ⟨[], fCons 0 (vStr sy) (fNil sy), hNil sy, 0, []⟩
def lr_gs_tLB_1 : LS sy Unit Unit := ⟨[], fNil sy, hNil sy, 0, []⟩
def FF_gs_tLB_1 (n : Nat) (x : ((Bt) × Int × Unit) × Unit) (K : Ex → Z sg → Prop) : Prop := F_gs_tLB_l1 n x.1.1 x.1.2.1 (fun y0 => K (.exit 0) (le_gs_tLB_1.put ((y0, ()), ())))
def h_gs_tLB_1 (z : Z sg) (K : Ex → Z sg → Prop) : Prop := ls_gs_tLB_1.get z (fun x => ∃ n, FF_gs_tLB_1 n x K)
def L_gs_tLB : LoopT sg := tabL [(1, h_gs_tLB_1)]
theorem hs_gs_tLB_1 (n : Nat) (x : ((Bt) × Int × Unit) × Unit) (K : Ex → Z sg → Prop) : forceZ (ls_gs_tLB_1.put x) (fun z => sC sy Tryz.prog GT (C_gs_tLB) (L_gs_tLB) Tryz.f144.ntmps (nthLoop (bodyOf Tryz.f144) 0) z (rnd ls_gs_tLB_1 (czT 0 le_gs_tLB_1 lr_gs_tLB_1) (fun x => FF_gs_tLB_1 n x K) K)) = FF_gs_tLB_1 (n + 1) x K := by kernel_rfl
theorem hl_gs_tLB_1 (z : Z sg) (K : Ex → Z sg → Prop) : (L_gs_tLB) (nthLoop (bodyOf Tryz.f144) 0) z K = ls_gs_tLB_1.get z (fun x => ∃ n, FF_gs_tLB_1 n x K) := by kernel_rfl
theorem lo_gs_tLB_1 : ∀ (o0 : Nat → Prop) (B : Bs sg), B.E.length ≤ 0 → ∀ z K, (L_gs_tLB) (nthLoop (bodyOf Tryz.f144) 0) z K → Sx.Sem sy Tryz.prog GT (ovD ro) o0 ro Tryz.f144.ntmps B (.loop (nthLoop (bodyOf Tryz.f144) 0)) z K :=
  loop_ok (Cok_gs_tLB) (lp_of (l := []) (by kernel_rfl) lp_nil) ls_gs_tLB_1 (by decide) (czT 0 le_gs_tLB_1 lr_gs_tLB_1) (fun _ _ hB => czT_ok 0 le_gs_tLB_1 lr_gs_tLB_1 (Nat.le_trans hB (by decide)) (Nat.le_trans hB (by decide))) (fun _ _ h => h) (hs_gs_tLB_1) (hl_gs_tLB_1)
theorem Lp_gs_tLB : LpOK sy Tryz.prog GT (ovD ro) ro (L_gs_tLB) 0 Tryz.f144.ntmps (bodyOf Tryz.f144) := lp_of (l := [(nthLoop (bodyOf Tryz.f144) 0)]) (by kernel_rfl) (lp_cons (lo_gs_tLB_1) lp_nil)


theorem raw_gs_tLB (a0 : Bt) (a1 : Int) (k : W → Prop) : fnT sy Tryz.prog GT (C_gs_tLB) (L_gs_tLB) Tryz.f144.ntmps (bodyOf Tryz.f144) [none] Tryz.f144.results.toList [.s a0, .i .u8 a1] k = F_gs_tLB a0 a1 (fun r0 => k (.s r0)) := by kernel_rfl

theorem ok_gs_tLB : FO ro 144 (q_gs_tLB (F_gs_tLB)) := (fn_ok (rc := [none]) (f := 144) (fn := Tryz.f144) (c := bodyOf Tryz.f144) (nt := Tryz.f144.ntmps) (res := Tryz.f144.results.toList) (C := C_gs_tLB) (L := (L_gs_tLB)) (fun _ _ => rfl) Tryz.func144 (by kernel_rfl) rfl rfl (Cok_gs_tLB) (Lp_gs_tLB)).weak (by
  intro us k h
  unfold q_gs_tLB at h
  split at h
  · skip
    rename_i a0 a1
    rw [raw_gs_tLB a0 a1 k]
    exact h
  · exact h.elim)

abbrev T_gs_TrimLeft := Bt → Bt → (Bt → Prop) → Prop
def q_gs_TrimLeft (A : T_gs_TrimLeft) (us : List W) (k : W → Prop) : Prop := match us with
  | [.s a0, .s a1] => A a0 a1 (fun r0 => k (.s r0))
  | _ => False
theorem q_gs_TrimLeft_weak {A A2 : T_gs_TrimLeft} (h : FO ro 125 (q_gs_TrimLeft A)) (hA : ∀ a0 a1 K, A2 a0 a1 K → A a0 a1 K) : FO ro 125 (q_gs_TrimLeft A2) := h.weak (by
  intro us k h
  unfold q_gs_TrimLeft at h ⊢
  split at h
  · exact hA _ _ _ h
  · exact h.elim)

def F_gs_TrimLeft (A144 : T_gs_tLB) (a0 : Bt) (a1 : Bt) (K : Bt → Prop) : Prop :=
  (((a0 == ([] : Bt)) = false → (((a1 == ([] : Bt)) = true → K a0) ∧ ((a1 == ([] : Bt)) = false → (((decide ((a1.length : Int) = (1 : Int))) = true → ((0 ≤ (0 : Int) ∧ (0 : Int) < (a1.length : Int)) ∧ (((decide (((a1.getD 0 0).toNat : Int) < (128 : Int))) = true → ((0 ≤ (0 : Int) ∧ (0 : Int) < (a1.length : Int)) ∧ (A144 a0 ((a1.getD 0 0).toNat : Int) (fun y1 => K y1)))) ∧ ((decide (((a1.getD 0 0).toNat : Int) < (128 : Int))) = false → False)))) ∧ ((decide ((a1.length : Int) = (1 : Int))) = false → False))))) ∧ ((a0 == ([] : Bt)) = true → K a0))

def C_gs_TrimLeft (A144 : T_gs_tLB) : CallT sg := tab [(144, con [none, none] (q_gs_tLB A144)), (145, con [] noT), (146, con [] noT), (147, con [] noT)]
theorem Cok_gs_TrimLeft (A144 : T_gs_tLB) (h144 : FO ro 144 (q_gs_tLB A144)) (o0 : Nat → Prop) : CalOK sy Tryz.prog GT (ovD ro) o0 ro (C_gs_TrimLeft A144) := (tab_cons (con_ok h144) (tab_cons (con_ok (noT_ok 145)) (tab_cons (con_ok (noT_ok 146)) (tab_cons (con_ok (noT_ok 147)) tab_nil)))) o0

theorem raw_gs_TrimLeft (A144 : T_gs_tLB) (a0 : Bt) (a1 : Bt) (k : W → Prop) : fnT sy Tryz.prog GT (C_gs_TrimLeft A144) noL Tryz.f125.ntmps (bodyOf Tryz.f125) [none] Tryz.f125.results.toList [.s a0, .s a1] k = F_gs_TrimLeft A144 a0 a1 (fun r0 => k (.s r0)) := by kernel_rfl

theorem ok_gs_TrimLeft (A144 : T_gs_tLB) (h144 : FO ro 144 (q_gs_tLB A144)) : FO ro 125 (q_gs_TrimLeft (F_gs_TrimLeft A144)) := (fn_ok (rc := [none]) (f := 125) (fn := Tryz.f125) (c := bodyOf Tryz.f125) (nt := Tryz.f125.ntmps) (res := Tryz.f125.results.toList) (C := C_gs_TrimLeft A144) (L := noL) (fun _ _ => rfl) Tryz.func125 (by kernel_rfl) rfl rfl (Cok_gs_TrimLeft A144 h144) (lp_of (l := []) (by kernel_rfl) lp_nil)).weak (by
  intro us k h
  unfold q_gs_TrimLeft at h
  split at h
  · skip
    rename_i a0 a1
    rw [raw_gs_TrimLeft A144 a0 a1 k]
    exact h
  · exact h.elim)

abbrev T_k_cNu := Bt → Int → (Int → Prop) → Prop
def q_k_cNu (A : T_k_cNu) (us : List W) (k : W → Prop) : Prop := match us with
  | [.s a0, .i .i64 a1] => A a0 a1 (fun r0 => k (.i .i64 r0))
  | _ => False
theorem q_k_cNu_weak {A A2 : T_k_cNu} (h : FO ro 94 (q_k_cNu A)) (hA : ∀ a0 a1 K, A2 a0 a1 K → A a0 a1 K) : FO ro 94 (q_k_cNu A2) := h.weak (by
  intro us k h
  unfold q_k_cNu at h ⊢
  split at h
  · exact hA _ _ _ h
  · exact h.elim)

def F_k_cNu_l9 (A125 : T_gs_TrimLeft) : Nat → Bt → Int → Int → Int → (Int → Prop) → Prop
  | 0, _, _, _, _, _ => False
  | n + 1, x5, x6, x25, x26, Ke => (((decide (x26 < x25)) = true → (I64 (x6 * 10) ∧ (((decide (x26 < (x5.length : Int))) = true → ((0 ≤ x26 ∧ x26 < (x5.length : Int)) ∧ (I64 (IntKind.u8.wrap (((x5.getD x26.toNat 0).toNat : Int) - (48 : Int))) ∧ (I64 ((x6 * 10) + (IntKind.u8.wrap (((x5.getD x26.toNat 0).toNat : Int) - (48 : Int)))) ∧ (I64 (x26 + 1) ∧ F_k_cNu_l9 A125 n x5 ((x6 * 10) + (IntKind.u8.wrap (((x5.getD x26.toNat 0).toNat : Int) - (48 : Int)))) x25 (x26 + 1) Ke))))) ∧ ((decide (x26 < (x5.length : Int))) = false → (I64 (x26 + 1) ∧ F_k_cNu_l9 A125 n x5 (x6 * 10) x25 (x26 + 1) Ke))))) ∧ ((decide (x26 < x25)) = false → Ke x6))

def F_k_cNu (A125 : T_gs_TrimLeft) (a0 : Bt) (a1 : Int) (K : Int → Prop) : Prop :=
  (A125 a0 ([48] : Bt) (fun y1 => (I64 ((a0.length : Int) - (y1.length : Int)) ∧ (I64 (a1 - ((a0.length : Int) - (y1.length : Int))) ∧ (((y1 == ([] : Bt)) = false → (((decide ((a1 - ((a0.length : Int) - (y1.length : Int))) ≤ 0)) = true → K (0 : Int)) ∧ ((decide ((a1 - ((a0.length : Int) - (y1.length : Int))) ≤ 0)) = false → (((decide ((13 : Int) < (a1 - ((a0.length : Int) - (y1.length : Int))))) = true → K (1000000000000 : Int)) ∧ ((decide ((13 : Int) < (a1 - ((a0.length : Int) - (y1.length : Int))))) = false → (∃ m, F_k_cNu_l9 A125 m y1 (0 : Int) (a1 - ((a0.length : Int) - (y1.length : Int))) (0 : Int) (fun y2 => K (if (1000000000000 : Int) < y2 then (1000000000000 : Int) else y2)))))))) ∧ ((y1 == ([] : Bt)) = true → K (0 : Int)))))))

def C_k_cNu (A125 : T_gs_TrimLeft) : CallT sg := tab [(125, con [none, none] (q_gs_TrimLeft A125))]
theorem Cok_k_cNu (A125 : T_gs_TrimLeft) (h125 : FO ro 125 (q_gs_TrimLeft A125)) (o0 : Nat → Prop) : CalOK sy Tryz.prog GT (ovD ro) o0 ro (C_k_cNu A125) := (tab_cons (con_ok h125) tab_nil) o0

def ls_k_cNu_9 : LS sy ((Bt) × Int × Int × Int × Unit) Unit := ⟨[], fCons 5 (vStr sy) (fCons 6 (vInt sy .i64) (fCons 25 (vInt sy .i64) (fCons 26 (vInt sy .i64) (fNil sy)))), hNil sy, 0, []⟩
def le_k_cNu_9 : LS sy (Int × Unit) Unit := ⟨[], fCons 6 (vInt sy .i64) (fNil sy), hNil sy, 0, []⟩
def lr_k_cNu_9 : LS sy Unit Unit := ⟨[], fNil sy, hNil sy, 0, []⟩
def FF_k_cNu_9 (A125 : T_gs_TrimLeft) (n : Nat) (x : ((Bt) × Int × Int × Int × Unit) × Unit) (K : Ex → Z sg → Prop) : Prop := F_k_cNu_l9 A125 n x.1.1 x.1.2.1 x.1.2.2.1 x.1.2.2.2.1 (fun y0 => K (.exit 0) (le_k_cNu_9.put ((y0, ()), ())))
def h_k_cNu_9 (A125 : T_gs_TrimLeft) (z : Z sg) (K : Ex → Z sg → Prop) : Prop := ls_k_cNu_9.get z (fun x => ∃ n, FF_k_cNu_9 A125 n x K)
def L_k_cNu (A125 : T_gs_TrimLeft) : LoopT sg := tabL [(9, h_k_cNu_9 A125)]
theorem hs_k_cNu_9 (A125 : T_gs_TrimLeft) (n : Nat) (x : ((Bt) × Int × Int × Int × Unit) × Unit) (K : Ex → Z sg → Prop) : forceZ (ls_k_cNu_9.put x) (fun z => sC sy Tryz.prog GT (C_k_cNu A125) (L_k_cNu A125) Tryz.f94.ntmps (nthLoop (bodyOf Tryz.f94) 0) z (rnd ls_k_cNu_9 (czT 0 le_k_cNu_9 lr_k_cNu_9) (fun x => FF_k_cNu_9 A125 n x K) K)) = FF_k_cNu_9 A125 (n + 1) x K := by kernel_rfl
theorem hl_k_cNu_9 (A125 : T_gs_TrimLeft) (z : Z sg) (K : Ex → Z sg → Prop) : (L_k_cNu A125) (nthLoop (bodyOf Tryz.f94) 0) z K = ls_k_cNu_9.get z (fun x => ∃ n, FF_k_cNu_9 A125 n x K) := by kernel_rfl
theorem lo_k_cNu_9 (A125 : T_gs_TrimLeft) (h125 : FO ro 125 (q_gs_TrimLeft A125)) : ∀ (o0 : Nat → Prop) (B : Bs sg), B.E.length ≤ 0 → ∀ z K, (L_k_cNu A125) (nthLoop (bodyOf Tryz.f94) 0) z K → Sx.Sem sy Tryz.prog GT (ovD ro) o0 ro Tryz.f94.ntmps B (.loop (nthLoop (bodyOf Tryz.f94) 0)) z K :=
  loop_ok (Cok_k_cNu A125 h125) (lp_of (l := []) (by kernel_rfl) lp_nil) ls_k_cNu_9 (by decide) (czT 0 le_k_cNu_9 lr_k_cNu_9) (fun _ _ hB => czT_ok 0 le_k_cNu_9 lr_k_cNu_9 (Nat.le_trans hB (by decide)) (Nat.le_trans hB (by decide))) (fun _ _ h => h) (hs_k_cNu_9 A125) (hl_k_cNu_9 A125)
theorem Lp_k_cNu (A125 : T_gs_TrimLeft) (h125 : FO ro 125 (q_gs_TrimLeft A125)) : LpOK sy Tryz.prog GT (ovD ro) ro (L_k_cNu A125) 0 Tryz.f94.ntmps (bodyOf Tryz.f94) := lp_of (l := [(nthLoop (bodyOf Tryz.f94) 0)]) (by kernel_rfl) (lp_cons (lo_k_cNu_9 A125 h125) lp_nil)


theorem raw_k_cNu (A125 : T_gs_TrimLeft) (a0 : Bt) (a1 : Int) (k : W → Prop) : fnT sy Tryz.prog GT (C_k_cNu A125) (L_k_cNu A125) Tryz.f94.ntmps (bodyOf Tryz.f94) [none] Tryz.f94.results.toList [.s a0, .i .i64 a1] k = F_k_cNu A125 a0 a1 (fun r0 => k (.i .i64 r0)) := by kernel_rfl

theorem ok_k_cNu (A125 : T_gs_TrimLeft) (h125 : FO ro 125 (q_gs_TrimLeft A125)) : FO ro 94 (q_k_cNu (F_k_cNu A125)) := (fn_ok (rc := [none]) (f := 94) (fn := Tryz.f94) (c := bodyOf Tryz.f94) (nt := Tryz.f94.ntmps) (res := Tryz.f94.results.toList) (C := C_k_cNu A125) (L := (L_k_cNu A125)) (fun _ _ => rfl) Tryz.func94 (by kernel_rfl) rfl rfl (Cok_k_cNu A125 h125) (Lp_k_cNu A125 h125)).weak (by
  intro us k h
  unfold q_k_cNu at h
  split at h
  · skip
    rename_i a0 a1
    rw [raw_k_cNu A125 a0 a1 k]
    exact h
  · exact h.elim)

def C_k_rNu_1 (A81 : T_k_byteAt) (A86 : T_k_isSign) : CallT sg := tab [(81, con [none, none] (q_k_byteAt A81)), (86, con [none] (q_k_isSign A86))]
theorem Cok_k_rNu_1 (A81 : T_k_byteAt) (A86 : T_k_isSign) (h81 : FO ro 81 (q_k_byteAt A81)) (h86 : FO ro 86 (q_k_isSign A86)) (o0 : Nat → Prop) : CalOK sy Tryz.prog GT (ovD ro) o0 ro (C_k_rNu_1 A81 A86) := (tab_cons (con_ok h81) (tab_cons (con_ok h86) tab_nil)) o0

def F_k_rNu_2_l2 (A81 : T_k_byteAt) (A87 : T_c_IsDigit) : Nat → Int → Bt → Int → (Int → Bt → Int → Prop) → Prop
  | 0, _, _, _, _ => False
  | n + 1, x3, c0_0, c1_0, Ke => (A81 c0_0 c1_0 (fun y1 => (A87 y1 (fun y2 => ((y2 = true → (I64 (c1_0 + 1) ∧ F_k_rNu_2_l2 A81 A87 n x3 c0_0 (c1_0 + 1) Ke)) ∧ (y2 = false → Ke x3 c0_0 c1_0))))))

def C_k_rNu_2 (A81 : T_k_byteAt) (A87 : T_c_IsDigit) : CallT sg := tab [(81, con [none, none] (q_k_byteAt A81)), (87, con [none] (q_c_IsDigit A87))]
theorem Cok_k_rNu_2 (A81 : T_k_byteAt) (A87 : T_c_IsDigit) (h81 : FO ro 81 (q_k_byteAt A81)) (h87 : FO ro 87 (q_c_IsDigit A87)) (o0 : Nat → Prop) : CalOK sy Tryz.prog GT (ovD ro) o0 ro (C_k_rNu_2 A81 A87) := (tab_cons (con_ok h81) (tab_cons (con_ok h87) tab_nil)) o0

def ls_k_rNu_2_2 : LS sy (Unit × Unit × Int × Unit) (((Bt) × Unit) × (Int × Unit) × Unit) := ⟨[], fCons 0 (vLit sy (.p 1 0)) (fCons 1 (vLit sy (.p 0 0)) (fCons 3 (vInt sy .i64) (fNil sy))), hCells 0 (lCons (vStr sy) (lNil sy)) (hCells 1 (lCons (vInt sy .i64) (lNil sy)) (hNil sy)), 2, []⟩
def le_k_rNu_2_2 : LS sy (Unit × Unit × Int × Unit) (((Bt) × Unit) × (Int × Unit) × Unit) := ⟨[], fCons 0 (vLit sy (.p 1 0)) (fCons 1 (vLit sy (.p 0 0)) (fCons 3 (vInt sy .i64) (fNil sy))), hCells 0 (lCons (vStr sy) (lNil sy)) (hCells 1 (lCons (vInt sy .i64) (lNil sy)) (hNil sy)), 2, []⟩
def lr_k_rNu_2_2 : LS sy Unit Unit := ⟨[], fNil sy, hNil sy, 2, []⟩
def FF_k_rNu_2_2 (A81 : T_k_byteAt) (A87 : T_c_IsDigit) (n : Nat) (x : (Unit × Unit × Int × Unit) × (((Bt) × Unit) × (Int × Unit) × Unit)) (K : Ex → Z sg → Prop) : Prop := F_k_rNu_2_l2 A81 A87 n x.1.2.2.1 x.2.1.1 x.2.2.1.1 (fun y0 y1 y2 => K (.exit 0) (le_k_rNu_2_2.put (((), (), y0, ()), ((y1, ()), (y2, ()), ()))))
def h_k_rNu_2_2 (A81 : T_k_byteAt) (A87 : T_c_IsDigit) (z : Z sg) (K : Ex → Z sg → Prop) : Prop := ls_k_rNu_2_2.get z (fun x => ∃ n, FF_k_rNu_2_2 A81 A87 n x K)
def L_k_rNu_2 (A81 : T_k_byteAt) (A87 : T_c_IsDigit) : LoopT sg := tabL [(2, h_k_rNu_2_2 A81 A87)]
theorem hs_k_rNu_2_2 (A81 : T_k_byteAt) (A87 : T_c_IsDigit) (n : Nat) (x : (Unit × Unit × Int × Unit) × (((Bt) × Unit) × (Int × Unit) × Unit)) (K : Ex → Z sg → Prop) : forceZ (ls_k_rNu_2_2.put x) (fun z => sC sy Tryz.prog GT (C_k_rNu_2 A81 A87) (L_k_rNu_2 A81 A87) Tryz.f90.ntmps (nthLoop (bodyOf Tryz.f90) 0) z (rnd ls_k_rNu_2_2 (czT 0 le_k_rNu_2_2 lr_k_rNu_2_2) (fun x => FF_k_rNu_2_2 A81 A87 n x K) K)) = FF_k_rNu_2_2 A81 A87 (n + 1) x K := by kernel_rfl
theorem hl_k_rNu_2_2 (A81 : T_k_byteAt) (A87 : T_c_IsDigit) (z : Z sg) (K : Ex → Z sg → Prop) : (L_k_rNu_2 A81 A87) (nthLoop (bodyOf Tryz.f90) 0) z K = ls_k_rNu_2_2.get z (fun x => ∃ n, FF_k_rNu_2_2 A81 A87 n x K) := by kernel_rfl
theorem lo_k_rNu_2_2 (A81 : T_k_byteAt) (A87 : T_c_IsDigit) (h81 : FO ro 81 (q_k_byteAt A81)) (h87 : FO ro 87 (q_c_IsDigit A87)) : ∀ (o0 : Nat → Prop) (B : Bs sg), B.E.length ≤ 2 → ∀ z K, (L_k_rNu_2 A81 A87) (nthLoop (bodyOf Tryz.f90) 0) z K → Sx.Sem sy Tryz.prog GT (ovD ro) o0 ro Tryz.f90.ntmps B (.loop (nthLoop (bodyOf Tryz.f90) 0)) z K :=
  loop_ok (Cok_k_rNu_2 A81 A87 h81 h87) (lp_of (l := []) (by kernel_rfl) lp_nil) ls_k_rNu_2_2 (by decide) (czT 0 le_k_rNu_2_2 lr_k_rNu_2_2) (fun _ _ hB => czT_ok 0 le_k_rNu_2_2 lr_k_rNu_2_2 (Nat.le_trans hB (by decide)) (Nat.le_trans hB (by decide))) (fun _ _ h => h) (hs_k_rNu_2_2 A81 A87) (hl_k_rNu_2_2 A81 A87)
theorem Lp_k_rNu_2 (A81 : T_k_byteAt) (A87 : T_c_IsDigit) (h81 : FO ro 81 (q_k_byteAt A81)) (h87 : FO ro 87 (q_c_IsDigit A87)) : LpOK sy Tryz.prog GT (ovD ro) ro (L_k_rNu_2 A81 A87) 2 Tryz.f90.ntmps (bodyOf Tryz.f90) := lp_of (l := [(nthLoop (bodyOf Tryz.f90) 0)]) (by kernel_rfl) (lp_cons (lo_k_rNu_2_2 A81 A87 h81 h87) lp_nil)


abbrev T_k_rNu := Bt → Int → (Int → Bool → Int → Prop) → Prop
def q_k_rNu (A : T_k_rNu) (us : List W) (k : W → Prop) : Prop := match us with
  | [.s a0, .i .i64 a1] => A a0 a1 (fun r0 r1 r2 => k (.t [.i .i64 r0, .b r1, .i .i64 r2]))
  | _ => False
theorem q_k_rNu_weak {A A2 : T_k_rNu} (h : FO ro 48 (q_k_rNu A)) (hA : ∀ a0 a1 K, A2 a0 a1 K → A a0 a1 K) : FO ro 48 (q_k_rNu A2) := h.weak (by
  intro us k h
  unfold q_k_rNu at h ⊢
  split at h
  · exact hA _ _ _ h
  · exact h.elim)

def F_k_rNu (A88 : T_k_fSt) (A81 : T_k_byteAt) (A91 : T_k_isExponentMark) (A92 : T_k_digitStarts) (A93 : T_k_wNu) (A94 : T_k_cNu) (A86 : T_k_isSign) (A87 : T_c_IsDigit) (a0 : Bt) (a1 : Int) (K : Int → Bool → Int → Prop) : Prop :=
  (A81 a0 a1 (fun y1 => (A81 a0 a1 (fun y2 => (A86 y2 (fun y3 => ((y3 = true → (I64 (a1 + 1) ∧ (∃ m, F_k_rNu_2_l2 A81 A87 m (a1 + 1) a0 (a1 + 1) (fun y4 y5 y6 => ((0 ≤ y4 ∧ y4 ≤ y6 ∧ y6 ≤ (y5.length : Int)) ∧ (A88 y5 y6 (fun y7 => ((y7 = true → (I64 (y6 + 1) ∧ (∃ m, F_k_rNu_2_l2 A81 A87 m (y6 + 1) y5 (y6 + 1) (fun y8 y9 y10 => ((0 ≤ y8 ∧ y8 ≤ y10 ∧ y10 ≤ (y9.length : Int)) ∧ (A81 y9 y10 (fun y11 => (A91 y11 (fun y12 => ((y12 = true → (I64 (y10 + 1) ∧ (A92 y9 (y10 + 1) (fun y13 => ((y13 = true → (I64 (y10 + 1) ∧ (A81 y9 (y10 + 1) (fun y14 => (A81 y9 (y10 + 1) (fun y15 => (A86 y15 (fun y16 => ((y16 = true → (I64 ((y10 + 1) + 1) ∧ (∃ m, F_k_rNu_2_l2 A81 A87 m ((y10 + 1) + 1) y9 ((y10 + 1) + 1) (fun y17 y18 y19 => ((0 ≤ y17 ∧ y17 ≤ y19 ∧ y19 ≤ (y18.length : Int)) ∧ (A93 ((y18.drop y17.toNat).take (y19.toNat - y17.toNat)) (fun y20 => (((decide (y14 = 45)) = true → (I64 (0 - y20) ∧ (((y5.drop y4.toNat).take (y6.toNat - y4.toNat)).length + ((y9.drop y8.toNat).take (y10.toNat - y8.toNat)).length ≤ 1099511627776 ∧ (I64 ((((y5.drop y4.toNat).take (y6.toNat - y4.toNat)).length : Int) + (0 - y20)) ∧ (I64 (((((y5.drop y4.toNat).take (y6.toNat - y4.toNat)).length : Int) + (0 - y20)) + 3) ∧ (A94 (((y5.drop y4.toNat).take (y6.toNat - y4.toNat)) ++ ((y9.drop y8.toNat).take (y10.toNat - y8.toNat))) (((((y5.drop y4.toNat).take (y6.toNat - y4.toNat)).length : Int) + (0 - y20)) + 3) (fun y21 => (((decide (y1 = 45)) = true → (I64 (0 - y21) ∧ K (0 - y21) false y19)) ∧ ((decide (y1 = 45)) = false → K y21 false y19))))))))) ∧ ((decide (y14 = 45)) = false → (((y5.drop y4.toNat).take (y6.toNat - y4.toNat)).length + ((y9.drop y8.toNat).take (y10.toNat - y8.toNat)).length ≤ 1099511627776 ∧ (I64 ((((y5.drop y4.toNat).take (y6.toNat - y4.toNat)).length : Int) + y20) ∧ (I64 (((((y5.drop y4.toNat).take (y6.toNat - y4.toNat)).length : Int) + y20) + (3 : Int)) ∧ (A94 (((y5.drop y4.toNat).take (y6.toNat - y4.toNat)) ++ ((y9.drop y8.toNat).take (y10.toNat - y8.toNat))) (((((y5.drop y4.toNat).take (y6.toNat - y4.toNat)).length : Int) + y20) + (3 : Int)) (fun y22 => (((decide (y1 = 45)) = true → (I64 (0 - y22) ∧ K (0 - y22) false y19)) ∧ ((decide (y1 = 45)) = false → K y22 false y19)))))))))))))))) ∧ (y16 = false → (∃ m, F_k_rNu_2_l2 A81 A87 m (y10 + 1) y9 (y10 + 1) (fun y23 y24 y25 => ((0 ≤ y23 ∧ y23 ≤ y25 ∧ y25 ≤ (y24.length : Int)) ∧ (A93 ((y24.drop y23.toNat).take (y25.toNat - y23.toNat)) (fun y26 => (((decide (y14 = 45)) = true → (I64 (0 - y26) ∧ (((y5.drop y4.toNat).take (y6.toNat - y4.toNat)).length + ((y9.drop y8.toNat).take (y10.toNat - y8.toNat)).length ≤ 1099511627776 ∧ (I64 ((((y5.drop y4.toNat).take (y6.toNat - y4.toNat)).length : Int) + (0 - y26)) ∧ (I64 (((((y5.drop y4.toNat).take (y6.toNat - y4.toNat)).length : Int) + (0 - y26)) + 3) ∧ (A94 (((y5.drop y4.toNat).take (y6.toNat - y4.toNat)) ++ ((y9.drop y8.toNat).take (y10.toNat - y8.toNat))) (((((y5.drop y4.toNat).take (y6.toNat - y4.toNat)).length : Int) + (0 - y26)) + 3) (fun y27 => (((decide (y1 = 45)) = true → (I64 (0 - y27) ∧ K (0 - y27) false y25)) ∧ ((decide (y1 = 45)) = false → K y27 false y25))))))))) ∧ ((decide (y14 = 45)) = false → (((y5.drop y4.toNat).take (y6.toNat - y4.toNat)).length + ((y9.drop y8.toNat).take (y10.toNat - y8.toNat)).length ≤ 1099511627776 ∧ (I64 ((((y5.drop y4.toNat).take (y6.toNat - y4.toNat)).length : Int) + y26) ∧ (I64 (((((y5.drop y4.toNat).take (y6.toNat - y4.toNat)).length : Int) + y26) + (3 : Int)) ∧ (A94 (((y5.drop y4.toNat).take (y6.toNat - y4.toNat)) ++ ((y9.drop y8.toNat).take (y10.toNat - y8.toNat))) (((((y5.drop y4.toNat).take (y6.toNat - y4.toNat)).length : Int) + y26) + (3 : Int)) (fun y28 => (((decide (y1 = 45)) = true → (I64 (0 - y28) ∧ K (0 - y28) false y25)) ∧ ((decide (y1 = 45)) = false → K y28 false y25)))))))))))))))))))))))) ∧ (y13 = false → (((y5.drop y4.toNat).take (y6.toNat - y4.toNat)).length + ((y9.drop y8.toNat).take (y10.toNat - y8.toNat)).length ≤ 1099511627776 ∧ (I64 ((((y5.drop y4.toNat).take (y6.toNat - y4.toNat)).length : Int) + (0 : Int)) ∧ (I64 (((((y5.drop y4.toNat).take (y6.toNat - y4.toNat)).length : Int) + (0 : Int)) + 3) ∧ (A94 (((y5.drop y4.toNat).take (y6.toNat - y4.toNat)) ++ ((y9.drop y8.toNat).take (y10.toNat - y8.toNat))) (((((y5.drop y4.toNat).take (y6.toNat - y4.toNat)).length : Int) + (0 : Int)) + 3) (fun y29 => (((decide (y1 = 45)) = true → (I64 (0 - y29) ∧ K (0 - y29) false y10)) ∧ ((decide (y1 = 45)) = false → K y29 false y10))))))))))))) ∧ (y12 = false → (((y5.drop y4.toNat).take (y6.toNat - y4.toNat)).length + ((y9.drop y8.toNat).take (y10.toNat - y8.toNat)).length ≤ 1099511627776 ∧ (I64 ((((y5.drop y4.toNat).take (y6.toNat - y4.toNat)).length : Int) + (0 : Int)) ∧ (I64 (((((y5.drop y4.toNat).take (y6.toNat - y4.toNat)).length : Int) + (0 : Int)) + 3) ∧ (A94 (((y5.drop y4.toNat).take (y6.toNat - y4.toNat)) ++ ((y9.drop y8.toNat).take (y10.toNat - y8.toNat))) (((((y5.drop y4.toNat).take (y6.toNat - y4.toNat)).length : Int) + (0 : Int)) + 3) (fun y30 => (((decide (y1 = 45)) = true → (I64 (0 - y30) ∧ K (0 - y30) false y10)) ∧ ((decide (y1 = 45)) = false → K y30 false y10)))))))))))))))))) ∧ (y7 = false → (A81 y5 y6 (fun y31 => (A91 y31 (fun y32 => ((y32 = true → (I64 (y6 + 1) ∧ (A92 y5 (y6 + 1) (fun y33 => ((y33 = true → (I64 (y6 + 1) ∧ (A81 y5 (y6 + 1) (fun y34 => (A81 y5 (y6 + 1) (fun y35 => (A86 y35 (fun y36 => ((y36 = true → (I64 ((y6 + 1) + 1) ∧ (∃ m, F_k_rNu_2_l2 A81 A87 m ((y6 + 1) + 1) y5 ((y6 + 1) + 1) (fun y37 y38 y39 => ((0 ≤ y37 ∧ y37 ≤ y39 ∧ y39 ≤ (y38.length : Int)) ∧ (A93 ((y38.drop y37.toNat).take (y39.toNat - y37.toNat)) (fun y40 => (((decide (y34 = 45)) = true → (I64 (0 - y40) ∧ (((y5.drop y4.toNat).take (y6.toNat - y4.toNat)).length + ([] : Bt).length ≤ 1099511627776 ∧ (I64 ((((y5.drop y4.toNat).take (y6.toNat - y4.toNat)).length : Int) + (0 - y40)) ∧ (I64 (((((y5.drop y4.toNat).take (y6.toNat - y4.toNat)).length : Int) + (0 - y40)) + 3) ∧ (A94 (((y5.drop y4.toNat).take (y6.toNat - y4.toNat)) ++ ([] : Bt)) (((((y5.drop y4.toNat).take (y6.toNat - y4.toNat)).length : Int) + (0 - y40)) + 3) (fun y41 => (((decide (y1 = 45)) = true → (I64 (0 - y41) ∧ K (0 - y41) false y39)) ∧ ((decide (y1 = 45)) = false → K y41 false y39))))))))) ∧ ((decide (y34 = 45)) = false → (((y5.drop y4.toNat).take (y6.toNat - y4.toNat)).length + ([] : Bt).length ≤ 1099511627776 ∧ (I64 ((((y5.drop y4.toNat).take (y6.toNat - y4.toNat)).length : Int) + y40) ∧ (I64 (((((y5.drop y4.toNat).take (y6.toNat - y4.toNat)).length : Int) + y40) + (3 : Int)) ∧ (A94 (((y5.drop y4.toNat).take (y6.toNat - y4.toNat)) ++ ([] : Bt)) (((((y5.drop y4.toNat).take (y6.toNat - y4.toNat)).length : Int) + y40) + (3 : Int)) (fun y42 => (((decide (y1 = 45)) = true → (I64 (0 - y42) ∧ K (0 - y42) false y39)) ∧ ((decide (y1 = 45)) = false → K y42 false y39)))))))))))))))) ∧ (y36 = false → (∃ m, F_k_rNu_2_l2 A81 A87 m (y6 + 1) y5 (y6 + 1) (fun y43 y44 y45 => ((0 ≤ y43 ∧ y43 ≤ y45 ∧ y45 ≤ (y44.length : Int)) ∧ (A93 ((y44.drop y43.toNat).take (y45.toNat - y43.toNat)) (fun y46 => (((decide (y34 = 45)) = true → (I64 (0 - y46) ∧ (((y5.drop y4.toNat).take (y6.toNat - y4.toNat)).length + ([] : Bt).length ≤ 1099511627776 ∧ (I64 ((((y5.drop y4.toNat).take (y6.toNat - y4.toNat)).length : Int) + (0 - y46)) ∧ (I64 (((((y5.drop y4.toNat).take (y6.toNat - y4.toNat)).length : Int) + (0 - y46)) + 3) ∧ (A94 (((y5.drop y4.toNat).take (y6.toNat - y4.toNat)) ++ ([] : Bt)) (((((y5.drop y4.toNat).take (y6.toNat - y4.toNat)).length : Int) + (0 - y46)) + 3) (fun y47 => (((decide (y1 = 45)) = true → (I64 (0 - y47) ∧ K (0 - y47) false y45)) ∧ ((decide (y1 = 45)) = false → K y47 false y45))))))))) ∧ ((decide (y34 = 45)) = false → (((y5.drop y4.toNat).take (y6.toNat - y4.toNat)).length + ([] : Bt).length ≤ 1099511627776 ∧ (I64 ((((y5.drop y4.toNat).take (y6.toNat - y4.toNat)).length : Int) + y46) ∧ (I64 (((((y5.drop y4.toNat).take (y6.toNat - y4.toNat)).length : Int) + y46) + (3 : Int)) ∧ (A94 (((y5.drop y4.toNat).take (y6.toNat - y4.toNat)) ++ ([] : Bt)) (((((y5.drop y4.toNat).take (y6.toNat - y4.toNat)).length : Int) + y46) + (3 : Int)) (fun y48 => (((decide (y1 = 45)) = true → (I64 (0 - y48) ∧ K (0 - y48) false y45)) ∧ ((decide (y1 = 45)) = false → K y48 false y45)))))))))))))))))))))))) ∧ (y33 = false → (((y5.drop y4.toNat).take (y6.toNat - y4.toNat)).length + ([] : Bt).length ≤ 1099511627776 ∧ (I64 ((((y5.drop y4.toNat).take (y6.toNat - y4.toNat)).length : Int) + (0 : Int)) ∧ (I64 (((((y5.drop y4.toNat).take (y6.toNat - y4.toNat)).length : Int) + (0 : Int)) + 3) ∧ (A94 (((y5.drop y4.toNat).take (y6.toNat - y4.toNat)) ++ ([] : Bt)) (((((y5.drop y4.toNat).take (y6.toNat - y4.toNat)).length : Int) + (0 : Int)) + 3) (fun y49 => (((decide (y1 = 45)) = true → (I64 (0 - y49) ∧ K (0 - y49) true y6)) ∧ ((decide (y1 = 45)) = false → K y49 true y6))))))))))))) ∧ (y32 = false → (((y5.drop y4.toNat).take (y6.toNat - y4.toNat)).length + ([] : Bt).length ≤ 1099511627776 ∧ (I64 ((((y5.drop y4.toNat).take (y6.toNat - y4.toNat)).length : Int) + (0 : Int)) ∧ (I64 (((((y5.drop y4.toNat).take (y6.toNat - y4.toNat)).length : Int) + (0 : Int)) + 3) ∧ (A94 (((y5.drop y4.toNat).take (y6.toNat - y4.toNat)) ++ ([] : Bt)) (((((y5.drop y4.toNat).take (y6.toNat - y4.toNat)).length : Int) + (0 : Int)) + 3) (fun y50 => (((decide (y1 = 45)) = true → (I64 (0 - y50) ∧ K (0 - y50) true y6)) ∧ ((decide (y1 = 45)) = false → K y50 true y6)))))))))))))))))))))) ∧ (y3 = false → (∃ m, F_k_rNu_2_l2 A81 A87 m a1 a0 a1 (fun y51 y52 y53 => ((0 ≤ y51 ∧ y51 ≤ y53 ∧ y53 ≤ (y52.length : Int)) ∧ (A88 y52 y53 (fun y54 => ((y54 = true → (I64 (y53 + 1) ∧ (∃ m, F_k_rNu_2_l2 A81 A87 m (y53 + 1) y52 (y53 + 1) (fun y55 y56 y57 => ((0 ≤ y55 ∧ y55 ≤ y57 ∧ y57 ≤ (y56.length : Int)) ∧ (A81 y56 y57 (fun y58 => (A91 y58 (fun y59 => ((y59 = true → (I64 (y57 + 1) ∧ (A92 y56 (y57 + 1) (fun y60 => ((y60 = true → (I64 (y57 + 1) ∧ (A81 y56 (y57 + 1) (fun y61 => (A81 y56 (y57 + 1) (fun y62 => (A86 y62 (fun y63 => ((y63 = true → (I64 ((y57 + 1) + 1) ∧ (∃ m, F_k_rNu_2_l2 A81 A87 m ((y57 + 1) + 1) y56 ((y57 + 1) + 1) (fun y64 y65 y66 => ((0 ≤ y64 ∧ y64 ≤ y66 ∧ y66 ≤ (y65.length : Int)) ∧ (A93 ((y65.drop y64.toNat).take (y66.toNat - y64.toNat)) (fun y67 => (((decide (y61 = 45)) = true → (I64 (0 - y67) ∧ (((y52.drop y51.toNat).take (y53.toNat - y51.toNat)).length + ((y56.drop y55.toNat).take (y57.toNat - y55.toNat)).length ≤ 1099511627776 ∧ (I64 ((((y52.drop y51.toNat).take (y53.toNat - y51.toNat)).length : Int) + (0 - y67)) ∧ (I64 (((((y52.drop y51.toNat).take (y53.toNat - y51.toNat)).length : Int) + (0 - y67)) + 3) ∧ (A94 (((y52.drop y51.toNat).take (y53.toNat - y51.toNat)) ++ ((y56.drop y55.toNat).take (y57.toNat - y55.toNat))) (((((y52.drop y51.toNat).take (y53.toNat - y51.toNat)).length : Int) + (0 - y67)) + 3) (fun y68 => (((decide (y1 = 45)) = true → (I64 (0 - y68) ∧ K (0 - y68) false y66)) ∧ ((decide (y1 = 45)) = false → K y68 false y66))))))))) ∧ ((decide (y61 = 45)) = false → (((y52.drop y51.toNat).take (y53.toNat - y51.toNat)).length + ((y56.drop y55.toNat).take (y57.toNat - y55.toNat)).length ≤ 1099511627776 ∧ (I64 ((((y52.drop y51.toNat).take (y53.toNat - y51.toNat)).length : Int) + y67) ∧ (I64 (((((y52.drop y51.toNat).take (y53.toNat - y51.toNat)).length : Int) + y67) + (3 : Int)) ∧ (A94 (((y52.drop y51.toNat).take (y53.toNat - y51.toNat)) ++ ((y56.drop y55.toNat).take (y57.toNat - y55.toNat))) (((((y52.drop y51.toNat).take (y53.toNat - y51.toNat)).length : Int) + y67) + (3 : Int)) (fun y69 => (((decide (y1 = 45)) = true → (I64 (0 - y69) ∧ K (0 - y69) false y66)) ∧ ((decide (y1 = 45)) = false → K y69 false y66)))))))))))))))) ∧ (y63 = false → (∃ m, F_k_rNu_2_l2 A81 A87 m (y57 + 1) y56 (y57 + 1) (fun y70 y71 y72 => ((0 ≤ y70 ∧ y70 ≤ y72 ∧ y72 ≤ (y71.length : Int)) ∧ (A93 ((y71.drop y70.toNat).take (y72.toNat - y70.toNat)) (fun y73 => (((decide (y61 = 45)) = true → (I64 (0 - y73) ∧ (((y52.drop y51.toNat).take (y53.toNat - y51.toNat)).length + ((y56.drop y55.toNat).take (y57.toNat - y55.toNat)).length ≤ 1099511627776 ∧ (I64 ((((y52.drop y51.toNat).take (y53.toNat - y51.toNat)).length : Int) + (0 - y73)) ∧ (I64 (((((y52.drop y51.toNat).take (y53.toNat - y51.toNat)).length : Int) + (0 - y73)) + 3) ∧ (A94 (((y52.drop y51.toNat).take (y53.toNat - y51.toNat)) ++ ((y56.drop y55.toNat).take (y57.toNat - y55.toNat))) (((((y52.drop y51.toNat).take (y53.toNat - y51.toNat)).length : Int) + (0 - y73)) + 3) (fun y74 => (((decide (y1 = 45)) = true → (I64 (0 - y74) ∧ K (0 - y74) false y72)) ∧ ((decide (y1 = 45)) = false → K y74 false y72))))))))) ∧ ((decide (y61 = 45)) = false → (((y52.drop y51.toNat).take (y53.toNat - y51.toNat)).length + ((y56.drop y55.toNat).take (y57.toNat - y55.toNat)).length ≤ 1099511627776 ∧ (I64 ((((y52.drop y51.toNat).take (y53.toNat - y51.toNat)).length : Int) + y73) ∧ (I64 (((((y52.drop y51.toNat).take (y53.toNat - y51.toNat)).length : Int) + y73) + (3 : Int)) ∧ (A94 (((y52.drop y51.toNat).take (y53.toNat - y51.toNat)) ++ ((y56.drop y55.toNat).take (y57.toNat - y55.toNat))) (((((y52.drop y51.toNat).take (y53.toNat - y51.toNat)).length : Int) + y73) + (3 : Int)) (fun y75 => (((decide (y1 = 45)) = true → (I64 (0 - y75) ∧ K (0 - y75) false y72)) ∧ ((decide (y1 = 45)) = false → K y75 false y72)))))))))))))))))))))))) ∧ (y60 = false → (((y52.drop y51.toNat).take (y53.toNat - y51.toNat)).length + ((y56.drop y55.toNat).take (y57.toNat - y55.toNat)).length ≤ 1099511627776 ∧ (I64 ((((y52.drop y51.toNat).take (y53.toNat - y51.toNat)).length : Int) + (0 : Int)) ∧ (I64 (((((y52.drop y51.toNat).take (y53.toNat - y51.toNat)).length : Int) + (0 : Int)) + 3) ∧ (A94 (((y52.drop y51.toNat).take (y53.toNat - y51.toNat)) ++ ((y56.drop y55.toNat).take (y57.toNat - y55.toNat))) (((((y52.drop y51.toNat).take (y53.toNat - y51.toNat)).length : Int) + (0 : Int)) + 3) (fun y76 => (((decide (y1 = 45)) = true → (I64 (0 - y76) ∧ K (0 - y76) false y57)) ∧ ((decide (y1 = 45)) = false → K y76 false y57))))))))))))) ∧ (y59 = false → (((y52.drop y51.toNat).take (y53.toNat - y51.toNat)).length + ((y56.drop y55.toNat).take (y57.toNat - y55.toNat)).length ≤ 1099511627776 ∧ (I64 ((((y52.drop y51.toNat).take (y53.toNat - y51.toNat)).length : Int) + (0 : Int)) ∧ (I64 (((((y52.drop y51.toNat).take (y53.toNat - y51.toNat)).length : Int) + (0 : Int)) + 3) ∧ (A94 (((y52.drop y51.toNat).take (y53.toNat - y51.toNat)) ++ ((y56.drop y55.toNat).take (y57.toNat - y55.toNat))) (((((y52.drop y51.toNat).take (y53.toNat - y51.toNat)).length : Int) + (0 : Int)) + 3) (fun y77 => (((decide (y1 = 45)) = true → (I64 (0 - y77) ∧ K (0 - y77) false y57)) ∧ ((decide (y1 = 45)) = false → K y77 false y57)))))))))))))))))) ∧ (y54 = false → (A81 y52 y53 (fun y78 => (A91 y78 (fun y79 => ((y79 = true → (I64 (y53 + 1) ∧ (A92 y52 (y53 + 1) (fun y80 => ((y80 = true → (I64 (y53 + 1) ∧ (A81 y52 (y53 + 1) (fun y81 => (A81 y52 (y53 + 1) (fun y82 => (A86 y82 (fun y83 => ((y83 = true → (I64 ((y53 + 1) + 1) ∧ (∃ m, F_k_rNu_2_l2 A81 A87 m ((y53 + 1) + 1) y52 ((y53 + 1) + 1) (fun y84 y85 y86 => ((0 ≤ y84 ∧ y84 ≤ y86 ∧ y86 ≤ (y85.length : Int)) ∧ (A93 ((y85.drop y84.toNat).take (y86.toNat - y84.toNat)) (fun y87 => (((decide (y81 = 45)) = true → (I64 (0 - y87) ∧ (((y52.drop y51.toNat).take (y53.toNat - y51.toNat)).length + ([] : Bt).length ≤ 1099511627776 ∧ (I64 ((((y52.drop y51.toNat).take (y53.toNat - y51.toNat)).length : Int) + (0 - y87)) ∧ (I64 (((((y52.drop y51.toNat).take (y53.toNat - y51.toNat)).length : Int) + (0 - y87)) + 3) ∧ (A94 (((y52.drop y51.toNat).take (y53.toNat - y51.toNat)) ++ ([] : Bt)) (((((y52.drop y51.toNat).take (y53.toNat - y51.toNat)).length : Int) + (0 - y87)) + 3) (fun y88 => (((decide (y1 = 45)) = true → (I64 (0 - y88) ∧ K (0 - y88) false y86)) ∧ ((decide (y1 = 45)) = false → K y88 false y86))))))))) ∧ ((decide (y81 = 45)) = false → (((y52.drop y51.toNat).take (y53.toNat - y51.toNat)).length + ([] : Bt).length ≤ 1099511627776 ∧ (I64 ((((y52.drop y51.toNat).take (y53.toNat - y51.toNat)).length : Int) + y87) ∧ (I64 (((((y52.drop y51.toNat).take (y53.toNat - y51.toNat)).length : Int) + y87) + (3 : Int)) ∧ (A94 (((y52.drop y51.toNat).take (y53.toNat - y51.toNat)) ++ ([] : Bt)) (((((y52.drop y51.toNat).take (y53.toNat - y51.toNat)).length : Int) + y87) + (3 : Int)) (fun y89 => (((decide (y1 = 45)) = true → (I64 (0 - y89) ∧ K (0 - y89) false y86)) ∧ ((decide (y1 = 45)) = false → K y89 false y86)))))))))))))))) ∧ (y83 = false → (∃ m, F_k_rNu_2_l2 A81 A87 m (y53 + 1) y52 (y53 + 1) (fun y90 y91 y92 => ((0 ≤ y90 ∧ y90 ≤ y92 ∧ y92 ≤ (y91.length : Int)) ∧ (A93 ((y91.drop y90.toNat).take (y92.toNat - y90.toNat)) (fun y93 => (((decide (y81 = 45)) = true → (I64 (0 - y93) ∧ (((y52.drop y51.toNat).take (y53.toNat - y51.toNat)).length + ([] : Bt).length ≤ 1099511627776 ∧ (I64 ((((y52.drop y51.toNat).take (y53.toNat - y51.toNat)).length : Int) + (0 - y93)) ∧ (I64 (((((y52.drop y51.toNat).take (y53.toNat - y51.toNat)).length : Int) + (0 - y93)) + 3) ∧ (A94 (((y52.drop y51.toNat).take (y53.toNat - y51.toNat)) ++ ([] : Bt)) (((((y52.drop y51.toNat).take (y53.toNat - y51.toNat)).length : Int) + (0 - y93)) + 3) (fun y94 => (((decide (y1 = 45)) = true → (I64 (0 - y94) ∧ K (0 - y94) false y92)) ∧ ((decide (y1 = 45)) = false → K y94 false y92))))))))) ∧ ((decide (y81 = 45)) = false → (((y52.drop y51.toNat).take (y53.toNat - y51.toNat)).length + ([] : Bt).length ≤ 1099511627776 ∧ (I64 ((((y52.drop y51.toNat).take (y53.toNat - y51.toNat)).length : Int) + y93) ∧ (I64 (((((y52.drop y51.toNat).take (y53.toNat - y51.toNat)).length : Int) + y93) + (3 : Int)) ∧ (A94 (((y52.drop y51.toNat).take (y53.toNat - y51.toNat)) ++ ([] : Bt)) (((((y52.drop y51.toNat).take (y53.toNat - y51.toNat)).length : Int) + y93) + (3 : Int)) (fun y95 => (((decide (y1 = 45)) = true → (I64 (0 - y95) ∧ K (0 - y95) false y92)) ∧ ((decide (y1 = 45)) = false → K y95 false y92)))))))))))))))))))))))) ∧ (y80 = false → (((y52.drop y51.toNat).take (y53.toNat - y51.toNat)).length + ([] : Bt).length ≤ 1099511627776 ∧ (I64 ((((y52.drop y51.toNat).take (y53.toNat - y51.toNat)).length : Int) + (0 : Int)) ∧ (I64 (((((y52.drop y51.toNat).take (y53.toNat - y51.toNat)).length : Int) + (0 : Int)) + 3) ∧ (A94 (((y52.drop y51.toNat).take (y53.toNat - y51.toNat)) ++ ([] : Bt)) (((((y52.drop y51.toNat).take (y53.toNat - y51.toNat)).length : Int) + (0 : Int)) + 3) (fun y96 => (((decide (y1 = 45)) = true → (I64 (0 - y96) ∧ K (0 - y96) true y53)) ∧ ((decide (y1 = 45)) = false → K y96 true y53))))))))))))) ∧ (y79 = false → (((y52.drop y51.toNat).take (y53.toNat - y51.toNat)).length + ([] : Bt).length ≤ 1099511627776 ∧ (I64 ((((y52.drop y51.toNat).take (y53.toNat - y51.toNat)).length : Int) + (0 : Int)) ∧ (I64 (((((y52.drop y51.toNat).take (y53.toNat - y51.toNat)).length : Int) + (0 : Int)) + 3) ∧ (A94 (((y52.drop y51.toNat).take (y53.toNat - y51.toNat)) ++ ([] : Bt)) (((((y52.drop y51.toNat).take (y53.toNat - y51.toNat)).length : Int) + (0 : Int)) + 3) (fun y97 => (((decide (y1 = 45)) = true → (I64 (0 - y97) ∧ K (0 - y97) true y53)) ∧ ((decide (y1 = 45)) = false → K y97 true y53))))))))))))))))))))))))))))

def C_k_rNu (A88 : T_k_fSt) (A81 : T_k_byteAt) (A91 : T_k_isExponentMark) (A92 : T_k_digitStarts) (A93 : T_k_wNu) (A94 : T_k_cNu) (A86 : T_k_isSign) (A87 : T_c_IsDigit) : CallT sg := tab [(88, con [none, none] (q_k_fSt A88)), (81, con [none, none] (q_k_byteAt A81)), (91, con [none] (q_k_isExponentMark A91)), (92, con [none, none] (q_k_digitStarts A92)), (93, con [none] (q_k_wNu A93)), (94, con [none, none] (q_k_cNu A94)), (89, inl sy Tryz.prog GT (C_k_rNu_1 A81 A86) noL 1000 Tryz.f89.ntmps (bodyOf Tryz.f89) Tryz.f89.results.toList), (90, inl sy Tryz.prog GT (C_k_rNu_2 A81 A87) (L_k_rNu_2 A81 A87) 2 Tryz.f90.ntmps (bodyOf Tryz.f90) Tryz.f90.results.toList)]
theorem Cok_k_rNu (A88 : T_k_fSt) (A81 : T_k_byteAt) (A91 : T_k_isExponentMark) (A92 : T_k_digitStarts) (A93 : T_k_wNu) (A94 : T_k_cNu) (A86 : T_k_isSign) (A87 : T_c_IsDigit) (h88 : FO ro 88 (q_k_fSt A88)) (h81 : FO ro 81 (q_k_byteAt A81)) (h91 : FO ro 91 (q_k_isExponentMark A91)) (h92 : FO ro 92 (q_k_digitStarts A92)) (h93 : FO ro 93 (q_k_wNu A93)) (h94 : FO ro 94 (q_k_cNu A94)) (h86 : FO ro 86 (q_k_isSign A86)) (h87 : FO ro 87 (q_c_IsDigit A87)) (o0 : Nat → Prop) : CalOK sy Tryz.prog GT (ovD ro) o0 ro (C_k_rNu A88 A81 A91 A92 A93 A94 A86 A87) := (tab_cons (con_ok h88) (tab_cons (con_ok h81) (tab_cons (con_ok h91) (tab_cons (con_ok h92) (tab_cons (con_ok h93) (tab_cons (con_ok h94) (tab_cons (inl_ok (f := 89) (fn := Tryz.f89) (fun _ _ => rfl) Tryz.func89 (by kernel_rfl) rfl rfl (Cok_k_rNu_1 A81 A86 h81 h86) (lp_of (l := []) (by kernel_rfl) lp_nil)) (tab_cons (inl_ok (f := 90) (fn := Tryz.f90) (fun _ _ => rfl) Tryz.func90 (by kernel_rfl) rfl rfl (Cok_k_rNu_2 A81 A87 h81 h87) (Lp_k_rNu_2 A81 A87 h81 h87)) tab_nil)))))))) o0

theorem raw_k_rNu (A88 : T_k_fSt) (A81 : T_k_byteAt) (A91 : T_k_isExponentMark) (A92 : T_k_digitStarts) (A93 : T_k_wNu) (A94 : T_k_cNu) (A86 : T_k_isSign) (A87 : T_c_IsDigit) (a0 : Bt) (a1 : Int) (k : W → Prop) : fnT sy Tryz.prog GT (C_k_rNu A88 A81 A91 A92 A93 A94 A86 A87) noL Tryz.f48.ntmps (bodyOf Tryz.f48) [none, none, none] Tryz.f48.results.toList [.s a0, .i .i64 a1] k = F_k_rNu A88 A81 A91 A92 A93 A94 A86 A87 a0 a1 (fun r0 r1 r2 => k (.t [.i .i64 r0, .b r1, .i .i64 r2])) := by kernel_rfl

theorem ok_k_rNu (A88 : T_k_fSt) (A81 : T_k_byteAt) (A91 : T_k_isExponentMark) (A92 : T_k_digitStarts) (A93 : T_k_wNu) (A94 : T_k_cNu) (A86 : T_k_isSign) (A87 : T_c_IsDigit) (h88 : FO ro 88 (q_k_fSt A88)) (h81 : FO ro 81 (q_k_byteAt A81)) (h91 : FO ro 91 (q_k_isExponentMark A91)) (h92 : FO ro 92 (q_k_digitStarts A92)) (h93 : FO ro 93 (q_k_wNu A93)) (h94 : FO ro 94 (q_k_cNu A94)) (h86 : FO ro 86 (q_k_isSign A86)) (h87 : FO ro 87 (q_c_IsDigit A87)) : FO ro 48 (q_k_rNu (F_k_rNu A88 A81 A91 A92 A93 A94 A86 A87)) := (fn_ok (rc := [none, none, none]) (f := 48) (fn := Tryz.f48) (c := bodyOf Tryz.f48) (nt := Tryz.f48.ntmps) (res := Tryz.f48.results.toList) (C := C_k_rNu A88 A81 A91 A92 A93 A94 A86 A87) (L := noL) (fun _ _ => rfl) Tryz.func48 (by kernel_rfl) rfl rfl (Cok_k_rNu A88 A81 A91 A92 A93 A94 A86 A87 h88 h81 h91 h92 h93 h94 h86 h87) (lp_of (l := []) (by kernel_rfl) lp_nil)).weak (by
  intro us k h
  unfold q_k_rNu at h
  split at h
  · skip
    rename_i a0 a1
    rw [raw_k_rNu A88 A81 A91 A92 A93 A94 A86 A87 a0 a1 k]
    exact h
  · exact h.elim)

abbrev T_c_IsLetter := Int → (Bool → Prop) → Prop
def q_c_IsLetter (A : T_c_IsLetter) (us : List W) (k : W → Prop) : Prop := match us with
  | [.i .u8 a0] => A a0 (fun r0 => k (.b r0))
  | _ => False
theorem q_c_IsLetter_weak {A A2 : T_c_IsLetter} (h : FO ro 122 (q_c_IsLetter A)) (hA : ∀ a0 K, A2 a0 K → A a0 K) : FO ro 122 (q_c_IsLetter A2) := h.weak (by
  intro us k h
  unfold q_c_IsLetter at h ⊢
  split at h
  · exact hA _ _ h
  · exact h.elim)

def F_c_IsLetter (a0 : Int) (K : Bool → Prop) : Prop :=
  (((decide ((97 : Int) ≤ a0)) = true → (((decide (a0 ≤ 122)) = false → (((decide ((65 : Int) ≤ a0)) = true → K (decide (a0 ≤ 90))) ∧ ((decide ((65 : Int) ≤ a0)) = false → K false))) ∧ ((decide (a0 ≤ 122)) = true → K true))) ∧ ((decide ((97 : Int) ≤ a0)) = false → (((decide ((65 : Int) ≤ a0)) = true → K (decide (a0 ≤ 90))) ∧ ((decide ((65 : Int) ≤ a0)) = false → K false))))

def C_c_IsLetter : CallT sg := tab []
theorem Cok_c_IsLetter (o0 : Nat → Prop) : CalOK sy Tryz.prog GT (ovD ro) o0 ro (C_c_IsLetter) := tab_nil o0

theorem raw_c_IsLetter (a0 : Int) (k : W → Prop) : fnT sy Tryz.prog GT (C_c_IsLetter) noL Tryz.f122.ntmps (bodyOf Tryz.f122) [none] Tryz.f122.results.toList [.i .u8 a0] k = F_c_IsLetter a0 (fun r0 => k (.b r0)) := by kernel_rfl

theorem ok_c_IsLetter : FO ro 122 (q_c_IsLetter (F_c_IsLetter)) := (fn_ok (rc := [none]) (f := 122) (fn := Tryz.f122) (c := bodyOf Tryz.f122) (nt := Tryz.f122.ntmps) (res := Tryz.f122.results.toList) (C := C_c_IsLetter) (L := noL) (fun _ _ => rfl) Tryz.func122 (by kernel_rfl) rfl rfl (Cok_c_IsLetter) (lp_of (l := []) (by kernel_rfl) lp_nil)).weak (by
  intro us k h
  unfold q_c_IsLetter at h
  split at h
  · skip
    rename_i a0
    rw [raw_c_IsLetter a0 k]
    exact h
  · exact h.elim)

abbrev T_c_StartsName := Int → (Bool → Prop) → Prop
def q_c_StartsName (A : T_c_StartsName) (us : List W) (k : W → Prop) : Prop := match us with
  | [.i .u8 a0] => A a0 (fun r0 => k (.b r0))
  | _ => False
theorem q_c_StartsName_weak {A A2 : T_c_StartsName} (h : FO ro 82 (q_c_StartsName A)) (hA : ∀ a0 K, A2 a0 K → A a0 K) : FO ro 82 (q_c_StartsName A2) := h.weak (by
  intro us k h
  unfold q_c_StartsName at h ⊢
  split at h
  · exact hA _ _ h
  · exact h.elim)

def F_c_StartsName (A122 : T_c_IsLetter) (a0 : Int) (K : Bool → Prop) : Prop :=
  (A122 a0 (fun y1 => ((y1 = false → (((decide (a0 = 95)) = false → K (decide ((128 : Int) ≤ a0))) ∧ ((decide (a0 = 95)) = true → K true))) ∧ (y1 = true → K true))))

def C_c_StartsName (A122 : T_c_IsLetter) : CallT sg := tab [(122, con [none] (q_c_IsLetter A122))]
theorem Cok_c_StartsName (A122 : T_c_IsLetter) (h122 : FO ro 122 (q_c_IsLetter A122)) (o0 : Nat → Prop) : CalOK sy Tryz.prog GT (ovD ro) o0 ro (C_c_StartsName A122) := (tab_cons (con_ok h122) tab_nil) o0

theorem raw_c_StartsName (A122 : T_c_IsLetter) (a0 : Int) (k : W → Prop) : fnT sy Tryz.prog GT (C_c_StartsName A122) noL Tryz.f82.ntmps (bodyOf Tryz.f82) [none] Tryz.f82.results.toList [.i .u8 a0] k = F_c_StartsName A122 a0 (fun r0 => k (.b r0)) := by kernel_rfl

theorem ok_c_StartsName (A122 : T_c_IsLetter) (h122 : FO ro 122 (q_c_IsLetter A122)) : FO ro 82 (q_c_StartsName (F_c_StartsName A122)) := (fn_ok (rc := [none]) (f := 82) (fn := Tryz.f82) (c := bodyOf Tryz.f82) (nt := Tryz.f82.ntmps) (res := Tryz.f82.results.toList) (C := C_c_StartsName A122) (L := noL) (fun _ _ => rfl) Tryz.func82 (by kernel_rfl) rfl rfl (Cok_c_StartsName A122 h122) (lp_of (l := []) (by kernel_rfl) lp_nil)).weak (by
  intro us k h
  unfold q_c_StartsName at h
  split at h
  · skip
    rename_i a0
    rw [raw_c_StartsName A122 a0 k]
    exact h
  · exact h.elim)

abbrev T_k_eSt := Bt → Int → (Bool → Prop) → Prop
def q_k_eSt (A : T_k_eSt) (us : List W) (k : W → Prop) : Prop := match us with
  | [.s a0, .i .i64 a1] => A a0 a1 (fun r0 => k (.b r0))
  | _ => False
theorem q_k_eSt_weak {A A2 : T_k_eSt} (h : FO ro 83 (q_k_eSt A)) (hA : ∀ a0 a1 K, A2 a0 a1 K → A a0 a1 K) : FO ro 83 (q_k_eSt A2) := h.weak (by
  intro us k h
  unfold q_k_eSt at h ⊢
  split at h
  · exact hA _ _ _ h
  · exact h.elim)

def F_k_eSt (A81 : T_k_byteAt) (a0 : Bt) (a1 : Int) (K : Bool → Prop) : Prop :=
  (A81 a0 a1 (fun y1 => (((decide (y1 = 92)) = true → (I64 (a1 + 1) ∧ (A81 a0 (a1 + 1) (fun y2 => K (decide (y2 ≠ 10)))))) ∧ ((decide (y1 = 92)) = false → K false))))

def C_k_eSt (A81 : T_k_byteAt) : CallT sg := tab [(81, con [none, none] (q_k_byteAt A81))]
theorem Cok_k_eSt (A81 : T_k_byteAt) (h81 : FO ro 81 (q_k_byteAt A81)) (o0 : Nat → Prop) : CalOK sy Tryz.prog GT (ovD ro) o0 ro (C_k_eSt A81) := (tab_cons (con_ok h81) tab_nil) o0

theorem raw_k_eSt (A81 : T_k_byteAt) (a0 : Bt) (a1 : Int) (k : W → Prop) : fnT sy Tryz.prog GT (C_k_eSt A81) noL Tryz.f83.ntmps (bodyOf Tryz.f83) [none] Tryz.f83.results.toList [.s a0, .i .i64 a1] k = F_k_eSt A81 a0 a1 (fun r0 => k (.b r0)) := by kernel_rfl

theorem ok_k_eSt (A81 : T_k_byteAt) (h81 : FO ro 81 (q_k_byteAt A81)) : FO ro 83 (q_k_eSt (F_k_eSt A81)) := (fn_ok (rc := [none]) (f := 83) (fn := Tryz.f83) (c := bodyOf Tryz.f83) (nt := Tryz.f83.ntmps) (res := Tryz.f83.results.toList) (C := C_k_eSt A81) (L := noL) (fun _ _ => rfl) Tryz.func83 (by kernel_rfl) rfl rfl (Cok_k_eSt A81 h81) (lp_of (l := []) (by kernel_rfl) lp_nil)).weak (by
  intro us k h
  unfold q_k_eSt at h
  split at h
  · skip
    rename_i a0 a1
    rw [raw_k_eSt A81 a0 a1 k]
    exact h
  · exact h.elim)

abbrev T_k_nameStarts := Bt → Int → (Bool → Prop) → Prop
def q_k_nameStarts (A : T_k_nameStarts) (us : List W) (k : W → Prop) : Prop := match us with
  | [.s a0, .i .i64 a1] => A a0 a1 (fun r0 => k (.b r0))
  | _ => False
theorem q_k_nameStarts_weak {A A2 : T_k_nameStarts} (h : FO ro 45 (q_k_nameStarts A)) (hA : ∀ a0 a1 K, A2 a0 a1 K → A a0 a1 K) : FO ro 45 (q_k_nameStarts A2) := h.weak (by
  intro us k h
  unfold q_k_nameStarts at h ⊢
  split at h
  · exact hA _ _ _ h
  · exact h.elim)

def F_k_nameStarts (A81 : T_k_byteAt) (A82 : T_c_StartsName) (A83 : T_k_eSt) (a0 : Bt) (a1 : Int) (K : Bool → Prop) : Prop :=
  (A81 a0 a1 (fun y1 => (((decide (y1 ≠ 45)) = true → (A81 a0 a1 (fun y2 => (A82 y2 (fun y3 => ((y3 = false → (A83 a0 a1 (fun y4 => K y4))) ∧ (y3 = true → K true))))))) ∧ ((decide (y1 ≠ 45)) = false → (I64 (a1 + 1) ∧ (A81 a0 (a1 + 1) (fun y5 => (A82 y5 (fun y6 => ((y6 = false → (((decide (y5 = 45)) = false → (I64 (a1 + 1) ∧ (A83 a0 (a1 + 1) (fun y7 => K y7)))) ∧ ((decide (y5 = 45)) = true → K true))) ∧ (y6 = true → K true)))))))))))

def C_k_nameStarts (A81 : T_k_byteAt) (A82 : T_c_StartsName) (A83 : T_k_eSt) : CallT sg := tab [(81, con [none, none] (q_k_byteAt A81)), (82, con [none] (q_c_StartsName A82)), (83, con [none, none] (q_k_eSt A83))]
theorem Cok_k_nameStarts (A81 : T_k_byteAt) (A82 : T_c_StartsName) (A83 : T_k_eSt) (h81 : FO ro 81 (q_k_byteAt A81)) (h82 : FO ro 82 (q_c_StartsName A82)) (h83 : FO ro 83 (q_k_eSt A83)) (o0 : Nat → Prop) : CalOK sy Tryz.prog GT (ovD ro) o0 ro (C_k_nameStarts A81 A82 A83) := (tab_cons (con_ok h81) (tab_cons (con_ok h82) (tab_cons (con_ok h83) tab_nil))) o0

theorem raw_k_nameStarts (A81 : T_k_byteAt) (A82 : T_c_StartsName) (A83 : T_k_eSt) (a0 : Bt) (a1 : Int) (k : W → Prop) : fnT sy Tryz.prog GT (C_k_nameStarts A81 A82 A83) noL Tryz.f45.ntmps (bodyOf Tryz.f45) [none] Tryz.f45.results.toList [.s a0, .i .i64 a1] k = F_k_nameStarts A81 A82 A83 a0 a1 (fun r0 => k (.b r0)) := by kernel_rfl

theorem ok_k_nameStarts (A81 : T_k_byteAt) (A82 : T_c_StartsName) (A83 : T_k_eSt) (h81 : FO ro 81 (q_k_byteAt A81)) (h82 : FO ro 82 (q_c_StartsName A82)) (h83 : FO ro 83 (q_k_eSt A83)) : FO ro 45 (q_k_nameStarts (F_k_nameStarts A81 A82 A83)) := (fn_ok (rc := [none]) (f := 45) (fn := Tryz.f45) (c := bodyOf Tryz.f45) (nt := Tryz.f45.ntmps) (res := Tryz.f45.results.toList) (C := C_k_nameStarts A81 A82 A83) (L := noL) (fun _ _ => rfl) Tryz.func45 (by kernel_rfl) rfl rfl (Cok_k_nameStarts A81 A82 A83 h81 h82 h83) (lp_of (l := []) (by kernel_rfl) lp_nil)).weak (by
  intro us k h
  unfold q_k_nameStarts at h
  split at h
  · skip
    rename_i a0 a1
    rw [raw_k_nameStarts A81 A82 A83 a0 a1 k]
    exact h
  · exact h.elim)

abbrev T_c_IsOfName := Int → (Bool → Prop) → Prop
def q_c_IsOfName (A : T_c_IsOfName) (us : List W) (k : W → Prop) : Prop := match us with
  | [.i .u8 a0] => A a0 (fun r0 => k (.b r0))
  | _ => False
theorem q_c_IsOfName_weak {A A2 : T_c_IsOfName} (h : FO ro 104 (q_c_IsOfName A)) (hA : ∀ a0 K, A2 a0 K → A a0 K) : FO ro 104 (q_c_IsOfName A2) := h.weak (by
  intro us k h
  unfold q_c_IsOfName at h ⊢
  split at h
  · exact hA _ _ h
  · exact h.elim)

def F_c_IsOfName (A82 : T_c_StartsName) (A87 : T_c_IsDigit) (a0 : Int) (K : Bool → Prop) : Prop :=
  (A82 a0 (fun y1 => ((y1 = false → (A87 a0 (fun y2 => ((y2 = false → K (decide (a0 = 45))) ∧ (y2 = true → K true))))) ∧ (y1 = true → K true))))

def C_c_IsOfName (A82 : T_c_StartsName) (A87 : T_c_IsDigit) : CallT sg := tab [(82, con [none] (q_c_StartsName A82)), (87, con [none] (q_c_IsDigit A87))]
theorem Cok_c_IsOfName (A82 : T_c_StartsName) (A87 : T_c_IsDigit) (h82 : FO ro 82 (q_c_StartsName A82)) (h87 : FO ro 87 (q_c_IsDigit A87)) (o0 : Nat → Prop) : CalOK sy Tryz.prog GT (ovD ro) o0 ro (C_c_IsOfName A82 A87) := (tab_cons (con_ok h82) (tab_cons (con_ok h87) tab_nil)) o0

theorem raw_c_IsOfName (A82 : T_c_StartsName) (A87 : T_c_IsDigit) (a0 : Int) (k : W → Prop) : fnT sy Tryz.prog GT (C_c_IsOfName A82 A87) noL Tryz.f104.ntmps (bodyOf Tryz.f104) [none] Tryz.f104.results.toList [.i .u8 a0] k = F_c_IsOfName A82 A87 a0 (fun r0 => k (.b r0)) := by kernel_rfl

theorem ok_c_IsOfName (A82 : T_c_StartsName) (A87 : T_c_IsDigit) (h82 : FO ro 82 (q_c_StartsName A82)) (h87 : FO ro 87 (q_c_IsDigit A87)) : FO ro 104 (q_c_IsOfName (F_c_IsOfName A82 A87)) := (fn_ok (rc := [none]) (f := 104) (fn := Tryz.f104) (c := bodyOf Tryz.f104) (nt := Tryz.f104.ntmps) (res := Tryz.f104.results.toList) (C := C_c_IsOfName A82 A87) (L := noL) (fun _ _ => rfl) Tryz.func104 (by kernel_rfl) rfl rfl (Cok_c_IsOfName A82 A87 h82 h87) (lp_of (l := []) (by kernel_rfl) lp_nil)).weak (by
  intro us k h
  unfold q_c_IsOfName at h
  split at h
  · skip
    rename_i a0
    rw [raw_c_IsOfName A82 A87 a0 k]
    exact h
  · exact h.elim)

abbrev T_k_nGO := Bt → Int → (Bool → Prop) → Prop
def q_k_nGO (A : T_k_nGO) (us : List W) (k : W → Prop) : Prop := match us with
  | [.s a0, .i .i64 a1] => A a0 a1 (fun r0 => k (.b r0))
  | _ => False
theorem q_k_nGO_weak {A A2 : T_k_nGO} (h : FO ro 84 (q_k_nGO A)) (hA : ∀ a0 a1 K, A2 a0 a1 K → A a0 a1 K) : FO ro 84 (q_k_nGO A2) := h.weak (by
  intro us k h
  unfold q_k_nGO at h ⊢
  split at h
  · exact hA _ _ _ h
  · exact h.elim)

def F_k_nGO (A81 : T_k_byteAt) (A104 : T_c_IsOfName) (A83 : T_k_eSt) (a0 : Bt) (a1 : Int) (K : Bool → Prop) : Prop :=
  (A81 a0 a1 (fun y1 => (A104 y1 (fun y2 => ((y2 = false → (A83 a0 a1 (fun y3 => K y3))) ∧ (y2 = true → K true))))))

def C_k_nGO (A81 : T_k_byteAt) (A104 : T_c_IsOfName) (A83 : T_k_eSt) : CallT sg := tab [(81, con [none, none] (q_k_byteAt A81)), (104, con [none] (q_c_IsOfName A104)), (83, con [none, none] (q_k_eSt A83))]
theorem Cok_k_nGO (A81 : T_k_byteAt) (A104 : T_c_IsOfName) (A83 : T_k_eSt) (h81 : FO ro 81 (q_k_byteAt A81)) (h104 : FO ro 104 (q_c_IsOfName A104)) (h83 : FO ro 83 (q_k_eSt A83)) (o0 : Nat → Prop) : CalOK sy Tryz.prog GT (ovD ro) o0 ro (C_k_nGO A81 A104 A83) := (tab_cons (con_ok h81) (tab_cons (con_ok h104) (tab_cons (con_ok h83) tab_nil))) o0

theorem raw_k_nGO (A81 : T_k_byteAt) (A104 : T_c_IsOfName) (A83 : T_k_eSt) (a0 : Bt) (a1 : Int) (k : W → Prop) : fnT sy Tryz.prog GT (C_k_nGO A81 A104 A83) noL Tryz.f84.ntmps (bodyOf Tryz.f84) [none] Tryz.f84.results.toList [.s a0, .i .i64 a1] k = F_k_nGO A81 A104 A83 a0 a1 (fun r0 => k (.b r0)) := by kernel_rfl

theorem ok_k_nGO (A81 : T_k_byteAt) (A104 : T_c_IsOfName) (A83 : T_k_eSt) (h81 : FO ro 81 (q_k_byteAt A81)) (h104 : FO ro 104 (q_c_IsOfName A104)) (h83 : FO ro 83 (q_k_eSt A83)) : FO ro 84 (q_k_nGO (F_k_nGO A81 A104 A83)) := (fn_ok (rc := [none]) (f := 84) (fn := Tryz.f84) (c := bodyOf Tryz.f84) (nt := Tryz.f84.ntmps) (res := Tryz.f84.results.toList) (C := C_k_nGO A81 A104 A83) (L := noL) (fun _ _ => rfl) Tryz.func84 (by kernel_rfl) rfl rfl (Cok_k_nGO A81 A104 A83 h81 h104 h83) (lp_of (l := []) (by kernel_rfl) lp_nil)).weak (by
  intro us k h
  unfold q_k_nGO at h
  split at h
  · skip
    rename_i a0 a1
    rw [raw_k_nGO A81 A104 A83 a0 a1 k]
    exact h
  · exact h.elim)

abbrev T_c_IsSpace := Int → (Bool → Prop) → Prop
def q_c_IsSpace (A : T_c_IsSpace) (us : List W) (k : W → Prop) : Prop := match us with
  | [.i .u8 a0] => A a0 (fun r0 => k (.b r0))
  | _ => False
theorem q_c_IsSpace_weak {A A2 : T_c_IsSpace} (h : FO ro 97 (q_c_IsSpace A)) (hA : ∀ a0 K, A2 a0 K → A a0 K) : FO ro 97 (q_c_IsSpace A2) := h.weak (by
  intro us k h
  unfold q_c_IsSpace at h ⊢
  split at h
  · exact hA _ _ h
  · exact h.elim)

def F_c_IsSpace (a0 : Int) (K : Bool → Prop) : Prop :=
  (((decide (a0 = 10)) = false → (((decide (a0 = 9)) = false → K (decide (a0 = 32))) ∧ ((decide (a0 = 9)) = true → K true))) ∧ ((decide (a0 = 10)) = true → K true))

def C_c_IsSpace : CallT sg := tab []
theorem Cok_c_IsSpace (o0 : Nat → Prop) : CalOK sy Tryz.prog GT (ovD ro) o0 ro (C_c_IsSpace) := tab_nil o0

theorem raw_c_IsSpace (a0 : Int) (k : W → Prop) : fnT sy Tryz.prog GT (C_c_IsSpace) noL Tryz.f97.ntmps (bodyOf Tryz.f97) [none] Tryz.f97.results.toList [.i .u8 a0] k = F_c_IsSpace a0 (fun r0 => k (.b r0)) := by kernel_rfl

theorem ok_c_IsSpace : FO ro 97 (q_c_IsSpace (F_c_IsSpace)) := (fn_ok (rc := [none]) (f := 97) (fn := Tryz.f97) (c := bodyOf Tryz.f97) (nt := Tryz.f97.ntmps) (res := Tryz.f97.results.toList) (C := C_c_IsSpace) (L := noL) (fun _ _ => rfl) Tryz.func97 (by kernel_rfl) rfl rfl (Cok_c_IsSpace) (lp_of (l := []) (by kernel_rfl) lp_nil)).weak (by
  intro us k h
  unfold q_c_IsSpace at h
  split at h
  · skip
    rename_i a0
    rw [raw_c_IsSpace a0 k]
    exact h
  · exact h.elim)

abbrev T_c_IsQuote := Int → (Bool → Prop) → Prop
def q_c_IsQuote (A : T_c_IsQuote) (us : List W) (k : W → Prop) : Prop := match us with
  | [.i .u8 a0] => A a0 (fun r0 => k (.b r0))
  | _ => False
theorem q_c_IsQuote_weak {A A2 : T_c_IsQuote} (h : FO ro 98 (q_c_IsQuote A)) (hA : ∀ a0 K, A2 a0 K → A a0 K) : FO ro 98 (q_c_IsQuote A2) := h.weak (by
  intro us k h
  unfold q_c_IsQuote at h ⊢
  split at h
  · exact hA _ _ h
  · exact h.elim)

def F_c_IsQuote (a0 : Int) (K : Bool → Prop) : Prop :=
  (((decide (a0 = 34)) = false → K (decide (a0 = 39))) ∧ ((decide (a0 = 34)) = true → K true))

def C_c_IsQuote : CallT sg := tab []
theorem Cok_c_IsQuote (o0 : Nat → Prop) : CalOK sy Tryz.prog GT (ovD ro) o0 ro (C_c_IsQuote) := tab_nil o0

theorem raw_c_IsQuote (a0 : Int) (k : W → Prop) : fnT sy Tryz.prog GT (C_c_IsQuote) noL Tryz.f98.ntmps (bodyOf Tryz.f98) [none] Tryz.f98.results.toList [.i .u8 a0] k = F_c_IsQuote a0 (fun r0 => k (.b r0)) := by kernel_rfl

theorem ok_c_IsQuote : FO ro 98 (q_c_IsQuote (F_c_IsQuote)) := (fn_ok (rc := [none]) (f := 98) (fn := Tryz.f98) (c := bodyOf Tryz.f98) (nt := Tryz.f98.ntmps) (res := Tryz.f98.results.toList) (C := C_c_IsQuote) (L := noL) (fun _ _ => rfl) Tryz.func98 (by kernel_rfl) rfl rfl (Cok_c_IsQuote) (lp_of (l := []) (by kernel_rfl) lp_nil)).weak (by
  intro us k h
  unfold q_c_IsQuote at h
  split at h
  · skip
    rename_i a0
    rw [raw_c_IsQuote a0 k]
    exact h
  · exact h.elim)

abbrev T_k_bSp := Bt → Int → (Int → Prop) → Prop
def q_k_bSp (A : T_k_bSp) (us : List W) (k : W → Prop) : Prop := match us with
  | [.s a0, .i .i64 a1] => A a0 a1 (fun r0 => k (.i .i64 r0))
  | _ => False
theorem q_k_bSp_weak {A A2 : T_k_bSp} (h : FO ro 117 (q_k_bSp A)) (hA : ∀ a0 a1 K, A2 a0 a1 K → A a0 a1 K) : FO ro 117 (q_k_bSp A2) := h.weak (by
  intro us k h
  unfold q_k_bSp at h ⊢
  split at h
  · exact hA _ _ _ h
  · exact h.elim)

def F_k_bSp_l1 (A81 : T_k_byteAt) (A97 : T_c_IsSpace) : Nat → Bt → Int → (Int → Prop) → Prop
  | 0, _, _, _ => False
  | n + 1, x0, x1, Ke => (A81 x0 x1 (fun y1 => (A97 y1 (fun y2 => ((y2 = true → (I64 (x1 + 1) ∧ F_k_bSp_l1 A81 A97 n x0 (x1 + 1) Ke)) ∧ (y2 = false → Ke x1))))))

def F_k_bSp (A81 : T_k_byteAt) (A97 : T_c_IsSpace) (a0 : Bt) (a1 : Int) (K : Int → Prop) : Prop :=
  (∃ m, F_k_bSp_l1 A81 A97 m a0 a1 (fun y1 => K y1))

def C_k_bSp (A81 : T_k_byteAt) (A97 : T_c_IsSpace) : CallT sg := tab [(81, con [none, none] (q_k_byteAt A81)), (97, con [none] (q_c_IsSpace A97))]
theorem Cok_k_bSp (A81 : T_k_byteAt) (A97 : T_c_IsSpace) (h81 : FO ro 81 (q_k_byteAt A81)) (h97 : FO ro 97 (q_c_IsSpace A97)) (o0 : Nat → Prop) : CalOK sy Tryz.prog GT (ovD ro) o0 ro (C_k_bSp A81 A97) := (tab_cons (con_ok h81) (tab_cons (con_ok h97) tab_nil)) o0

def ls_k_bSp_1 : LS sy ((Bt) × Int × Unit) Unit := ⟨[], fCons 0 (vStr sy) (fCons 1 (vInt sy .i64) (fNil sy)), hNil sy, 0, []⟩
def le_k_bSp_1 : LS sy (Int × Unit) Unit := ⟨[], fCons 1 (vInt sy .i64) (fNil sy), hNil sy, 0, []⟩
def lr_k_bSp_1 : LS sy Unit Unit := ⟨[], fNil sy, hNil sy, 0, []⟩
def FF_k_bSp_1 (A81 : T_k_byteAt) (A97 : T_c_IsSpace) (n : Nat) (x : ((Bt) × Int × Unit) × Unit) (K : Ex → Z sg → Prop) : Prop := F_k_bSp_l1 A81 A97 n x.1.1 x.1.2.1 (fun y0 => K (.exit 0) (le_k_bSp_1.put ((y0, ()), ())))
def h_k_bSp_1 (A81 : T_k_byteAt) (A97 : T_c_IsSpace) (z : Z sg) (K : Ex → Z sg → Prop) : Prop := ls_k_bSp_1.get z (fun x => ∃ n, FF_k_bSp_1 A81 A97 n x K)
def L_k_bSp (A81 : T_k_byteAt) (A97 : T_c_IsSpace) : LoopT sg := tabL [(1, h_k_bSp_1 A81 A97)]
theorem hs_k_bSp_1 (A81 : T_k_byteAt) (A97 : T_c_IsSpace) (n : Nat) (x : ((Bt) × Int × Unit) × Unit) (K : Ex → Z sg → Prop) : forceZ (ls_k_bSp_1.put x) (fun z => sC sy Tryz.prog GT (C_k_bSp A81 A97) (L_k_bSp A81 A97) Tryz.f117.ntmps (nthLoop (bodyOf Tryz.f117) 0) z (rnd ls_k_bSp_1 (czT 0 le_k_bSp_1 lr_k_bSp_1) (fun x => FF_k_bSp_1 A81 A97 n x K) K)) = FF_k_bSp_1 A81 A97 (n + 1) x K := by kernel_rfl
theorem hl_k_bSp_1 (A81 : T_k_byteAt) (A97 : T_c_IsSpace) (z : Z sg) (K : Ex → Z sg → Prop) : (L_k_bSp A81 A97) (nthLoop (bodyOf Tryz.f117) 0) z K = ls_k_bSp_1.get z (fun x => ∃ n, FF_k_bSp_1 A81 A97 n x K) := by kernel_rfl
theorem lo_k_bSp_1 (A81 : T_k_byteAt) (A97 : T_c_IsSpace) (h81 : FO ro 81 (q_k_byteAt A81)) (h97 : FO ro 97 (q_c_IsSpace A97)) : ∀ (o0 : Nat → Prop) (B : Bs sg), B.E.length ≤ 0 → ∀ z K, (L_k_bSp A81 A97) (nthLoop (bodyOf Tryz.f117) 0) z K → Sx.Sem sy Tryz.prog GT (ovD ro) o0 ro Tryz.f117.ntmps B (.loop (nthLoop (bodyOf Tryz.f117) 0)) z K :=
  loop_ok (Cok_k_bSp A81 A97 h81 h97) (lp_of (l := []) (by kernel_rfl) lp_nil) ls_k_bSp_1 (by decide) (czT 0 le_k_bSp_1 lr_k_bSp_1) (fun _ _ hB => czT_ok 0 le_k_bSp_1 lr_k_bSp_1 (Nat.le_trans hB (by decide)) (Nat.le_trans hB (by decide))) (fun _ _ h => h) (hs_k_bSp_1 A81 A97) (hl_k_bSp_1 A81 A97)
theorem Lp_k_bSp (A81 : T_k_byteAt) (A97 : T_c_IsSpace) (h81 : FO ro 81 (q_k_byteAt A81)) (h97 : FO ro 97 (q_c_IsSpace A97)) : LpOK sy Tryz.prog GT (ovD ro) ro (L_k_bSp A81 A97) 0 Tryz.f117.ntmps (bodyOf Tryz.f117) := lp_of (l := [(nthLoop (bodyOf Tryz.f117) 0)]) (by kernel_rfl) (lp_cons (lo_k_bSp_1 A81 A97 h81 h97) lp_nil)


theorem raw_k_bSp (A81 : T_k_byteAt) (A97 : T_c_IsSpace) (a0 : Bt) (a1 : Int) (k : W → Prop) : fnT sy Tryz.prog GT (C_k_bSp A81 A97) (L_k_bSp A81 A97) Tryz.f117.ntmps (bodyOf Tryz.f117) [none] Tryz.f117.results.toList [.s a0, .i .i64 a1] k = F_k_bSp A81 A97 a0 a1 (fun r0 => k (.i .i64 r0)) := by kernel_rfl

theorem ok_k_bSp (A81 : T_k_byteAt) (A97 : T_c_IsSpace) (h81 : FO ro 81 (q_k_byteAt A81)) (h97 : FO ro 97 (q_c_IsSpace A97)) : FO ro 117 (q_k_bSp (F_k_bSp A81 A97)) := (fn_ok (rc := [none]) (f := 117) (fn := Tryz.f117) (c := bodyOf Tryz.f117) (nt := Tryz.f117.ntmps) (res := Tryz.f117.results.toList) (C := C_k_bSp A81 A97) (L := (L_k_bSp A81 A97)) (fun _ _ => rfl) Tryz.func117 (by kernel_rfl) rfl rfl (Cok_k_bSp A81 A97 h81 h97) (Lp_k_bSp A81 A97 h81 h97)).weak (by
  intro us k h
  unfold q_k_bSp at h
  split at h
  · skip
    rename_i a0 a1
    rw [raw_k_bSp A81 A97 a0 a1 k]
    exact h
  · exact h.elim)

abbrev T_gslHPx := Bt → Bt → (Bool → Prop) → Prop
def q_gslHPx (A : T_gslHPx) (us : List W) (k : W → Prop) : Prop := match us with
  | [.s a0, .s a1] => A a0 a1 (fun r0 => k (.b r0))
  | _ => False
theorem q_gslHPx_weak {A A2 : T_gslHPx} (h : FO ro 140 (q_gslHPx A)) (hA : ∀ a0 a1 K, A2 a0 a1 K → A a0 a1 K) : FO ro 140 (q_gslHPx A2) := h.weak (by
  intro us k h
  unfold q_gslHPx at h ⊢
  split at h
  · exact hA _ _ _ h
  · exact h.elim)

def F_gslHPx (a0 : Bt) (a1 : Bt) (K : Bool → Prop) : Prop :=
  (((decide ((a1.length : Int) ≤ (a0.length : Int))) = true → ((0 ≤ (a1.length : Int) ∧ (a1.length : Int) ≤ (a0.length : Int)) ∧ K ((a0.take (a1.length : Int).toNat) == a1))) ∧ ((decide ((a1.length : Int) ≤ (a0.length : Int))) = false → K false))

def C_gslHPx : CallT sg := tab []
theorem Cok_gslHPx (o0 : Nat → Prop) : CalOK sy Tryz.prog GT (ovD ro) o0 ro (C_gslHPx) := tab_nil o0

theorem raw_gslHPx (a0 : Bt) (a1 : Bt) (k : W → Prop) : fnT sy Tryz.prog GT (C_gslHPx) noL Tryz.f140.ntmps (bodyOf Tryz.f140) [none] Tryz.f140.results.toList [.s a0, .s a1] k = F_gslHPx a0 a1 (fun r0 => k (.b r0)) := by kernel_rfl

theorem ok_gslHPx : FO ro 140 (q_gslHPx (F_gslHPx)) := (fn_ok (rc := [none]) (f := 140) (fn := Tryz.f140) (c := bodyOf Tryz.f140) (nt := Tryz.f140.ntmps) (res := Tryz.f140.results.toList) (C := C_gslHPx) (L := noL) (fun _ _ => rfl) Tryz.func140 (by kernel_rfl) rfl rfl (Cok_gslHPx) (lp_of (l := []) (by kernel_rfl) lp_nil)).weak (by
  intro us k h
  unfold q_gslHPx at h
  split at h
  · skip
    rename_i a0 a1
    rw [raw_gslHPx a0 a1 k]
    exact h
  · exact h.elim)

abbrev T_gs_HPx := Bt → Bt → (Bool → Prop) → Prop
def q_gs_HPx (A : T_gs_HPx) (us : List W) (k : W → Prop) : Prop := match us with
  | [.s a0, .s a1] => A a0 a1 (fun r0 => k (.b r0))
  | _ => False
theorem q_gs_HPx_weak {A A2 : T_gs_HPx} (h : FO ro 115 (q_gs_HPx A)) (hA : ∀ a0 a1 K, A2 a0 a1 K → A a0 a1 K) : FO ro 115 (q_gs_HPx A2) := h.weak (by
  intro us k h
  unfold q_gs_HPx at h ⊢
  split at h
  · exact hA _ _ _ h
  · exact h.elim)

def F_gs_HPx (A140 : T_gslHPx) (a0 : Bt) (a1 : Bt) (K : Bool → Prop) : Prop :=
  (A140 a0 a1 (fun y1 => K y1))

def C_gs_HPx (A140 : T_gslHPx) : CallT sg := tab [(140, con [none, none] (q_gslHPx A140))]
theorem Cok_gs_HPx (A140 : T_gslHPx) (h140 : FO ro 140 (q_gslHPx A140)) (o0 : Nat → Prop) : CalOK sy Tryz.prog GT (ovD ro) o0 ro (C_gs_HPx A140) := (tab_cons (con_ok h140) tab_nil) o0

theorem raw_gs_HPx (A140 : T_gslHPx) (a0 : Bt) (a1 : Bt) (k : W → Prop) : fnT sy Tryz.prog GT (C_gs_HPx A140) noL Tryz.f115.ntmps (bodyOf Tryz.f115) [none] Tryz.f115.results.toList [.s a0, .s a1] k = F_gs_HPx A140 a0 a1 (fun r0 => k (.b r0)) := by kernel_rfl

theorem ok_gs_HPx (A140 : T_gslHPx) (h140 : FO ro 140 (q_gslHPx A140)) : FO ro 115 (q_gs_HPx (F_gs_HPx A140)) := (fn_ok (rc := [none]) (f := 115) (fn := Tryz.f115) (c := bodyOf Tryz.f115) (nt := Tryz.f115.ntmps) (res := Tryz.f115.results.toList) (C := C_gs_HPx A140) (L := noL) (fun _ _ => rfl) Tryz.func115 (by kernel_rfl) rfl rfl (Cok_gs_HPx A140 h140) (lp_of (l := []) (by kernel_rfl) lp_nil)).weak (by
  intro us k h
  unfold q_gs_HPx at h
  split at h
  · skip
    rename_i a0 a1
    rw [raw_gs_HPx A140 a0 a1 k]
    exact h
  · exact h.elim)

abbrev T_i_startsWithLineEnd := Bt → (Bool → Prop) → Prop
def q_i_startsWithLineEnd (A : T_i_startsWithLineEnd) (us : List W) (k : W → Prop) : Prop := match us with
  | [.s a0] => A a0 (fun r0 => k (.b r0))
  | _ => False
theorem q_i_startsWithLineEnd_weak {A A2 : T_i_startsWithLineEnd} (h : FO ro 114 (q_i_startsWithLineEnd A)) (hA : ∀ a0 K, A2 a0 K → A a0 K) : FO ro 114 (q_i_startsWithLineEnd A2) := h.weak (by
  intro us k h
  unfold q_i_startsWithLineEnd at h ⊢
  split at h
  · exact hA _ _ h
  · exact h.elim)

def F_i_startsWithLineEnd (a0 : Bt) (K : Bool → Prop) : Prop :=
  (((decide ((0 : Int) < (a0.length : Int))) = true → ((0 ≤ (0 : Int) ∧ (0 : Int) < (a0.length : Int)) ∧ K (decide (((a0.getD 0 0).toNat : Int) = (10 : Int))))) ∧ ((decide ((0 : Int) < (a0.length : Int))) = false → K false))

def C_i_startsWithLineEnd : CallT sg := tab []
theorem Cok_i_startsWithLineEnd (o0 : Nat → Prop) : CalOK sy Tryz.prog GT (ovD ro) o0 ro (C_i_startsWithLineEnd) := tab_nil o0

theorem raw_i_startsWithLineEnd (a0 : Bt) (k : W → Prop) : fnT sy Tryz.prog GT (C_i_startsWithLineEnd) noL Tryz.f114.ntmps (bodyOf Tryz.f114) [none] Tryz.f114.results.toList [.s a0] k = F_i_startsWithLineEnd a0 (fun r0 => k (.b r0)) := by kernel_rfl

theorem ok_i_startsWithLineEnd : FO ro 114 (q_i_startsWithLineEnd (F_i_startsWithLineEnd)) := (fn_ok (rc := [none]) (f := 114) (fn := Tryz.f114) (c := bodyOf Tryz.f114) (nt := Tryz.f114.ntmps) (res := Tryz.f114.results.toList) (C := C_i_startsWithLineEnd) (L := noL) (fun _ _ => rfl) Tryz.func114 (by kernel_rfl) rfl rfl (Cok_i_startsWithLineEnd) (lp_of (l := []) (by kernel_rfl) lp_nil)).weak (by
  intro us k h
  unfold q_i_startsWithLineEnd at h
  split at h
  · skip
    rename_i a0
    rw [raw_i_startsWithLineEnd a0 k]
    exact h
  · exact h.elim)

abbrev T_i_Clean := Bt → (Bt → Int → Prop) → Prop
def q_i_Clean (A : T_i_Clean) (us : List W) (k : W → Prop) : Prop := match us with
  | [.s a0] => A a0 (fun r0 r1 => k (.t [.s r0, .i .i64 r1]))
  | _ => False
theorem q_i_Clean_weak {A A2 : T_i_Clean} (h : FO ro 78 (q_i_Clean A)) (hA : ∀ a0 K, A2 a0 K → A a0 K) : FO ro 78 (q_i_Clean A2) := h.weak (by
  intro us k h
  unfold q_i_Clean at h ⊢
  split at h
  · exact hA _ _ h
  · exact h.elim)

def F_i_Clean_l5 (A114 : T_i_startsWithLineEnd) : Nat → Bt → Int → Bt → (Bt → Prop) → Prop
  | 0, _, _, _, _ => False
  | n + 1, x0, x5, b0, Ke => (((decide (x5 < (x0.length : Int))) = true → ((0 ≤ x5 ∧ x5 < (x0.length : Int)) ∧ (((decide (((x0.getD x5.toNat 0).toNat : Int) = (0 : Int))) = true → ((b0.length + ([239, 191, 189] : Bt).length) * 1 ≤ 1099511627776 ∧ (I64 (x5 + 1) ∧ F_i_Clean_l5 A114 n x0 (x5 + 1) (b0 ++ ([239, 191, 189] : Bt)) Ke))) ∧ ((decide (((x0.getD x5.toNat 0).toNat : Int) = (0 : Int))) = false → (((decide (((x0.getD x5.toNat 0).toNat : Int) = (12 : Int))) = true → ((0 ≤ (10 : Int) ∧ (10 : Int) ≤ 255) ∧ ((b0.length + [UInt8.ofNat 10].length) * 1 ≤ 1099511627776 ∧ (I64 (x5 + 1) ∧ F_i_Clean_l5 A114 n x0 (x5 + 1) (b0 ++ [UInt8.ofNat 10]) Ke)))) ∧ ((decide (((x0.getD x5.toNat 0).toNat : Int) = (12 : Int))) = false → (((decide (((x0.getD x5.toNat 0).toNat : Int) = (13 : Int))) = true → (I64 (x5 + 1) ∧ ((0 ≤ (x5 + 1) ∧ (x5 + 1) ≤ (x0.length : Int)) ∧ (A114 (x0.drop (x5 + 1).toNat) (fun y1 => (((!y1) = true → ((0 ≤ (10 : Int) ∧ (10 : Int) ≤ 255) ∧ ((b0.length + [UInt8.ofNat 10].length) * 1 ≤ 1099511627776 ∧ (I64 (x5 + 1) ∧ F_i_Clean_l5 A114 n x0 (x5 + 1) (b0 ++ [UInt8.ofNat 10]) Ke)))) ∧ ((!y1) = false → (I64 (x5 + 1) ∧ F_i_Clean_l5 A114 n x0 (x5 + 1) b0 Ke)))))))) ∧ ((decide (((x0.getD x5.toNat 0).toNat : Int) = (13 : Int))) = false → ((0 ≤ x5 ∧ x5 < (x0.length : Int)) ∧ ((0 ≤ ((x0.getD x5.toNat 0).toNat : Int) ∧ ((x0.getD x5.toNat 0).toNat : Int) ≤ 255) ∧ ((b0.length + [UInt8.ofNat (((x0.getD x5.toNat 0).toNat : Int).toNat)].length) * 1 ≤ 1099511627776 ∧ (I64 (x5 + 1) ∧ F_i_Clean_l5 A114 n x0 (x5 + 1) (b0 ++ [UInt8.ofNat (((x0.getD x5.toNat 0).toNat : Int).toNat)]) Ke)))))))))))) ∧ ((decide (x5 < (x0.length : Int))) = false → Ke b0))

def F_i_Clean (A114 : T_i_startsWithLineEnd) (a0 : Bt) (K : Bt → Int → Prop) : Prop :=
  (((decide ((4000 : Int) < (a0.length : Int))) = true → K ([] : Bt) (28 : Int)) ∧ ((decide ((4000 : Int) < (a0.length : Int))) = false → ((0 ≤ (0 : Int) ∧ (0 : Int) ≤ (a0.length : Int) ∧ 1 * (a0.length : Int) ≤ 1099511627776 ∧ (a0.length : Int) ≤ 1099511627776) ∧ ((0 ≤ (0 : Int) ∧ (0 : Int) ≤ 255) ∧ (∃ m, F_i_Clean_l5 A114 m a0 (0 : Int) (List.replicate 0 (UInt8.ofNat 0)) (fun y1 => K y1 (0 : Int)))))))

def C_i_Clean (A114 : T_i_startsWithLineEnd) : CallT sg := tab [(114, con [none] (q_i_startsWithLineEnd A114))]
theorem Cok_i_Clean (A114 : T_i_startsWithLineEnd) (h114 : FO ro 114 (q_i_startsWithLineEnd A114)) (o0 : Nat → Prop) : CalOK sy Tryz.prog GT (ovD ro) o0 ro (C_i_Clean A114) := (tab_cons (con_ok h114) tab_nil) o0

def ls_i_Clean_5 : LS sy ((Bt) × Unit × Int × Unit) (List (sg.Den Cd.u8) × Unit) := ⟨[], fCons 0 (vStr sy) (fCons 4 (vLit sy (.o 0)) (fCons 5 (vInt sy .i64) (fNil sy))), hBuf 0 Cd.u8 (hNil sy), 1, [0]⟩
def le_i_Clean_5 : LS sy (Unit × Unit) (List (sg.Den Cd.u8) × Unit) := ⟨[], fCons 4 (vLit sy (.o 0)) (fNil sy), hBuf 0 Cd.u8 (hNil sy), 1, [0]⟩
def lr_i_Clean_5 : LS sy Unit Unit := ⟨[], fNil sy, hNil sy, 0, []⟩
def FF_i_Clean_5 (A114 : T_i_startsWithLineEnd) (n : Nat) (x : ((Bt) × Unit × Int × Unit) × (List (sg.Den Cd.u8) × Unit)) (K : Ex → Z sg → Prop) : Prop := F_i_Clean_l5 A114 n x.1.1 x.1.2.2.1 x.2.1 (fun y0 => K (.exit 0) (le_i_Clean_5.put (((), ()), (y0, ()))))
def h_i_Clean_5 (A114 : T_i_startsWithLineEnd) (z : Z sg) (K : Ex → Z sg → Prop) : Prop := ls_i_Clean_5.get z (fun x => ∃ n, FF_i_Clean_5 A114 n x K)
def L_i_Clean (A114 : T_i_startsWithLineEnd) : LoopT sg := tabL [(5, h_i_Clean_5 A114)]
theorem hs_i_Clean_5 (A114 : T_i_startsWithLineEnd) (n : Nat) (x : ((Bt) × Unit × Int × Unit) × (List (sg.Den Cd.u8) × Unit)) (K : Ex → Z sg → Prop) : forceZ (ls_i_Clean_5.put x) (fun z => sC sy Tryz.prog GT (C_i_Clean A114) (L_i_Clean A114) Tryz.f78.ntmps (nthLoop (bodyOf Tryz.f78) 0) z (rnd ls_i_Clean_5 (czT 0 le_i_Clean_5 lr_i_Clean_5) (fun x => FF_i_Clean_5 A114 n x K) K)) = FF_i_Clean_5 A114 (n + 1) x K := by kernel_rfl
theorem hl_i_Clean_5 (A114 : T_i_startsWithLineEnd) (z : Z sg) (K : Ex → Z sg → Prop) : (L_i_Clean A114) (nthLoop (bodyOf Tryz.f78) 0) z K = ls_i_Clean_5.get z (fun x => ∃ n, FF_i_Clean_5 A114 n x K) := by kernel_rfl
theorem lo_i_Clean_5 (A114 : T_i_startsWithLineEnd) (h114 : FO ro 114 (q_i_startsWithLineEnd A114)) : ∀ (o0 : Nat → Prop) (B : Bs sg), B.E.length ≤ 0 → ∀ z K, (L_i_Clean A114) (nthLoop (bodyOf Tryz.f78) 0) z K → Sx.Sem sy Tryz.prog GT (ovD ro) o0 ro Tryz.f78.ntmps B (.loop (nthLoop (bodyOf Tryz.f78) 0)) z K :=
  loop_ok (Cok_i_Clean A114 h114) (lp_of (l := []) (by kernel_rfl) lp_nil) ls_i_Clean_5 (by decide) (czT 0 le_i_Clean_5 lr_i_Clean_5) (fun _ _ hB => czT_ok 0 le_i_Clean_5 lr_i_Clean_5 (Nat.le_trans hB (by decide)) (Nat.le_trans hB (by decide))) (fun _ _ h => h) (hs_i_Clean_5 A114) (hl_i_Clean_5 A114)
theorem Lp_i_Clean (A114 : T_i_startsWithLineEnd) (h114 : FO ro 114 (q_i_startsWithLineEnd A114)) : LpOK sy Tryz.prog GT (ovD ro) ro (L_i_Clean A114) 0 Tryz.f78.ntmps (bodyOf Tryz.f78) := lp_of (l := [(nthLoop (bodyOf Tryz.f78) 0)]) (by kernel_rfl) (lp_cons (lo_i_Clean_5 A114 h114) lp_nil)


theorem raw_i_Clean (A114 : T_i_startsWithLineEnd) (a0 : Bt) (k : W → Prop) : fnT sy Tryz.prog GT (C_i_Clean A114) (L_i_Clean A114) Tryz.f78.ntmps (bodyOf Tryz.f78) [none, none] Tryz.f78.results.toList [.s a0] k = F_i_Clean A114 a0 (fun r0 r1 => k (.t [.s r0, .i .i64 r1])) := by kernel_rfl

theorem ok_i_Clean (A114 : T_i_startsWithLineEnd) (h114 : FO ro 114 (q_i_startsWithLineEnd A114)) : FO ro 78 (q_i_Clean (F_i_Clean A114)) := (fn_ok (rc := [none, none]) (f := 78) (fn := Tryz.f78) (c := bodyOf Tryz.f78) (nt := Tryz.f78.ntmps) (res := Tryz.f78.results.toList) (C := C_i_Clean A114) (L := (L_i_Clean A114)) (fun _ _ => rfl) Tryz.func78 (by kernel_rfl) rfl rfl (Cok_i_Clean A114 h114) (Lp_i_Clean A114 h114)).weak (by
  intro us k h
  unfold q_i_Clean at h
  split at h
  · skip
    rename_i a0
    rw [raw_i_Clean A114 a0 k]
    exact h
  · exact h.elim)

end Go.Proofs.YtkmgbibhkilffaaGreatDoor
