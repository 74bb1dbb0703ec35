/-
  Progressions, followed. Nothing is claimed here.
-/
import Derived.Test.YtbpbaicbaehhjaaDoorTa
import Derived.Test.YtbpbaicbaehhjaaDoorOb
namespace Go.Proofs.YtbpbaicbaehhjaaDoor
open Go.Vm Go.Sx Go.RowKit
variable {ro : Nat}

def GT : Gl := fun _ => none
def ovD (ro : Nat) : Ov := ovA ro
def noT (_ : List W) (_ : W → Prop) : Prop := False
theorem noT_ok {ro : Nat} (f : FuncId) : FnOK sy Tryd.prog GT (ovD ro) ro f noT := fun _ _ _ h => h.elim

abbrev T_strconv_FormatInt := Int → Int → (List UInt8 → Prop) → Prop
def q_strconv_FormatInt (A : T_strconv_FormatInt) (us : List W) (k : W → Prop) : Prop := match us with
  | [.i .i64 a0, .i .i64 a1] => A a0 a1 (fun r0 => k (.s r0))
  | _ => False
theorem q_strconv_FormatInt_weak {A A2 : T_strconv_FormatInt} (h : FnOK sy Tryd.prog GT (ovD ro) ro 20 (q_strconv_FormatInt A)) (hA : ∀ a0 a1 K, A2 a0 a1 K → A a0 a1 K) : FnOK sy Tryd.prog GT (ovD ro) ro 20 (q_strconv_FormatInt A2) := h.weak (by
  intro us k h
  unfold q_strconv_FormatInt at h ⊢
  split at h
  · exact hA _ _ _ h
  · exact h.elim)

abbrev T_anb_isWithin := Int → (Bool → Prop) → Prop
def q_anb_isWithin (A : T_anb_isWithin) (us : List W) (k : W → Prop) : Prop := match us with
  | [.i .i64 a0] => A a0 (fun r0 => k (.b r0))
  | _ => False
theorem q_anb_isWithin_weak {A A2 : T_anb_isWithin} (h : FnOK sy Tryd.prog GT (ovD ro) ro 19 (q_anb_isWithin A)) (hA : ∀ a0 K, A2 a0 K → A a0 K) : FnOK sy Tryd.prog GT (ovD ro) ro 19 (q_anb_isWithin A2) := h.weak (by
  intro us k h
  unfold q_anb_isWithin at h ⊢
  split at h
  · exact hA _ _ h
  · exact h.elim)

def F_anb_isWithin (a0 : Int) (K : Bool → Prop) : Prop :=
  (((decide ((-1000000000 : Int) ≤ a0)) = true → K (decide (a0 ≤ (1000000000 : Int)))) ∧ ((decide ((-1000000000 : Int) ≤ a0)) = false → K false))

def C_anb_isWithin : CallT sg := tab []
theorem Cok_anb_isWithin (o0 : Nat → Prop) : CalOK sy Tryd.prog GT (ovD ro) o0 ro (C_anb_isWithin) := tab_nil o0

theorem raw_anb_isWithin (a0 : Int) (k : W → Prop) : fnT sy Tryd.prog GT (C_anb_isWithin) noL Tryd.f19.ntmps (bodyOf Tryd.f19) [none] Tryd.f19.results.toList [.i .i64 a0] k = F_anb_isWithin a0 (fun r0 => k (.b r0)) := by kernel_rfl

theorem ok_anb_isWithin : FnOK sy Tryd.prog GT (ovD ro) ro 19 (q_anb_isWithin (F_anb_isWithin)) := (fn_ok (rc := [none]) (f := 19) (fn := Tryd.f19) (c := bodyOf Tryd.f19) (nt := Tryd.f19.ntmps) (res := Tryd.f19.results.toList) (C := C_anb_isWithin) (L := noL) (fun _ _ => rfl) Tryd.func19 (by kernel_rfl) rfl rfl (Cok_anb_isWithin) (lp_of (l := []) (by kernel_rfl) lp_nil)).weak (by
  intro us k h
  unfold q_anb_isWithin at h
  split at h
  · skip
    rename_i a0
    rw [raw_anb_isWithin a0 k]
    exact h
  · exact h.elim)

abbrev T_anb_has := (Int × Int) → Int → (Bool → Prop) → Prop
def q_anb_has (A : T_anb_has) (us : List W) (k : W → Prop) : Prop := match us with
  | [.a [.i .i64 a0_0, .i .i64 a0_1], .i .i64 a1] => A (a0_0, a0_1) a1 (fun r0 => k (.b r0))
  | _ => False
theorem q_anb_has_weak {A A2 : T_anb_has} (h : FnOK sy Tryd.prog GT (ovD ro) ro 12 (q_anb_has A)) (hA : ∀ a0 a1 K, A2 a0 a1 K → A a0 a1 K) : FnOK sy Tryd.prog GT (ovD ro) ro 12 (q_anb_has A2) := h.weak (by
  intro us k h
  unfold q_anb_has at h ⊢
  split at h
  · exact hA _ _ _ h
  · exact h.elim)

def F_anb_has (a0 : (Int × Int)) (a1 : Int) (K : Bool → Prop) : Prop :=
  (I64 (a1 - a0.2) ∧ (((decide (a0.1 = (0 : Int))) = true → K (decide ((a1 - a0.2) = (0 : Int)))) ∧ ((decide (a0.1 = (0 : Int))) = false → (a0.1 ≠ 0 ∧ (((decide (((a1 - a0.2).tmod a0.1) = (0 : Int))) = true → (a0.1 ≠ 0 ∧ (I64 ((a1 - a0.2).tdiv a0.1) ∧ K (decide ((0 : Int) ≤ ((a1 - a0.2).tdiv a0.1)))))) ∧ ((decide (((a1 - a0.2).tmod a0.1) = (0 : Int))) = false → K false))))))

def C_anb_has : CallT sg := tab []
theorem Cok_anb_has (o0 : Nat → Prop) : CalOK sy Tryd.prog GT (ovD ro) o0 ro (C_anb_has) := tab_nil o0

theorem raw_anb_has (a0 : (Int × Int)) (a1 : Int) (k : W → Prop) : fnT sy Tryd.prog GT (C_anb_has) noL Tryd.f12.ntmps (bodyOf Tryd.f12) [none] Tryd.f12.results.toList [.a [.i .i64 a0.1, .i .i64 a0.2], .i .i64 a1] k = F_anb_has a0 a1 (fun r0 => k (.b r0)) := by kernel_rfl

theorem ok_anb_has : FnOK sy Tryd.prog GT (ovD ro) ro 12 (q_anb_has (F_anb_has)) := (fn_ok (rc := [none]) (f := 12) (fn := Tryd.f12) (c := bodyOf Tryd.f12) (nt := Tryd.f12.ntmps) (res := Tryd.f12.results.toList) (C := C_anb_has) (L := noL) (fun _ _ => rfl) Tryd.func12 (by kernel_rfl) rfl rfl (Cok_anb_has) (lp_of (l := []) (by kernel_rfl) lp_nil)).weak (by
  intro us k h
  unfold q_anb_has at h
  split at h
  · skip
    rename_i a0_0 a0_1 a1
    rw [raw_anb_has (a0_0, a0_1) a1 k]
    exact h
  · exact h.elim)

abbrev T_anb_decimal := Int → (List UInt8 → Prop) → Prop
def q_anb_decimal (A : T_anb_decimal) (us : List W) (k : W → Prop) : Prop := match us with
  | [.i .i64 a0] => A a0 (fun r0 => k (.s r0))
  | _ => False
theorem q_anb_decimal_weak {A A2 : T_anb_decimal} (h : FnOK sy Tryd.prog GT (ovD ro) ro 15 (q_anb_decimal A)) (hA : ∀ a0 K, A2 a0 K → A a0 K) : FnOK sy Tryd.prog GT (ovD ro) ro 15 (q_anb_decimal A2) := h.weak (by
  intro us k h
  unfold q_anb_decimal at h ⊢
  split at h
  · exact hA _ _ h
  · exact h.elim)

def F_anb_decimal (A20 : T_strconv_FormatInt) (a0 : Int) (K : List UInt8 → Prop) : Prop :=
  (A20 a0 (10 : Int) (fun y1 => K y1))

def C_anb_decimal (A20 : T_strconv_FormatInt) : CallT sg := tab [(20, con [none, none] (q_strconv_FormatInt A20))]
theorem Cok_anb_decimal (A20 : T_strconv_FormatInt) (h20 : FnOK sy Tryd.prog GT (ovD ro) ro 20 (q_strconv_FormatInt A20)) (o0 : Nat → Prop) : CalOK sy Tryd.prog GT (ovD ro) o0 ro (C_anb_decimal A20) := (tab_cons (con_ok h20) tab_nil) o0

theorem raw_anb_decimal (A20 : T_strconv_FormatInt) (a0 : Int) (k : W → Prop) : fnT sy Tryd.prog GT (C_anb_decimal A20) noL Tryd.f15.ntmps (bodyOf Tryd.f15) [none] Tryd.f15.results.toList [.i .i64 a0] k = F_anb_decimal A20 a0 (fun r0 => k (.s r0)) := by kernel_rfl

theorem ok_anb_decimal (A20 : T_strconv_FormatInt) (h20 : FnOK sy Tryd.prog GT (ovD ro) ro 20 (q_strconv_FormatInt A20)) : FnOK sy Tryd.prog GT (ovD ro) ro 15 (q_anb_decimal (F_anb_decimal A20)) := (fn_ok (rc := [none]) (f := 15) (fn := Tryd.f15) (c := bodyOf Tryd.f15) (nt := Tryd.f15.ntmps) (res := Tryd.f15.results.toList) (C := C_anb_decimal A20) (L := noL) (fun _ _ => rfl) Tryd.func15 (by kernel_rfl) rfl rfl (Cok_anb_decimal A20 h20) (lp_of (l := []) (by kernel_rfl) lp_nil)).weak (by
  intro us k h
  unfold q_anb_decimal at h
  split at h
  · skip
    rename_i a0
    rw [raw_anb_decimal A20 a0 k]
    exact h
  · exact h.elim)

abbrev T_anb_factor := Int → (List UInt8 → Prop) → Prop
def q_anb_factor (A : T_anb_factor) (us : List W) (k : W → Prop) : Prop := match us with
  | [.i .i64 a0] => A a0 (fun r0 => k (.s r0))
  | _ => False
theorem q_anb_factor_weak {A A2 : T_anb_factor} (h : FnOK sy Tryd.prog GT (ovD ro) ro 16 (q_anb_factor A)) (hA : ∀ a0 K, A2 a0 K → A a0 K) : FnOK sy Tryd.prog GT (ovD ro) ro 16 (q_anb_factor A2) := h.weak (by
  intro us k h
  unfold q_anb_factor at h ⊢
  split at h
  · exact hA _ _ h
  · exact h.elim)

def F_anb_factor (A15 : T_anb_decimal) (a0 : Int) (K : List UInt8 → Prop) : Prop :=
  (((decide (a0 = (1 : Int))) = true → K ([] : List UInt8)) ∧ ((decide (a0 = (1 : Int))) = false → (((decide (a0 = (-1 : Int))) = true → K ([45] : List UInt8)) ∧ ((decide (a0 = (-1 : Int))) = false → (A15 a0 (fun y1 => K y1))))))

def C_anb_factor (A15 : T_anb_decimal) : CallT sg := tab [(15, con [none] (q_anb_decimal A15))]
theorem Cok_anb_factor (A15 : T_anb_decimal) (h15 : FnOK sy Tryd.prog GT (ovD ro) ro 15 (q_anb_decimal A15)) (o0 : Nat → Prop) : CalOK sy Tryd.prog GT (ovD ro) o0 ro (C_anb_factor A15) := (tab_cons (con_ok h15) tab_nil) o0

theorem raw_anb_factor (A15 : T_anb_decimal) (a0 : Int) (k : W → Prop) : fnT sy Tryd.prog GT (C_anb_factor A15) noL Tryd.f16.ntmps (bodyOf Tryd.f16) [none] Tryd.f16.results.toList [.i .i64 a0] k = F_anb_factor A15 a0 (fun r0 => k (.s r0)) := by kernel_rfl

theorem ok_anb_factor (A15 : T_anb_decimal) (h15 : FnOK sy Tryd.prog GT (ovD ro) ro 15 (q_anb_decimal A15)) : FnOK sy Tryd.prog GT (ovD ro) ro 16 (q_anb_factor (F_anb_factor A15)) := (fn_ok (rc := [none]) (f := 16) (fn := Tryd.f16) (c := bodyOf Tryd.f16) (nt := Tryd.f16.ntmps) (res := Tryd.f16.results.toList) (C := C_anb_factor A15) (L := noL) (fun _ _ => rfl) Tryd.func16 (by kernel_rfl) rfl rfl (Cok_anb_factor A15 h15) (lp_of (l := []) (by kernel_rfl) lp_nil)).weak (by
  intro us k h
  unfold q_anb_factor at h
  split at h
  · skip
    rename_i a0
    rw [raw_anb_factor A15 a0 k]
    exact h
  · exact h.elim)

abbrev T_anb_addend := Int → (List UInt8 → Prop) → Prop
def q_anb_addend (A : T_anb_addend) (us : List W) (k : W → Prop) : Prop := match us with
  | [.i .i64 a0] => A a0 (fun r0 => k (.s r0))
  | _ => False
theorem q_anb_addend_weak {A A2 : T_anb_addend} (h : FnOK sy Tryd.prog GT (ovD ro) ro 17 (q_anb_addend A)) (hA : ∀ a0 K, A2 a0 K → A a0 K) : FnOK sy Tryd.prog GT (ovD ro) ro 17 (q_anb_addend A2) := h.weak (by
  intro us k h
  unfold q_anb_addend at h ⊢
  split at h
  · exact hA _ _ h
  · exact h.elim)

def F_anb_addend (A15 : T_anb_decimal) (a0 : Int) (K : List UInt8 → Prop) : Prop :=
  (((decide (a0 = (0 : Int))) = true → K ([] : List UInt8)) ∧ ((decide (a0 = (0 : Int))) = false → (((decide ((0 : Int) < a0)) = true → (A15 a0 (fun y1 => (([43] : List UInt8).length + y1.length ≤ 1099511627776 ∧ K (([43] : List UInt8) ++ y1))))) ∧ ((decide ((0 : Int) < a0)) = false → (A15 a0 (fun y2 => K y2))))))

def C_anb_addend (A15 : T_anb_decimal) : CallT sg := tab [(15, con [none] (q_anb_decimal A15))]
theorem Cok_anb_addend (A15 : T_anb_decimal) (h15 : FnOK sy Tryd.prog GT (ovD ro) ro 15 (q_anb_decimal A15)) (o0 : Nat → Prop) : CalOK sy Tryd.prog GT (ovD ro) o0 ro (C_anb_addend A15) := (tab_cons (con_ok h15) tab_nil) o0

theorem raw_anb_addend (A15 : T_anb_decimal) (a0 : Int) (k : W → Prop) : fnT sy Tryd.prog GT (C_anb_addend A15) noL Tryd.f17.ntmps (bodyOf Tryd.f17) [none] Tryd.f17.results.toList [.i .i64 a0] k = F_anb_addend A15 a0 (fun r0 => k (.s r0)) := by kernel_rfl

theorem ok_anb_addend (A15 : T_anb_decimal) (h15 : FnOK sy Tryd.prog GT (ovD ro) ro 15 (q_anb_decimal A15)) : FnOK sy Tryd.prog GT (ovD ro) ro 17 (q_anb_addend (F_anb_addend A15)) := (fn_ok (rc := [none]) (f := 17) (fn := Tryd.f17) (c := bodyOf Tryd.f17) (nt := Tryd.f17.ntmps) (res := Tryd.f17.results.toList) (C := C_anb_addend A15) (L := noL) (fun _ _ => rfl) Tryd.func17 (by kernel_rfl) rfl rfl (Cok_anb_addend A15 h15) (lp_of (l := []) (by kernel_rfl) lp_nil)).weak (by
  intro us k h
  unfold q_anb_addend at h
  split at h
  · skip
    rename_i a0
    rw [raw_anb_addend A15 a0 k]
    exact h
  · exact h.elim)

abbrev T_anb_Check := (Int × Int) → (Int → Prop) → Prop
def q_anb_Check (A : T_anb_Check) (us : List W) (k : W → Prop) : Prop := match us with
  | [.a [.i .i64 a0_0, .i .i64 a0_1]] => A (a0_0, a0_1) (fun r0 => k (.i .i64 r0))
  | _ => False
theorem q_anb_Check_weak {A A2 : T_anb_Check} (h : FnOK sy Tryd.prog GT (ovD ro) ro 10 (q_anb_Check A)) (hA : ∀ a0 K, A2 a0 K → A a0 K) : FnOK sy Tryd.prog GT (ovD ro) ro 10 (q_anb_Check A2) := h.weak (by
  intro us k h
  unfold q_anb_Check at h ⊢
  split at h
  · exact hA _ _ h
  · exact h.elim)

def F_anb_Check (A19 : T_anb_isWithin) (a0 : (Int × Int)) (K : Int → Prop) : Prop :=
  (A19 a0.1 (fun y1 => (((!y1) = false → (A19 a0.2 (fun y2 => (((!y2) = true → K (8 : Int)) ∧ ((!y2) = false → K (0 : Int)))))) ∧ ((!y1) = true → K (8 : Int)))))

def C_anb_Check (A19 : T_anb_isWithin) : CallT sg := tab [(19, con [none] (q_anb_isWithin A19))]
theorem Cok_anb_Check (A19 : T_anb_isWithin) (h19 : FnOK sy Tryd.prog GT (ovD ro) ro 19 (q_anb_isWithin A19)) (o0 : Nat → Prop) : CalOK sy Tryd.prog GT (ovD ro) o0 ro (C_anb_Check A19) := (tab_cons (con_ok h19) tab_nil) o0

theorem raw_anb_Check (A19 : T_anb_isWithin) (a0 : (Int × Int)) (k : W → Prop) : fnT sy Tryd.prog GT (C_anb_Check A19) noL Tryd.f10.ntmps (bodyOf Tryd.f10) [none] Tryd.f10.results.toList [.a [.i .i64 a0.1, .i .i64 a0.2]] k = F_anb_Check A19 a0 (fun r0 => k (.i .i64 r0)) := by kernel_rfl

theorem ok_anb_Check (A19 : T_anb_isWithin) (h19 : FnOK sy Tryd.prog GT (ovD ro) ro 19 (q_anb_isWithin A19)) : FnOK sy Tryd.prog GT (ovD ro) ro 10 (q_anb_Check (F_anb_Check A19)) := (fn_ok (rc := [none]) (f := 10) (fn := Tryd.f10) (c := bodyOf Tryd.f10) (nt := Tryd.f10.ntmps) (res := Tryd.f10.results.toList) (C := C_anb_Check A19) (L := noL) (fun _ _ => rfl) Tryd.func10 (by kernel_rfl) rfl rfl (Cok_anb_Check A19 h19) (lp_of (l := []) (by kernel_rfl) lp_nil)).weak (by
  intro us k h
  unfold q_anb_Check at h
  split at h
  · skip
    rename_i a0_0 a0_1
    rw [raw_anb_Check A19 (a0_0, a0_1) k]
    exact h
  · exact h.elim)

abbrev T_anb_In := (Int × Int) → Int → (Bool → Int → Prop) → Prop
def q_anb_In (A : T_anb_In) (us : List W) (k : W → Prop) : Prop := match us with
  | [.a [.i .i64 a0_0, .i .i64 a0_1], .i .i64 a1] => A (a0_0, a0_1) a1 (fun r0 r1 => k (.t [.b r0, .i .i64 r1]))
  | _ => False
theorem q_anb_In_weak {A A2 : T_anb_In} (h : FnOK sy Tryd.prog GT (ovD ro) ro 4 (q_anb_In A)) (hA : ∀ a0 a1 K, A2 a0 a1 K → A a0 a1 K) : FnOK sy Tryd.prog GT (ovD ro) ro 4 (q_anb_In A2) := h.weak (by
  intro us k h
  unfold q_anb_In at h ⊢
  split at h
  · exact hA _ _ _ h
  · exact h.elim)

def F_anb_In (A10 : T_anb_Check) (A12 : T_anb_has) (a0 : (Int × Int)) (a1 : Int) (K : Bool → Int → Prop) : Prop :=
  (A10 (a0.1, a0.2) (fun y1 => (((decide (y1 ≠ (0 : Int))) = true → K false y1) ∧ ((decide (y1 ≠ (0 : Int))) = false → (((decide (a1 < (1 : Int))) = false → (((decide ((1000000000 : Int) < a1)) = true → K false (2 : Int)) ∧ ((decide ((1000000000 : Int) < a1)) = false → (A12 (a0.1, a0.2) a1 (fun y2 => K y2 (0 : Int)))))) ∧ ((decide (a1 < (1 : Int))) = true → K false (2 : Int)))))))

def C_anb_In (A10 : T_anb_Check) (A12 : T_anb_has) : CallT sg := tab [(10, con [none] (q_anb_Check A10)), (12, con [none, none] (q_anb_has A12))]
theorem Cok_anb_In (A10 : T_anb_Check) (A12 : T_anb_has) (h10 : FnOK sy Tryd.prog GT (ovD ro) ro 10 (q_anb_Check A10)) (h12 : FnOK sy Tryd.prog GT (ovD ro) ro 12 (q_anb_has A12)) (o0 : Nat → Prop) : CalOK sy Tryd.prog GT (ovD ro) o0 ro (C_anb_In A10 A12) := (tab_cons (con_ok h10) (tab_cons (con_ok h12) tab_nil)) o0

theorem raw_anb_In (A10 : T_anb_Check) (A12 : T_anb_has) (a0 : (Int × Int)) (a1 : Int) (k : W → Prop) : fnT sy Tryd.prog GT (C_anb_In A10 A12) noL Tryd.f4.ntmps (bodyOf Tryd.f4) [none, none] Tryd.f4.results.toList [.a [.i .i64 a0.1, .i .i64 a0.2], .i .i64 a1] k = F_anb_In A10 A12 a0 a1 (fun r0 r1 => k (.t [.b r0, .i .i64 r1])) := by kernel_rfl

theorem ok_anb_In (A10 : T_anb_Check) (A12 : T_anb_has) (h10 : FnOK sy Tryd.prog GT (ovD ro) ro 10 (q_anb_Check A10)) (h12 : FnOK sy Tryd.prog GT (ovD ro) ro 12 (q_anb_has A12)) : FnOK sy Tryd.prog GT (ovD ro) ro 4 (q_anb_In (F_anb_In A10 A12)) := (fn_ok (rc := [none, none]) (f := 4) (fn := Tryd.f4) (c := bodyOf Tryd.f4) (nt := Tryd.f4.ntmps) (res := Tryd.f4.results.toList) (C := C_anb_In A10 A12) (L := noL) (fun _ _ => rfl) Tryd.func4 (by kernel_rfl) rfl rfl (Cok_anb_In A10 A12 h10 h12) (lp_of (l := []) (by kernel_rfl) lp_nil)).weak (by
  intro us k h
  unfold q_anb_In at h
  split at h
  · skip
    rename_i a0_0 a0_1 a1
    rw [raw_anb_In A10 A12 (a0_0, a0_1) a1 k]
    exact h
  · exact h.elim)

abbrev T_anb_All := (Int × Int) → Int → (List Int → Int → Prop) → Prop
def q_anb_All (A : T_anb_All) (us : List W) (k : W → Prop) : Prop := match us with
  | [.a [.i .i64 a0_0, .i .i64 a0_1], .i .i64 a1] => A (a0_0, a0_1) a1 (fun r0 r1 => k (.t [.l Cd.i64 r0, .i .i64 r1]))
  | _ => False
theorem q_anb_All_weak {A A2 : T_anb_All} (h : FnOK sy Tryd.prog GT (ovD ro) ro 6 (q_anb_All A)) (hA : ∀ a0 a1 K, A2 a0 a1 K → A a0 a1 K) : FnOK sy Tryd.prog GT (ovD ro) ro 6 (q_anb_All A2) := h.weak (by
  intro us k h
  unfold q_anb_All at h ⊢
  split at h
  · exact hA _ _ _ h
  · exact h.elim)

def F_anb_All_l8 (A10 : T_anb_Check) (A12 : T_anb_has) : Nat → Int → Int → Int → Int → List Int → (List Int → Prop) → Prop
  | 0, _, _, _, _, _, _ => False
  | n + 1, x1, x8, c0_0, c0_1, b1, Ke => (((decide (x8 ≤ x1)) = true → (A12 (c0_0, c0_1) x8 (fun y1 => ((y1 = true → ((b1.length + [x8].length) * 8 ≤ 1099511627776 ∧ (I64 (x8 + (1 : Int)) ∧ F_anb_All_l8 A10 A12 n x1 (x8 + (1 : Int)) c0_0 c0_1 (b1 ++ [x8]) Ke))) ∧ (y1 = false → (I64 (x8 + (1 : Int)) ∧ F_anb_All_l8 A10 A12 n x1 (x8 + (1 : Int)) c0_0 c0_1 b1 Ke)))))) ∧ ((decide (x8 ≤ x1)) = false → Ke b1))

def F_anb_All (A10 : T_anb_Check) (A12 : T_anb_has) (a0 : (Int × Int)) (a1 : Int) (K : List Int → Int → Prop) : Prop :=
  (A10 (a0.1, a0.2) (fun y1 => (((decide (y1 ≠ (0 : Int))) = true → K ([] : List Int) y1) ∧ ((decide (y1 ≠ (0 : Int))) = false → (((decide (a1 < (0 : Int))) = false → (((decide ((64 : Int) < a1)) = true → K ([] : List Int) (2 : Int)) ∧ ((decide ((64 : Int) < a1)) = false → (∃ m, F_anb_All_l8 A10 A12 m a1 (1 : Int) a0.1 a0.2 ([] : List Int) (fun y2 => K y2 (0 : Int)))))) ∧ ((decide (a1 < (0 : Int))) = true → K ([] : List Int) (2 : Int)))))))

def C_anb_All (A10 : T_anb_Check) (A12 : T_anb_has) : CallT sg := tab [(10, con [none] (q_anb_Check A10)), (12, con [none, none] (q_anb_has A12))]
theorem Cok_anb_All (A10 : T_anb_Check) (A12 : T_anb_has) (h10 : FnOK sy Tryd.prog GT (ovD ro) ro 10 (q_anb_Check A10)) (h12 : FnOK sy Tryd.prog GT (ovD ro) ro 12 (q_anb_has A12)) (o0 : Nat → Prop) : CalOK sy Tryd.prog GT (ovD ro) o0 ro (C_anb_All A10 A12) := (tab_cons (con_ok h10) (tab_cons (con_ok h12) tab_nil)) o0

def ls_anb_All_8 : LS sy (Int × Unit × Unit × Int × Unit) ((Int × Int × Unit) × List (sg.Den Cd.i64) × Unit) := ⟨[.slot 7 1 Cd.i64], fCons 1 (vInt sy .i64) (fCons 2 (vLit sy (.p 0 0)) (fCons 7 (vLit sy (.o 1)) (fCons 8 (vInt sy .i64) (fNil sy)))), hCells 0 (lCons (vInt sy .i64) (lCons (vInt sy .i64) (lNil sy))) (hBuf 1 Cd.i64 (hNil sy)), 2, [1]⟩
def le_anb_All_8 : LS sy (Unit × Unit) (List (sg.Den Cd.i64) × Unit) := ⟨[], fCons 7 (vLit sy (.o 1)) (fNil sy), hBuf 1 Cd.i64 (hNil sy), 2, [1]⟩
def lr_anb_All_8 : LS sy Unit Unit := ⟨[], fNil sy, hNil sy, 0, []⟩
def FF_anb_All_8 (A10 : T_anb_Check) (A12 : T_anb_has) (n : Nat) (x : (Int × Unit × Unit × Int × Unit) × ((Int × Int × Unit) × List (sg.Den Cd.i64) × Unit)) (K : Ex → Z sg → Prop) : Prop := F_anb_All_l8 A10 A12 n x.1.1 x.1.2.2.2.1 x.2.1.1 x.2.1.2.1 x.2.2.1 (fun y0 => K (.exit 0) (le_anb_All_8.put (((), ()), (y0, ()))))
def h_anb_All_8 (A10 : T_anb_Check) (A12 : T_anb_has) (z : Z sg) (K : Ex → Z sg → Prop) : Prop := ls_anb_All_8.get z (fun x => ∃ n, FF_anb_All_8 A10 A12 n x K)
def L_anb_All (A10 : T_anb_Check) (A12 : T_anb_has) : LoopT sg := tabL [(8, h_anb_All_8 A10 A12)]
theorem hs_anb_All_8 (A10 : T_anb_Check) (A12 : T_anb_has) (n : Nat) (x : (Int × Unit × Unit × Int × Unit) × ((Int × Int × Unit) × List (sg.Den Cd.i64) × Unit)) (K : Ex → Z sg → Prop) : forceZ (ls_anb_All_8.put x) (fun z => sC sy Tryd.prog GT (C_anb_All A10 A12) (L_anb_All A10 A12) Tryd.f6.ntmps (nthLoop (bodyOf Tryd.f6) 0) z (rnd ls_anb_All_8 (czT 0 le_anb_All_8 lr_anb_All_8) (fun x => FF_anb_All_8 A10 A12 n x K) K)) = FF_anb_All_8 A10 A12 (n + 1) x K := by kernel_rfl
theorem hl_anb_All_8 (A10 : T_anb_Check) (A12 : T_anb_has) (z : Z sg) (K : Ex → Z sg → Prop) : (L_anb_All A10 A12) (nthLoop (bodyOf Tryd.f6) 0) z K = ls_anb_All_8.get z (fun x => ∃ n, FF_anb_All_8 A10 A12 n x K) := by kernel_rfl
theorem lo_anb_All_8 (A10 : T_anb_Check) (A12 : T_anb_has) (h10 : FnOK sy Tryd.prog GT (ovD ro) ro 10 (q_anb_Check A10)) (h12 : FnOK sy Tryd.prog GT (ovD ro) ro 12 (q_anb_has A12)) : ∀ (o0 : Nat → Prop) (B : Bs sg), B.E.length ≤ 0 → ∀ z K, (L_anb_All A10 A12) (nthLoop (bodyOf Tryd.f6) 0) z K → Sx.Sem sy Tryd.prog GT (ovD ro) o0 ro Tryd.f6.ntmps B (.loop (nthLoop (bodyOf Tryd.f6) 0)) z K :=
  loop_ok (Cok_anb_All A10 A12 h10 h12) (lp_of (l := []) (by kernel_rfl) lp_nil) ls_anb_All_8 (by decide) (czT 0 le_anb_All_8 lr_anb_All_8) (fun _ _ hB => czT_ok 0 le_anb_All_8 lr_anb_All_8 (Nat.le_trans hB (by decide)) (Nat.le_trans hB (by decide))) (fun _ _ h => h) (hs_anb_All_8 A10 A12) (hl_anb_All_8 A10 A12)
theorem Lp_anb_All (A10 : T_anb_Check) (A12 : T_anb_has) (h10 : FnOK sy Tryd.prog GT (ovD ro) ro 10 (q_anb_Check A10)) (h12 : FnOK sy Tryd.prog GT (ovD ro) ro 12 (q_anb_has A12)) : LpOK sy Tryd.prog GT (ovD ro) ro (L_anb_All A10 A12) 0 Tryd.f6.ntmps (bodyOf Tryd.f6) := lp_of (l := [(nthLoop (bodyOf Tryd.f6) 0)]) (by kernel_rfl) (lp_cons (lo_anb_All_8 A10 A12 h10 h12) lp_nil)


theorem raw_anb_All (A10 : T_anb_Check) (A12 : T_anb_has) (a0 : (Int × Int)) (a1 : Int) (k : W → Prop) : fnT sy Tryd.prog GT (C_anb_All A10 A12) (L_anb_All A10 A12) Tryd.f6.ntmps (bodyOf Tryd.f6) [some Cd.i64, none] Tryd.f6.results.toList [.a [.i .i64 a0.1, .i .i64 a0.2], .i .i64 a1] k = F_anb_All A10 A12 a0 a1 (fun r0 r1 => k (.t [.l Cd.i64 r0, .i .i64 r1])) := by kernel_rfl

theorem ok_anb_All (A10 : T_anb_Check) (A12 : T_anb_has) (h10 : FnOK sy Tryd.prog GT (ovD ro) ro 10 (q_anb_Check A10)) (h12 : FnOK sy Tryd.prog GT (ovD ro) ro 12 (q_anb_has A12)) : FnOK sy Tryd.prog GT (ovD ro) ro 6 (q_anb_All (F_anb_All A10 A12)) := (fn_ok (rc := [some Cd.i64, none]) (f := 6) (fn := Tryd.f6) (c := bodyOf Tryd.f6) (nt := Tryd.f6.ntmps) (res := Tryd.f6.results.toList) (C := C_anb_All A10 A12) (L := (L_anb_All A10 A12)) (fun _ _ => rfl) Tryd.func6 (by kernel_rfl) rfl rfl (Cok_anb_All A10 A12 h10 h12) (Lp_anb_All A10 A12 h10 h12)).weak (by
  intro us k h
  unfold q_anb_All at h
  split at h
  · skip
    rename_i a0_0 a0_1 a1
    rw [raw_anb_All A10 A12 (a0_0, a0_1) a1 k]
    exact h
  · exact h.elim)

abbrev T_anb_Text := (Int × Int) → (List UInt8 → Int → Prop) → Prop
def q_anb_Text (A : T_anb_Text) (us : List W) (k : W → Prop) : Prop := match us with
  | [.a [.i .i64 a0_0, .i .i64 a0_1]] => A (a0_0, a0_1) (fun r0 r1 => k (.t [.s r0, .i .i64 r1]))
  | _ => False
theorem q_anb_Text_weak {A A2 : T_anb_Text} (h : FnOK sy Tryd.prog GT (ovD ro) ro 8 (q_anb_Text A)) (hA : ∀ a0 K, A2 a0 K → A a0 K) : FnOK sy Tryd.prog GT (ovD ro) ro 8 (q_anb_Text A2) := h.weak (by
  intro us k h
  unfold q_anb_Text at h ⊢
  split at h
  · exact hA _ _ h
  · exact h.elim)

def F_anb_Text (A10 : T_anb_Check) (A15 : T_anb_decimal) (A16 : T_anb_factor) (A17 : T_anb_addend) (a0 : (Int × Int)) (K : List UInt8 → Int → Prop) : Prop :=
  (A10 (a0.1, a0.2) (fun y1 => (((decide (y1 ≠ (0 : Int))) = true → K ([] : List UInt8) y1) ∧ ((decide (y1 ≠ (0 : Int))) = false → (((decide (a0.1 = (0 : Int))) = true → (A15 a0.2 (fun y2 => K y2 (0 : Int)))) ∧ ((decide (a0.1 = (0 : Int))) = false → (A16 a0.1 (fun y3 => (y3.length + ([110] : List UInt8).length ≤ 1099511627776 ∧ (A17 a0.2 (fun y4 => ((y3 ++ ([110] : List UInt8)).length + y4.length ≤ 1099511627776 ∧ K ((y3 ++ ([110] : List UInt8)) ++ y4) (0 : Int)))))))))))))

def C_anb_Text (A10 : T_anb_Check) (A15 : T_anb_decimal) (A16 : T_anb_factor) (A17 : T_anb_addend) : CallT sg := tab [(10, con [none] (q_anb_Check A10)), (15, con [none] (q_anb_decimal A15)), (16, con [none] (q_anb_factor A16)), (17, con [none] (q_anb_addend A17))]
theorem Cok_anb_Text (A10 : T_anb_Check) (A15 : T_anb_decimal) (A16 : T_anb_factor) (A17 : T_anb_addend) (h10 : FnOK sy Tryd.prog GT (ovD ro) ro 10 (q_anb_Check A10)) (h15 : FnOK sy Tryd.prog GT (ovD ro) ro 15 (q_anb_decimal A15)) (h16 : FnOK sy Tryd.prog GT (ovD ro) ro 16 (q_anb_factor A16)) (h17 : FnOK sy Tryd.prog GT (ovD ro) ro 17 (q_anb_addend A17)) (o0 : Nat → Prop) : CalOK sy Tryd.prog GT (ovD ro) o0 ro (C_anb_Text A10 A15 A16 A17) := (tab_cons (con_ok h10) (tab_cons (con_ok h15) (tab_cons (con_ok h16) (tab_cons (con_ok h17) tab_nil)))) o0

theorem raw_anb_Text (A10 : T_anb_Check) (A15 : T_anb_decimal) (A16 : T_anb_factor) (A17 : T_anb_addend) (a0 : (Int × Int)) (k : W → Prop) : fnT sy Tryd.prog GT (C_anb_Text A10 A15 A16 A17) noL Tryd.f8.ntmps (bodyOf Tryd.f8) [none, none] Tryd.f8.results.toList [.a [.i .i64 a0.1, .i .i64 a0.2]] k = F_anb_Text A10 A15 A16 A17 a0 (fun r0 r1 => k (.t [.s r0, .i .i64 r1])) := by kernel_rfl

theorem ok_anb_Text (A10 : T_anb_Check) (A15 : T_anb_decimal) (A16 : T_anb_factor) (A17 : T_anb_addend) (h10 : FnOK sy Tryd.prog GT (ovD ro) ro 10 (q_anb_Check A10)) (h15 : FnOK sy Tryd.prog GT (ovD ro) ro 15 (q_anb_decimal A15)) (h16 : FnOK sy Tryd.prog GT (ovD ro) ro 16 (q_anb_factor A16)) (h17 : FnOK sy Tryd.prog GT (ovD ro) ro 17 (q_anb_addend A17)) : FnOK sy Tryd.prog GT (ovD ro) ro 8 (q_anb_Text (F_anb_Text A10 A15 A16 A17)) := (fn_ok (rc := [none, none]) (f := 8) (fn := Tryd.f8) (c := bodyOf Tryd.f8) (nt := Tryd.f8.ntmps) (res := Tryd.f8.results.toList) (C := C_anb_Text A10 A15 A16 A17) (L := noL) (fun _ _ => rfl) Tryd.func8 (by kernel_rfl) rfl rfl (Cok_anb_Text A10 A15 A16 A17 h10 h15 h16 h17) (lp_of (l := []) (by kernel_rfl) lp_nil)).weak (by
  intro us k h
  unfold q_anb_Text at h
  split at h
  · skip
    rename_i a0_0 a0_1
    rw [raw_anb_Text A10 A15 A16 A17 (a0_0, a0_1) k]
    exact h
  · exact h.elim)

end Go.Proofs.YtbpbaicbaehhjaaDoor
