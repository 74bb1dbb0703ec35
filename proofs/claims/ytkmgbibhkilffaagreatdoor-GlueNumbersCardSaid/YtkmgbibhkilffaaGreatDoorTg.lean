/-
  Numbers of glue, followed. Nothing is claimed here.
-/
import Derived.Test.YtkmgbibhkilffaaGreatDoorTd
namespace Go.Proofs.YtkmgbibhkilffaaGreatDoor
open Go.Vm Go.Sx Go.RowKit
variable {ro : Nat}

abbrev T_stringslite_IndexByte := List UInt8 → Int → (Int → Prop) → Prop
def q_stringslite_IndexByte (A : T_stringslite_IndexByte) (us : List W) (k : W → Prop) : Prop := match us with
  | [.s a0, .i .u8 a1] => A a0 a1 (fun r0 => k (.i .i64 r0))
  | _ => False
theorem q_stringslite_IndexByte_weak {A A2 : T_stringslite_IndexByte} (h : FnOK sy Tryz.prog GT (ovD ro) ro 59 (q_stringslite_IndexByte A)) (hA : ∀ a0 a1 K, A2 a0 a1 K → A a0 a1 K) : FnOK sy Tryz.prog GT (ovD ro) ro 59 (q_stringslite_IndexByte A2) := h.weak (by
  intro us k h
  unfold q_stringslite_IndexByte at h ⊢
  split at h
  · exact hA _ _ _ h
  · exact h.elim)

abbrev T_strings_IndexByte := List UInt8 → Int → (Int → Prop) → Prop
def q_strings_IndexByte (A : T_strings_IndexByte) (us : List W) (k : W → Prop) : Prop := match us with
  | [.s a0, .i .u8 a1] => A a0 a1 (fun r0 => k (.i .i64 r0))
  | _ => False
theorem q_strings_IndexByte_weak {A A2 : T_strings_IndexByte} (h : FnOK sy Tryz.prog GT (ovD ro) ro 34 (q_strings_IndexByte A)) (hA : ∀ a0 a1 K, A2 a0 a1 K → A a0 a1 K) : FnOK sy Tryz.prog GT (ovD ro) ro 34 (q_strings_IndexByte A2) := h.weak (by
  intro us k h
  unfold q_strings_IndexByte at h ⊢
  split at h
  · exact hA _ _ _ h
  · exact h.elim)

def F_strings_IndexByte (A59 : T_stringslite_IndexByte) (a0 : List UInt8) (a1 : Int) (K : Int → Prop) : Prop :=
  (A59 a0 a1 (fun y1 => K y1))

def C_strings_IndexByte (A59 : T_stringslite_IndexByte) : CallT sg := tab [(59, con [none, none] (q_stringslite_IndexByte A59))]
theorem Cok_strings_IndexByte (A59 : T_stringslite_IndexByte) (h59 : FnOK sy Tryz.prog GT (ovD ro) ro 59 (q_stringslite_IndexByte A59)) (o0 : Nat → Prop) : CalOK sy Tryz.prog GT (ovD ro) o0 ro (C_strings_IndexByte A59) := (tab_cons (con_ok h59) tab_nil) o0

theorem raw_strings_IndexByte (A59 : T_stringslite_IndexByte) (a0 : List UInt8) (a1 : Int) (k : W → Prop) : fnT sy Tryz.prog GT (C_strings_IndexByte A59) noL Tryz.f34.ntmps (bodyOf Tryz.f34) [none] Tryz.f34.results.toList [.s a0, .i .u8 a1] k = F_strings_IndexByte A59 a0 a1 (fun r0 => k (.i .i64 r0)) := by kernel_rfl

theorem ok_strings_IndexByte (A59 : T_stringslite_IndexByte) (h59 : FnOK sy Tryz.prog GT (ovD ro) ro 59 (q_stringslite_IndexByte A59)) : FnOK sy Tryz.prog GT (ovD ro) ro 34 (q_strings_IndexByte (F_strings_IndexByte A59)) := (fn_ok (rc := [none]) (f := 34) (fn := Tryz.f34) (c := bodyOf Tryz.f34) (nt := Tryz.f34.ntmps) (res := Tryz.f34.results.toList) (C := C_strings_IndexByte A59) (L := noL) (fun _ _ => rfl) Tryz.func34 (by kernel_rfl) rfl rfl (Cok_strings_IndexByte A59 h59) (lp_of (l := []) (by kernel_rfl) lp_nil)).weak (by
  intro us k h
  unfold q_strings_IndexByte at h
  split at h
  · skip
    rename_i a0 a1
    rw [raw_strings_IndexByte A59 a0 a1 k]
    exact h
  · exact h.elim)

abbrev T_glue_used := Tok → (Tok → Prop) → Prop
def q_glue_used (A : T_glue_used) (us : List W) (k : W → Prop) : Prop := match us with
  | [.a [.i .u8 a0_0, .s a0_1, .i .i64 a0_2, .s a0_3, .b a0_4]] => A (Tok.mk a0_0 a0_1 a0_2 a0_3 a0_4) (fun r0 => k (.a [.i .u8 r0.kind, .s r0.text, .i .i64 r0.num, .s r0.unit, .b r0.flag]))
  | _ => False
theorem q_glue_used_weak {A A2 : T_glue_used} (h : FnOK sy Tryz.prog GT (ovD ro) ro 49 (q_glue_used A)) (hA : ∀ a0 K, A2 a0 K → A a0 K) : FnOK sy Tryz.prog GT (ovD ro) ro 49 (q_glue_used A2) := h.weak (by
  intro us k h
  unfold q_glue_used at h ⊢
  split at h
  · exact hA _ _ h
  · exact h.elim)

def F_glue_used (a0 : Tok) (K : Tok → Prop) : Prop :=
  (((decide (a0.kind = (1 : Int))) = true → K (Tok.mk a0.kind a0.text (0 : Int) ([] : List UInt8) false)) ∧ ((decide (a0.kind = (1 : Int))) = false → (((decide (a0.kind = (2 : Int))) = true → K (Tok.mk a0.kind a0.text (0 : Int) ([] : List UInt8) false)) ∧ ((decide (a0.kind = (2 : Int))) = false → (((decide (a0.kind = (3 : Int))) = true → K (Tok.mk a0.kind a0.text (0 : Int) ([] : List UInt8) false)) ∧ ((decide (a0.kind = (3 : Int))) = false → (((decide (a0.kind = (5 : Int))) = true → K (Tok.mk a0.kind a0.text (0 : Int) ([] : List UInt8) false)) ∧ ((decide (a0.kind = (5 : Int))) = false → (((decide (a0.kind = (7 : Int))) = true → K (Tok.mk a0.kind a0.text (0 : Int) ([] : List UInt8) false)) ∧ ((decide (a0.kind = (7 : Int))) = false → (((decide (a0.kind = (9 : Int))) = true → K (Tok.mk a0.kind a0.text (0 : Int) ([] : List UInt8) false)) ∧ ((decide (a0.kind = (9 : Int))) = false → (((decide (a0.kind = (4 : Int))) = true → K (Tok.mk a0.kind a0.text (0 : Int) ([] : List UInt8) a0.flag)) ∧ ((decide (a0.kind = (4 : Int))) = false → (((decide (a0.kind = (10 : Int))) = true → K (Tok.mk a0.kind ([] : List UInt8) a0.num ([] : List UInt8) a0.flag)) ∧ ((decide (a0.kind = (10 : Int))) = false → (((decide (a0.kind = (11 : Int))) = true → K (Tok.mk a0.kind ([] : List UInt8) a0.num ([] : List UInt8) false)) ∧ ((decide (a0.kind = (11 : Int))) = false → (((decide (a0.kind = (12 : Int))) = true → K (Tok.mk a0.kind ([] : List UInt8) a0.num a0.unit a0.flag)) ∧ ((decide (a0.kind = (12 : Int))) = false → K (Tok.mk a0.kind ([] : List UInt8) (0 : Int) ([] : List UInt8) false)))))))))))))))))))))

def C_glue_used : CallT sg := tab []
theorem Cok_glue_used (o0 : Nat → Prop) : CalOK sy Tryz.prog GT (ovD ro) o0 ro (C_glue_used) := tab_nil o0

theorem raw_glue_used (a0 : Tok) (k : W → Prop) : fnT sy Tryz.prog GT (C_glue_used) noL Tryz.f49.ntmps (bodyOf Tryz.f49) [none] Tryz.f49.results.toList [.a [.i .u8 a0.kind, .s a0.text, .i .i64 a0.num, .s a0.unit, .b a0.flag]] k = F_glue_used a0 (fun r0 => k (.a [.i .u8 r0.kind, .s r0.text, .i .i64 r0.num, .s r0.unit, .b r0.flag])) := by kernel_rfl

theorem ok_glue_used : FnOK sy Tryz.prog GT (ovD ro) ro 49 (q_glue_used (F_glue_used)) := (fn_ok (rc := [none]) (f := 49) (fn := Tryz.f49) (c := bodyOf Tryz.f49) (nt := Tryz.f49.ntmps) (res := Tryz.f49.results.toList) (C := C_glue_used) (L := noL) (fun _ _ => rfl) Tryz.func49 (by kernel_rfl) rfl rfl (Cok_glue_used) (lp_of (l := []) (by kernel_rfl) lp_nil)).weak (by
  intro us k h
  unfold q_glue_used at h
  split at h
  · skip
    rename_i a0_0 a0_1 a0_2 a0_3 a0_4
    rw [raw_glue_used (Tok.mk a0_0 a0_1 a0_2 a0_3 a0_4) k]
    exact h
  · exact h.elim)

abbrev T_glue_isName := List UInt8 → (Bool → Prop) → Prop
def q_glue_isName (A : T_glue_isName) (us : List W) (k : W → Prop) : Prop := match us with
  | [.s a0] => A a0 (fun r0 => k (.b r0))
  | _ => False
theorem q_glue_isName_weak {A A2 : T_glue_isName} (h : FnOK sy Tryz.prog GT (ovD ro) ro 33 (q_glue_isName A)) (hA : ∀ a0 K, A2 a0 K → A a0 K) : FnOK sy Tryz.prog GT (ovD ro) ro 33 (q_glue_isName A2) := h.weak (by
  intro us k h
  unfold q_glue_isName at h ⊢
  split at h
  · exact hA _ _ h
  · exact h.elim)

def F_glue_isName (a0 : List UInt8) (K : Bool → Prop) : Prop :=
  K (!(a0 == ([] : List UInt8)))

def C_glue_isName : CallT sg := tab []
theorem Cok_glue_isName (o0 : Nat → Prop) : CalOK sy Tryz.prog GT (ovD ro) o0 ro (C_glue_isName) := tab_nil o0

theorem raw_glue_isName (a0 : List UInt8) (k : W → Prop) : fnT sy Tryz.prog GT (C_glue_isName) noL Tryz.f33.ntmps (bodyOf Tryz.f33) [none] Tryz.f33.results.toList [.s a0] k = F_glue_isName a0 (fun r0 => k (.b r0)) := by kernel_rfl

theorem ok_glue_isName : FnOK sy Tryz.prog GT (ovD ro) ro 33 (q_glue_isName (F_glue_isName)) := (fn_ok (rc := [none]) (f := 33) (fn := Tryz.f33) (c := bodyOf Tryz.f33) (nt := Tryz.f33.ntmps) (res := Tryz.f33.results.toList) (C := C_glue_isName) (L := noL) (fun _ _ => rfl) Tryz.func33 (by kernel_rfl) rfl rfl (Cok_glue_isName) (lp_of (l := []) (by kernel_rfl) lp_nil)).weak (by
  intro us k h
  unfold q_glue_isName at h
  split at h
  · skip
    rename_i a0
    rw [raw_glue_isName a0 k]
    exact h
  · exact h.elim)

abbrev T_glue_isWhole := Int → (Bool → Prop) → Prop
def q_glue_isWhole (A : T_glue_isWhole) (us : List W) (k : W → Prop) : Prop := match us with
  | [.i .i64 a0] => A a0 (fun r0 => k (.b r0))
  | _ => False
theorem q_glue_isWhole_weak {A A2 : T_glue_isWhole} (h : FnOK sy Tryz.prog GT (ovD ro) ro 67 (q_glue_isWhole A)) (hA : ∀ a0 K, A2 a0 K → A a0 K) : FnOK sy Tryz.prog GT (ovD ro) ro 67 (q_glue_isWhole A2) := h.weak (by
  intro us k h
  unfold q_glue_isWhole at h ⊢
  split at h
  · exact hA _ _ h
  · exact h.elim)

def F_glue_isWhole (a0 : Int) (K : Bool → Prop) : Prop :=
  ((1000 : Int) ≠ 0 ∧ K (decide ((a0.tmod (1000 : Int)) = (0 : Int))))

def C_glue_isWhole : CallT sg := tab []
theorem Cok_glue_isWhole (o0 : Nat → Prop) : CalOK sy Tryz.prog GT (ovD ro) o0 ro (C_glue_isWhole) := tab_nil o0

theorem raw_glue_isWhole (a0 : Int) (k : W → Prop) : fnT sy Tryz.prog GT (C_glue_isWhole) noL Tryz.f67.ntmps (bodyOf Tryz.f67) [none] Tryz.f67.results.toList [.i .i64 a0] k = F_glue_isWhole a0 (fun r0 => k (.b r0)) := by kernel_rfl

theorem ok_glue_isWhole : FnOK sy Tryz.prog GT (ovD ro) ro 67 (q_glue_isWhole (F_glue_isWhole)) := (fn_ok (rc := [none]) (f := 67) (fn := Tryz.f67) (c := bodyOf Tryz.f67) (nt := Tryz.f67.ntmps) (res := Tryz.f67.results.toList) (C := C_glue_isWhole) (L := noL) (fun _ _ => rfl) Tryz.func67 (by kernel_rfl) rfl rfl (Cok_glue_isWhole) (lp_of (l := []) (by kernel_rfl) lp_nil)).weak (by
  intro us k h
  unfold q_glue_isWhole at h
  split at h
  · skip
    rename_i a0
    rw [raw_glue_isWhole a0 k]
    exact h
  · exact h.elim)

abbrev T_glue_isNumber := Tok → (Bool → Prop) → Prop
def q_glue_isNumber (A : T_glue_isNumber) (us : List W) (k : W → Prop) : Prop := match us with
  | [.a [.i .u8 a0_0, .s a0_1, .i .i64 a0_2, .s a0_3, .b a0_4]] => A (Tok.mk a0_0 a0_1 a0_2 a0_3 a0_4) (fun r0 => k (.b r0))
  | _ => False
theorem q_glue_isNumber_weak {A A2 : T_glue_isNumber} (h : FnOK sy Tryz.prog GT (ovD ro) ro 52 (q_glue_isNumber A)) (hA : ∀ a0 K, A2 a0 K → A a0 K) : FnOK sy Tryz.prog GT (ovD ro) ro 52 (q_glue_isNumber A2) := h.weak (by
  intro us k h
  unfold q_glue_isNumber at h ⊢
  split at h
  · exact hA _ _ h
  · exact h.elim)

def F_glue_isNumber (A67 : T_glue_isWhole) (a0 : Tok) (K : Bool → Prop) : Prop :=
  (((decide (a0.num < (-1000000000000 : Int))) = false → (((decide ((1000000000000 : Int) < a0.num)) = true → K false) ∧ ((decide ((1000000000000 : Int) < a0.num)) = false → (((!a0.flag) = false → (A67 a0.num (fun y1 => K y1))) ∧ ((!a0.flag) = true → K true))))) ∧ ((decide (a0.num < (-1000000000000 : Int))) = true → K false))

def C_glue_isNumber (A67 : T_glue_isWhole) : CallT sg := tab [(67, con [none] (q_glue_isWhole A67))]
theorem Cok_glue_isNumber (A67 : T_glue_isWhole) (h67 : FnOK sy Tryz.prog GT (ovD ro) ro 67 (q_glue_isWhole A67)) (o0 : Nat → Prop) : CalOK sy Tryz.prog GT (ovD ro) o0 ro (C_glue_isNumber A67) := (tab_cons (con_ok h67) tab_nil) o0

theorem raw_glue_isNumber (A67 : T_glue_isWhole) (a0 : Tok) (k : W → Prop) : fnT sy Tryz.prog GT (C_glue_isNumber A67) noL Tryz.f52.ntmps (bodyOf Tryz.f52) [none] Tryz.f52.results.toList [.a [.i .u8 a0.kind, .s a0.text, .i .i64 a0.num, .s a0.unit, .b a0.flag]] k = F_glue_isNumber A67 a0 (fun r0 => k (.b r0)) := by kernel_rfl

theorem ok_glue_isNumber (A67 : T_glue_isWhole) (h67 : FnOK sy Tryz.prog GT (ovD ro) ro 67 (q_glue_isWhole A67)) : FnOK sy Tryz.prog GT (ovD ro) ro 52 (q_glue_isNumber (F_glue_isNumber A67)) := (fn_ok (rc := [none]) (f := 52) (fn := Tryz.f52) (c := bodyOf Tryz.f52) (nt := Tryz.f52.ntmps) (res := Tryz.f52.results.toList) (C := C_glue_isNumber A67) (L := noL) (fun _ _ => rfl) Tryz.func52 (by kernel_rfl) rfl rfl (Cok_glue_isNumber A67 h67) (lp_of (l := []) (by kernel_rfl) lp_nil)).weak (by
  intro us k h
  unfold q_glue_isNumber at h
  split at h
  · skip
    rename_i a0_0 a0_1 a0_2 a0_3 a0_4
    rw [raw_glue_isNumber A67 (Tok.mk a0_0 a0_1 a0_2 a0_3 a0_4) k]
    exact h
  · exact h.elim)

abbrev T_glue_canBeWritten := Tok → (Bool → Prop) → Prop
def q_glue_canBeWritten (A : T_glue_canBeWritten) (us : List W) (k : W → Prop) : Prop := match us with
  | [.a [.i .u8 a0_0, .s a0_1, .i .i64 a0_2, .s a0_3, .b a0_4]] => A (Tok.mk a0_0 a0_1 a0_2 a0_3 a0_4) (fun r0 => k (.b r0))
  | _ => False
theorem q_glue_canBeWritten_weak {A A2 : T_glue_canBeWritten} (h : FnOK sy Tryz.prog GT (ovD ro) ro 29 (q_glue_canBeWritten A)) (hA : ∀ a0 K, A2 a0 K → A a0 K) : FnOK sy Tryz.prog GT (ovD ro) ro 29 (q_glue_canBeWritten A2) := h.weak (by
  intro us k h
  unfold q_glue_canBeWritten at h ⊢
  split at h
  · exact hA _ _ h
  · exact h.elim)

def F_glue_canBeWritten (A49 : T_glue_used) (A34 : T_strings_IndexByte) (A33 : T_glue_isName) (A52 : T_glue_isNumber) (a0 : Tok) (K : Bool → Prop) : Prop :=
  (A49 (Tok.mk a0.kind a0.text a0.num a0.unit a0.flag) (fun y1 => (((!(decide (a0.kind = y1.kind) && ((a0.text == y1.text) && (decide (a0.num = y1.num) && ((a0.unit == y1.unit) && ((a0.flag == y1.flag) && true)))))) = false → (A34 a0.text (0 : Int) (fun y2 => (((decide ((0 : Int) ≤ y2)) = false → (A34 a0.unit (0 : Int) (fun y3 => (((decide ((0 : Int) ≤ y3)) = true → K false) ∧ ((decide ((0 : Int) ≤ y3)) = false → (((decide (a0.kind = (1 : Int))) = true → (A33 a0.text (fun y4 => K y4))) ∧ ((decide (a0.kind = (1 : Int))) = false → (((decide (a0.kind = (2 : Int))) = true → (A33 a0.text (fun y5 => K y5))) ∧ ((decide (a0.kind = (2 : Int))) = false → (((decide (a0.kind = (3 : Int))) = true → (A33 a0.text (fun y6 => K y6))) ∧ ((decide (a0.kind = (3 : Int))) = false → (((decide (a0.kind = (4 : Int))) = true → (A33 a0.text (fun y7 => ((y7 = true → ((a0.flag = false → False) ∧ (a0.flag = true → K true))) ∧ (y7 = false → K false))))) ∧ ((decide (a0.kind = (4 : Int))) = false → (((decide (a0.kind = (9 : Int))) = true → False) ∧ ((decide (a0.kind = (9 : Int))) = false → (((decide (a0.kind = (10 : Int))) = true → (A52 (Tok.mk a0.kind a0.text a0.num a0.unit a0.flag) (fun y8 => K y8))) ∧ ((decide (a0.kind = (10 : Int))) = false → (((decide (a0.kind = (11 : Int))) = true → (A52 (Tok.mk a0.kind a0.text a0.num a0.unit a0.flag) (fun y9 => K y9))) ∧ ((decide (a0.kind = (11 : Int))) = false → (((decide (a0.kind = (12 : Int))) = true → (A52 (Tok.mk a0.kind a0.text a0.num a0.unit a0.flag) (fun y10 => ((y10 = true → (A33 a0.unit (fun y11 => K y11))) ∧ (y10 = false → K false))))) ∧ ((decide (a0.kind = (12 : Int))) = false → (((decide (a0.kind = (6 : Int))) = true → K false) ∧ ((decide (a0.kind = (6 : Int))) = false → (((decide (a0.kind = (8 : Int))) = true → K false) ∧ ((decide (a0.kind = (8 : Int))) = false → (((decide ((1 : Int) ≤ a0.kind)) = true → K (decide (a0.kind ≤ (24 : Int)))) ∧ ((decide ((1 : Int) ≤ a0.kind)) = false → K false))))))))))))))))))))))))))) ∧ ((decide ((0 : Int) ≤ y2)) = true → K false))))) ∧ ((!(decide (a0.kind = y1.kind) && ((a0.text == y1.text) && (decide (a0.num = y1.num) && ((a0.unit == y1.unit) && ((a0.flag == y1.flag) && true)))))) = true → K false))))

def C_glue_canBeWritten (A49 : T_glue_used) (A34 : T_strings_IndexByte) (A33 : T_glue_isName) (A52 : T_glue_isNumber) : CallT sg := tab [(49, con [none] (q_glue_used A49)), (34, con [none, none] (q_strings_IndexByte A34)), (33, con [none] (q_glue_isName A33)), (50, con [] noT), (51, con [] noT), (52, con [none] (q_glue_isNumber A52))]
theorem Cok_glue_canBeWritten (A49 : T_glue_used) (A34 : T_strings_IndexByte) (A33 : T_glue_isName) (A52 : T_glue_isNumber) (h49 : FnOK sy Tryz.prog GT (ovD ro) ro 49 (q_glue_used A49)) (h34 : FnOK sy Tryz.prog GT (ovD ro) ro 34 (q_strings_IndexByte A34)) (h33 : FnOK sy Tryz.prog GT (ovD ro) ro 33 (q_glue_isName A33)) (h52 : FnOK sy Tryz.prog GT (ovD ro) ro 52 (q_glue_isNumber A52)) (o0 : Nat → Prop) : CalOK sy Tryz.prog GT (ovD ro) o0 ro (C_glue_canBeWritten A49 A34 A33 A52) := (tab_cons (con_ok h49) (tab_cons (con_ok h34) (tab_cons (con_ok h33) (tab_cons (con_ok (noT_ok 50)) (tab_cons (con_ok (noT_ok 51)) (tab_cons (con_ok h52) tab_nil)))))) o0

theorem raw_glue_canBeWritten (A49 : T_glue_used) (A34 : T_strings_IndexByte) (A33 : T_glue_isName) (A52 : T_glue_isNumber) (a0 : Tok) (k : W → Prop) : fnT sy Tryz.prog GT (C_glue_canBeWritten A49 A34 A33 A52) noL Tryz.f29.ntmps (bodyOf Tryz.f29) [none] Tryz.f29.results.toList [.a [.i .u8 a0.kind, .s a0.text, .i .i64 a0.num, .s a0.unit, .b a0.flag]] k = F_glue_canBeWritten A49 A34 A33 A52 a0 (fun r0 => k (.b r0)) := by kernel_rfl

theorem ok_glue_canBeWritten (A49 : T_glue_used) (A34 : T_strings_IndexByte) (A33 : T_glue_isName) (A52 : T_glue_isNumber) (h49 : FnOK sy Tryz.prog GT (ovD ro) ro 49 (q_glue_used A49)) (h34 : FnOK sy Tryz.prog GT (ovD ro) ro 34 (q_strings_IndexByte A34)) (h33 : FnOK sy Tryz.prog GT (ovD ro) ro 33 (q_glue_isName A33)) (h52 : FnOK sy Tryz.prog GT (ovD ro) ro 52 (q_glue_isNumber A52)) : FnOK sy Tryz.prog GT (ovD ro) ro 29 (q_glue_canBeWritten (F_glue_canBeWritten A49 A34 A33 A52)) := (fn_ok (rc := [none]) (f := 29) (fn := Tryz.f29) (c := bodyOf Tryz.f29) (nt := Tryz.f29.ntmps) (res := Tryz.f29.results.toList) (C := C_glue_canBeWritten A49 A34 A33 A52) (L := noL) (fun _ _ => rfl) Tryz.func29 (by kernel_rfl) rfl rfl (Cok_glue_canBeWritten A49 A34 A33 A52 h49 h34 h33 h52) (lp_of (l := []) (by kernel_rfl) lp_nil)).weak (by
  intro us k h
  unfold q_glue_canBeWritten at h
  split at h
  · skip
    rename_i a0_0 a0_1 a0_2 a0_3 a0_4
    rw [raw_glue_canBeWritten A49 A34 A33 A52 (Tok.mk a0_0 a0_1 a0_2 a0_3 a0_4) k]
    exact h
  · exact h.elim)

def F_glue_appendNumber_n_l9 : Nat → Int → List UInt8 → Int → List UInt8 → Int → List UInt8 → Bool → (List UInt8 → Int → List UInt8 → Int → List UInt8 → Bool → Prop) → Prop
  | 0, _, _, _, _, _, _, _, _ => False
  | n + 1, x7, b1, c2_0, c2_1, c2_2, c2_3, c2_4, Kr => (I64 (x7 * (10 : Int)) ∧ ((1000 : Int) ≠ 0 ∧ (I64 ((x7 * (10 : Int)).tdiv (1000 : Int)) ∧ ((0 ≤ (IntKind.u8.wrap ((48 : Int) + (IntKind.u8.wrap ((x7 * (10 : Int)).tdiv (1000 : Int))))) ∧ (IntKind.u8.wrap ((48 : Int) + (IntKind.u8.wrap ((x7 * (10 : Int)).tdiv (1000 : Int))))) ≤ 255) ∧ ((b1.length + [UInt8.ofNat ((IntKind.u8.wrap ((48 : Int) + (IntKind.u8.wrap ((x7 * (10 : Int)).tdiv (1000 : Int))))).toNat)].length) * 1 ≤ 1099511627776 ∧ ((1000 : Int) ≠ 0 ∧ (((decide (((x7 * (10 : Int)).tmod (1000 : Int)) = (0 : Int))) = true → Kr (b1 ++ [UInt8.ofNat ((IntKind.u8.wrap ((48 : Int) + (IntKind.u8.wrap ((x7 * (10 : Int)).tdiv (1000 : Int))))).toNat)]) c2_0 c2_1 c2_2 c2_3 c2_4) ∧ ((decide (((x7 * (10 : Int)).tmod (1000 : Int)) = (0 : Int))) = false → F_glue_appendNumber_n_l9 n ((x7 * (10 : Int)).tmod (1000 : Int)) (b1 ++ [UInt8.ofNat ((IntKind.u8.wrap ((48 : Int) + (IntKind.u8.wrap ((x7 * (10 : Int)).tdiv (1000 : Int))))).toNat)]) c2_0 c2_1 c2_2 c2_3 c2_4 Kr))))))))

def C_glue_appendNumber_n : CallT sg := tab [(108, pAI sy Tryz.prog 33)]
theorem Cok_glue_appendNumber_n (o0 : Nat → Prop) : CalOK sy Tryz.prog GT (ovD ro) o0 ro (C_glue_appendNumber_n) := (tab_cons (pAI_ok (f := 108) (t := 33) ovD_ai) tab_nil) o0

def ls_glue_appendNumber_n_9 : LS sy (Unit × Int × Unit) (List (sg.Den Cd.u8) × (Int × (List UInt8) × Int × (List UInt8) × Bool × Unit) × Unit) := ⟨[], fCons 0 (vLit sy (.o 1)) (fCons 7 (vInt sy .i64) (fNil sy)), hBuf 1 Cd.u8 (hCells 2 (lCons (vInt sy .u8) (lCons (vStr sy) (lCons (vInt sy .i64) (lCons (vStr sy) (lCons (vBool sy) (lNil sy)))))) (hNil sy)), 3, [1]⟩
def le_glue_appendNumber_n_9 : LS sy Unit Unit := ⟨[], fNil sy, hNil sy, 3, []⟩
def lr_glue_appendNumber_n_9 : LS sy (Unit × Unit) (List (sg.Den Cd.u8) × (Int × (List UInt8) × Int × (List UInt8) × Bool × Unit) × Unit) := ⟨[], fCons 6 (vLit sy (.o 1)) (fNil sy), hBuf 1 Cd.u8 (hCells 2 (lCons (vInt sy .u8) (lCons (vStr sy) (lCons (vInt sy .i64) (lCons (vStr sy) (lCons (vBool sy) (lNil sy)))))) (hNil sy)), 3, [1]⟩
def FF_glue_appendNumber_n_9 (n : Nat) (x : (Unit × Int × Unit) × (List (sg.Den Cd.u8) × (Int × (List UInt8) × Int × (List UInt8) × Bool × Unit) × Unit)) (K : Ex → Z sg → Prop) : Prop := F_glue_appendNumber_n_l9 n x.1.2.1 x.2.1 x.2.2.1.1 x.2.2.1.2.1 x.2.2.1.2.2.1 x.2.2.1.2.2.2.1 x.2.2.1.2.2.2.2.1 (fun y0 y1 y2 y3 y4 y5 => K .ret (lr_glue_appendNumber_n_9.put (((), ()), (y0, (y1, y2, y3, y4, y5, ()), ()))))
def h_glue_appendNumber_n_9 (z : Z sg) (K : Ex → Z sg → Prop) : Prop := ls_glue_appendNumber_n_9.get z (fun x => ∃ n, FF_glue_appendNumber_n_9 n x K)
def L_glue_appendNumber_n : LoopT sg := tabL [(9, h_glue_appendNumber_n_9)]
theorem hs_glue_appendNumber_n_9 (n : Nat) (x : (Unit × Int × Unit) × (List (sg.Den Cd.u8) × (Int × (List UInt8) × Int × (List UInt8) × Bool × Unit) × Unit)) (K : Ex → Z sg → Prop) : forceZ (ls_glue_appendNumber_n_9.put x) (fun z => sC sy Tryz.prog GT (C_glue_appendNumber_n) (L_glue_appendNumber_n) Tryz.f66.ntmps (nthLoop (bodyOf Tryz.f66) 0) z (rnd ls_glue_appendNumber_n_9 (czT 0 le_glue_appendNumber_n_9 lr_glue_appendNumber_n_9) (fun x => FF_glue_appendNumber_n_9 n x K) K)) = FF_glue_appendNumber_n_9 (n + 1) x K := by kernel_rfl
theorem hl_glue_appendNumber_n_9 (z : Z sg) (K : Ex → Z sg → Prop) : (L_glue_appendNumber_n) (nthLoop (bodyOf Tryz.f66) 0) z K = ls_glue_appendNumber_n_9.get z (fun x => ∃ n, FF_glue_appendNumber_n_9 n x K) := by kernel_rfl
theorem lo_glue_appendNumber_n_9 : ∀ (o0 : Nat → Prop) (B : Bs sg), B.E.length ≤ 3 → ∀ z K, (L_glue_appendNumber_n) (nthLoop (bodyOf Tryz.f66) 0) z K → Sx.Sem sy Tryz.prog GT (ovD ro) o0 ro Tryz.f66.ntmps B (.loop (nthLoop (bodyOf Tryz.f66) 0)) z K :=
  loop_ok (Cok_glue_appendNumber_n) (lp_of (l := []) (by kernel_rfl) lp_nil) ls_glue_appendNumber_n_9 (by decide) (czT 0 le_glue_appendNumber_n_9 lr_glue_appendNumber_n_9) (fun _ _ hB => czT_ok 0 le_glue_appendNumber_n_9 lr_glue_appendNumber_n_9 (Nat.le_trans hB (by decide)) (Nat.le_trans hB (by decide))) (fun _ _ h => h) (hs_glue_appendNumber_n_9) (hl_glue_appendNumber_n_9)
theorem Lp_glue_appendNumber_n : LpOK sy Tryz.prog GT (ovD ro) ro (L_glue_appendNumber_n) 3 Tryz.f66.ntmps (bodyOf Tryz.f66) := lp_of (l := [(nthLoop (bodyOf Tryz.f66) 0)]) (by kernel_rfl) (lp_cons (lo_glue_appendNumber_n_9) lp_nil)


def sl_glue_appendNumber_n : LS sy (Unit × Int × Bool × Unit) (List (sg.Den Cd.u8) × (Int × (List UInt8) × Int × (List UInt8) × Bool × Unit) × Unit) := ⟨[], fCons 0 (vLit sy (.o 1)) (fCons 1 (vInt sy .i64) (fCons 2 (vBool sy) (fNil sy))), hBuf 1 Cd.u8 (hCells 2 (lCons (vInt sy .u8) (lCons (vStr sy) (lCons (vInt sy .i64) (lCons (vStr sy) (lCons (vBool sy) (lNil sy)))))) (hNil sy)), 3, []⟩
def sr_glue_appendNumber_n : LS sy (Unit × Unit) (List (sg.Den Cd.u8) × (Int × (List UInt8) × Int × (List UInt8) × Bool × Unit) × Unit) := ⟨[], fCons 6 (vLit sy (.o 1)) (fNil sy), hBuf 1 Cd.u8 (hCells 2 (lCons (vInt sy .u8) (lCons (vStr sy) (lCons (vInt sy .i64) (lCons (vStr sy) (lCons (vBool sy) (lNil sy)))))) (hNil sy)), 3, [1]⟩
abbrev T_glue_appendNumber_n := Int → Bool → (List UInt8) → Int → (List UInt8) → Int → (List UInt8) → Bool → (List UInt8 → Int → List UInt8 → Int → List UInt8 → Bool → Prop) → Prop
def g_glue_appendNumber_n (A : T_glue_appendNumber_n) (x : (Unit × Int × Bool × Unit) × (List (sg.Den Cd.u8) × (Int × (List UInt8) × Int × (List UInt8) × Bool × Unit) × Unit)) (K : (Unit × Unit) × (List (sg.Den Cd.u8) × (Int × (List UInt8) × Int × (List UInt8) × Bool × Unit) × Unit) → Prop) : Prop := A x.1.2.1 x.1.2.2.1 x.2.1 x.2.2.1.1 x.2.2.1.2.1 x.2.2.1.2.2.1 x.2.2.1.2.2.2.1 x.2.2.1.2.2.2.2.1 (fun y0 y1 y2 y3 y4 y5 => K (((), ()), (y0, (y1, y2, y3, y4, y5, ()), ())))
def F_glue_appendNumber_n (x1 : Int) (x2 : Bool) (b1 : List UInt8) (c2_0 : Int) (c2_1 : List UInt8) (c2_2 : Int) (c2_3 : List UInt8) (c2_4 : Bool) (K : (List UInt8 → Int → List UInt8 → Int → List UInt8 → Bool → Prop)) : Prop :=
  (((decide (x1 < (0 : Int))) = true → ((0 ≤ (45 : Int) ∧ (45 : Int) ≤ 255) ∧ ((b1.length + [UInt8.ofNat 45].length) * 1 ≤ 1099511627776 ∧ (I64 (0 - x1) ∧ ((1000 : Int) ≠ 0 ∧ (I64 ((0 - x1).tdiv (1000 : Int)) ∧ (intB ((0 - x1).tdiv (1000 : Int)) (10 : Int) = true ∧ (((b1 ++ [UInt8.ofNat 45]).length + (intT ((0 - x1).tdiv (1000 : Int)) (10 : Int)).length) * 1 ≤ 1099511627776 ∧ ((x2 = true → K ((b1 ++ [UInt8.ofNat 45]) ++ (intT ((0 - x1).tdiv (1000 : Int)) (10 : Int))) c2_0 c2_1 c2_2 c2_3 c2_4) ∧ (x2 = false → ((0 ≤ (46 : Int) ∧ (46 : Int) ≤ 255) ∧ ((((b1 ++ [UInt8.ofNat 45]) ++ (intT ((0 - x1).tdiv (1000 : Int)) (10 : Int))).length + [UInt8.ofNat 46].length) * 1 ≤ 1099511627776 ∧ ((1000 : Int) ≠ 0 ∧ (∃ m, F_glue_appendNumber_n_l9 m ((0 - x1).tmod (1000 : Int)) (((b1 ++ [UInt8.ofNat 45]) ++ (intT ((0 - x1).tdiv (1000 : Int)) (10 : Int))) ++ [UInt8.ofNat 46]) c2_0 c2_1 c2_2 c2_3 c2_4 (fun y1 y2 y3 y4 y5 y6 => K y1 y2 y3 y4 y5 y6))))))))))))))) ∧ ((decide (x1 < (0 : Int))) = false → ((1000 : Int) ≠ 0 ∧ (I64 (x1.tdiv (1000 : Int)) ∧ (intB (x1.tdiv (1000 : Int)) (10 : Int) = true ∧ ((b1.length + (intT (x1.tdiv (1000 : Int)) (10 : Int)).length) * 1 ≤ 1099511627776 ∧ ((x2 = true → K (b1 ++ (intT (x1.tdiv (1000 : Int)) (10 : Int))) c2_0 c2_1 c2_2 c2_3 c2_4) ∧ (x2 = false → ((0 ≤ (46 : Int) ∧ (46 : Int) ≤ 255) ∧ (((b1 ++ (intT (x1.tdiv (1000 : Int)) (10 : Int))).length + [UInt8.ofNat 46].length) * 1 ≤ 1099511627776 ∧ ((1000 : Int) ≠ 0 ∧ (∃ m, F_glue_appendNumber_n_l9 m (x1.tmod (1000 : Int)) ((b1 ++ (intT (x1.tdiv (1000 : Int)) (10 : Int))) ++ [UInt8.ofNat 46]) c2_0 c2_1 c2_2 c2_3 c2_4 (fun y7 y8 y9 y10 y11 y12 => K y7 y8 y9 y10 y11 y12)))))))))))))

theorem tie_glue_appendNumber_n (x : (Unit × Int × Bool × Unit) × (List (sg.Den Cd.u8) × (Int × (List UInt8) × Int × (List UInt8) × Bool × Unit) × Unit)) (K : (Unit × Unit) × (List (sg.Den Cd.u8) × (Int × (List UInt8) × Int × (List UInt8) × Bool × Unit) × Unit) → Prop) : forceZ (sl_glue_appendNumber_n.put x) (fun z => sC sy Tryz.prog GT (C_glue_appendNumber_n) (L_glue_appendNumber_n) Tryz.f66.ntmps (bodyOf Tryz.f66) z (fin2 sr_glue_appendNumber_n K)) = g_glue_appendNumber_n (F_glue_appendNumber_n) x K := by kernel_rfl
theorem ok_glue_appendNumber_n : ShOK sy Tryz.prog GT (ovD ro) ro Tryz.f66.ntmps (bodyOf Tryz.f66) sl_glue_appendNumber_n sr_glue_appendNumber_n (g_glue_appendNumber_n (F_glue_appendNumber_n)) := sh_of (Cok_glue_appendNumber_n) (Lp_glue_appendNumber_n) (tie_glue_appendNumber_n)

def C_glue_appendToken_n (A66_n : T_glue_appendNumber_n) (A67 : T_glue_isWhole) : CallT sg := tab [(35, con [] noT), (63, con [] noT), (64, con [] noT), (65, con [] noT), (66, shp sy Tryz.prog GT Tryz.f66.ntmps sl_glue_appendNumber_n sr_glue_appendNumber_n Tryz.f66.results.toList (g_glue_appendNumber_n A66_n)), (67, con [none] (q_glue_isWhole A67)), (68, con [] noT)]
theorem Cok_glue_appendToken_n (A66_n : T_glue_appendNumber_n) (A67 : T_glue_isWhole) (h66_n : ShOK sy Tryz.prog GT (ovD ro) ro Tryz.f66.ntmps (bodyOf Tryz.f66) sl_glue_appendNumber_n sr_glue_appendNumber_n (g_glue_appendNumber_n A66_n)) (h67 : FnOK sy Tryz.prog GT (ovD ro) ro 67 (q_glue_isWhole A67)) (o0 : Nat → Prop) : CalOK sy Tryz.prog GT (ovD ro) o0 ro (C_glue_appendToken_n A66_n A67) := (tab_cons (con_ok (noT_ok 35)) (tab_cons (con_ok (noT_ok 63)) (tab_cons (con_ok (noT_ok 64)) (tab_cons (con_ok (noT_ok 65)) (tab_cons (shp_ok (f := 66) (fn := Tryz.f66) (c := bodyOf Tryz.f66) (fun _ _ => rfl) Tryz.func66 (by kernel_rfl) rfl rfl (by decide) h66_n) (tab_cons (con_ok h67) (tab_cons (con_ok (noT_ok 68)) tab_nil))))))) o0

def sl_glue_appendToken_n : LS sy (Unit × (Int × (List UInt8) × Int × (List UInt8) × Bool × Unit) × Unit) (List (sg.Den Cd.u8) × Unit) := ⟨[.slot 0 1 Cd.u8], fCons 0 (vLit sy (.o 1)) (fCons 1 (vAgg (lCons (vInt sy .u8) (lCons (vStr sy) (lCons (vInt sy .i64) (lCons (vStr sy) (lCons (vBool sy) (lNil sy))))))) (fNil sy)), hBuf 1 Cd.u8 (hNil sy), 2, []⟩
def sr_glue_appendToken_n : LS sy (Unit × Unit) (List (sg.Den Cd.u8) × Unit) := ⟨[], fCons 4 (vLit sy (.o 1)) (fNil sy), hBuf 1 Cd.u8 (hNil sy), 2, [1]⟩
abbrev T_glue_appendToken_n := Int → (List UInt8) → Int → (List UInt8) → Bool → (List UInt8) → (List UInt8 → Prop) → Prop
def g_glue_appendToken_n (A : T_glue_appendToken_n) (x : (Unit × (Int × (List UInt8) × Int × (List UInt8) × Bool × Unit) × Unit) × (List (sg.Den Cd.u8) × Unit)) (K : (Unit × Unit) × (List (sg.Den Cd.u8) × Unit) → Prop) : Prop := A x.1.2.1.1 x.1.2.1.2.1 x.1.2.1.2.2.1 x.1.2.1.2.2.2.1 x.1.2.1.2.2.2.2.1 x.2.1 (fun y0 => K (((), ()), (y0, ())))
def F_glue_appendToken_n (A66_n : T_glue_appendNumber_n) (A67 : T_glue_isWhole) (x1_0 : Int) (x1_1 : List UInt8) (x1_2 : Int) (x1_3 : List UInt8) (x1_4 : Bool) (b1 : List UInt8) (K : (List UInt8 → Prop)) : Prop :=
  (((decide (x1_0 = (13 : Int))) = true → ((0 ≤ (32 : Int) ∧ (32 : Int) ≤ 255) ∧ ((b1.length + [UInt8.ofNat 32].length) * 1 ≤ 1099511627776 ∧ K (b1 ++ [UInt8.ofNat 32])))) ∧ ((decide (x1_0 = (13 : Int))) = false → (((decide (x1_0 = (1 : Int))) = true → False) ∧ ((decide (x1_0 = (1 : Int))) = false → (((decide (x1_0 = (2 : Int))) = true → False) ∧ ((decide (x1_0 = (2 : Int))) = false → (((decide (x1_0 = (3 : Int))) = true → ((0 ≤ (64 : Int) ∧ (64 : Int) ≤ 255) ∧ ((b1.length + [UInt8.ofNat 64].length) * 1 ≤ 1099511627776 ∧ ((.s x1_1 : W) = .s x1_1 ∧ False)))) ∧ ((decide (x1_0 = (3 : Int))) = false → (((decide (x1_0 = (4 : Int))) = true → False) ∧ ((decide (x1_0 = (4 : Int))) = false → (((decide (x1_0 = (5 : Int))) = true → False) ∧ ((decide (x1_0 = (5 : Int))) = false → (((decide (x1_0 = (7 : Int))) = true → False) ∧ ((decide (x1_0 = (7 : Int))) = false → (((decide (x1_0 = (10 : Int))) = true → (A66_n x1_2 x1_4 b1 x1_0 x1_1 x1_2 x1_3 x1_4 (fun y1 y2 y3 y4 y5 y6 => K y1))) ∧ ((decide (x1_0 = (10 : Int))) = false → (((decide (x1_0 = (11 : Int))) = true → (A67 x1_2 (fun y7 => (A66_n x1_2 y7 b1 x1_0 x1_1 x1_2 x1_3 x1_4 (fun y8 y9 y10 y11 y12 y13 => ((0 ≤ (37 : Int) ∧ (37 : Int) ≤ 255) ∧ ((y8.length + [UInt8.ofNat 37].length) * 1 ≤ 1099511627776 ∧ K (y8 ++ [UInt8.ofNat 37])))))))) ∧ ((decide (x1_0 = (11 : Int))) = false → (((decide (x1_0 = (12 : Int))) = true → (A66_n x1_2 x1_4 b1 x1_0 x1_1 x1_2 x1_3 x1_4 (fun y14 y15 y16 y17 y18 y19 => ((.s y18 : W) = .s x1_3 ∧ False)))) ∧ ((decide (x1_0 = (12 : Int))) = false → (((decide (x1_0 = (9 : Int))) = true → ((b1.length + x1_1.length) * 1 ≤ 1099511627776 ∧ K (b1 ++ x1_1))) ∧ ((decide (x1_0 = (9 : Int))) = false → (((decide (x1_0 = (14 : Int))) = true → ((b1.length + ([60, 33, 45, 45] : List UInt8).length) * 1 ≤ 1099511627776 ∧ K (b1 ++ ([60, 33, 45, 45] : List UInt8)))) ∧ ((decide (x1_0 = (14 : Int))) = false → (((decide (x1_0 = (15 : Int))) = true → ((b1.length + ([45, 45, 62] : List UInt8).length) * 1 ≤ 1099511627776 ∧ K (b1 ++ ([45, 45, 62] : List UInt8)))) ∧ ((decide (x1_0 = (15 : Int))) = false → ((0 ≤ (IntKind.u8.wrap (x1_0 - (16 : Int))) ∧ (IntKind.u8.wrap (x1_0 - (16 : Int))) < (([58, 59, 44, 91, 93, 40, 41, 123, 125] : List UInt8).length : Int)) ∧ ((0 ≤ ((([58, 59, 44, 91, 93, 40, 41, 123, 125] : List UInt8).getD (IntKind.u8.wrap (x1_0 - (16 : Int))).toNat 0).toNat : Int) ∧ ((([58, 59, 44, 91, 93, 40, 41, 123, 125] : List UInt8).getD (IntKind.u8.wrap (x1_0 - (16 : Int))).toNat 0).toNat : Int) ≤ 255) ∧ ((b1.length + [UInt8.ofNat (((([58, 59, 44, 91, 93, 40, 41, 123, 125] : List UInt8).getD (IntKind.u8.wrap (x1_0 - (16 : Int))).toNat 0).toNat : Int).toNat)].length) * 1 ≤ 1099511627776 ∧ K (b1 ++ [UInt8.ofNat (((([58, 59, 44, 91, 93, 40, 41, 123, 125] : List UInt8).getD (IntKind.u8.wrap (x1_0 - (16 : Int))).toNat 0).toNat : Int).toNat)]))))))))))))))))))))))))))))))

theorem tie_glue_appendToken_n (A66_n : T_glue_appendNumber_n) (A67 : T_glue_isWhole) (x : (Unit × (Int × (List UInt8) × Int × (List UInt8) × Bool × Unit) × Unit) × (List (sg.Den Cd.u8) × Unit)) (K : (Unit × Unit) × (List (sg.Den Cd.u8) × Unit) → Prop) : forceZ (sl_glue_appendToken_n.put x) (fun z => sC sy Tryz.prog GT (C_glue_appendToken_n A66_n A67) noL Tryz.f37.ntmps (bodyOf Tryz.f37) z (fin2 sr_glue_appendToken_n K)) = g_glue_appendToken_n (F_glue_appendToken_n A66_n A67) x K := by kernel_rfl
theorem ok_glue_appendToken_n (A66_n : T_glue_appendNumber_n) (A67 : T_glue_isWhole) (h66_n : ShOK sy Tryz.prog GT (ovD ro) ro Tryz.f66.ntmps (bodyOf Tryz.f66) sl_glue_appendNumber_n sr_glue_appendNumber_n (g_glue_appendNumber_n A66_n)) (h67 : FnOK sy Tryz.prog GT (ovD ro) ro 67 (q_glue_isWhole A67)) : ShOK sy Tryz.prog GT (ovD ro) ro Tryz.f37.ntmps (bodyOf Tryz.f37) sl_glue_appendToken_n sr_glue_appendToken_n (g_glue_appendToken_n (F_glue_appendToken_n A66_n A67)) := sh_of (Cok_glue_appendToken_n A66_n A67 h66_n h67) (lp_of (l := []) (by kernel_rfl) lp_nil) (tie_glue_appendToken_n A66_n A67)

abbrev T_glue_One := Tok → (List UInt8 → Int → Prop) → Prop
def q_glue_One (A : T_glue_One) (us : List W) (k : W → Prop) : Prop := match us with
  | [.a [.i .u8 a0_0, .s a0_1, .i .i64 a0_2, .s a0_3, .b a0_4]] => A (Tok.mk a0_0 a0_1 a0_2 a0_3 a0_4) (fun r0 r1 => k (.t [.s r0, .i .i64 r1]))
  | _ => False
theorem q_glue_One_weak {A A2 : T_glue_One} (h : FnOK sy Tryz.prog GT (ovD ro) ro 20 (q_glue_One A)) (hA : ∀ a0 K, A2 a0 K → A a0 K) : FnOK sy Tryz.prog GT (ovD ro) ro 20 (q_glue_One A2) := h.weak (by
  intro us k h
  unfold q_glue_One at h ⊢
  split at h
  · exact hA _ _ h
  · exact h.elim)

def F_glue_One (A29 : T_glue_canBeWritten) (A37_n : T_glue_appendToken_n) (a0 : Tok) (K : List UInt8 → Int → Prop) : Prop :=
  (A29 (Tok.mk a0.kind a0.text a0.num a0.unit a0.flag) (fun y1 => (((!y1) = true → K ([] : List UInt8) (8 : Int)) ∧ ((!y1) = false → (A37_n a0.kind a0.text a0.num a0.unit a0.flag ([] : List UInt8) (fun y2 => K y2 (0 : Int)))))))

def C_glue_One (A29 : T_glue_canBeWritten) (A37_n : T_glue_appendToken_n) : CallT sg := tab [(29, con [none] (q_glue_canBeWritten A29)), (37, shp sy Tryz.prog GT Tryz.f37.ntmps sl_glue_appendToken_n sr_glue_appendToken_n Tryz.f37.results.toList (g_glue_appendToken_n A37_n))]
theorem Cok_glue_One (A29 : T_glue_canBeWritten) (A37_n : T_glue_appendToken_n) (h29 : FnOK sy Tryz.prog GT (ovD ro) ro 29 (q_glue_canBeWritten A29)) (h37_n : ShOK sy Tryz.prog GT (ovD ro) ro Tryz.f37.ntmps (bodyOf Tryz.f37) sl_glue_appendToken_n sr_glue_appendToken_n (g_glue_appendToken_n A37_n)) (o0 : Nat → Prop) : CalOK sy Tryz.prog GT (ovD ro) o0 ro (C_glue_One A29 A37_n) := (tab_cons (con_ok h29) (tab_cons (shp_ok (f := 37) (fn := Tryz.f37) (c := bodyOf Tryz.f37) (fun _ _ => rfl) Tryz.func37 (by kernel_rfl) rfl rfl (by decide) h37_n) tab_nil)) o0

theorem raw_glue_One (A29 : T_glue_canBeWritten) (A37_n : T_glue_appendToken_n) (a0 : Tok) (k : W → Prop) : fnT sy Tryz.prog GT (C_glue_One A29 A37_n) noL Tryz.f20.ntmps (bodyOf Tryz.f20) [none, none] Tryz.f20.results.toList [.a [.i .u8 a0.kind, .s a0.text, .i .i64 a0.num, .s a0.unit, .b a0.flag]] k = F_glue_One A29 A37_n a0 (fun r0 r1 => k (.t [.s r0, .i .i64 r1])) := by kernel_rfl

theorem ok_glue_One (A29 : T_glue_canBeWritten) (A37_n : T_glue_appendToken_n) (h29 : FnOK sy Tryz.prog GT (ovD ro) ro 29 (q_glue_canBeWritten A29)) (h37_n : ShOK sy Tryz.prog GT (ovD ro) ro Tryz.f37.ntmps (bodyOf Tryz.f37) sl_glue_appendToken_n sr_glue_appendToken_n (g_glue_appendToken_n A37_n)) : FnOK sy Tryz.prog GT (ovD ro) ro 20 (q_glue_One (F_glue_One A29 A37_n)) := (fn_ok (rc := [none, none]) (f := 20) (fn := Tryz.f20) (c := bodyOf Tryz.f20) (nt := Tryz.f20.ntmps) (res := Tryz.f20.results.toList) (C := C_glue_One A29 A37_n) (L := noL) (fun _ _ => rfl) Tryz.func20 (by kernel_rfl) rfl rfl (Cok_glue_One A29 A37_n h29 h37_n) (lp_of (l := []) (by kernel_rfl) lp_nil)).weak (by
  intro us k h
  unfold q_glue_One at h
  split at h
  · skip
    rename_i a0_0 a0_1 a0_2 a0_3 a0_4
    rw [raw_glue_One A29 A37_n (Tok.mk a0_0 a0_1 a0_2 a0_3 a0_4) k]
    exact h
  · exact h.elim)

end Go.Proofs.YtkmgbibhkilffaaGreatDoor
