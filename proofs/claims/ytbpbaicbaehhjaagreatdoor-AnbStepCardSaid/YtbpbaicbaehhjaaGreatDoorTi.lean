/-
  Progressions, followed. Nothing is claimed here.
-/
import Derived.Test.YtbpbaicbaehhjaaGreatDoorTl
namespace Go.Proofs.YtbpbaicbaehhjaaGreatDoor
open Go.Vm Go.Sx Go.RowKit
variable {ro : Nat}

abbrev T_strconv_FormatInt := Int → Int → (List UInt8 → Prop) → Prop
def q_strconv_FormatInt (A : T_strconv_FormatInt) (us : List W) (k : W → Prop) : Prop := match us with
  | [.i .i64 a0, .i .i64 a1] => A a0 a1 (fun r0 => k (.s r0))
  | _ => False
theorem q_strconv_FormatInt_weak {A A2 : T_strconv_FormatInt} (h : FnOK sy Tryz.prog GT (ovD ro) ro 31 (q_strconv_FormatInt A)) (hA : ∀ a0 a1 K, A2 a0 a1 K → A a0 a1 K) : FnOK sy Tryz.prog GT (ovD ro) ro 31 (q_strconv_FormatInt A2) := h.weak (by
  intro us k h
  unfold q_strconv_FormatInt at h ⊢
  split at h
  · exact hA _ _ _ h
  · exact h.elim)

abbrev T_vitrinelaw07_alive := (Bool → Prop) → Prop
def q_vitrinelaw07_alive (A : T_vitrinelaw07_alive) (us : List W) (k : W → Prop) : Prop := match us with
  | [] => A (fun r0 => k (.b r0))
  | _ => False
theorem q_vitrinelaw07_alive_weak {A A2 : T_vitrinelaw07_alive} (h : FnOK sy Tryz.prog GT (ovD ro) ro 15 (q_vitrinelaw07_alive A)) (hA : ∀  K, A2  K → A  K) : FnOK sy Tryz.prog GT (ovD ro) ro 15 (q_vitrinelaw07_alive A2) := h.weak (by
  intro us k h
  unfold q_vitrinelaw07_alive at h ⊢
  split at h
  · exact hA _ h
  · exact h.elim)

abbrev T_stringslite_CutPrefix := List UInt8 → List UInt8 → (List UInt8 → Bool → Prop) → Prop
def q_stringslite_CutPrefix (A : T_stringslite_CutPrefix) (us : List W) (k : W → Prop) : Prop := match us with
  | [.s a0, .s a1] => A a0 a1 (fun r0 r1 => k (.t [.s r0, .b r1]))
  | _ => False
theorem q_stringslite_CutPrefix_weak {A A2 : T_stringslite_CutPrefix} (h : FnOK sy Tryz.prog GT (ovD ro) ro 40 (q_stringslite_CutPrefix A)) (hA : ∀ a0 a1 K, A2 a0 a1 K → A a0 a1 K) : FnOK sy Tryz.prog GT (ovD ro) ro 40 (q_stringslite_CutPrefix A2) := h.weak (by
  intro us k h
  unfold q_stringslite_CutPrefix at h ⊢
  split at h
  · exact hA _ _ _ h
  · exact h.elim)

def F_stringslite_CutPrefix (A61 : T_stringslite_HasPrefix) (a0 : List UInt8) (a1 : List UInt8) (K : List UInt8 → Bool → Prop) : Prop :=
  (A61 a0 a1 (fun y1 => (((!y1) = true → K a0 false) ∧ ((!y1) = false → ((0 ≤ (a1.length : Int) ∧ (a1.length : Int) ≤ (a0.length : Int)) ∧ K (a0.drop (a1.length : Int).toNat) true)))))

def C_stringslite_CutPrefix (A61 : T_stringslite_HasPrefix) : CallT sg := tab [(61, con [none, none] (q_stringslite_HasPrefix A61))]
theorem Cok_stringslite_CutPrefix (A61 : T_stringslite_HasPrefix) (h61 : FnOK sy Tryz.prog GT (ovD ro) ro 61 (q_stringslite_HasPrefix A61)) (o0 : Nat → Prop) : CalOK sy Tryz.prog GT (ovD ro) o0 ro (C_stringslite_CutPrefix A61) := (tab_cons (con_ok h61) tab_nil) o0

theorem raw_stringslite_CutPrefix (A61 : T_stringslite_HasPrefix) (a0 : List UInt8) (a1 : List UInt8) (k : W → Prop) : fnT sy Tryz.prog GT (C_stringslite_CutPrefix A61) noL Tryz.f40.ntmps (bodyOf Tryz.f40) [none, none] Tryz.f40.results.toList [.s a0, .s a1] k = F_stringslite_CutPrefix A61 a0 a1 (fun r0 r1 => k (.t [.s r0, .b r1])) := by kernel_rfl

theorem ok_stringslite_CutPrefix (A61 : T_stringslite_HasPrefix) (h61 : FnOK sy Tryz.prog GT (ovD ro) ro 61 (q_stringslite_HasPrefix A61)) : FnOK sy Tryz.prog GT (ovD ro) ro 40 (q_stringslite_CutPrefix (F_stringslite_CutPrefix A61)) := (fn_ok (rc := [none, none]) (f := 40) (fn := Tryz.f40) (c := bodyOf Tryz.f40) (nt := Tryz.f40.ntmps) (res := Tryz.f40.results.toList) (C := C_stringslite_CutPrefix A61) (L := noL) (fun _ _ => rfl) Tryz.func40 (by kernel_rfl) rfl rfl (Cok_stringslite_CutPrefix A61 h61) (lp_of (l := []) (by kernel_rfl) lp_nil)).weak (by
  intro us k h
  unfold q_stringslite_CutPrefix at h
  split at h
  · skip
    rename_i a0 a1
    rw [raw_stringslite_CutPrefix A61 a0 a1 k]
    exact h
  · exact h.elim)

abbrev T_strings_CutPrefix := List UInt8 → List UInt8 → (List UInt8 → Bool → Prop) → Prop
def q_strings_CutPrefix (A : T_strings_CutPrefix) (us : List W) (k : W → Prop) : Prop := match us with
  | [.s a0, .s a1] => A a0 a1 (fun r0 r1 => k (.t [.s r0, .b r1]))
  | _ => False
theorem q_strings_CutPrefix_weak {A A2 : T_strings_CutPrefix} (h : FnOK sy Tryz.prog GT (ovD ro) ro 29 (q_strings_CutPrefix A)) (hA : ∀ a0 a1 K, A2 a0 a1 K → A a0 a1 K) : FnOK sy Tryz.prog GT (ovD ro) ro 29 (q_strings_CutPrefix A2) := h.weak (by
  intro us k h
  unfold q_strings_CutPrefix at h ⊢
  split at h
  · exact hA _ _ _ h
  · exact h.elim)

def F_strings_CutPrefix (A40 : T_stringslite_CutPrefix) (a0 : List UInt8) (a1 : List UInt8) (K : List UInt8 → Bool → Prop) : Prop :=
  (A40 a0 a1 (fun y1 y2 => K y1 y2))

def C_strings_CutPrefix (A40 : T_stringslite_CutPrefix) : CallT sg := tab [(40, con [none, none] (q_stringslite_CutPrefix A40))]
theorem Cok_strings_CutPrefix (A40 : T_stringslite_CutPrefix) (h40 : FnOK sy Tryz.prog GT (ovD ro) ro 40 (q_stringslite_CutPrefix A40)) (o0 : Nat → Prop) : CalOK sy Tryz.prog GT (ovD ro) o0 ro (C_strings_CutPrefix A40) := (tab_cons (con_ok h40) tab_nil) o0

theorem raw_strings_CutPrefix (A40 : T_stringslite_CutPrefix) (a0 : List UInt8) (a1 : List UInt8) (k : W → Prop) : fnT sy Tryz.prog GT (C_strings_CutPrefix A40) noL Tryz.f29.ntmps (bodyOf Tryz.f29) [none, none] Tryz.f29.results.toList [.s a0, .s a1] k = F_strings_CutPrefix A40 a0 a1 (fun r0 r1 => k (.t [.s r0, .b r1])) := by kernel_rfl

theorem ok_strings_CutPrefix (A40 : T_stringslite_CutPrefix) (h40 : FnOK sy Tryz.prog GT (ovD ro) ro 40 (q_stringslite_CutPrefix A40)) : FnOK sy Tryz.prog GT (ovD ro) ro 29 (q_strings_CutPrefix (F_strings_CutPrefix A40)) := (fn_ok (rc := [none, none]) (f := 29) (fn := Tryz.f29) (c := bodyOf Tryz.f29) (nt := Tryz.f29.ntmps) (res := Tryz.f29.results.toList) (C := C_strings_CutPrefix A40) (L := noL) (fun _ _ => rfl) Tryz.func29 (by kernel_rfl) rfl rfl (Cok_strings_CutPrefix A40 h40) (lp_of (l := []) (by kernel_rfl) lp_nil)).weak (by
  intro us k h
  unfold q_strings_CutPrefix at h
  split at h
  · skip
    rename_i a0 a1
    rw [raw_strings_CutPrefix A40 a0 a1 k]
    exact h
  · exact h.elim)

abbrev T_anb_isWithin := Int → (Bool → Prop) → Prop
def q_anb_isWithin (A : T_anb_isWithin) (us : List W) (k : W → Prop) : Prop := match us with
  | [.i .i64 a0] => A a0 (fun r0 => k (.b r0))
  | _ => False
theorem q_anb_isWithin_weak {A A2 : T_anb_isWithin} (h : FnOK sy Tryz.prog GT (ovD ro) ro 23 (q_anb_isWithin A)) (hA : ∀ a0 K, A2 a0 K → A a0 K) : FnOK sy Tryz.prog GT (ovD ro) ro 23 (q_anb_isWithin A2) := h.weak (by
  intro us k h
  unfold q_anb_isWithin at h ⊢
  split at h
  · exact hA _ _ h
  · exact h.elim)

def F_anb_isWithin (a0 : Int) (K : Bool → Prop) : Prop :=
  (((decide ((-1000000000 : Int) ≤ a0)) = true → K (decide (a0 ≤ (1000000000 : Int)))) ∧ ((decide ((-1000000000 : Int) ≤ a0)) = false → K false))

def C_anb_isWithin : CallT sg := tab []
theorem Cok_anb_isWithin (o0 : Nat → Prop) : CalOK sy Tryz.prog GT (ovD ro) o0 ro (C_anb_isWithin) := tab_nil o0

theorem raw_anb_isWithin (a0 : Int) (k : W → Prop) : fnT sy Tryz.prog GT (C_anb_isWithin) noL Tryz.f23.ntmps (bodyOf Tryz.f23) [none] Tryz.f23.results.toList [.i .i64 a0] k = F_anb_isWithin a0 (fun r0 => k (.b r0)) := by kernel_rfl

theorem ok_anb_isWithin : FnOK sy Tryz.prog GT (ovD ro) ro 23 (q_anb_isWithin (F_anb_isWithin)) := (fn_ok (rc := [none]) (f := 23) (fn := Tryz.f23) (c := bodyOf Tryz.f23) (nt := Tryz.f23.ntmps) (res := Tryz.f23.results.toList) (C := C_anb_isWithin) (L := noL) (fun _ _ => rfl) Tryz.func23 (by kernel_rfl) rfl rfl (Cok_anb_isWithin) (lp_of (l := []) (by kernel_rfl) lp_nil)).weak (by
  intro us k h
  unfold q_anb_isWithin at h
  split at h
  · skip
    rename_i a0
    rw [raw_anb_isWithin a0 k]
    exact h
  · exact h.elim)

abbrev T_anb_has := (Int × Int) → Int → (Bool → Prop) → Prop
def q_anb_has (A : T_anb_has) (us : List W) (k : W → Prop) : Prop := match us with
  | [.a [.i .i64 a0_0, .i .i64 a0_1], .i .i64 a1] => A (a0_0, a0_1) a1 (fun r0 => k (.b r0))
  | _ => False
theorem q_anb_has_weak {A A2 : T_anb_has} (h : FnOK sy Tryz.prog GT (ovD ro) ro 19 (q_anb_has A)) (hA : ∀ a0 a1 K, A2 a0 a1 K → A a0 a1 K) : FnOK sy Tryz.prog GT (ovD ro) ro 19 (q_anb_has A2) := h.weak (by
  intro us k h
  unfold q_anb_has at h ⊢
  split at h
  · exact hA _ _ _ h
  · exact h.elim)

def F_anb_has (a0 : (Int × Int)) (a1 : Int) (K : Bool → Prop) : Prop :=
  (I64 (a1 - a0.2) ∧ (((decide (a0.1 = (0 : Int))) = true → K (decide ((a1 - a0.2) = (0 : Int)))) ∧ ((decide (a0.1 = (0 : Int))) = false → (a0.1 ≠ 0 ∧ (((decide (((a1 - a0.2).tmod a0.1) = (0 : Int))) = true → (a0.1 ≠ 0 ∧ (I64 ((a1 - a0.2).tdiv a0.1) ∧ K (decide ((0 : Int) ≤ ((a1 - a0.2).tdiv a0.1)))))) ∧ ((decide (((a1 - a0.2).tmod a0.1) = (0 : Int))) = false → K false))))))

def C_anb_has : CallT sg := tab []
theorem Cok_anb_has (o0 : Nat → Prop) : CalOK sy Tryz.prog GT (ovD ro) o0 ro (C_anb_has) := tab_nil o0

theorem raw_anb_has (a0 : (Int × Int)) (a1 : Int) (k : W → Prop) : fnT sy Tryz.prog GT (C_anb_has) noL Tryz.f19.ntmps (bodyOf Tryz.f19) [none] Tryz.f19.results.toList [.a [.i .i64 a0.1, .i .i64 a0.2], .i .i64 a1] k = F_anb_has a0 a1 (fun r0 => k (.b r0)) := by kernel_rfl

theorem ok_anb_has : FnOK sy Tryz.prog GT (ovD ro) ro 19 (q_anb_has (F_anb_has)) := (fn_ok (rc := [none]) (f := 19) (fn := Tryz.f19) (c := bodyOf Tryz.f19) (nt := Tryz.f19.ntmps) (res := Tryz.f19.results.toList) (C := C_anb_has) (L := noL) (fun _ _ => rfl) Tryz.func19 (by kernel_rfl) rfl rfl (Cok_anb_has) (lp_of (l := []) (by kernel_rfl) lp_nil)).weak (by
  intro us k h
  unfold q_anb_has at h
  split at h
  · skip
    rename_i a0_0 a0_1 a1
    rw [raw_anb_has (a0_0, a0_1) a1 k]
    exact h
  · exact h.elim)

abbrev T_anb_decimal := Int → (List UInt8 → Prop) → Prop
def q_anb_decimal (A : T_anb_decimal) (us : List W) (k : W → Prop) : Prop := match us with
  | [.i .i64 a0] => A a0 (fun r0 => k (.s r0))
  | _ => False
theorem q_anb_decimal_weak {A A2 : T_anb_decimal} (h : FnOK sy Tryz.prog GT (ovD ro) ro 20 (q_anb_decimal A)) (hA : ∀ a0 K, A2 a0 K → A a0 K) : FnOK sy Tryz.prog GT (ovD ro) ro 20 (q_anb_decimal A2) := h.weak (by
  intro us k h
  unfold q_anb_decimal at h ⊢
  split at h
  · exact hA _ _ h
  · exact h.elim)

def F_anb_decimal (A31 : T_strconv_FormatInt) (a0 : Int) (K : List UInt8 → Prop) : Prop :=
  (A31 a0 (10 : Int) (fun y1 => K y1))

def C_anb_decimal (A31 : T_strconv_FormatInt) : CallT sg := tab [(31, con [none, none] (q_strconv_FormatInt A31))]
theorem Cok_anb_decimal (A31 : T_strconv_FormatInt) (h31 : FnOK sy Tryz.prog GT (ovD ro) ro 31 (q_strconv_FormatInt A31)) (o0 : Nat → Prop) : CalOK sy Tryz.prog GT (ovD ro) o0 ro (C_anb_decimal A31) := (tab_cons (con_ok h31) tab_nil) o0

theorem raw_anb_decimal (A31 : T_strconv_FormatInt) (a0 : Int) (k : W → Prop) : fnT sy Tryz.prog GT (C_anb_decimal A31) noL Tryz.f20.ntmps (bodyOf Tryz.f20) [none] Tryz.f20.results.toList [.i .i64 a0] k = F_anb_decimal A31 a0 (fun r0 => k (.s r0)) := by kernel_rfl

theorem ok_anb_decimal (A31 : T_strconv_FormatInt) (h31 : FnOK sy Tryz.prog GT (ovD ro) ro 31 (q_strconv_FormatInt A31)) : FnOK sy Tryz.prog GT (ovD ro) ro 20 (q_anb_decimal (F_anb_decimal A31)) := (fn_ok (rc := [none]) (f := 20) (fn := Tryz.f20) (c := bodyOf Tryz.f20) (nt := Tryz.f20.ntmps) (res := Tryz.f20.results.toList) (C := C_anb_decimal A31) (L := noL) (fun _ _ => rfl) Tryz.func20 (by kernel_rfl) rfl rfl (Cok_anb_decimal A31 h31) (lp_of (l := []) (by kernel_rfl) lp_nil)).weak (by
  intro us k h
  unfold q_anb_decimal at h
  split at h
  · skip
    rename_i a0
    rw [raw_anb_decimal A31 a0 k]
    exact h
  · exact h.elim)

abbrev T_anb_factor := Int → (List UInt8 → Prop) → Prop
def q_anb_factor (A : T_anb_factor) (us : List W) (k : W → Prop) : Prop := match us with
  | [.i .i64 a0] => A a0 (fun r0 => k (.s r0))
  | _ => False
theorem q_anb_factor_weak {A A2 : T_anb_factor} (h : FnOK sy Tryz.prog GT (ovD ro) ro 21 (q_anb_factor A)) (hA : ∀ a0 K, A2 a0 K → A a0 K) : FnOK sy Tryz.prog GT (ovD ro) ro 21 (q_anb_factor A2) := h.weak (by
  intro us k h
  unfold q_anb_factor at h ⊢
  split at h
  · exact hA _ _ h
  · exact h.elim)

def F_anb_factor (A20 : T_anb_decimal) (a0 : Int) (K : List UInt8 → Prop) : Prop :=
  (((decide (a0 = (1 : Int))) = true → K ([] : List UInt8)) ∧ ((decide (a0 = (1 : Int))) = false → (((decide (a0 = (-1 : Int))) = true → K ([45] : List UInt8)) ∧ ((decide (a0 = (-1 : Int))) = false → (A20 a0 (fun y1 => K y1))))))

def C_anb_factor (A20 : T_anb_decimal) : CallT sg := tab [(20, con [none] (q_anb_decimal A20))]
theorem Cok_anb_factor (A20 : T_anb_decimal) (h20 : FnOK sy Tryz.prog GT (ovD ro) ro 20 (q_anb_decimal A20)) (o0 : Nat → Prop) : CalOK sy Tryz.prog GT (ovD ro) o0 ro (C_anb_factor A20) := (tab_cons (con_ok h20) tab_nil) o0

theorem raw_anb_factor (A20 : T_anb_decimal) (a0 : Int) (k : W → Prop) : fnT sy Tryz.prog GT (C_anb_factor A20) noL Tryz.f21.ntmps (bodyOf Tryz.f21) [none] Tryz.f21.results.toList [.i .i64 a0] k = F_anb_factor A20 a0 (fun r0 => k (.s r0)) := by kernel_rfl

theorem ok_anb_factor (A20 : T_anb_decimal) (h20 : FnOK sy Tryz.prog GT (ovD ro) ro 20 (q_anb_decimal A20)) : FnOK sy Tryz.prog GT (ovD ro) ro 21 (q_anb_factor (F_anb_factor A20)) := (fn_ok (rc := [none]) (f := 21) (fn := Tryz.f21) (c := bodyOf Tryz.f21) (nt := Tryz.f21.ntmps) (res := Tryz.f21.results.toList) (C := C_anb_factor A20) (L := noL) (fun _ _ => rfl) Tryz.func21 (by kernel_rfl) rfl rfl (Cok_anb_factor A20 h20) (lp_of (l := []) (by kernel_rfl) lp_nil)).weak (by
  intro us k h
  unfold q_anb_factor at h
  split at h
  · skip
    rename_i a0
    rw [raw_anb_factor A20 a0 k]
    exact h
  · exact h.elim)

abbrev T_anb_addend := Int → (List UInt8 → Prop) → Prop
def q_anb_addend (A : T_anb_addend) (us : List W) (k : W → Prop) : Prop := match us with
  | [.i .i64 a0] => A a0 (fun r0 => k (.s r0))
  | _ => False
theorem q_anb_addend_weak {A A2 : T_anb_addend} (h : FnOK sy Tryz.prog GT (ovD ro) ro 22 (q_anb_addend A)) (hA : ∀ a0 K, A2 a0 K → A a0 K) : FnOK sy Tryz.prog GT (ovD ro) ro 22 (q_anb_addend A2) := h.weak (by
  intro us k h
  unfold q_anb_addend at h ⊢
  split at h
  · exact hA _ _ h
  · exact h.elim)

def F_anb_addend (A20 : T_anb_decimal) (a0 : Int) (K : List UInt8 → Prop) : Prop :=
  (((decide (a0 = (0 : Int))) = true → K ([] : List UInt8)) ∧ ((decide (a0 = (0 : Int))) = false → (((decide ((0 : Int) < a0)) = true → (A20 a0 (fun y1 => (([43] : List UInt8).length + y1.length ≤ 1099511627776 ∧ K (([43] : List UInt8) ++ y1))))) ∧ ((decide ((0 : Int) < a0)) = false → (A20 a0 (fun y2 => K y2))))))

def C_anb_addend (A20 : T_anb_decimal) : CallT sg := tab [(20, con [none] (q_anb_decimal A20))]
theorem Cok_anb_addend (A20 : T_anb_decimal) (h20 : FnOK sy Tryz.prog GT (ovD ro) ro 20 (q_anb_decimal A20)) (o0 : Nat → Prop) : CalOK sy Tryz.prog GT (ovD ro) o0 ro (C_anb_addend A20) := (tab_cons (con_ok h20) tab_nil) o0

theorem raw_anb_addend (A20 : T_anb_decimal) (a0 : Int) (k : W → Prop) : fnT sy Tryz.prog GT (C_anb_addend A20) noL Tryz.f22.ntmps (bodyOf Tryz.f22) [none] Tryz.f22.results.toList [.i .i64 a0] k = F_anb_addend A20 a0 (fun r0 => k (.s r0)) := by kernel_rfl

theorem ok_anb_addend (A20 : T_anb_decimal) (h20 : FnOK sy Tryz.prog GT (ovD ro) ro 20 (q_anb_decimal A20)) : FnOK sy Tryz.prog GT (ovD ro) ro 22 (q_anb_addend (F_anb_addend A20)) := (fn_ok (rc := [none]) (f := 22) (fn := Tryz.f22) (c := bodyOf Tryz.f22) (nt := Tryz.f22.ntmps) (res := Tryz.f22.results.toList) (C := C_anb_addend A20) (L := noL) (fun _ _ => rfl) Tryz.func22 (by kernel_rfl) rfl rfl (Cok_anb_addend A20 h20) (lp_of (l := []) (by kernel_rfl) lp_nil)).weak (by
  intro us k h
  unfold q_anb_addend at h
  split at h
  · skip
    rename_i a0
    rw [raw_anb_addend A20 a0 k]
    exact h
  · exact h.elim)

abbrev T_anb_Check := (Int × Int) → (Int → Prop) → Prop
def q_anb_Check (A : T_anb_Check) (us : List W) (k : W → Prop) : Prop := match us with
  | [.a [.i .i64 a0_0, .i .i64 a0_1]] => A (a0_0, a0_1) (fun r0 => k (.i .i64 r0))
  | _ => False
theorem q_anb_Check_weak {A A2 : T_anb_Check} (h : FnOK sy Tryz.prog GT (ovD ro) ro 14 (q_anb_Check A)) (hA : ∀ a0 K, A2 a0 K → A a0 K) : FnOK sy Tryz.prog GT (ovD ro) ro 14 (q_anb_Check A2) := h.weak (by
  intro us k h
  unfold q_anb_Check at h ⊢
  split at h
  · exact hA _ _ h
  · exact h.elim)

def F_anb_Check (A23 : T_anb_isWithin) (a0 : (Int × Int)) (K : Int → Prop) : Prop :=
  (A23 a0.1 (fun y1 => (((!y1) = false → (A23 a0.2 (fun y2 => (((!y2) = true → K (8 : Int)) ∧ ((!y2) = false → K (0 : Int)))))) ∧ ((!y1) = true → K (8 : Int)))))

def C_anb_Check (A23 : T_anb_isWithin) : CallT sg := tab [(23, con [none] (q_anb_isWithin A23))]
theorem Cok_anb_Check (A23 : T_anb_isWithin) (h23 : FnOK sy Tryz.prog GT (ovD ro) ro 23 (q_anb_isWithin A23)) (o0 : Nat → Prop) : CalOK sy Tryz.prog GT (ovD ro) o0 ro (C_anb_Check A23) := (tab_cons (con_ok h23) tab_nil) o0

theorem raw_anb_Check (A23 : T_anb_isWithin) (a0 : (Int × Int)) (k : W → Prop) : fnT sy Tryz.prog GT (C_anb_Check A23) noL Tryz.f14.ntmps (bodyOf Tryz.f14) [none] Tryz.f14.results.toList [.a [.i .i64 a0.1, .i .i64 a0.2]] k = F_anb_Check A23 a0 (fun r0 => k (.i .i64 r0)) := by kernel_rfl

theorem ok_anb_Check (A23 : T_anb_isWithin) (h23 : FnOK sy Tryz.prog GT (ovD ro) ro 23 (q_anb_isWithin A23)) : FnOK sy Tryz.prog GT (ovD ro) ro 14 (q_anb_Check (F_anb_Check A23)) := (fn_ok (rc := [none]) (f := 14) (fn := Tryz.f14) (c := bodyOf Tryz.f14) (nt := Tryz.f14.ntmps) (res := Tryz.f14.results.toList) (C := C_anb_Check A23) (L := noL) (fun _ _ => rfl) Tryz.func14 (by kernel_rfl) rfl rfl (Cok_anb_Check A23 h23) (lp_of (l := []) (by kernel_rfl) lp_nil)).weak (by
  intro us k h
  unfold q_anb_Check at h
  split at h
  · skip
    rename_i a0_0 a0_1
    rw [raw_anb_Check A23 (a0_0, a0_1) k]
    exact h
  · exact h.elim)

abbrev T_anb_In := (Int × Int) → Int → (Bool → Int → Prop) → Prop
def q_anb_In (A : T_anb_In) (us : List W) (k : W → Prop) : Prop := match us with
  | [.a [.i .i64 a0_0, .i .i64 a0_1], .i .i64 a1] => A (a0_0, a0_1) a1 (fun r0 r1 => k (.t [.b r0, .i .i64 r1]))
  | _ => False
theorem q_anb_In_weak {A A2 : T_anb_In} (h : FnOK sy Tryz.prog GT (ovD ro) ro 11 (q_anb_In A)) (hA : ∀ a0 a1 K, A2 a0 a1 K → A a0 a1 K) : FnOK sy Tryz.prog GT (ovD ro) ro 11 (q_anb_In A2) := h.weak (by
  intro us k h
  unfold q_anb_In at h ⊢
  split at h
  · exact hA _ _ _ h
  · exact h.elim)

def F_anb_In (A14 : T_anb_Check) (A19 : T_anb_has) (a0 : (Int × Int)) (a1 : Int) (K : Bool → Int → Prop) : Prop :=
  (A14 (a0.1, a0.2) (fun y1 => (((decide (y1 ≠ (0 : Int))) = true → K false y1) ∧ ((decide (y1 ≠ (0 : Int))) = false → (((decide (a1 < (1 : Int))) = false → (((decide ((1000000000 : Int) < a1)) = true → K false (2 : Int)) ∧ ((decide ((1000000000 : Int) < a1)) = false → (A19 (a0.1, a0.2) a1 (fun y2 => K y2 (0 : Int)))))) ∧ ((decide (a1 < (1 : Int))) = true → K false (2 : Int)))))))

def C_anb_In (A14 : T_anb_Check) (A19 : T_anb_has) : CallT sg := tab [(14, con [none] (q_anb_Check A14)), (19, con [none, none] (q_anb_has A19))]
theorem Cok_anb_In (A14 : T_anb_Check) (A19 : T_anb_has) (h14 : FnOK sy Tryz.prog GT (ovD ro) ro 14 (q_anb_Check A14)) (h19 : FnOK sy Tryz.prog GT (ovD ro) ro 19 (q_anb_has A19)) (o0 : Nat → Prop) : CalOK sy Tryz.prog GT (ovD ro) o0 ro (C_anb_In A14 A19) := (tab_cons (con_ok h14) (tab_cons (con_ok h19) tab_nil)) o0

theorem raw_anb_In (A14 : T_anb_Check) (A19 : T_anb_has) (a0 : (Int × Int)) (a1 : Int) (k : W → Prop) : fnT sy Tryz.prog GT (C_anb_In A14 A19) noL Tryz.f11.ntmps (bodyOf Tryz.f11) [none, none] Tryz.f11.results.toList [.a [.i .i64 a0.1, .i .i64 a0.2], .i .i64 a1] k = F_anb_In A14 A19 a0 a1 (fun r0 r1 => k (.t [.b r0, .i .i64 r1])) := by kernel_rfl

theorem ok_anb_In (A14 : T_anb_Check) (A19 : T_anb_has) (h14 : FnOK sy Tryz.prog GT (ovD ro) ro 14 (q_anb_Check A14)) (h19 : FnOK sy Tryz.prog GT (ovD ro) ro 19 (q_anb_has A19)) : FnOK sy Tryz.prog GT (ovD ro) ro 11 (q_anb_In (F_anb_In A14 A19)) := (fn_ok (rc := [none, none]) (f := 11) (fn := Tryz.f11) (c := bodyOf Tryz.f11) (nt := Tryz.f11.ntmps) (res := Tryz.f11.results.toList) (C := C_anb_In A14 A19) (L := noL) (fun _ _ => rfl) Tryz.func11 (by kernel_rfl) rfl rfl (Cok_anb_In A14 A19 h14 h19) (lp_of (l := []) (by kernel_rfl) lp_nil)).weak (by
  intro us k h
  unfold q_anb_In at h
  split at h
  · skip
    rename_i a0_0 a0_1 a1
    rw [raw_anb_In A14 A19 (a0_0, a0_1) a1 k]
    exact h
  · exact h.elim)

abbrev T_anb_All := (Int × Int) → Int → (List Int → Int → Prop) → Prop
def q_anb_All (A : T_anb_All) (us : List W) (k : W → Prop) : Prop := match us with
  | [.a [.i .i64 a0_0, .i .i64 a0_1], .i .i64 a1] => A (a0_0, a0_1) a1 (fun r0 r1 => k (.t [.l Cd.i64 r0, .i .i64 r1]))
  | _ => False
theorem q_anb_All_weak {A A2 : T_anb_All} (h : FnOK sy Tryz.prog GT (ovD ro) ro 12 (q_anb_All A)) (hA : ∀ a0 a1 K, A2 a0 a1 K → A a0 a1 K) : FnOK sy Tryz.prog GT (ovD ro) ro 12 (q_anb_All A2) := h.weak (by
  intro us k h
  unfold q_anb_All at h ⊢
  split at h
  · exact hA _ _ _ h
  · exact h.elim)

def F_anb_All_l8 (A14 : T_anb_Check) (A19 : T_anb_has) : Nat → Int → Int → Int → Int → List Int → (List Int → Prop) → Prop
  | 0, _, _, _, _, _, _ => False
  | n + 1, x1, x8, c0_0, c0_1, b1, Ke => (((decide (x8 ≤ x1)) = true → (A19 (c0_0, c0_1) x8 (fun y1 => ((y1 = true → ((b1.length + [x8].length) * 8 ≤ 1099511627776 ∧ (I64 (x8 + (1 : Int)) ∧ F_anb_All_l8 A14 A19 n x1 (x8 + (1 : Int)) c0_0 c0_1 (b1 ++ [x8]) Ke))) ∧ (y1 = false → (I64 (x8 + (1 : Int)) ∧ F_anb_All_l8 A14 A19 n x1 (x8 + (1 : Int)) c0_0 c0_1 b1 Ke)))))) ∧ ((decide (x8 ≤ x1)) = false → Ke b1))

def F_anb_All (A14 : T_anb_Check) (A19 : T_anb_has) (a0 : (Int × Int)) (a1 : Int) (K : List Int → Int → Prop) : Prop :=
  (A14 (a0.1, a0.2) (fun y1 => (((decide (y1 ≠ (0 : Int))) = true → K ([] : List Int) y1) ∧ ((decide (y1 ≠ (0 : Int))) = false → (((decide (a1 < (0 : Int))) = false → (((decide ((64 : Int) < a1)) = true → K ([] : List Int) (2 : Int)) ∧ ((decide ((64 : Int) < a1)) = false → (∃ m, F_anb_All_l8 A14 A19 m a1 (1 : Int) a0.1 a0.2 ([] : List Int) (fun y2 => K y2 (0 : Int)))))) ∧ ((decide (a1 < (0 : Int))) = true → K ([] : List Int) (2 : Int)))))))

def C_anb_All (A14 : T_anb_Check) (A19 : T_anb_has) : CallT sg := tab [(14, con [none] (q_anb_Check A14)), (19, con [none, none] (q_anb_has A19))]
theorem Cok_anb_All (A14 : T_anb_Check) (A19 : T_anb_has) (h14 : FnOK sy Tryz.prog GT (ovD ro) ro 14 (q_anb_Check A14)) (h19 : FnOK sy Tryz.prog GT (ovD ro) ro 19 (q_anb_has A19)) (o0 : Nat → Prop) : CalOK sy Tryz.prog GT (ovD ro) o0 ro (C_anb_All A14 A19) := (tab_cons (con_ok h14) (tab_cons (con_ok h19) tab_nil)) o0

def ls_anb_All_8 : LS sy (Int × Unit × Unit × Int × Unit) ((Int × Int × Unit) × List (sg.Den Cd.i64) × Unit) := ⟨[.slot 7 1 Cd.i64], fCons 1 (vInt sy .i64) (fCons 2 (vLit sy (.p 0 0)) (fCons 7 (vLit sy (.o 1)) (fCons 8 (vInt sy .i64) (fNil sy)))), hCells 0 (lCons (vInt sy .i64) (lCons (vInt sy .i64) (lNil sy))) (hBuf 1 Cd.i64 (hNil sy)), 2, [1]⟩
def le_anb_All_8 : LS sy (Unit × Unit) (List (sg.Den Cd.i64) × Unit) := ⟨[], fCons 7 (vLit sy (.o 1)) (fNil sy), hBuf 1 Cd.i64 (hNil sy), 2, [1]⟩
def lr_anb_All_8 : LS sy Unit Unit := ⟨[], fNil sy, hNil sy, 0, []⟩
def FF_anb_All_8 (A14 : T_anb_Check) (A19 : T_anb_has) (n : Nat) (x : (Int × Unit × Unit × Int × Unit) × ((Int × Int × Unit) × List (sg.Den Cd.i64) × Unit)) (K : Ex → Z sg → Prop) : Prop := F_anb_All_l8 A14 A19 n x.1.1 x.1.2.2.2.1 x.2.1.1 x.2.1.2.1 x.2.2.1 (fun y0 => K (.exit 0) (le_anb_All_8.put (((), ()), (y0, ()))))
def h_anb_All_8 (A14 : T_anb_Check) (A19 : T_anb_has) (z : Z sg) (K : Ex → Z sg → Prop) : Prop := ls_anb_All_8.get z (fun x => ∃ n, FF_anb_All_8 A14 A19 n x K)
def L_anb_All (A14 : T_anb_Check) (A19 : T_anb_has) : LoopT sg := tabL [(8, h_anb_All_8 A14 A19)]
theorem hs_anb_All_8 (A14 : T_anb_Check) (A19 : T_anb_has) (n : Nat) (x : (Int × Unit × Unit × Int × Unit) × ((Int × Int × Unit) × List (sg.Den Cd.i64) × Unit)) (K : Ex → Z sg → Prop) : forceZ (ls_anb_All_8.put x) (fun z => sC sy Tryz.prog GT (C_anb_All A14 A19) (L_anb_All A14 A19) Tryz.f12.ntmps (nthLoop (bodyOf Tryz.f12) 0) z (rnd ls_anb_All_8 (czT 0 le_anb_All_8 lr_anb_All_8) (fun x => FF_anb_All_8 A14 A19 n x K) K)) = FF_anb_All_8 A14 A19 (n + 1) x K := by kernel_rfl
theorem hl_anb_All_8 (A14 : T_anb_Check) (A19 : T_anb_has) (z : Z sg) (K : Ex → Z sg → Prop) : (L_anb_All A14 A19) (nthLoop (bodyOf Tryz.f12) 0) z K = ls_anb_All_8.get z (fun x => ∃ n, FF_anb_All_8 A14 A19 n x K) := by kernel_rfl
theorem lo_anb_All_8 (A14 : T_anb_Check) (A19 : T_anb_has) (h14 : FnOK sy Tryz.prog GT (ovD ro) ro 14 (q_anb_Check A14)) (h19 : FnOK sy Tryz.prog GT (ovD ro) ro 19 (q_anb_has A19)) : ∀ (o0 : Nat → Prop) (B : Bs sg), B.E.length ≤ 0 → ∀ z K, (L_anb_All A14 A19) (nthLoop (bodyOf Tryz.f12) 0) z K → Sx.Sem sy Tryz.prog GT (ovD ro) o0 ro Tryz.f12.ntmps B (.loop (nthLoop (bodyOf Tryz.f12) 0)) z K :=
  loop_ok (Cok_anb_All A14 A19 h14 h19) (lp_of (l := []) (by kernel_rfl) lp_nil) ls_anb_All_8 (by decide) (czT 0 le_anb_All_8 lr_anb_All_8) (fun _ _ hB => czT_ok 0 le_anb_All_8 lr_anb_All_8 (Nat.le_trans hB (by decide)) (Nat.le_trans hB (by decide))) (fun _ _ h => h) (hs_anb_All_8 A14 A19) (hl_anb_All_8 A14 A19)
theorem Lp_anb_All (A14 : T_anb_Check) (A19 : T_anb_has) (h14 : FnOK sy Tryz.prog GT (ovD ro) ro 14 (q_anb_Check A14)) (h19 : FnOK sy Tryz.prog GT (ovD ro) ro 19 (q_anb_has A19)) : LpOK sy Tryz.prog GT (ovD ro) ro (L_anb_All A14 A19) 0 Tryz.f12.ntmps (bodyOf Tryz.f12) := lp_of (l := [(nthLoop (bodyOf Tryz.f12) 0)]) (by kernel_rfl) (lp_cons (lo_anb_All_8 A14 A19 h14 h19) lp_nil)


theorem raw_anb_All (A14 : T_anb_Check) (A19 : T_anb_has) (a0 : (Int × Int)) (a1 : Int) (k : W → Prop) : fnT sy Tryz.prog GT (C_anb_All A14 A19) (L_anb_All A14 A19) Tryz.f12.ntmps (bodyOf Tryz.f12) [some Cd.i64, none] Tryz.f12.results.toList [.a [.i .i64 a0.1, .i .i64 a0.2], .i .i64 a1] k = F_anb_All A14 A19 a0 a1 (fun r0 r1 => k (.t [.l Cd.i64 r0, .i .i64 r1])) := by kernel_rfl

theorem ok_anb_All (A14 : T_anb_Check) (A19 : T_anb_has) (h14 : FnOK sy Tryz.prog GT (ovD ro) ro 14 (q_anb_Check A14)) (h19 : FnOK sy Tryz.prog GT (ovD ro) ro 19 (q_anb_has A19)) : FnOK sy Tryz.prog GT (ovD ro) ro 12 (q_anb_All (F_anb_All A14 A19)) := (fn_ok (rc := [some Cd.i64, none]) (f := 12) (fn := Tryz.f12) (c := bodyOf Tryz.f12) (nt := Tryz.f12.ntmps) (res := Tryz.f12.results.toList) (C := C_anb_All A14 A19) (L := (L_anb_All A14 A19)) (fun _ _ => rfl) Tryz.func12 (by kernel_rfl) rfl rfl (Cok_anb_All A14 A19 h14 h19) (Lp_anb_All A14 A19 h14 h19)).weak (by
  intro us k h
  unfold q_anb_All at h
  split at h
  · skip
    rename_i a0_0 a0_1 a1
    rw [raw_anb_All A14 A19 (a0_0, a0_1) a1 k]
    exact h
  · exact h.elim)

abbrev T_anb_Text := (Int × Int) → (List UInt8 → Int → Prop) → Prop
def q_anb_Text (A : T_anb_Text) (us : List W) (k : W → Prop) : Prop := match us with
  | [.a [.i .i64 a0_0, .i .i64 a0_1]] => A (a0_0, a0_1) (fun r0 r1 => k (.t [.s r0, .i .i64 r1]))
  | _ => False
theorem q_anb_Text_weak {A A2 : T_anb_Text} (h : FnOK sy Tryz.prog GT (ovD ro) ro 13 (q_anb_Text A)) (hA : ∀ a0 K, A2 a0 K → A a0 K) : FnOK sy Tryz.prog GT (ovD ro) ro 13 (q_anb_Text A2) := h.weak (by
  intro us k h
  unfold q_anb_Text at h ⊢
  split at h
  · exact hA _ _ h
  · exact h.elim)

def F_anb_Text (A14 : T_anb_Check) (A20 : T_anb_decimal) (A21 : T_anb_factor) (A22 : T_anb_addend) (a0 : (Int × Int)) (K : List UInt8 → Int → Prop) : Prop :=
  (A14 (a0.1, a0.2) (fun y1 => (((decide (y1 ≠ (0 : Int))) = true → K ([] : List UInt8) y1) ∧ ((decide (y1 ≠ (0 : Int))) = false → (((decide (a0.1 = (0 : Int))) = true → (A20 a0.2 (fun y2 => K y2 (0 : Int)))) ∧ ((decide (a0.1 = (0 : Int))) = false → (A21 a0.1 (fun y3 => (y3.length + ([110] : List UInt8).length ≤ 1099511627776 ∧ (A22 a0.2 (fun y4 => ((y3 ++ ([110] : List UInt8)).length + y4.length ≤ 1099511627776 ∧ K ((y3 ++ ([110] : List UInt8)) ++ y4) (0 : Int)))))))))))))

def C_anb_Text (A14 : T_anb_Check) (A20 : T_anb_decimal) (A21 : T_anb_factor) (A22 : T_anb_addend) : CallT sg := tab [(14, con [none] (q_anb_Check A14)), (20, con [none] (q_anb_decimal A20)), (21, con [none] (q_anb_factor A21)), (22, con [none] (q_anb_addend A22))]
theorem Cok_anb_Text (A14 : T_anb_Check) (A20 : T_anb_decimal) (A21 : T_anb_factor) (A22 : T_anb_addend) (h14 : FnOK sy Tryz.prog GT (ovD ro) ro 14 (q_anb_Check A14)) (h20 : FnOK sy Tryz.prog GT (ovD ro) ro 20 (q_anb_decimal A20)) (h21 : FnOK sy Tryz.prog GT (ovD ro) ro 21 (q_anb_factor A21)) (h22 : FnOK sy Tryz.prog GT (ovD ro) ro 22 (q_anb_addend A22)) (o0 : Nat → Prop) : CalOK sy Tryz.prog GT (ovD ro) o0 ro (C_anb_Text A14 A20 A21 A22) := (tab_cons (con_ok h14) (tab_cons (con_ok h20) (tab_cons (con_ok h21) (tab_cons (con_ok h22) tab_nil)))) o0

theorem raw_anb_Text (A14 : T_anb_Check) (A20 : T_anb_decimal) (A21 : T_anb_factor) (A22 : T_anb_addend) (a0 : (Int × Int)) (k : W → Prop) : fnT sy Tryz.prog GT (C_anb_Text A14 A20 A21 A22) noL Tryz.f13.ntmps (bodyOf Tryz.f13) [none, none] Tryz.f13.results.toList [.a [.i .i64 a0.1, .i .i64 a0.2]] k = F_anb_Text A14 A20 A21 A22 a0 (fun r0 r1 => k (.t [.s r0, .i .i64 r1])) := by kernel_rfl

theorem ok_anb_Text (A14 : T_anb_Check) (A20 : T_anb_decimal) (A21 : T_anb_factor) (A22 : T_anb_addend) (h14 : FnOK sy Tryz.prog GT (ovD ro) ro 14 (q_anb_Check A14)) (h20 : FnOK sy Tryz.prog GT (ovD ro) ro 20 (q_anb_decimal A20)) (h21 : FnOK sy Tryz.prog GT (ovD ro) ro 21 (q_anb_factor A21)) (h22 : FnOK sy Tryz.prog GT (ovD ro) ro 22 (q_anb_addend A22)) : FnOK sy Tryz.prog GT (ovD ro) ro 13 (q_anb_Text (F_anb_Text A14 A20 A21 A22)) := (fn_ok (rc := [none, none]) (f := 13) (fn := Tryz.f13) (c := bodyOf Tryz.f13) (nt := Tryz.f13.ntmps) (res := Tryz.f13.results.toList) (C := C_anb_Text A14 A20 A21 A22) (L := noL) (fun _ _ => rfl) Tryz.func13 (by kernel_rfl) rfl rfl (Cok_anb_Text A14 A20 A21 A22 h14 h20 h21 h22) (lp_of (l := []) (by kernel_rfl) lp_nil)).weak (by
  intro us k h
  unfold q_anb_Text at h
  split at h
  · skip
    rename_i a0_0 a0_1
    rw [raw_anb_Text A14 A20 A21 A22 (a0_0, a0_1) k]
    exact h
  · exact h.elim)

abbrev T_anb_whole := Tok → (Int → Bool → Prop) → Prop
def q_anb_whole (A : T_anb_whole) (us : List W) (k : W → Prop) : Prop := match us with
  | [.a [.i .u8 a0_0, .s a0_1, .i .i64 a0_2, .s a0_3, .b a0_4]] => A (Tok.mk a0_0 a0_1 a0_2 a0_3 a0_4) (fun r0 r1 => k (.t [.i .i64 r0, .b r1]))
  | _ => False
theorem q_anb_whole_weak {A A2 : T_anb_whole} (h : FnOK sy Tryz.prog GT (ovD ro) ro 38 (q_anb_whole A)) (hA : ∀ a0 K, A2 a0 K → A a0 K) : FnOK sy Tryz.prog GT (ovD ro) ro 38 (q_anb_whole A2) := h.weak (by
  intro us k h
  unfold q_anb_whole at h ⊢
  split at h
  · exact hA _ _ h
  · exact h.elim)

def F_anb_whole (A23 : T_anb_isWithin) (a0 : Tok) (K : Int → Bool → Prop) : Prop :=
  ((1000 : Int) ≠ 0 ∧ (I64 (a0.num.tdiv (1000 : Int)) ∧ (((!a0.flag) = false → ((1000 : Int) ≠ 0 ∧ (((decide ((a0.num.tmod (1000 : Int)) ≠ (0 : Int))) = false → (A23 (a0.num.tdiv (1000 : Int)) (fun y1 => (((!y1) = true → K (0 : Int) false) ∧ ((!y1) = false → K (a0.num.tdiv (1000 : Int)) true))))) ∧ ((decide ((a0.num.tmod (1000 : Int)) ≠ (0 : Int))) = true → K (0 : Int) false)))) ∧ ((!a0.flag) = true → K (0 : Int) false))))

def C_anb_whole (A23 : T_anb_isWithin) : CallT sg := tab [(23, con [none] (q_anb_isWithin A23))]
theorem Cok_anb_whole (A23 : T_anb_isWithin) (h23 : FnOK sy Tryz.prog GT (ovD ro) ro 23 (q_anb_isWithin A23)) (o0 : Nat → Prop) : CalOK sy Tryz.prog GT (ovD ro) o0 ro (C_anb_whole A23) := (tab_cons (con_ok h23) tab_nil) o0

theorem raw_anb_whole (A23 : T_anb_isWithin) (a0 : Tok) (k : W → Prop) : fnT sy Tryz.prog GT (C_anb_whole A23) noL Tryz.f38.ntmps (bodyOf Tryz.f38) [none, none] Tryz.f38.results.toList [.a [.i .u8 a0.kind, .s a0.text, .i .i64 a0.num, .s a0.unit, .b a0.flag]] k = F_anb_whole A23 a0 (fun r0 r1 => k (.t [.i .i64 r0, .b r1])) := by kernel_rfl

theorem ok_anb_whole (A23 : T_anb_isWithin) (h23 : FnOK sy Tryz.prog GT (ovD ro) ro 23 (q_anb_isWithin A23)) : FnOK sy Tryz.prog GT (ovD ro) ro 38 (q_anb_whole (F_anb_whole A23)) := (fn_ok (rc := [none, none]) (f := 38) (fn := Tryz.f38) (c := bodyOf Tryz.f38) (nt := Tryz.f38.ntmps) (res := Tryz.f38.results.toList) (C := C_anb_whole A23) (L := noL) (fun _ _ => rfl) Tryz.func38 (by kernel_rfl) rfl rfl (Cok_anb_whole A23 h23) (lp_of (l := []) (by kernel_rfl) lp_nil)).weak (by
  intro us k h
  unfold q_anb_whole at h
  split at h
  · skip
    rename_i a0_0 a0_1 a0_2 a0_3 a0_4
    rw [raw_anb_whole A23 (Tok.mk a0_0 a0_1 a0_2 a0_3 a0_4) k]
    exact h
  · exact h.elim)

abbrev T_anb_number := List Tok → (Int → Bool → Prop) → Prop
def q_anb_number (A : T_anb_number) (us : List W) (k : W → Prop) : Prop := match us with
  | [.l Cd.tok a0] => A a0 (fun r0 r1 => k (.t [.i .i64 r0, .b r1]))
  | _ => False
theorem q_anb_number_weak {A A2 : T_anb_number} (h : FnOK sy Tryz.prog GT (ovD ro) ro 37 (q_anb_number A)) (hA : ∀ a0 K, A2 a0 K → A a0 K) : FnOK sy Tryz.prog GT (ovD ro) ro 37 (q_anb_number A2) := h.weak (by
  intro us k h
  unfold q_anb_number at h ⊢
  split at h
  · exact hA _ _ h
  · exact h.elim)

def F_anb_number (A38 : T_anb_whole) (a0 : List Tok) (K : Int → Bool → Prop) : Prop :=
  (((decide ((a0.length : Int) ≠ (1 : Int))) = false → ((0 ≤ (0 : Int) ∧ (0 : Int) < (a0.length : Int)) ∧ (((decide (((a0.getD 0 (dfltD Cd.tok)).kind) ≠ (10 : Int))) = true → K (0 : Int) false) ∧ ((decide (((a0.getD 0 (dfltD Cd.tok)).kind) ≠ (10 : Int))) = false → ((0 ≤ (0 : Int) ∧ (0 : Int) < (a0.length : Int)) ∧ (A38 (Tok.mk ((a0.getD 0 (dfltD Cd.tok)).kind) ((a0.getD 0 (dfltD Cd.tok)).text) ((a0.getD 0 (dfltD Cd.tok)).num) ((a0.getD 0 (dfltD Cd.tok)).unit) ((a0.getD 0 (dfltD Cd.tok)).flag)) (fun y1 y2 => K y1 y2))))))) ∧ ((decide ((a0.length : Int) ≠ (1 : Int))) = true → K (0 : Int) false))

def C_anb_number (A38 : T_anb_whole) : CallT sg := tab [(38, con [none] (q_anb_whole A38))]
theorem Cok_anb_number (A38 : T_anb_whole) (h38 : FnOK sy Tryz.prog GT (ovD ro) ro 38 (q_anb_whole A38)) (o0 : Nat → Prop) : CalOK sy Tryz.prog GT (ovD ro) o0 ro (C_anb_number A38) := (tab_cons (con_ok h38) tab_nil) o0

theorem raw_anb_number (A38 : T_anb_whole) (a0 : List Tok) (k : W → Prop) : fnT sy Tryz.prog GT (C_anb_number A38) noL Tryz.f37.ntmps (bodyOf Tryz.f37) [none, none] Tryz.f37.results.toList [.l Cd.tok a0] k = F_anb_number A38 a0 (fun r0 r1 => k (.t [.i .i64 r0, .b r1])) := by kernel_rfl

theorem ok_anb_number (A38 : T_anb_whole) (h38 : FnOK sy Tryz.prog GT (ovD ro) ro 38 (q_anb_whole A38)) : FnOK sy Tryz.prog GT (ovD ro) ro 37 (q_anb_number (F_anb_number A38)) := (fn_ok (rc := [none, none]) (f := 37) (fn := Tryz.f37) (c := bodyOf Tryz.f37) (nt := Tryz.f37.ntmps) (res := Tryz.f37.results.toList) (C := C_anb_number A38) (L := noL) (fun _ _ => rfl) Tryz.func37 (by kernel_rfl) rfl rfl (Cok_anb_number A38 h38) (lp_of (l := []) (by kernel_rfl) lp_nil)).weak (by
  intro us k h
  unfold q_anb_number at h
  split at h
  · skip
    rename_i a0
    rw [raw_anb_number A38 a0 k]
    exact h
  · exact h.elim)

abbrev T_anb_isDelim := Tok → List UInt8 → (Bool → Prop) → Prop
def q_anb_isDelim (A : T_anb_isDelim) (us : List W) (k : W → Prop) : Prop := match us with
  | [.a [.i .u8 a0_0, .s a0_1, .i .i64 a0_2, .s a0_3, .b a0_4], .s a1] => A (Tok.mk a0_0 a0_1 a0_2 a0_3 a0_4) a1 (fun r0 => k (.b r0))
  | _ => False
theorem q_anb_isDelim_weak {A A2 : T_anb_isDelim} (h : FnOK sy Tryz.prog GT (ovD ro) ro 39 (q_anb_isDelim A)) (hA : ∀ a0 a1 K, A2 a0 a1 K → A a0 a1 K) : FnOK sy Tryz.prog GT (ovD ro) ro 39 (q_anb_isDelim A2) := h.weak (by
  intro us k h
  unfold q_anb_isDelim at h ⊢
  split at h
  · exact hA _ _ _ h
  · exact h.elim)

def F_anb_isDelim (a0 : Tok) (a1 : List UInt8) (K : Bool → Prop) : Prop :=
  (((decide (a0.kind = (9 : Int))) = true → K (a0.text == a1)) ∧ ((decide (a0.kind = (9 : Int))) = false → K false))

def C_anb_isDelim : CallT sg := tab []
theorem Cok_anb_isDelim (o0 : Nat → Prop) : CalOK sy Tryz.prog GT (ovD ro) o0 ro (C_anb_isDelim) := tab_nil o0

theorem raw_anb_isDelim (a0 : Tok) (a1 : List UInt8) (k : W → Prop) : fnT sy Tryz.prog GT (C_anb_isDelim) noL Tryz.f39.ntmps (bodyOf Tryz.f39) [none] Tryz.f39.results.toList [.a [.i .u8 a0.kind, .s a0.text, .i .i64 a0.num, .s a0.unit, .b a0.flag], .s a1] k = F_anb_isDelim a0 a1 (fun r0 => k (.b r0)) := by kernel_rfl

theorem ok_anb_isDelim : FnOK sy Tryz.prog GT (ovD ro) ro 39 (q_anb_isDelim (F_anb_isDelim)) := (fn_ok (rc := [none]) (f := 39) (fn := Tryz.f39) (c := bodyOf Tryz.f39) (nt := Tryz.f39.ntmps) (res := Tryz.f39.results.toList) (C := C_anb_isDelim) (L := noL) (fun _ _ => rfl) Tryz.func39 (by kernel_rfl) rfl rfl (Cok_anb_isDelim) (lp_of (l := []) (by kernel_rfl) lp_nil)).weak (by
  intro us k h
  unfold q_anb_isDelim at h
  split at h
  · skip
    rename_i a0_0 a0_1 a0_2 a0_3 a0_4 a1
    rw [raw_anb_isDelim (Tok.mk a0_0 a0_1 a0_2 a0_3 a0_4) a1 k]
    exact h
  · exact h.elim)

abbrev T_anb_behindSpaces := List Tok → (List Tok → Prop) → Prop
def q_anb_behindSpaces (A : T_anb_behindSpaces) (us : List W) (k : W → Prop) : Prop := match us with
  | [.l Cd.tok a0] => A a0 (fun r0 => k (.l Cd.tok r0))
  | _ => False
theorem q_anb_behindSpaces_weak {A A2 : T_anb_behindSpaces} (h : FnOK sy Tryz.prog GT (ovD ro) ro 35 (q_anb_behindSpaces A)) (hA : ∀ a0 K, A2 a0 K → A a0 K) : FnOK sy Tryz.prog GT (ovD ro) ro 35 (q_anb_behindSpaces A2) := h.weak (by
  intro us k h
  unfold q_anb_behindSpaces at h ⊢
  split at h
  · exact hA _ _ h
  · exact h.elim)

def F_anb_behindSpaces_l1 : Nat → List Tok → (List Tok → Prop) → Prop
  | 0, _, _ => False
  | n + 1, x0, Ke => (((decide ((0 : Int) < (x0.length : Int))) = true → ((0 ≤ (0 : Int) ∧ (0 : Int) < (x0.length : Int)) ∧ (((decide (((x0.getD 0 (dfltD Cd.tok)).kind) = (13 : Int))) = true → ((0 ≤ (1 : Int) ∧ (1 : Int) ≤ (x0.length : Int)) ∧ F_anb_behindSpaces_l1 n (x0.drop 1) Ke)) ∧ ((decide (((x0.getD 0 (dfltD Cd.tok)).kind) = (13 : Int))) = false → Ke x0)))) ∧ ((decide ((0 : Int) < (x0.length : Int))) = false → Ke x0))

def F_anb_behindSpaces (a0 : List Tok) (K : List Tok → Prop) : Prop :=
  (∃ m, F_anb_behindSpaces_l1 m a0 (fun y1 => K y1))

def C_anb_behindSpaces : CallT sg := tab []
theorem Cok_anb_behindSpaces (o0 : Nat → Prop) : CalOK sy Tryz.prog GT (ovD ro) o0 ro (C_anb_behindSpaces) := tab_nil o0

def ls_anb_behindSpaces_1 : LS sy ((List (sg.Den Cd.tok)) × Unit) Unit := ⟨[], fCons 0 (vData sy Cd.tok) (fNil sy), hNil sy, 0, []⟩
def le_anb_behindSpaces_1 : LS sy ((List (sg.Den Cd.tok)) × Unit) Unit := ⟨[], fCons 0 (vData sy Cd.tok) (fNil sy), hNil sy, 0, []⟩
def lr_anb_behindSpaces_1 : LS sy Unit Unit := ⟨[], fNil sy, hNil sy, 0, []⟩
def FF_anb_behindSpaces_1 (n : Nat) (x : ((List (sg.Den Cd.tok)) × Unit) × Unit) (K : Ex → Z sg → Prop) : Prop := F_anb_behindSpaces_l1 n x.1.1 (fun y0 => K (.exit 0) (le_anb_behindSpaces_1.put ((y0, ()), ())))
def h_anb_behindSpaces_1 (z : Z sg) (K : Ex → Z sg → Prop) : Prop := ls_anb_behindSpaces_1.get z (fun x => ∃ n, FF_anb_behindSpaces_1 n x K)
def L_anb_behindSpaces : LoopT sg := tabL [(1, h_anb_behindSpaces_1)]
theorem hs_anb_behindSpaces_1 (n : Nat) (x : ((List (sg.Den Cd.tok)) × Unit) × Unit) (K : Ex → Z sg → Prop) : forceZ (ls_anb_behindSpaces_1.put x) (fun z => sC sy Tryz.prog GT (C_anb_behindSpaces) (L_anb_behindSpaces) Tryz.f35.ntmps (nthLoop (bodyOf Tryz.f35) 0) z (rnd ls_anb_behindSpaces_1 (czT 0 le_anb_behindSpaces_1 lr_anb_behindSpaces_1) (fun x => FF_anb_behindSpaces_1 n x K) K)) = FF_anb_behindSpaces_1 (n + 1) x K := by kernel_rfl
theorem hl_anb_behindSpaces_1 (z : Z sg) (K : Ex → Z sg → Prop) : (L_anb_behindSpaces) (nthLoop (bodyOf Tryz.f35) 0) z K = ls_anb_behindSpaces_1.get z (fun x => ∃ n, FF_anb_behindSpaces_1 n x K) := by kernel_rfl
theorem lo_anb_behindSpaces_1 : ∀ (o0 : Nat → Prop) (B : Bs sg), B.E.length ≤ 0 → ∀ z K, (L_anb_behindSpaces) (nthLoop (bodyOf Tryz.f35) 0) z K → Sx.Sem sy Tryz.prog GT (ovD ro) o0 ro Tryz.f35.ntmps B (.loop (nthLoop (bodyOf Tryz.f35) 0)) z K :=
  loop_ok (Cok_anb_behindSpaces) (lp_of (l := []) (by kernel_rfl) lp_nil) ls_anb_behindSpaces_1 (by decide) (czT 0 le_anb_behindSpaces_1 lr_anb_behindSpaces_1) (fun _ _ hB => czT_ok 0 le_anb_behindSpaces_1 lr_anb_behindSpaces_1 (Nat.le_trans hB (by decide)) (Nat.le_trans hB (by decide))) (fun _ _ h => h) (hs_anb_behindSpaces_1) (hl_anb_behindSpaces_1)
theorem Lp_anb_behindSpaces : LpOK sy Tryz.prog GT (ovD ro) ro (L_anb_behindSpaces) 0 Tryz.f35.ntmps (bodyOf Tryz.f35) := lp_of (l := [(nthLoop (bodyOf Tryz.f35) 0)]) (by kernel_rfl) (lp_cons (lo_anb_behindSpaces_1) lp_nil)


theorem raw_anb_behindSpaces (a0 : List Tok) (k : W → Prop) : fnT sy Tryz.prog GT (C_anb_behindSpaces) (L_anb_behindSpaces) Tryz.f35.ntmps (bodyOf Tryz.f35) [some Cd.tok] Tryz.f35.results.toList [.l Cd.tok a0] k = F_anb_behindSpaces a0 (fun r0 => k (.l Cd.tok r0)) := by kernel_rfl

theorem ok_anb_behindSpaces : FnOK sy Tryz.prog GT (ovD ro) ro 35 (q_anb_behindSpaces (F_anb_behindSpaces)) := (fn_ok (rc := [some Cd.tok]) (f := 35) (fn := Tryz.f35) (c := bodyOf Tryz.f35) (nt := Tryz.f35.ntmps) (res := Tryz.f35.results.toList) (C := C_anb_behindSpaces) (L := (L_anb_behindSpaces)) (fun _ _ => rfl) Tryz.func35 (by kernel_rfl) rfl rfl (Cok_anb_behindSpaces) (Lp_anb_behindSpaces)).weak (by
  intro us k h
  unfold q_anb_behindSpaces at h
  split at h
  · skip
    rename_i a0
    rw [raw_anb_behindSpaces a0 k]
    exact h
  · exact h.elim)

abbrev T_anb_trimmed := List Tok → (List Tok → Prop) → Prop
def q_anb_trimmed (A : T_anb_trimmed) (us : List W) (k : W → Prop) : Prop := match us with
  | [.l Cd.tok a0] => A a0 (fun r0 => k (.l Cd.tok r0))
  | _ => False
theorem q_anb_trimmed_weak {A A2 : T_anb_trimmed} (h : FnOK sy Tryz.prog GT (ovD ro) ro 26 (q_anb_trimmed A)) (hA : ∀ a0 K, A2 a0 K → A a0 K) : FnOK sy Tryz.prog GT (ovD ro) ro 26 (q_anb_trimmed A2) := h.weak (by
  intro us k h
  unfold q_anb_trimmed at h ⊢
  split at h
  · exact hA _ _ h
  · exact h.elim)

def F_anb_trimmed_l2 (A35 : T_anb_behindSpaces) : Nat → List Tok → (List Tok → Prop) → Prop
  | 0, _, _ => False
  | n + 1, x0, Ke => (((decide ((0 : Int) < (x0.length : Int))) = true → (I64 ((x0.length : Int) - (1 : Int)) ∧ ((0 ≤ ((x0.length : Int) - (1 : Int)) ∧ ((x0.length : Int) - (1 : Int)) < (x0.length : Int)) ∧ (((decide (((x0.getD (((x0.length : Int) - (1 : Int)).toNat) (dfltD Cd.tok)).kind) = (13 : Int))) = true → (I64 ((x0.length : Int) - (1 : Int)) ∧ ((0 ≤ ((x0.length : Int) - (1 : Int)) ∧ ((x0.length : Int) - (1 : Int)) ≤ (x0.length : Int)) ∧ F_anb_trimmed_l2 A35 n (x0.take ((x0.length : Int) - (1 : Int)).toNat) Ke))) ∧ ((decide (((x0.getD (((x0.length : Int) - (1 : Int)).toNat) (dfltD Cd.tok)).kind) = (13 : Int))) = false → Ke x0))))) ∧ ((decide ((0 : Int) < (x0.length : Int))) = false → Ke x0))

def F_anb_trimmed (A35 : T_anb_behindSpaces) (a0 : List Tok) (K : List Tok → Prop) : Prop :=
  (A35 a0 (fun y1 => (∃ m, F_anb_trimmed_l2 A35 m y1 (fun y2 => K y2))))

def C_anb_trimmed (A35 : T_anb_behindSpaces) : CallT sg := tab [(35, con [some Cd.tok] (q_anb_behindSpaces A35))]
theorem Cok_anb_trimmed (A35 : T_anb_behindSpaces) (h35 : FnOK sy Tryz.prog GT (ovD ro) ro 35 (q_anb_behindSpaces A35)) (o0 : Nat → Prop) : CalOK sy Tryz.prog GT (ovD ro) o0 ro (C_anb_trimmed A35) := (tab_cons (con_ok h35) tab_nil) o0

def ls_anb_trimmed_2 : LS sy ((List (sg.Den Cd.tok)) × Unit) Unit := ⟨[], fCons 0 (vData sy Cd.tok) (fNil sy), hNil sy, 0, []⟩
def le_anb_trimmed_2 : LS sy ((List (sg.Den Cd.tok)) × Unit) Unit := ⟨[], fCons 0 (vData sy Cd.tok) (fNil sy), hNil sy, 0, []⟩
def lr_anb_trimmed_2 : LS sy Unit Unit := ⟨[], fNil sy, hNil sy, 0, []⟩
def FF_anb_trimmed_2 (A35 : T_anb_behindSpaces) (n : Nat) (x : ((List (sg.Den Cd.tok)) × Unit) × Unit) (K : Ex → Z sg → Prop) : Prop := F_anb_trimmed_l2 A35 n x.1.1 (fun y0 => K (.exit 0) (le_anb_trimmed_2.put ((y0, ()), ())))
def h_anb_trimmed_2 (A35 : T_anb_behindSpaces) (z : Z sg) (K : Ex → Z sg → Prop) : Prop := ls_anb_trimmed_2.get z (fun x => ∃ n, FF_anb_trimmed_2 A35 n x K)
def L_anb_trimmed (A35 : T_anb_behindSpaces) : LoopT sg := tabL [(2, h_anb_trimmed_2 A35)]
theorem hs_anb_trimmed_2 (A35 : T_anb_behindSpaces) (n : Nat) (x : ((List (sg.Den Cd.tok)) × Unit) × Unit) (K : Ex → Z sg → Prop) : forceZ (ls_anb_trimmed_2.put x) (fun z => sC sy Tryz.prog GT (C_anb_trimmed A35) (L_anb_trimmed A35) Tryz.f26.ntmps (nthLoop (bodyOf Tryz.f26) 0) z (rnd ls_anb_trimmed_2 (czT 0 le_anb_trimmed_2 lr_anb_trimmed_2) (fun x => FF_anb_trimmed_2 A35 n x K) K)) = FF_anb_trimmed_2 A35 (n + 1) x K := by kernel_rfl
theorem hl_anb_trimmed_2 (A35 : T_anb_behindSpaces) (z : Z sg) (K : Ex → Z sg → Prop) : (L_anb_trimmed A35) (nthLoop (bodyOf Tryz.f26) 0) z K = ls_anb_trimmed_2.get z (fun x => ∃ n, FF_anb_trimmed_2 A35 n x K) := by kernel_rfl
theorem lo_anb_trimmed_2 (A35 : T_anb_behindSpaces) (h35 : FnOK sy Tryz.prog GT (ovD ro) ro 35 (q_anb_behindSpaces A35)) : ∀ (o0 : Nat → Prop) (B : Bs sg), B.E.length ≤ 0 → ∀ z K, (L_anb_trimmed A35) (nthLoop (bodyOf Tryz.f26) 0) z K → Sx.Sem sy Tryz.prog GT (ovD ro) o0 ro Tryz.f26.ntmps B (.loop (nthLoop (bodyOf Tryz.f26) 0)) z K :=
  loop_ok (Cok_anb_trimmed A35 h35) (lp_of (l := []) (by kernel_rfl) lp_nil) ls_anb_trimmed_2 (by decide) (czT 0 le_anb_trimmed_2 lr_anb_trimmed_2) (fun _ _ hB => czT_ok 0 le_anb_trimmed_2 lr_anb_trimmed_2 (Nat.le_trans hB (by decide)) (Nat.le_trans hB (by decide))) (fun _ _ h => h) (hs_anb_trimmed_2 A35) (hl_anb_trimmed_2 A35)
theorem Lp_anb_trimmed (A35 : T_anb_behindSpaces) (h35 : FnOK sy Tryz.prog GT (ovD ro) ro 35 (q_anb_behindSpaces A35)) : LpOK sy Tryz.prog GT (ovD ro) ro (L_anb_trimmed A35) 0 Tryz.f26.ntmps (bodyOf Tryz.f26) := lp_of (l := [(nthLoop (bodyOf Tryz.f26) 0)]) (by kernel_rfl) (lp_cons (lo_anb_trimmed_2 A35 h35) lp_nil)


theorem raw_anb_trimmed (A35 : T_anb_behindSpaces) (a0 : List Tok) (k : W → Prop) : fnT sy Tryz.prog GT (C_anb_trimmed A35) (L_anb_trimmed A35) Tryz.f26.ntmps (bodyOf Tryz.f26) [some Cd.tok] Tryz.f26.results.toList [.l Cd.tok a0] k = F_anb_trimmed A35 a0 (fun r0 => k (.l Cd.tok r0)) := by kernel_rfl

theorem ok_anb_trimmed (A35 : T_anb_behindSpaces) (h35 : FnOK sy Tryz.prog GT (ovD ro) ro 35 (q_anb_behindSpaces A35)) : FnOK sy Tryz.prog GT (ovD ro) ro 26 (q_anb_trimmed (F_anb_trimmed A35)) := (fn_ok (rc := [some Cd.tok]) (f := 26) (fn := Tryz.f26) (c := bodyOf Tryz.f26) (nt := Tryz.f26.ntmps) (res := Tryz.f26.results.toList) (C := C_anb_trimmed A35) (L := (L_anb_trimmed A35)) (fun _ _ => rfl) Tryz.func26 (by kernel_rfl) rfl rfl (Cok_anb_trimmed A35 h35) (Lp_anb_trimmed A35 h35)).weak (by
  intro us k h
  unfold q_anb_trimmed at h
  split at h
  · skip
    rename_i a0
    rw [raw_anb_trimmed A35 a0 k]
    exact h
  · exact h.elim)

abbrev T_anb_alone := List Tok → ((Int × Int) → Bool → Prop) → Prop
def q_anb_alone (A : T_anb_alone) (us : List W) (k : W → Prop) : Prop := match us with
  | [.l Cd.tok a0] => A a0 (fun r0 r1 => k (.t [.a [.i .i64 r0.1, .i .i64 r0.2], .b r1]))
  | _ => False
theorem q_anb_alone_weak {A A2 : T_anb_alone} (h : FnOK sy Tryz.prog GT (ovD ro) ro 27 (q_anb_alone A)) (hA : ∀ a0 K, A2 a0 K → A a0 K) : FnOK sy Tryz.prog GT (ovD ro) ro 27 (q_anb_alone A2) := h.weak (by
  intro us k h
  unfold q_anb_alone at h ⊢
  split at h
  · exact hA _ _ h
  · exact h.elim)

def F_anb_alone (A36 : T_input_Lower) (A37 : T_anb_number) (a0 : List Tok) (K : (Int × Int) → Bool → Prop) : Prop :=
  (((decide ((a0.length : Int) = (1 : Int))) = true → ((0 ≤ (0 : Int) ∧ (0 : Int) < (a0.length : Int)) ∧ (((decide (((a0.getD 0 (dfltD Cd.tok)).kind) = (1 : Int))) = true → ((0 ≤ (0 : Int) ∧ (0 : Int) < (a0.length : Int)) ∧ (A36 ((a0.getD 0 (dfltD Cd.tok)).text) (fun y1 => (((y1 == ([111, 100, 100] : List UInt8)) = true → K ((2 : Int), (1 : Int)) true) ∧ ((y1 == ([111, 100, 100] : List UInt8)) = false → (((y1 == ([101, 118, 101, 110] : List UInt8)) = true → K ((2 : Int), (0 : Int)) true) ∧ ((y1 == ([101, 118, 101, 110] : List UInt8)) = false → (A37 a0 (fun y2 y3 => K ((0 : Int), y2) y3)))))))))) ∧ ((decide (((a0.getD 0 (dfltD Cd.tok)).kind) = (1 : Int))) = false → (A37 a0 (fun y4 y5 => K ((0 : Int), y4) y5)))))) ∧ ((decide ((a0.length : Int) = (1 : Int))) = false → (A37 a0 (fun y6 y7 => K ((0 : Int), y6) y7))))

def C_anb_alone (A36 : T_input_Lower) (A37 : T_anb_number) : CallT sg := tab [(36, con [none] (q_input_Lower A36)), (37, con [some Cd.tok] (q_anb_number A37))]
theorem Cok_anb_alone (A36 : T_input_Lower) (A37 : T_anb_number) (h36 : FnOK sy Tryz.prog GT (ovD ro) ro 36 (q_input_Lower A36)) (h37 : FnOK sy Tryz.prog GT (ovD ro) ro 37 (q_anb_number A37)) (o0 : Nat → Prop) : CalOK sy Tryz.prog GT (ovD ro) o0 ro (C_anb_alone A36 A37) := (tab_cons (con_ok h36) (tab_cons (con_ok h37) tab_nil)) o0

theorem raw_anb_alone (A36 : T_input_Lower) (A37 : T_anb_number) (a0 : List Tok) (k : W → Prop) : fnT sy Tryz.prog GT (C_anb_alone A36 A37) noL Tryz.f27.ntmps (bodyOf Tryz.f27) [none, none] Tryz.f27.results.toList [.l Cd.tok a0] k = F_anb_alone A36 A37 a0 (fun r0 r1 => k (.t [.a [.i .i64 r0.1, .i .i64 r0.2], .b r1])) := by kernel_rfl

theorem ok_anb_alone (A36 : T_input_Lower) (A37 : T_anb_number) (h36 : FnOK sy Tryz.prog GT (ovD ro) ro 36 (q_input_Lower A36)) (h37 : FnOK sy Tryz.prog GT (ovD ro) ro 37 (q_anb_number A37)) : FnOK sy Tryz.prog GT (ovD ro) ro 27 (q_anb_alone (F_anb_alone A36 A37)) := (fn_ok (rc := [none, none]) (f := 27) (fn := Tryz.f27) (c := bodyOf Tryz.f27) (nt := Tryz.f27.ntmps) (res := Tryz.f27.results.toList) (C := C_anb_alone A36 A37) (L := noL) (fun _ _ => rfl) Tryz.func27 (by kernel_rfl) rfl rfl (Cok_anb_alone A36 A37 h36 h37) (lp_of (l := []) (by kernel_rfl) lp_nil)).weak (by
  intro us k h
  unfold q_anb_alone at h
  split at h
  · skip
    rename_i a0
    rw [raw_anb_alone A36 A37 a0 k]
    exact h
  · exact h.elim)

abbrev T_anb_cutHead := List Tok → (Int → List UInt8 → List Tok → Bool → Prop) → Prop
def q_anb_cutHead (A : T_anb_cutHead) (us : List W) (k : W → Prop) : Prop := match us with
  | [.l Cd.tok a0] => A a0 (fun r0 r1 r2 r3 => k (.t [.i .i64 r0, .s r1, .l Cd.tok r2, .b r3]))
  | _ => False
theorem q_anb_cutHead_weak {A A2 : T_anb_cutHead} (h : FnOK sy Tryz.prog GT (ovD ro) ro 28 (q_anb_cutHead A)) (hA : ∀ a0 K, A2 a0 K → A a0 K) : FnOK sy Tryz.prog GT (ovD ro) ro 28 (q_anb_cutHead A2) := h.weak (by
  intro us k h
  unfold q_anb_cutHead at h ⊢
  split at h
  · exact hA _ _ h
  · exact h.elim)

def F_anb_cutHead (A36 : T_input_Lower) (A29 : T_strings_CutPrefix) (A38 : T_anb_whole) (A39 : T_anb_isDelim) (a0 : List Tok) (K : Int → List UInt8 → List Tok → Bool → Prop) : Prop :=
  (((decide ((a0.length : Int) = (0 : Int))) = true → K (0 : Int) ([] : List UInt8) ([] : List Tok) false) ∧ ((decide ((a0.length : Int) = (0 : Int))) = false → ((0 ≤ (0 : Int) ∧ (0 : Int) < (a0.length : Int)) ∧ (((decide (((a0.getD 0 (dfltD Cd.tok)).kind) = (1 : Int))) = true → ((0 ≤ (0 : Int) ∧ (0 : Int) < (a0.length : Int)) ∧ (A36 ((a0.getD 0 (dfltD Cd.tok)).text) (fun y1 => (A29 y1 ([45] : List UInt8) (fun y2 y3 => ((y3 = true → ((0 ≤ (1 : Int) ∧ (1 : Int) ≤ (a0.length : Int)) ∧ K (-1 : Int) y2 (a0.drop 1) true)) ∧ (y3 = false → ((0 ≤ (1 : Int) ∧ (1 : Int) ≤ (a0.length : Int)) ∧ K (1 : Int) y2 (a0.drop 1) true))))))))) ∧ ((decide (((a0.getD 0 (dfltD Cd.tok)).kind) = (1 : Int))) = false → ((0 ≤ (0 : Int) ∧ (0 : Int) < (a0.length : Int)) ∧ (((decide (((a0.getD 0 (dfltD Cd.tok)).kind) = (12 : Int))) = true → ((0 ≤ (0 : Int) ∧ (0 : Int) < (a0.length : Int)) ∧ (A38 (Tok.mk ((a0.getD 0 (dfltD Cd.tok)).kind) ((a0.getD 0 (dfltD Cd.tok)).text) ((a0.getD 0 (dfltD Cd.tok)).num) ((a0.getD 0 (dfltD Cd.tok)).unit) ((a0.getD 0 (dfltD Cd.tok)).flag)) (fun y4 y5 => ((0 ≤ (0 : Int) ∧ (0 : Int) < (a0.length : Int)) ∧ (A36 ((a0.getD 0 (dfltD Cd.tok)).unit) (fun y6 => ((0 ≤ (1 : Int) ∧ (1 : Int) ≤ (a0.length : Int)) ∧ K y4 y6 (a0.drop 1) y5)))))))) ∧ ((decide (((a0.getD 0 (dfltD Cd.tok)).kind) = (12 : Int))) = false → ((0 ≤ (0 : Int) ∧ (0 : Int) < (a0.length : Int)) ∧ (A39 (Tok.mk ((a0.getD 0 (dfltD Cd.tok)).kind) ((a0.getD 0 (dfltD Cd.tok)).text) ((a0.getD 0 (dfltD Cd.tok)).num) ((a0.getD 0 (dfltD Cd.tok)).unit) ((a0.getD 0 (dfltD Cd.tok)).flag)) ([43] : List UInt8) (fun y7 => ((y7 = true → (((decide ((1 : Int) < (a0.length : Int))) = true → ((0 ≤ (1 : Int) ∧ (1 : Int) < (a0.length : Int)) ∧ (((decide (((a0.getD 1 (dfltD Cd.tok)).kind) = (1 : Int))) = true → ((0 ≤ (1 : Int) ∧ (1 : Int) < (a0.length : Int)) ∧ (A36 ((a0.getD 1 (dfltD Cd.tok)).text) (fun y8 => ((0 ≤ (2 : Int) ∧ (2 : Int) ≤ (a0.length : Int)) ∧ K (1 : Int) y8 (a0.drop 2) true))))) ∧ ((decide (((a0.getD 1 (dfltD Cd.tok)).kind) = (1 : Int))) = false → K (0 : Int) ([] : List UInt8) ([] : List Tok) false)))) ∧ ((decide ((1 : Int) < (a0.length : Int))) = false → K (0 : Int) ([] : List UInt8) ([] : List Tok) false))) ∧ (y7 = false → K (0 : Int) ([] : List UInt8) ([] : List Tok) false)))))))))))))

def C_anb_cutHead (A36 : T_input_Lower) (A29 : T_strings_CutPrefix) (A38 : T_anb_whole) (A39 : T_anb_isDelim) : CallT sg := tab [(36, con [none] (q_input_Lower A36)), (29, con [none, none] (q_strings_CutPrefix A29)), (38, con [none] (q_anb_whole A38)), (39, con [none, none] (q_anb_isDelim A39))]
theorem Cok_anb_cutHead (A36 : T_input_Lower) (A29 : T_strings_CutPrefix) (A38 : T_anb_whole) (A39 : T_anb_isDelim) (h36 : FnOK sy Tryz.prog GT (ovD ro) ro 36 (q_input_Lower A36)) (h29 : FnOK sy Tryz.prog GT (ovD ro) ro 29 (q_strings_CutPrefix A29)) (h38 : FnOK sy Tryz.prog GT (ovD ro) ro 38 (q_anb_whole A38)) (h39 : FnOK sy Tryz.prog GT (ovD ro) ro 39 (q_anb_isDelim A39)) (o0 : Nat → Prop) : CalOK sy Tryz.prog GT (ovD ro) o0 ro (C_anb_cutHead A36 A29 A38 A39) := (tab_cons (con_ok h36) (tab_cons (con_ok h29) (tab_cons (con_ok h38) (tab_cons (con_ok h39) tab_nil)))) o0

theorem raw_anb_cutHead (A36 : T_input_Lower) (A29 : T_strings_CutPrefix) (A38 : T_anb_whole) (A39 : T_anb_isDelim) (a0 : List Tok) (k : W → Prop) : fnT sy Tryz.prog GT (C_anb_cutHead A36 A29 A38 A39) noL Tryz.f28.ntmps (bodyOf Tryz.f28) [none, none, some Cd.tok, none] Tryz.f28.results.toList [.l Cd.tok a0] k = F_anb_cutHead A36 A29 A38 A39 a0 (fun r0 r1 r2 r3 => k (.t [.i .i64 r0, .s r1, .l Cd.tok r2, .b r3])) := by kernel_rfl

theorem ok_anb_cutHead (A36 : T_input_Lower) (A29 : T_strings_CutPrefix) (A38 : T_anb_whole) (A39 : T_anb_isDelim) (h36 : FnOK sy Tryz.prog GT (ovD ro) ro 36 (q_input_Lower A36)) (h29 : FnOK sy Tryz.prog GT (ovD ro) ro 29 (q_strings_CutPrefix A29)) (h38 : FnOK sy Tryz.prog GT (ovD ro) ro 38 (q_anb_whole A38)) (h39 : FnOK sy Tryz.prog GT (ovD ro) ro 39 (q_anb_isDelim A39)) : FnOK sy Tryz.prog GT (ovD ro) ro 28 (q_anb_cutHead (F_anb_cutHead A36 A29 A38 A39)) := (fn_ok (rc := [none, none, some Cd.tok, none]) (f := 28) (fn := Tryz.f28) (c := bodyOf Tryz.f28) (nt := Tryz.f28.ntmps) (res := Tryz.f28.results.toList) (C := C_anb_cutHead A36 A29 A38 A39) (L := noL) (fun _ _ => rfl) Tryz.func28 (by kernel_rfl) rfl rfl (Cok_anb_cutHead A36 A29 A38 A39 h36 h29 h38 h39) (lp_of (l := []) (by kernel_rfl) lp_nil)).weak (by
  intro us k h
  unfold q_anb_cutHead at h
  split at h
  · skip
    rename_i a0
    rw [raw_anb_cutHead A36 A29 A38 A39 a0 k]
    exact h
  · exact h.elim)

abbrev T_anb_negated := Int → Bool → (Int → Bool → Prop) → Prop
def q_anb_negated (A : T_anb_negated) (us : List W) (k : W → Prop) : Prop := match us with
  | [.i .i64 a0, .b a1] => A a0 a1 (fun r0 r1 => k (.t [.i .i64 r0, .b r1]))
  | _ => False
theorem q_anb_negated_weak {A A2 : T_anb_negated} (h : FnOK sy Tryz.prog GT (ovD ro) ro 42 (q_anb_negated A)) (hA : ∀ a0 a1 K, A2 a0 a1 K → A a0 a1 K) : FnOK sy Tryz.prog GT (ovD ro) ro 42 (q_anb_negated A2) := h.weak (by
  intro us k h
  unfold q_anb_negated at h ⊢
  split at h
  · exact hA _ _ _ h
  · exact h.elim)

def F_anb_negated (a0 : Int) (a1 : Bool) (K : Int → Bool → Prop) : Prop :=
  (I64 (0 - a0) ∧ K (0 - a0) a1)

def C_anb_negated : CallT sg := tab []
theorem Cok_anb_negated (o0 : Nat → Prop) : CalOK sy Tryz.prog GT (ovD ro) o0 ro (C_anb_negated) := tab_nil o0

theorem raw_anb_negated (a0 : Int) (a1 : Bool) (k : W → Prop) : fnT sy Tryz.prog GT (C_anb_negated) noL Tryz.f42.ntmps (bodyOf Tryz.f42) [none, none] Tryz.f42.results.toList [.i .i64 a0, .b a1] k = F_anb_negated a0 a1 (fun r0 r1 => k (.t [.i .i64 r0, .b r1])) := by kernel_rfl

theorem ok_anb_negated : FnOK sy Tryz.prog GT (ovD ro) ro 42 (q_anb_negated (F_anb_negated)) := (fn_ok (rc := [none, none]) (f := 42) (fn := Tryz.f42) (c := bodyOf Tryz.f42) (nt := Tryz.f42.ntmps) (res := Tryz.f42.results.toList) (C := C_anb_negated) (L := noL) (fun _ _ => rfl) Tryz.func42 (by kernel_rfl) rfl rfl (Cok_anb_negated) (lp_of (l := []) (by kernel_rfl) lp_nil)).weak (by
  intro us k h
  unfold q_anb_negated at h
  split at h
  · skip
    rename_i a0 a1
    rw [raw_anb_negated a0 a1 k]
    exact h
  · exact h.elim)

abbrev T_anb_unsigned := List Tok → (Int → Bool → Prop) → Prop
def q_anb_unsigned (A : T_anb_unsigned) (us : List W) (k : W → Prop) : Prop := match us with
  | [.l Cd.tok a0] => A a0 (fun r0 r1 => k (.t [.i .i64 r0, .b r1]))
  | _ => False
theorem q_anb_unsigned_weak {A A2 : T_anb_unsigned} (h : FnOK sy Tryz.prog GT (ovD ro) ro 43 (q_anb_unsigned A)) (hA : ∀ a0 K, A2 a0 K → A a0 K) : FnOK sy Tryz.prog GT (ovD ro) ro 43 (q_anb_unsigned A2) := h.weak (by
  intro us k h
  unfold q_anb_unsigned at h ⊢
  split at h
  · exact hA _ _ h
  · exact h.elim)

def F_anb_unsigned (A35 : T_anb_behindSpaces) (A37 : T_anb_number) (a0 : List Tok) (K : Int → Bool → Prop) : Prop :=
  (A35 a0 (fun y1 => (A37 y1 (fun y2 y3 => (((decide (y2 < (0 : Int))) = true → K (0 : Int) false) ∧ ((decide (y2 < (0 : Int))) = false → K y2 y3))))))

def C_anb_unsigned (A35 : T_anb_behindSpaces) (A37 : T_anb_number) : CallT sg := tab [(35, con [some Cd.tok] (q_anb_behindSpaces A35)), (37, con [some Cd.tok] (q_anb_number A37))]
theorem Cok_anb_unsigned (A35 : T_anb_behindSpaces) (A37 : T_anb_number) (h35 : FnOK sy Tryz.prog GT (ovD ro) ro 35 (q_anb_behindSpaces A35)) (h37 : FnOK sy Tryz.prog GT (ovD ro) ro 37 (q_anb_number A37)) (o0 : Nat → Prop) : CalOK sy Tryz.prog GT (ovD ro) o0 ro (C_anb_unsigned A35 A37) := (tab_cons (con_ok h35) (tab_cons (con_ok h37) tab_nil)) o0

theorem raw_anb_unsigned (A35 : T_anb_behindSpaces) (A37 : T_anb_number) (a0 : List Tok) (k : W → Prop) : fnT sy Tryz.prog GT (C_anb_unsigned A35 A37) noL Tryz.f43.ntmps (bodyOf Tryz.f43) [none, none] Tryz.f43.results.toList [.l Cd.tok a0] k = F_anb_unsigned A35 A37 a0 (fun r0 r1 => k (.t [.i .i64 r0, .b r1])) := by kernel_rfl

theorem ok_anb_unsigned (A35 : T_anb_behindSpaces) (A37 : T_anb_number) (h35 : FnOK sy Tryz.prog GT (ovD ro) ro 35 (q_anb_behindSpaces A35)) (h37 : FnOK sy Tryz.prog GT (ovD ro) ro 37 (q_anb_number A37)) : FnOK sy Tryz.prog GT (ovD ro) ro 43 (q_anb_unsigned (F_anb_unsigned A35 A37)) := (fn_ok (rc := [none, none]) (f := 43) (fn := Tryz.f43) (c := bodyOf Tryz.f43) (nt := Tryz.f43.ntmps) (res := Tryz.f43.results.toList) (C := C_anb_unsigned A35 A37) (L := noL) (fun _ _ => rfl) Tryz.func43 (by kernel_rfl) rfl rfl (Cok_anb_unsigned A35 A37 h35 h37) (lp_of (l := []) (by kernel_rfl) lp_nil)).weak (by
  intro us k h
  unfold q_anb_unsigned at h
  split at h
  · skip
    rename_i a0
    rw [raw_anb_unsigned A35 A37 a0 k]
    exact h
  · exact h.elim)

abbrev T_anb_readSigned := List Tok → (Int → Bool → Prop) → Prop
def q_anb_readSigned (A : T_anb_readSigned) (us : List W) (k : W → Prop) : Prop := match us with
  | [.l Cd.tok a0] => A a0 (fun r0 r1 => k (.t [.i .i64 r0, .b r1]))
  | _ => False
theorem q_anb_readSigned_weak {A A2 : T_anb_readSigned} (h : FnOK sy Tryz.prog GT (ovD ro) ro 41 (q_anb_readSigned A)) (hA : ∀ a0 K, A2 a0 K → A a0 K) : FnOK sy Tryz.prog GT (ovD ro) ro 41 (q_anb_readSigned A2) := h.weak (by
  intro us k h
  unfold q_anb_readSigned at h ⊢
  split at h
  · exact hA _ _ h
  · exact h.elim)

def F_anb_readSigned (A35 : T_anb_behindSpaces) (A39 : T_anb_isDelim) (A43 : T_anb_unsigned) (A42 : T_anb_negated) (A37 : T_anb_number) (a0 : List Tok) (K : Int → Bool → Prop) : Prop :=
  (A35 a0 (fun y1 => (((decide ((y1.length : Int) = (0 : Int))) = true → K (0 : Int) true) ∧ ((decide ((y1.length : Int) = (0 : Int))) = false → ((0 ≤ (0 : Int) ∧ (0 : Int) < (y1.length : Int)) ∧ (A39 (Tok.mk ((y1.getD 0 (dfltD Cd.tok)).kind) ((y1.getD 0 (dfltD Cd.tok)).text) ((y1.getD 0 (dfltD Cd.tok)).num) ((y1.getD 0 (dfltD Cd.tok)).unit) ((y1.getD 0 (dfltD Cd.tok)).flag)) ([43] : List UInt8) (fun y2 => ((y2 = true → ((0 ≤ (1 : Int) ∧ (1 : Int) ≤ (y1.length : Int)) ∧ (A43 (y1.drop 1) (fun y3 y4 => K y3 y4)))) ∧ (y2 = false → ((0 ≤ (0 : Int) ∧ (0 : Int) < (y1.length : Int)) ∧ (A39 (Tok.mk ((y1.getD 0 (dfltD Cd.tok)).kind) ((y1.getD 0 (dfltD Cd.tok)).text) ((y1.getD 0 (dfltD Cd.tok)).num) ((y1.getD 0 (dfltD Cd.tok)).unit) ((y1.getD 0 (dfltD Cd.tok)).flag)) ([45] : List UInt8) (fun y5 => ((y5 = true → ((0 ≤ (1 : Int) ∧ (1 : Int) ≤ (y1.length : Int)) ∧ (A43 (y1.drop 1) (fun y6 y7 => (A42 y6 y7 (fun y8 y9 => K y8 y9)))))) ∧ (y5 = false → (A37 y1 (fun y10 y11 => K y10 y11))))))))))))))))

def C_anb_readSigned (A35 : T_anb_behindSpaces) (A39 : T_anb_isDelim) (A43 : T_anb_unsigned) (A42 : T_anb_negated) (A37 : T_anb_number) : CallT sg := tab [(35, con [some Cd.tok] (q_anb_behindSpaces A35)), (39, con [none, none] (q_anb_isDelim A39)), (43, con [some Cd.tok] (q_anb_unsigned A43)), (42, con [none, none] (q_anb_negated A42)), (37, con [some Cd.tok] (q_anb_number A37))]
theorem Cok_anb_readSigned (A35 : T_anb_behindSpaces) (A39 : T_anb_isDelim) (A43 : T_anb_unsigned) (A42 : T_anb_negated) (A37 : T_anb_number) (h35 : FnOK sy Tryz.prog GT (ovD ro) ro 35 (q_anb_behindSpaces A35)) (h39 : FnOK sy Tryz.prog GT (ovD ro) ro 39 (q_anb_isDelim A39)) (h43 : FnOK sy Tryz.prog GT (ovD ro) ro 43 (q_anb_unsigned A43)) (h42 : FnOK sy Tryz.prog GT (ovD ro) ro 42 (q_anb_negated A42)) (h37 : FnOK sy Tryz.prog GT (ovD ro) ro 37 (q_anb_number A37)) (o0 : Nat → Prop) : CalOK sy Tryz.prog GT (ovD ro) o0 ro (C_anb_readSigned A35 A39 A43 A42 A37) := (tab_cons (con_ok h35) (tab_cons (con_ok h39) (tab_cons (con_ok h43) (tab_cons (con_ok h42) (tab_cons (con_ok h37) tab_nil))))) o0

theorem raw_anb_readSigned (A35 : T_anb_behindSpaces) (A39 : T_anb_isDelim) (A43 : T_anb_unsigned) (A42 : T_anb_negated) (A37 : T_anb_number) (a0 : List Tok) (k : W → Prop) : fnT sy Tryz.prog GT (C_anb_readSigned A35 A39 A43 A42 A37) noL Tryz.f41.ntmps (bodyOf Tryz.f41) [none, none] Tryz.f41.results.toList [.l Cd.tok a0] k = F_anb_readSigned A35 A39 A43 A42 A37 a0 (fun r0 r1 => k (.t [.i .i64 r0, .b r1])) := by kernel_rfl

theorem ok_anb_readSigned (A35 : T_anb_behindSpaces) (A39 : T_anb_isDelim) (A43 : T_anb_unsigned) (A42 : T_anb_negated) (A37 : T_anb_number) (h35 : FnOK sy Tryz.prog GT (ovD ro) ro 35 (q_anb_behindSpaces A35)) (h39 : FnOK sy Tryz.prog GT (ovD ro) ro 39 (q_anb_isDelim A39)) (h43 : FnOK sy Tryz.prog GT (ovD ro) ro 43 (q_anb_unsigned A43)) (h42 : FnOK sy Tryz.prog GT (ovD ro) ro 42 (q_anb_negated A42)) (h37 : FnOK sy Tryz.prog GT (ovD ro) ro 37 (q_anb_number A37)) : FnOK sy Tryz.prog GT (ovD ro) ro 41 (q_anb_readSigned (F_anb_readSigned A35 A39 A43 A42 A37)) := (fn_ok (rc := [none, none]) (f := 41) (fn := Tryz.f41) (c := bodyOf Tryz.f41) (nt := Tryz.f41.ntmps) (res := Tryz.f41.results.toList) (C := C_anb_readSigned A35 A39 A43 A42 A37) (L := noL) (fun _ _ => rfl) Tryz.func41 (by kernel_rfl) rfl rfl (Cok_anb_readSigned A35 A39 A43 A42 A37 h35 h39 h43 h42 h37) (lp_of (l := []) (by kernel_rfl) lp_nil)).weak (by
  intro us k h
  unfold q_anb_readSigned at h
  split at h
  · skip
    rename_i a0
    rw [raw_anb_readSigned A35 A39 A43 A42 A37 a0 k]
    exact h
  · exact h.elim)

abbrev T_anb_readDigits := List UInt8 → (Int → Bool → Prop) → Prop
def q_anb_readDigits (A : T_anb_readDigits) (us : List W) (k : W → Prop) : Prop := match us with
  | [.s a0] => A a0 (fun r0 r1 => k (.t [.i .i64 r0, .b r1]))
  | _ => False
theorem q_anb_readDigits_weak {A A2 : T_anb_readDigits} (h : FnOK sy Tryz.prog GT (ovD ro) ro 44 (q_anb_readDigits A)) (hA : ∀ a0 K, A2 a0 K → A a0 K) : FnOK sy Tryz.prog GT (ovD ro) ro 44 (q_anb_readDigits A2) := h.weak (by
  intro us k h
  unfold q_anb_readDigits at h ⊢
  split at h
  · exact hA _ _ h
  · exact h.elim)

def F_anb_readDigits_l3 (A62 : T_char_IsDigit) : Nat → List UInt8 → Int → Int → Int → (Int → Prop) → (Int → Bool → Prop) → Prop
  | 0, _, _, _, _, _, _ => False
  | n + 1, x0, x4, x7, x8, Ke, Kr => (((decide (x8 < x7)) = true → ((0 ≤ x8 ∧ x8 < (x0.length : Int)) ∧ (A62 ((x0.getD x8.toNat 0).toNat : Int) (fun y1 => (((!y1) = true → Kr (0 : Int) false) ∧ ((!y1) = false → (I64 ((10 : Int) * x4) ∧ ((0 ≤ x8 ∧ x8 < (x0.length : Int)) ∧ (I64 (IntKind.u8.wrap (((x0.getD x8.toNat 0).toNat : Int) - (48 : Int))) ∧ (I64 (((10 : Int) * x4) + (IntKind.u8.wrap (((x0.getD x8.toNat 0).toNat : Int) - (48 : Int)))) ∧ (I64 (x8 + (1 : Int)) ∧ F_anb_readDigits_l3 A62 n x0 (if (1000000000 : Int) < (((10 : Int) * x4) + (IntKind.u8.wrap (((x0.getD x8.toNat 0).toNat : Int) - (48 : Int)))) then (1000000000 : Int) else (((10 : Int) * x4) + (IntKind.u8.wrap (((x0.getD x8.toNat 0).toNat : Int) - (48 : Int))))) x7 (x8 + (1 : Int)) Ke Kr))))))))))) ∧ ((decide (x8 < x7)) = false → Ke x4))

def F_anb_readDigits (A62 : T_char_IsDigit) (a0 : List UInt8) (K : Int → Bool → Prop) : Prop :=
  (∃ m, F_anb_readDigits_l3 A62 m a0 (0 : Int) (a0.length : Int) (0 : Int) (fun y1 => K y1 true) (fun y2 y3 => K y2 y3))

def C_anb_readDigits (A62 : T_char_IsDigit) : CallT sg := tab [(62, con [none] (q_char_IsDigit A62))]
theorem Cok_anb_readDigits (A62 : T_char_IsDigit) (h62 : FnOK sy Tryz.prog GT (ovD ro) ro 62 (q_char_IsDigit A62)) (o0 : Nat → Prop) : CalOK sy Tryz.prog GT (ovD ro) o0 ro (C_anb_readDigits A62) := (tab_cons (con_ok h62) tab_nil) o0

def ls_anb_readDigits_3 : LS sy ((List UInt8) × Int × Int × Int × Unit) Unit := ⟨[], fCons 0 (vStr sy) (fCons 4 (vInt sy .i64) (fCons 7 (vInt sy .i64) (fCons 8 (vInt sy .i64) (fNil sy)))), hNil sy, 0, []⟩
def le_anb_readDigits_3 : LS sy (Int × Unit) Unit := ⟨[], fCons 4 (vInt sy .i64) (fNil sy), hNil sy, 0, []⟩
def lr_anb_readDigits_3 : LS sy (Int × Bool × Unit) Unit := ⟨[], fCons 2 (vInt sy .i64) (fCons 3 (vBool sy) (fNil sy)), hNil sy, 0, []⟩
def FF_anb_readDigits_3 (A62 : T_char_IsDigit) (n : Nat) (x : ((List UInt8) × Int × Int × Int × Unit) × Unit) (K : Ex → Z sg → Prop) : Prop := F_anb_readDigits_l3 A62 n x.1.1 x.1.2.1 x.1.2.2.1 x.1.2.2.2.1 (fun y0 => K (.exit 0) (le_anb_readDigits_3.put ((y0, ()), ()))) (fun y0 y1 => K .ret (lr_anb_readDigits_3.put ((y0, y1, ()), ())))
def h_anb_readDigits_3 (A62 : T_char_IsDigit) (z : Z sg) (K : Ex → Z sg → Prop) : Prop := ls_anb_readDigits_3.get z (fun x => ∃ n, FF_anb_readDigits_3 A62 n x K)
def L_anb_readDigits (A62 : T_char_IsDigit) : LoopT sg := tabL [(3, h_anb_readDigits_3 A62)]
theorem hs_anb_readDigits_3 (A62 : T_char_IsDigit) (n : Nat) (x : ((List UInt8) × Int × Int × Int × Unit) × Unit) (K : Ex → Z sg → Prop) : forceZ (ls_anb_readDigits_3.put x) (fun z => sC sy Tryz.prog GT (C_anb_readDigits A62) (L_anb_readDigits A62) Tryz.f44.ntmps (nthLoop (bodyOf Tryz.f44) 0) z (rnd ls_anb_readDigits_3 (czT 0 le_anb_readDigits_3 lr_anb_readDigits_3) (fun x => FF_anb_readDigits_3 A62 n x K) K)) = FF_anb_readDigits_3 A62 (n + 1) x K := by kernel_rfl
theorem hl_anb_readDigits_3 (A62 : T_char_IsDigit) (z : Z sg) (K : Ex → Z sg → Prop) : (L_anb_readDigits A62) (nthLoop (bodyOf Tryz.f44) 0) z K = ls_anb_readDigits_3.get z (fun x => ∃ n, FF_anb_readDigits_3 A62 n x K) := by kernel_rfl
theorem lo_anb_readDigits_3 (A62 : T_char_IsDigit) (h62 : FnOK sy Tryz.prog GT (ovD ro) ro 62 (q_char_IsDigit A62)) : ∀ (o0 : Nat → Prop) (B : Bs sg), B.E.length ≤ 0 → ∀ z K, (L_anb_readDigits A62) (nthLoop (bodyOf Tryz.f44) 0) z K → Sx.Sem sy Tryz.prog GT (ovD ro) o0 ro Tryz.f44.ntmps B (.loop (nthLoop (bodyOf Tryz.f44) 0)) z K :=
  loop_ok (Cok_anb_readDigits A62 h62) (lp_of (l := []) (by kernel_rfl) lp_nil) ls_anb_readDigits_3 (by decide) (czT 0 le_anb_readDigits_3 lr_anb_readDigits_3) (fun _ _ hB => czT_ok 0 le_anb_readDigits_3 lr_anb_readDigits_3 (Nat.le_trans hB (by decide)) (Nat.le_trans hB (by decide))) (fun _ _ h => h) (hs_anb_readDigits_3 A62) (hl_anb_readDigits_3 A62)
theorem Lp_anb_readDigits (A62 : T_char_IsDigit) (h62 : FnOK sy Tryz.prog GT (ovD ro) ro 62 (q_char_IsDigit A62)) : LpOK sy Tryz.prog GT (ovD ro) ro (L_anb_readDigits A62) 0 Tryz.f44.ntmps (bodyOf Tryz.f44) := lp_of (l := [(nthLoop (bodyOf Tryz.f44) 0)]) (by kernel_rfl) (lp_cons (lo_anb_readDigits_3 A62 h62) lp_nil)


theorem raw_anb_readDigits (A62 : T_char_IsDigit) (a0 : List UInt8) (k : W → Prop) : fnT sy Tryz.prog GT (C_anb_readDigits A62) (L_anb_readDigits A62) Tryz.f44.ntmps (bodyOf Tryz.f44) [none, none] Tryz.f44.results.toList [.s a0] k = F_anb_readDigits A62 a0 (fun r0 r1 => k (.t [.i .i64 r0, .b r1])) := by kernel_rfl

theorem ok_anb_readDigits (A62 : T_char_IsDigit) (h62 : FnOK sy Tryz.prog GT (ovD ro) ro 62 (q_char_IsDigit A62)) : FnOK sy Tryz.prog GT (ovD ro) ro 44 (q_anb_readDigits (F_anb_readDigits A62)) := (fn_ok (rc := [none, none]) (f := 44) (fn := Tryz.f44) (c := bodyOf Tryz.f44) (nt := Tryz.f44.ntmps) (res := Tryz.f44.results.toList) (C := C_anb_readDigits A62) (L := (L_anb_readDigits A62)) (fun _ _ => rfl) Tryz.func44 (by kernel_rfl) rfl rfl (Cok_anb_readDigits A62 h62) (Lp_anb_readDigits A62 h62)).weak (by
  intro us k h
  unfold q_anb_readDigits at h
  split at h
  · skip
    rename_i a0
    rw [raw_anb_readDigits A62 a0 k]
    exact h
  · exact h.elim)

abbrev T_anb_readAddend := List UInt8 → List Tok → (Int → Bool → Prop) → Prop
def q_anb_readAddend (A : T_anb_readAddend) (us : List W) (k : W → Prop) : Prop := match us with
  | [.s a0, .l Cd.tok a1] => A a0 a1 (fun r0 r1 => k (.t [.i .i64 r0, .b r1]))
  | _ => False
theorem q_anb_readAddend_weak {A A2 : T_anb_readAddend} (h : FnOK sy Tryz.prog GT (ovD ro) ro 30 (q_anb_readAddend A)) (hA : ∀ a0 a1 K, A2 a0 a1 K → A a0 a1 K) : FnOK sy Tryz.prog GT (ovD ro) ro 30 (q_anb_readAddend A2) := h.weak (by
  intro us k h
  unfold q_anb_readAddend at h ⊢
  split at h
  · exact hA _ _ _ h
  · exact h.elim)

def F_anb_readAddend (A41 : T_anb_readSigned) (A29 : T_strings_CutPrefix) (A43 : T_anb_unsigned) (A42 : T_anb_negated) (A44 : T_anb_readDigits) (a0 : List UInt8) (a1 : List Tok) (K : Int → Bool → Prop) : Prop :=
  (((a0 == ([] : List UInt8)) = true → (A41 a1 (fun y1 y2 => K y1 y2))) ∧ ((a0 == ([] : List UInt8)) = false → (A29 a0 ([45] : List UInt8) (fun y3 y4 => (((!y4) = true → K (0 : Int) false) ∧ ((!y4) = false → (((y3 == ([] : List UInt8)) = true → (A43 a1 (fun y5 y6 => (A42 y5 y6 (fun y7 y8 => K y7 y8))))) ∧ ((y3 == ([] : List UInt8)) = false → (((decide ((0 : Int) < (a1.length : Int))) = true → K (0 : Int) false) ∧ ((decide ((0 : Int) < (a1.length : Int))) = false → (A44 y3 (fun y9 y10 => (A42 y9 y10 (fun y11 y12 => K y11 y12))))))))))))))

def C_anb_readAddend (A41 : T_anb_readSigned) (A29 : T_strings_CutPrefix) (A43 : T_anb_unsigned) (A42 : T_anb_negated) (A44 : T_anb_readDigits) : CallT sg := tab [(41, con [some Cd.tok] (q_anb_readSigned A41)), (29, con [none, none] (q_strings_CutPrefix A29)), (43, con [some Cd.tok] (q_anb_unsigned A43)), (42, con [none, none] (q_anb_negated A42)), (44, con [none] (q_anb_readDigits A44))]
theorem Cok_anb_readAddend (A41 : T_anb_readSigned) (A29 : T_strings_CutPrefix) (A43 : T_anb_unsigned) (A42 : T_anb_negated) (A44 : T_anb_readDigits) (h41 : FnOK sy Tryz.prog GT (ovD ro) ro 41 (q_anb_readSigned A41)) (h29 : FnOK sy Tryz.prog GT (ovD ro) ro 29 (q_strings_CutPrefix A29)) (h43 : FnOK sy Tryz.prog GT (ovD ro) ro 43 (q_anb_unsigned A43)) (h42 : FnOK sy Tryz.prog GT (ovD ro) ro 42 (q_anb_negated A42)) (h44 : FnOK sy Tryz.prog GT (ovD ro) ro 44 (q_anb_readDigits A44)) (o0 : Nat → Prop) : CalOK sy Tryz.prog GT (ovD ro) o0 ro (C_anb_readAddend A41 A29 A43 A42 A44) := (tab_cons (con_ok h41) (tab_cons (con_ok h29) (tab_cons (con_ok h43) (tab_cons (con_ok h42) (tab_cons (con_ok h44) tab_nil))))) o0

theorem raw_anb_readAddend (A41 : T_anb_readSigned) (A29 : T_strings_CutPrefix) (A43 : T_anb_unsigned) (A42 : T_anb_negated) (A44 : T_anb_readDigits) (a0 : List UInt8) (a1 : List Tok) (k : W → Prop) : fnT sy Tryz.prog GT (C_anb_readAddend A41 A29 A43 A42 A44) noL Tryz.f30.ntmps (bodyOf Tryz.f30) [none, none] Tryz.f30.results.toList [.s a0, .l Cd.tok a1] k = F_anb_readAddend A41 A29 A43 A42 A44 a0 a1 (fun r0 r1 => k (.t [.i .i64 r0, .b r1])) := by kernel_rfl

theorem ok_anb_readAddend (A41 : T_anb_readSigned) (A29 : T_strings_CutPrefix) (A43 : T_anb_unsigned) (A42 : T_anb_negated) (A44 : T_anb_readDigits) (h41 : FnOK sy Tryz.prog GT (ovD ro) ro 41 (q_anb_readSigned A41)) (h29 : FnOK sy Tryz.prog GT (ovD ro) ro 29 (q_strings_CutPrefix A29)) (h43 : FnOK sy Tryz.prog GT (ovD ro) ro 43 (q_anb_unsigned A43)) (h42 : FnOK sy Tryz.prog GT (ovD ro) ro 42 (q_anb_negated A42)) (h44 : FnOK sy Tryz.prog GT (ovD ro) ro 44 (q_anb_readDigits A44)) : FnOK sy Tryz.prog GT (ovD ro) ro 30 (q_anb_readAddend (F_anb_readAddend A41 A29 A43 A42 A44)) := (fn_ok (rc := [none, none]) (f := 30) (fn := Tryz.f30) (c := bodyOf Tryz.f30) (nt := Tryz.f30.ntmps) (res := Tryz.f30.results.toList) (C := C_anb_readAddend A41 A29 A43 A42 A44) (L := noL) (fun _ _ => rfl) Tryz.func30 (by kernel_rfl) rfl rfl (Cok_anb_readAddend A41 A29 A43 A42 A44 h41 h29 h43 h42 h44) (lp_of (l := []) (by kernel_rfl) lp_nil)).weak (by
  intro us k h
  unfold q_anb_readAddend at h
  split at h
  · skip
    rename_i a0 a1
    rw [raw_anb_readAddend A41 A29 A43 A42 A44 a0 a1 k]
    exact h
  · exact h.elim)

abbrev T_anb_read := List Tok → ((Int × Int) → Bool → Prop) → Prop
def q_anb_read (A : T_anb_read) (us : List W) (k : W → Prop) : Prop := match us with
  | [.l Cd.tok a0] => A a0 (fun r0 r1 => k (.t [.a [.i .i64 r0.1, .i .i64 r0.2], .b r1]))
  | _ => False
theorem q_anb_read_weak {A A2 : T_anb_read} (h : FnOK sy Tryz.prog GT (ovD ro) ro 18 (q_anb_read A)) (hA : ∀ a0 K, A2 a0 K → A a0 K) : FnOK sy Tryz.prog GT (ovD ro) ro 18 (q_anb_read A2) := h.weak (by
  intro us k h
  unfold q_anb_read at h ⊢
  split at h
  · exact hA _ _ h
  · exact h.elim)

def F_anb_read (A26 : T_anb_trimmed) (A27 : T_anb_alone) (A28 : T_anb_cutHead) (A29 : T_strings_CutPrefix) (A30 : T_anb_readAddend) (a0 : List Tok) (K : (Int × Int) → Bool → Prop) : Prop :=
  (A26 a0 (fun y1 => (A27 y1 (fun y2 y3 => ((y3 = true → K (y2.1, y2.2) true) ∧ (y3 = false → (A28 y1 (fun y4 y5 y6 y7 => (((!y7) = true → K ((0 : Int), (0 : Int)) false) ∧ ((!y7) = false → (A29 y5 ([110] : List UInt8) (fun y8 y9 => (((!y9) = true → K ((0 : Int), (0 : Int)) false) ∧ ((!y9) = false → (A30 y8 y6 (fun y10 y11 => (((!y11) = true → K ((0 : Int), (0 : Int)) false) ∧ ((!y11) = false → K (y4, y10) true))))))))))))))))))

def C_anb_read (A26 : T_anb_trimmed) (A27 : T_anb_alone) (A28 : T_anb_cutHead) (A29 : T_strings_CutPrefix) (A30 : T_anb_readAddend) : CallT sg := tab [(26, con [some Cd.tok] (q_anb_trimmed A26)), (27, con [some Cd.tok] (q_anb_alone A27)), (28, con [some Cd.tok] (q_anb_cutHead A28)), (29, con [none, none] (q_strings_CutPrefix A29)), (30, con [none, some Cd.tok] (q_anb_readAddend A30))]
theorem Cok_anb_read (A26 : T_anb_trimmed) (A27 : T_anb_alone) (A28 : T_anb_cutHead) (A29 : T_strings_CutPrefix) (A30 : T_anb_readAddend) (h26 : FnOK sy Tryz.prog GT (ovD ro) ro 26 (q_anb_trimmed A26)) (h27 : FnOK sy Tryz.prog GT (ovD ro) ro 27 (q_anb_alone A27)) (h28 : FnOK sy Tryz.prog GT (ovD ro) ro 28 (q_anb_cutHead A28)) (h29 : FnOK sy Tryz.prog GT (ovD ro) ro 29 (q_strings_CutPrefix A29)) (h30 : FnOK sy Tryz.prog GT (ovD ro) ro 30 (q_anb_readAddend A30)) (o0 : Nat → Prop) : CalOK sy Tryz.prog GT (ovD ro) o0 ro (C_anb_read A26 A27 A28 A29 A30) := (tab_cons (con_ok h26) (tab_cons (con_ok h27) (tab_cons (con_ok h28) (tab_cons (con_ok h29) (tab_cons (con_ok h30) tab_nil))))) o0

theorem raw_anb_read (A26 : T_anb_trimmed) (A27 : T_anb_alone) (A28 : T_anb_cutHead) (A29 : T_strings_CutPrefix) (A30 : T_anb_readAddend) (a0 : List Tok) (k : W → Prop) : fnT sy Tryz.prog GT (C_anb_read A26 A27 A28 A29 A30) noL Tryz.f18.ntmps (bodyOf Tryz.f18) [none, none] Tryz.f18.results.toList [.l Cd.tok a0] k = F_anb_read A26 A27 A28 A29 A30 a0 (fun r0 r1 => k (.t [.a [.i .i64 r0.1, .i .i64 r0.2], .b r1])) := by kernel_rfl

theorem ok_anb_read (A26 : T_anb_trimmed) (A27 : T_anb_alone) (A28 : T_anb_cutHead) (A29 : T_strings_CutPrefix) (A30 : T_anb_readAddend) (h26 : FnOK sy Tryz.prog GT (ovD ro) ro 26 (q_anb_trimmed A26)) (h27 : FnOK sy Tryz.prog GT (ovD ro) ro 27 (q_anb_alone A27)) (h28 : FnOK sy Tryz.prog GT (ovD ro) ro 28 (q_anb_cutHead A28)) (h29 : FnOK sy Tryz.prog GT (ovD ro) ro 29 (q_strings_CutPrefix A29)) (h30 : FnOK sy Tryz.prog GT (ovD ro) ro 30 (q_anb_readAddend A30)) : FnOK sy Tryz.prog GT (ovD ro) ro 18 (q_anb_read (F_anb_read A26 A27 A28 A29 A30)) := (fn_ok (rc := [none, none]) (f := 18) (fn := Tryz.f18) (c := bodyOf Tryz.f18) (nt := Tryz.f18.ntmps) (res := Tryz.f18.results.toList) (C := C_anb_read A26 A27 A28 A29 A30) (L := noL) (fun _ _ => rfl) Tryz.func18 (by kernel_rfl) rfl rfl (Cok_anb_read A26 A27 A28 A29 A30 h26 h27 h28 h29 h30) (lp_of (l := []) (by kernel_rfl) lp_nil)).weak (by
  intro us k h
  unfold q_anb_read at h
  split at h
  · skip
    rename_i a0
    rw [raw_anb_read A26 A27 A28 A29 A30 a0 k]
    exact h
  · exact h.elim)

abbrev T_anb_Of := List Tok → ((Int × Int) → Int → Prop) → Prop
def q_anb_Of (A : T_anb_Of) (us : List W) (k : W → Prop) : Prop := match us with
  | [.l Cd.tok a0] => A a0 (fun r0 r1 => k (.t [.a [.i .i64 r0.1, .i .i64 r0.2], .i .i64 r1]))
  | _ => False
theorem q_anb_Of_weak {A A2 : T_anb_Of} (h : FnOK sy Tryz.prog GT (ovD ro) ro 10 (q_anb_Of A)) (hA : ∀ a0 K, A2 a0 K → A a0 K) : FnOK sy Tryz.prog GT (ovD ro) ro 10 (q_anb_Of A2) := h.weak (by
  intro us k h
  unfold q_anb_Of at h ⊢
  split at h
  · exact hA _ _ h
  · exact h.elim)

def F_anb_Of (A18 : T_anb_read) (a0 : List Tok) (K : (Int × Int) → Int → Prop) : Prop :=
  (A18 a0 (fun y1 y2 => (((!y2) = true → K ((0 : Int), (0 : Int)) (12 : Int)) ∧ ((!y2) = false → K (y1.1, y1.2) (0 : Int)))))

def C_anb_Of (A18 : T_anb_read) : CallT sg := tab [(18, con [some Cd.tok] (q_anb_read A18))]
theorem Cok_anb_Of (A18 : T_anb_read) (h18 : FnOK sy Tryz.prog GT (ovD ro) ro 18 (q_anb_read A18)) (o0 : Nat → Prop) : CalOK sy Tryz.prog GT (ovD ro) o0 ro (C_anb_Of A18) := (tab_cons (con_ok h18) tab_nil) o0

theorem raw_anb_Of (A18 : T_anb_read) (a0 : List Tok) (k : W → Prop) : fnT sy Tryz.prog GT (C_anb_Of A18) noL Tryz.f10.ntmps (bodyOf Tryz.f10) [none, none] Tryz.f10.results.toList [.l Cd.tok a0] k = F_anb_Of A18 a0 (fun r0 r1 => k (.t [.a [.i .i64 r0.1, .i .i64 r0.2], .i .i64 r1])) := by kernel_rfl

theorem ok_anb_Of (A18 : T_anb_read) (h18 : FnOK sy Tryz.prog GT (ovD ro) ro 18 (q_anb_read A18)) : FnOK sy Tryz.prog GT (ovD ro) ro 10 (q_anb_Of (F_anb_Of A18)) := (fn_ok (rc := [none, none]) (f := 10) (fn := Tryz.f10) (c := bodyOf Tryz.f10) (nt := Tryz.f10.ntmps) (res := Tryz.f10.results.toList) (C := C_anb_Of A18) (L := noL) (fun _ _ => rfl) Tryz.func10 (by kernel_rfl) rfl rfl (Cok_anb_Of A18 h18) (lp_of (l := []) (by kernel_rfl) lp_nil)).weak (by
  intro us k h
  unfold q_anb_Of at h
  split at h
  · skip
    rename_i a0
    rw [raw_anb_Of A18 a0 k]
    exact h
  · exact h.elim)

abbrev T_anb_Read := List UInt8 → ((Int × Int) → Int → Prop) → Prop
def q_anb_Read (A : T_anb_Read) (us : List W) (k : W → Prop) : Prop := match us with
  | [.s a0] => A a0 (fun r0 r1 => k (.t [.a [.i .i64 r0.1, .i .i64 r0.2], .i .i64 r1]))
  | _ => False
theorem q_anb_Read_weak {A A2 : T_anb_Read} (h : FnOK sy Tryz.prog GT (ovD ro) ro 9 (q_anb_Read A)) (hA : ∀ a0 K, A2 a0 K → A a0 K) : FnOK sy Tryz.prog GT (ovD ro) ro 9 (q_anb_Read A2) := h.weak (by
  intro us k h
  unfold q_anb_Read at h ⊢
  split at h
  · exact hA _ _ h
  · exact h.elim)

def F_anb_Read (A17 : T_TokensA) (A10 : T_anb_Of) (a0 : List UInt8) (K : (Int × Int) → Int → Prop) : Prop :=
  (A17 a0 (fun y1 y2 => (((decide (y2 ≠ (0 : Int))) = true → K ((0 : Int), (0 : Int)) y2) ∧ ((decide (y2 ≠ (0 : Int))) = false → (A10 y1 (fun y3 y4 => K (y3.1, y3.2) y4))))))

def C_anb_Read (A17 : T_TokensA) (A10 : T_anb_Of) : CallT sg := tab [(17, con [none] (q_TokensA A17)), (10, con [some Cd.tok] (q_anb_Of A10))]
theorem Cok_anb_Read (A17 : T_TokensA) (A10 : T_anb_Of) (h17 : FnOK sy Tryz.prog GT (ovD ro) ro 17 (q_TokensA A17)) (h10 : FnOK sy Tryz.prog GT (ovD ro) ro 10 (q_anb_Of A10)) (o0 : Nat → Prop) : CalOK sy Tryz.prog GT (ovD ro) o0 ro (C_anb_Read A17 A10) := (tab_cons (con_ok h17) (tab_cons (con_ok h10) tab_nil)) o0

theorem raw_anb_Read (A17 : T_TokensA) (A10 : T_anb_Of) (a0 : List UInt8) (k : W → Prop) : fnT sy Tryz.prog GT (C_anb_Read A17 A10) noL Tryz.f9.ntmps (bodyOf Tryz.f9) [none, none] Tryz.f9.results.toList [.s a0] k = F_anb_Read A17 A10 a0 (fun r0 r1 => k (.t [.a [.i .i64 r0.1, .i .i64 r0.2], .i .i64 r1])) := by kernel_rfl

theorem ok_anb_Read (A17 : T_TokensA) (A10 : T_anb_Of) (h17 : FnOK sy Tryz.prog GT (ovD ro) ro 17 (q_TokensA A17)) (h10 : FnOK sy Tryz.prog GT (ovD ro) ro 10 (q_anb_Of A10)) : FnOK sy Tryz.prog GT (ovD ro) ro 9 (q_anb_Read (F_anb_Read A17 A10)) := (fn_ok (rc := [none, none]) (f := 9) (fn := Tryz.f9) (c := bodyOf Tryz.f9) (nt := Tryz.f9.ntmps) (res := Tryz.f9.results.toList) (C := C_anb_Read A17 A10) (L := noL) (fun _ _ => rfl) Tryz.func9 (by kernel_rfl) rfl rfl (Cok_anb_Read A17 A10 h17 h10) (lp_of (l := []) (by kernel_rfl) lp_nil)).weak (by
  intro us k h
  unfold q_anb_Read at h
  split at h
  · skip
    rename_i a0
    rw [raw_anb_Read A17 A10 a0 k]
    exact h
  · exact h.elim)

abbrev T_vitrineref07_Valid := (Int × Int) → (Bool → Prop) → Prop
def q_vitrineref07_Valid (A : T_vitrineref07_Valid) (us : List W) (k : W → Prop) : Prop := match us with
  | [.a [.i .i64 a0_0, .i .i64 a0_1]] => A (a0_0, a0_1) (fun r0 => k (.b r0))
  | _ => False
theorem q_vitrineref07_Valid_weak {A A2 : T_vitrineref07_Valid} (h : FnOK sy Tryz.prog GT (ovD ro) ro 16 (q_vitrineref07_Valid A)) (hA : ∀ a0 K, A2 a0 K → A a0 K) : FnOK sy Tryz.prog GT (ovD ro) ro 16 (q_vitrineref07_Valid A2) := h.weak (by
  intro us k h
  unfold q_vitrineref07_Valid at h ⊢
  split at h
  · exact hA _ _ h
  · exact h.elim)

def F_vitrineref07_Valid (a0 : (Int × Int)) (K : Bool → Prop) : Prop :=
  (((decide ((-1000000000 : Int) ≤ a0.1)) = true → (((decide (a0.1 ≤ (1000000000 : Int))) = true → (((decide ((-1000000000 : Int) ≤ a0.2)) = true → K (decide (a0.2 ≤ (1000000000 : Int)))) ∧ ((decide ((-1000000000 : Int) ≤ a0.2)) = false → K false))) ∧ ((decide (a0.1 ≤ (1000000000 : Int))) = false → K false))) ∧ ((decide ((-1000000000 : Int) ≤ a0.1)) = false → K false))

def C_vitrineref07_Valid : CallT sg := tab []
theorem Cok_vitrineref07_Valid (o0 : Nat → Prop) : CalOK sy Tryz.prog GT (ovD ro) o0 ro (C_vitrineref07_Valid) := tab_nil o0

theorem raw_vitrineref07_Valid (a0 : (Int × Int)) (k : W → Prop) : fnT sy Tryz.prog GT (C_vitrineref07_Valid) noL Tryz.f16.ntmps (bodyOf Tryz.f16) [none] Tryz.f16.results.toList [.a [.i .i64 a0.1, .i .i64 a0.2]] k = F_vitrineref07_Valid a0 (fun r0 => k (.b r0)) := by kernel_rfl

theorem ok_vitrineref07_Valid : FnOK sy Tryz.prog GT (ovD ro) ro 16 (q_vitrineref07_Valid (F_vitrineref07_Valid)) := (fn_ok (rc := [none]) (f := 16) (fn := Tryz.f16) (c := bodyOf Tryz.f16) (nt := Tryz.f16.ntmps) (res := Tryz.f16.results.toList) (C := C_vitrineref07_Valid) (L := noL) (fun _ _ => rfl) Tryz.func16 (by kernel_rfl) rfl rfl (Cok_vitrineref07_Valid) (lp_of (l := []) (by kernel_rfl) lp_nil)).weak (by
  intro us k h
  unfold q_vitrineref07_Valid at h
  split at h
  · skip
    rename_i a0_0 a0_1
    rw [raw_vitrineref07_Valid (a0_0, a0_1) k]
    exact h
  · exact h.elim)

abbrev T_vitrinelaw07_AnbSum := (Int × Int) → Int → (Bool → Prop) → Prop
def q_vitrinelaw07_AnbSum (A : T_vitrinelaw07_AnbSum) (us : List W) (k : W → Prop) : Prop := match us with
  | [.a [.i .i64 a0_0, .i .i64 a0_1], .i .i64 a1] => A (a0_0, a0_1) a1 (fun r0 => k (.b r0))
  | _ => False
theorem q_vitrinelaw07_AnbSum_weak {A A2 : T_vitrinelaw07_AnbSum} (h : FnOK sy Tryz.prog GT (ovD ro) ro 4 (q_vitrinelaw07_AnbSum A)) (hA : ∀ a0 a1 K, A2 a0 a1 K → A a0 a1 K) : FnOK sy Tryz.prog GT (ovD ro) ro 4 (q_vitrinelaw07_AnbSum A2) := h.weak (by
  intro us k h
  unfold q_vitrinelaw07_AnbSum at h ⊢
  split at h
  · exact hA _ _ _ h
  · exact h.elim)

def F_vitrinelaw07_AnbSum_l5 (A15 : T_vitrinelaw07_alive) (A11 : T_anb_In) : Nat → Int → Bool → Int → Int → Int → (Int → Bool → Int → Int → Prop) → Prop
  | 0, _, _, _, _, _, _ => False
  | n + 1, x1, x5, x6, c0_0, c0_1, Ke => (((decide (x6 ≤ (400 : Int))) = true → ((x5 = false → (I64 (c0_0 * x6) ∧ (I64 ((c0_0 * x6) + c0_1) ∧ (I64 (x6 + (1 : Int)) ∧ F_vitrinelaw07_AnbSum_l5 A15 A11 n x1 (decide (((c0_0 * x6) + c0_1) = x1)) (x6 + (1 : Int)) c0_0 c0_1 Ke)))) ∧ (x5 = true → (I64 (x6 + (1 : Int)) ∧ F_vitrinelaw07_AnbSum_l5 A15 A11 n x1 true (x6 + (1 : Int)) c0_0 c0_1 Ke)))) ∧ ((decide (x6 ≤ (400 : Int))) = false → Ke x1 x5 c0_0 c0_1))

def F_vitrinelaw07_AnbSum (A15 : T_vitrinelaw07_alive) (A11 : T_anb_In) (a0 : (Int × Int)) (a1 : Int) (K : Bool → Prop) : Prop :=
  (((decide (a0.1 < (-200 : Int))) = false → (((decide ((200 : Int) < a0.1)) = false → (((decide (a0.2 < (-200 : Int))) = false → (((decide ((200 : Int) < a0.2)) = false → (((decide (a1 < (1 : Int))) = false → (((decide ((200 : Int) < a1)) = true → (A15 (fun y1 => K y1))) ∧ ((decide ((200 : Int) < a1)) = false → (∃ m, F_vitrinelaw07_AnbSum_l5 A15 A11 m a1 false (0 : Int) a0.1 a0.2 (fun y2 y3 y4 y5 => (A11 (y4, y5) y2 (fun y6 y7 => (((decide (y7 = (0 : Int))) = true → (((y6 == y3) = true → (A15 (fun y8 => K y8))) ∧ ((y6 == y3) = false → K false))) ∧ ((decide (y7 = (0 : Int))) = false → K false))))))))) ∧ ((decide (a1 < (1 : Int))) = true → (A15 (fun y9 => K y9))))) ∧ ((decide ((200 : Int) < a0.2)) = true → (A15 (fun y10 => K y10))))) ∧ ((decide (a0.2 < (-200 : Int))) = true → (A15 (fun y11 => K y11))))) ∧ ((decide ((200 : Int) < a0.1)) = true → (A15 (fun y12 => K y12))))) ∧ ((decide (a0.1 < (-200 : Int))) = true → (A15 (fun y13 => K y13))))

def C_vitrinelaw07_AnbSum (A15 : T_vitrinelaw07_alive) (A11 : T_anb_In) : CallT sg := tab [(15, con [] (q_vitrinelaw07_alive A15)), (11, con [none, none] (q_anb_In A11))]
theorem Cok_vitrinelaw07_AnbSum (A15 : T_vitrinelaw07_alive) (A11 : T_anb_In) (h15 : FnOK sy Tryz.prog GT (ovD ro) ro 15 (q_vitrinelaw07_alive A15)) (h11 : FnOK sy Tryz.prog GT (ovD ro) ro 11 (q_anb_In A11)) (o0 : Nat → Prop) : CalOK sy Tryz.prog GT (ovD ro) o0 ro (C_vitrinelaw07_AnbSum A15 A11) := (tab_cons (con_ok h15) (tab_cons (con_ok h11) tab_nil)) o0

def ls_vitrinelaw07_AnbSum_5 : LS sy (Int × Unit × Bool × Int × Unit) ((Int × Int × Unit) × Unit) := ⟨[], fCons 1 (vInt sy .i64) (fCons 2 (vLit sy (.p 0 0)) (fCons 5 (vBool sy) (fCons 6 (vInt sy .i64) (fNil sy)))), hCells 0 (lCons (vInt sy .i64) (lCons (vInt sy .i64) (lNil sy))) (hNil sy), 1, []⟩
def le_vitrinelaw07_AnbSum_5 : LS sy (Int × Unit × Bool × Unit) ((Int × Int × Unit) × Unit) := ⟨[], fCons 1 (vInt sy .i64) (fCons 2 (vLit sy (.p 0 0)) (fCons 5 (vBool sy) (fNil sy))), hCells 0 (lCons (vInt sy .i64) (lCons (vInt sy .i64) (lNil sy))) (hNil sy), 1, []⟩
def lr_vitrinelaw07_AnbSum_5 : LS sy Unit Unit := ⟨[], fNil sy, hNil sy, 0, []⟩
def FF_vitrinelaw07_AnbSum_5 (A15 : T_vitrinelaw07_alive) (A11 : T_anb_In) (n : Nat) (x : (Int × Unit × Bool × Int × Unit) × ((Int × Int × Unit) × Unit)) (K : Ex → Z sg → Prop) : Prop := F_vitrinelaw07_AnbSum_l5 A15 A11 n x.1.1 x.1.2.2.1 x.1.2.2.2.1 x.2.1.1 x.2.1.2.1 (fun y0 y1 y2 y3 => K (.exit 0) (le_vitrinelaw07_AnbSum_5.put ((y0, (), y1, ()), ((y2, y3, ()), ()))))
def h_vitrinelaw07_AnbSum_5 (A15 : T_vitrinelaw07_alive) (A11 : T_anb_In) (z : Z sg) (K : Ex → Z sg → Prop) : Prop := ls_vitrinelaw07_AnbSum_5.get z (fun x => ∃ n, FF_vitrinelaw07_AnbSum_5 A15 A11 n x K)
def L_vitrinelaw07_AnbSum (A15 : T_vitrinelaw07_alive) (A11 : T_anb_In) : LoopT sg := tabL [(5, h_vitrinelaw07_AnbSum_5 A15 A11)]
theorem hs_vitrinelaw07_AnbSum_5 (A15 : T_vitrinelaw07_alive) (A11 : T_anb_In) (n : Nat) (x : (Int × Unit × Bool × Int × Unit) × ((Int × Int × Unit) × Unit)) (K : Ex → Z sg → Prop) : forceZ (ls_vitrinelaw07_AnbSum_5.put x) (fun z => sC sy Tryz.prog GT (C_vitrinelaw07_AnbSum A15 A11) (L_vitrinelaw07_AnbSum A15 A11) Tryz.f4.ntmps (nthLoop (bodyOf Tryz.f4) 0) z (rnd ls_vitrinelaw07_AnbSum_5 (czT 0 le_vitrinelaw07_AnbSum_5 lr_vitrinelaw07_AnbSum_5) (fun x => FF_vitrinelaw07_AnbSum_5 A15 A11 n x K) K)) = FF_vitrinelaw07_AnbSum_5 A15 A11 (n + 1) x K := by kernel_rfl
theorem hl_vitrinelaw07_AnbSum_5 (A15 : T_vitrinelaw07_alive) (A11 : T_anb_In) (z : Z sg) (K : Ex → Z sg → Prop) : (L_vitrinelaw07_AnbSum A15 A11) (nthLoop (bodyOf Tryz.f4) 0) z K = ls_vitrinelaw07_AnbSum_5.get z (fun x => ∃ n, FF_vitrinelaw07_AnbSum_5 A15 A11 n x K) := by kernel_rfl
theorem lo_vitrinelaw07_AnbSum_5 (A15 : T_vitrinelaw07_alive) (A11 : T_anb_In) (h15 : FnOK sy Tryz.prog GT (ovD ro) ro 15 (q_vitrinelaw07_alive A15)) (h11 : FnOK sy Tryz.prog GT (ovD ro) ro 11 (q_anb_In A11)) : ∀ (o0 : Nat → Prop) (B : Bs sg), B.E.length ≤ 0 → ∀ z K, (L_vitrinelaw07_AnbSum A15 A11) (nthLoop (bodyOf Tryz.f4) 0) z K → Sx.Sem sy Tryz.prog GT (ovD ro) o0 ro Tryz.f4.ntmps B (.loop (nthLoop (bodyOf Tryz.f4) 0)) z K :=
  loop_ok (Cok_vitrinelaw07_AnbSum A15 A11 h15 h11) (lp_of (l := []) (by kernel_rfl) lp_nil) ls_vitrinelaw07_AnbSum_5 (by decide) (czT 0 le_vitrinelaw07_AnbSum_5 lr_vitrinelaw07_AnbSum_5) (fun _ _ hB => czT_ok 0 le_vitrinelaw07_AnbSum_5 lr_vitrinelaw07_AnbSum_5 (Nat.le_trans hB (by decide)) (Nat.le_trans hB (by decide))) (fun _ _ h => h) (hs_vitrinelaw07_AnbSum_5 A15 A11) (hl_vitrinelaw07_AnbSum_5 A15 A11)
theorem Lp_vitrinelaw07_AnbSum (A15 : T_vitrinelaw07_alive) (A11 : T_anb_In) (h15 : FnOK sy Tryz.prog GT (ovD ro) ro 15 (q_vitrinelaw07_alive A15)) (h11 : FnOK sy Tryz.prog GT (ovD ro) ro 11 (q_anb_In A11)) : LpOK sy Tryz.prog GT (ovD ro) ro (L_vitrinelaw07_AnbSum A15 A11) 0 Tryz.f4.ntmps (bodyOf Tryz.f4) := lp_of (l := [(nthLoop (bodyOf Tryz.f4) 0)]) (by kernel_rfl) (lp_cons (lo_vitrinelaw07_AnbSum_5 A15 A11 h15 h11) lp_nil)


theorem raw_vitrinelaw07_AnbSum (A15 : T_vitrinelaw07_alive) (A11 : T_anb_In) (a0 : (Int × Int)) (a1 : Int) (k : W → Prop) : fnT sy Tryz.prog GT (C_vitrinelaw07_AnbSum A15 A11) (L_vitrinelaw07_AnbSum A15 A11) Tryz.f4.ntmps (bodyOf Tryz.f4) [none] Tryz.f4.results.toList [.a [.i .i64 a0.1, .i .i64 a0.2], .i .i64 a1] k = F_vitrinelaw07_AnbSum A15 A11 a0 a1 (fun r0 => k (.b r0)) := by kernel_rfl

theorem ok_vitrinelaw07_AnbSum (A15 : T_vitrinelaw07_alive) (A11 : T_anb_In) (h15 : FnOK sy Tryz.prog GT (ovD ro) ro 15 (q_vitrinelaw07_alive A15)) (h11 : FnOK sy Tryz.prog GT (ovD ro) ro 11 (q_anb_In A11)) : FnOK sy Tryz.prog GT (ovD ro) ro 4 (q_vitrinelaw07_AnbSum (F_vitrinelaw07_AnbSum A15 A11)) := (fn_ok (rc := [none]) (f := 4) (fn := Tryz.f4) (c := bodyOf Tryz.f4) (nt := Tryz.f4.ntmps) (res := Tryz.f4.results.toList) (C := C_vitrinelaw07_AnbSum A15 A11) (L := (L_vitrinelaw07_AnbSum A15 A11)) (fun _ _ => rfl) Tryz.func4 (by kernel_rfl) rfl rfl (Cok_vitrinelaw07_AnbSum A15 A11 h15 h11) (Lp_vitrinelaw07_AnbSum A15 A11 h15 h11)).weak (by
  intro us k h
  unfold q_vitrinelaw07_AnbSum at h
  split at h
  · skip
    rename_i a0_0 a0_1 a1
    rw [raw_vitrinelaw07_AnbSum A15 A11 (a0_0, a0_1) a1 k]
    exact h
  · exact h.elim)

abbrev T_vitrinelaw07_AnbStep := (Int × Int) → Int → (Bool → Prop) → Prop
def q_vitrinelaw07_AnbStep (A : T_vitrinelaw07_AnbStep) (us : List W) (k : W → Prop) : Prop := match us with
  | [.a [.i .i64 a0_0, .i .i64 a0_1], .i .i64 a1] => A (a0_0, a0_1) a1 (fun r0 => k (.b r0))
  | _ => False
theorem q_vitrinelaw07_AnbStep_weak {A A2 : T_vitrinelaw07_AnbStep} (h : FnOK sy Tryz.prog GT (ovD ro) ro 6 (q_vitrinelaw07_AnbStep A)) (hA : ∀ a0 a1 K, A2 a0 a1 K → A a0 a1 K) : FnOK sy Tryz.prog GT (ovD ro) ro 6 (q_vitrinelaw07_AnbStep A2) := h.weak (by
  intro us k h
  unfold q_vitrinelaw07_AnbStep at h ⊢
  split at h
  · exact hA _ _ _ h
  · exact h.elim)

def F_vitrinelaw07_AnbStep (A16 : T_vitrineref07_Valid) (A15 : T_vitrinelaw07_alive) (A11 : T_anb_In) (a0 : (Int × Int)) (a1 : Int) (K : Bool → Prop) : Prop :=
  (A16 (a0.1, a0.2) (fun y1 => (((!y1) = false → (((decide (a1 < (1 : Int))) = false → (((decide ((1000000000 : Int) < a1)) = true → (A15 (fun y2 => K y2))) ∧ ((decide ((1000000000 : Int) < a1)) = false → (A11 (a0.1, a0.2) a1 (fun y3 y4 => (((decide (y4 ≠ (0 : Int))) = false → ((y3 = true → (((decide (a0.1 = (0 : Int))) = true → (((decide (a1 ≠ a0.2)) = false → (((decide (a0.1 < (0 : Int))) = true → (((decide (a0.2 < a1)) = false → (((decide ((0 : Int) < a0.1)) = true → (((decide (a1 < a0.2)) = true → K false) ∧ ((decide (a1 < a0.2)) = false → (((decide ((1 : Int) ≤ a0.2)) = true → (A11 (a0.1, a0.2) a0.2 (fun y5 y6 => (((decide (y6 ≠ (0 : Int))) = false → (((!y5) = true → K false) ∧ ((!y5) = false → (I64 (a1 + a0.1) ∧ ((y3 = true → (((decide ((1 : Int) ≤ (a1 + a0.1))) = true → (((decide ((a1 + a0.1) ≤ (1000000000 : Int))) = true → (A11 (a0.1, a0.2) (a1 + a0.1) (fun y7 y8 => (((decide (y8 ≠ (0 : Int))) = false → (((!y7) = true → K false) ∧ ((!y7) = false → (A15 (fun y9 => K y9))))) ∧ ((decide (y8 ≠ (0 : Int))) = true → K false))))) ∧ ((decide ((a1 + a0.1) ≤ (1000000000 : Int))) = false → (A15 (fun y10 => K y10))))) ∧ ((decide ((1 : Int) ≤ (a1 + a0.1))) = false → (A15 (fun y11 => K y11))))) ∧ (y3 = false → (A15 (fun y12 => K y12)))))))) ∧ ((decide (y6 ≠ (0 : Int))) = true → K false))))) ∧ ((decide ((1 : Int) ≤ a0.2)) = false → (I64 (a1 + a0.1) ∧ ((y3 = true → (((decide ((1 : Int) ≤ (a1 + a0.1))) = true → (((decide ((a1 + a0.1) ≤ (1000000000 : Int))) = true → (A11 (a0.1, a0.2) (a1 + a0.1) (fun y13 y14 => (((decide (y14 ≠ (0 : Int))) = false → (((!y13) = true → K false) ∧ ((!y13) = false → (A15 (fun y15 => K y15))))) ∧ ((decide (y14 ≠ (0 : Int))) = true → K false))))) ∧ ((decide ((a1 + a0.1) ≤ (1000000000 : Int))) = false → (A15 (fun y16 => K y16))))) ∧ ((decide ((1 : Int) ≤ (a1 + a0.1))) = false → (A15 (fun y17 => K y17))))) ∧ (y3 = false → (A15 (fun y18 => K y18)))))))))) ∧ ((decide ((0 : Int) < a0.1)) = false → (((decide ((1 : Int) ≤ a0.2)) = true → (A11 (a0.1, a0.2) a0.2 (fun y19 y20 => (((decide (y20 ≠ (0 : Int))) = false → (((!y19) = true → K false) ∧ ((!y19) = false → (I64 (a1 + a0.1) ∧ ((y3 = true → (((decide ((1 : Int) ≤ (a1 + a0.1))) = true → (((decide ((a1 + a0.1) ≤ (1000000000 : Int))) = true → (A11 (a0.1, a0.2) (a1 + a0.1) (fun y21 y22 => (((decide (y22 ≠ (0 : Int))) = false → (((!y21) = true → K false) ∧ ((!y21) = false → (A15 (fun y23 => K y23))))) ∧ ((decide (y22 ≠ (0 : Int))) = true → K false))))) ∧ ((decide ((a1 + a0.1) ≤ (1000000000 : Int))) = false → (A15 (fun y24 => K y24))))) ∧ ((decide ((1 : Int) ≤ (a1 + a0.1))) = false → (A15 (fun y25 => K y25))))) ∧ (y3 = false → (A15 (fun y26 => K y26)))))))) ∧ ((decide (y20 ≠ (0 : Int))) = true → K false))))) ∧ ((decide ((1 : Int) ≤ a0.2)) = false → (I64 (a1 + a0.1) ∧ ((y3 = true → (((decide ((1 : Int) ≤ (a1 + a0.1))) = true → (((decide ((a1 + a0.1) ≤ (1000000000 : Int))) = true → (A11 (a0.1, a0.2) (a1 + a0.1) (fun y27 y28 => (((decide (y28 ≠ (0 : Int))) = false → (((!y27) = true → K false) ∧ ((!y27) = false → (A15 (fun y29 => K y29))))) ∧ ((decide (y28 ≠ (0 : Int))) = true → K false))))) ∧ ((decide ((a1 + a0.1) ≤ (1000000000 : Int))) = false → (A15 (fun y30 => K y30))))) ∧ ((decide ((1 : Int) ≤ (a1 + a0.1))) = false → (A15 (fun y31 => K y31))))) ∧ (y3 = false → (A15 (fun y32 => K y32)))))))))) ∧ ((decide (a0.2 < a1)) = true → K false))) ∧ ((decide (a0.1 < (0 : Int))) = false → (((decide ((0 : Int) < a0.1)) = true → (((decide (a1 < a0.2)) = true → K false) ∧ ((decide (a1 < a0.2)) = false → (((decide ((1 : Int) ≤ a0.2)) = true → (A11 (a0.1, a0.2) a0.2 (fun y33 y34 => (((decide (y34 ≠ (0 : Int))) = false → (((!y33) = true → K false) ∧ ((!y33) = false → (I64 (a1 + a0.1) ∧ ((y3 = true → (((decide ((1 : Int) ≤ (a1 + a0.1))) = true → (((decide ((a1 + a0.1) ≤ (1000000000 : Int))) = true → (A11 (a0.1, a0.2) (a1 + a0.1) (fun y35 y36 => (((decide (y36 ≠ (0 : Int))) = false → (((!y35) = true → K false) ∧ ((!y35) = false → (A15 (fun y37 => K y37))))) ∧ ((decide (y36 ≠ (0 : Int))) = true → K false))))) ∧ ((decide ((a1 + a0.1) ≤ (1000000000 : Int))) = false → (A15 (fun y38 => K y38))))) ∧ ((decide ((1 : Int) ≤ (a1 + a0.1))) = false → (A15 (fun y39 => K y39))))) ∧ (y3 = false → (A15 (fun y40 => K y40)))))))) ∧ ((decide (y34 ≠ (0 : Int))) = true → K false))))) ∧ ((decide ((1 : Int) ≤ a0.2)) = false → (I64 (a1 + a0.1) ∧ ((y3 = true → (((decide ((1 : Int) ≤ (a1 + a0.1))) = true → (((decide ((a1 + a0.1) ≤ (1000000000 : Int))) = true → (A11 (a0.1, a0.2) (a1 + a0.1) (fun y41 y42 => (((decide (y42 ≠ (0 : Int))) = false → (((!y41) = true → K false) ∧ ((!y41) = false → (A15 (fun y43 => K y43))))) ∧ ((decide (y42 ≠ (0 : Int))) = true → K false))))) ∧ ((decide ((a1 + a0.1) ≤ (1000000000 : Int))) = false → (A15 (fun y44 => K y44))))) ∧ ((decide ((1 : Int) ≤ (a1 + a0.1))) = false → (A15 (fun y45 => K y45))))) ∧ (y3 = false → (A15 (fun y46 => K y46)))))))))) ∧ ((decide ((0 : Int) < a0.1)) = false → (((decide ((1 : Int) ≤ a0.2)) = true → (A11 (a0.1, a0.2) a0.2 (fun y47 y48 => (((decide (y48 ≠ (0 : Int))) = false → (((!y47) = true → K false) ∧ ((!y47) = false → (I64 (a1 + a0.1) ∧ ((y3 = true → (((decide ((1 : Int) ≤ (a1 + a0.1))) = true → (((decide ((a1 + a0.1) ≤ (1000000000 : Int))) = true → (A11 (a0.1, a0.2) (a1 + a0.1) (fun y49 y50 => (((decide (y50 ≠ (0 : Int))) = false → (((!y49) = true → K false) ∧ ((!y49) = false → (A15 (fun y51 => K y51))))) ∧ ((decide (y50 ≠ (0 : Int))) = true → K false))))) ∧ ((decide ((a1 + a0.1) ≤ (1000000000 : Int))) = false → (A15 (fun y52 => K y52))))) ∧ ((decide ((1 : Int) ≤ (a1 + a0.1))) = false → (A15 (fun y53 => K y53))))) ∧ (y3 = false → (A15 (fun y54 => K y54)))))))) ∧ ((decide (y48 ≠ (0 : Int))) = true → K false))))) ∧ ((decide ((1 : Int) ≤ a0.2)) = false → (I64 (a1 + a0.1) ∧ ((y3 = true → (((decide ((1 : Int) ≤ (a1 + a0.1))) = true → (((decide ((a1 + a0.1) ≤ (1000000000 : Int))) = true → (A11 (a0.1, a0.2) (a1 + a0.1) (fun y55 y56 => (((decide (y56 ≠ (0 : Int))) = false → (((!y55) = true → K false) ∧ ((!y55) = false → (A15 (fun y57 => K y57))))) ∧ ((decide (y56 ≠ (0 : Int))) = true → K false))))) ∧ ((decide ((a1 + a0.1) ≤ (1000000000 : Int))) = false → (A15 (fun y58 => K y58))))) ∧ ((decide ((1 : Int) ≤ (a1 + a0.1))) = false → (A15 (fun y59 => K y59))))) ∧ (y3 = false → (A15 (fun y60 => K y60)))))))))))) ∧ ((decide (a1 ≠ a0.2)) = true → K false))) ∧ ((decide (a0.1 = (0 : Int))) = false → (((decide (a0.1 < (0 : Int))) = true → (((decide (a0.2 < a1)) = false → (((decide ((0 : Int) < a0.1)) = true → (((decide (a1 < a0.2)) = true → K false) ∧ ((decide (a1 < a0.2)) = false → (((decide ((1 : Int) ≤ a0.2)) = true → (A11 (a0.1, a0.2) a0.2 (fun y61 y62 => (((decide (y62 ≠ (0 : Int))) = false → (((!y61) = true → K false) ∧ ((!y61) = false → (I64 (a1 + a0.1) ∧ ((y3 = true → (((decide ((1 : Int) ≤ (a1 + a0.1))) = true → (((decide ((a1 + a0.1) ≤ (1000000000 : Int))) = true → (A11 (a0.1, a0.2) (a1 + a0.1) (fun y63 y64 => (((decide (y64 ≠ (0 : Int))) = false → (((!y63) = true → K false) ∧ ((!y63) = false → (A15 (fun y65 => K y65))))) ∧ ((decide (y64 ≠ (0 : Int))) = true → K false))))) ∧ ((decide ((a1 + a0.1) ≤ (1000000000 : Int))) = false → (A15 (fun y66 => K y66))))) ∧ ((decide ((1 : Int) ≤ (a1 + a0.1))) = false → (A15 (fun y67 => K y67))))) ∧ (y3 = false → (A15 (fun y68 => K y68)))))))) ∧ ((decide (y62 ≠ (0 : Int))) = true → K false))))) ∧ ((decide ((1 : Int) ≤ a0.2)) = false → (I64 (a1 + a0.1) ∧ ((y3 = true → (((decide ((1 : Int) ≤ (a1 + a0.1))) = true → (((decide ((a1 + a0.1) ≤ (1000000000 : Int))) = true → (A11 (a0.1, a0.2) (a1 + a0.1) (fun y69 y70 => (((decide (y70 ≠ (0 : Int))) = false → (((!y69) = true → K false) ∧ ((!y69) = false → (A15 (fun y71 => K y71))))) ∧ ((decide (y70 ≠ (0 : Int))) = true → K false))))) ∧ ((decide ((a1 + a0.1) ≤ (1000000000 : Int))) = false → (A15 (fun y72 => K y72))))) ∧ ((decide ((1 : Int) ≤ (a1 + a0.1))) = false → (A15 (fun y73 => K y73))))) ∧ (y3 = false → (A15 (fun y74 => K y74)))))))))) ∧ ((decide ((0 : Int) < a0.1)) = false → (((decide ((1 : Int) ≤ a0.2)) = true → (A11 (a0.1, a0.2) a0.2 (fun y75 y76 => (((decide (y76 ≠ (0 : Int))) = false → (((!y75) = true → K false) ∧ ((!y75) = false → (I64 (a1 + a0.1) ∧ ((y3 = true → (((decide ((1 : Int) ≤ (a1 + a0.1))) = true → (((decide ((a1 + a0.1) ≤ (1000000000 : Int))) = true → (A11 (a0.1, a0.2) (a1 + a0.1) (fun y77 y78 => (((decide (y78 ≠ (0 : Int))) = false → (((!y77) = true → K false) ∧ ((!y77) = false → (A15 (fun y79 => K y79))))) ∧ ((decide (y78 ≠ (0 : Int))) = true → K false))))) ∧ ((decide ((a1 + a0.1) ≤ (1000000000 : Int))) = false → (A15 (fun y80 => K y80))))) ∧ ((decide ((1 : Int) ≤ (a1 + a0.1))) = false → (A15 (fun y81 => K y81))))) ∧ (y3 = false → (A15 (fun y82 => K y82)))))))) ∧ ((decide (y76 ≠ (0 : Int))) = true → K false))))) ∧ ((decide ((1 : Int) ≤ a0.2)) = false → (I64 (a1 + a0.1) ∧ ((y3 = true → (((decide ((1 : Int) ≤ (a1 + a0.1))) = true → (((decide ((a1 + a0.1) ≤ (1000000000 : Int))) = true → (A11 (a0.1, a0.2) (a1 + a0.1) (fun y83 y84 => (((decide (y84 ≠ (0 : Int))) = false → (((!y83) = true → K false) ∧ ((!y83) = false → (A15 (fun y85 => K y85))))) ∧ ((decide (y84 ≠ (0 : Int))) = true → K false))))) ∧ ((decide ((a1 + a0.1) ≤ (1000000000 : Int))) = false → (A15 (fun y86 => K y86))))) ∧ ((decide ((1 : Int) ≤ (a1 + a0.1))) = false → (A15 (fun y87 => K y87))))) ∧ (y3 = false → (A15 (fun y88 => K y88)))))))))) ∧ ((decide (a0.2 < a1)) = true → K false))) ∧ ((decide (a0.1 < (0 : Int))) = false → (((decide ((0 : Int) < a0.1)) = true → (((decide (a1 < a0.2)) = true → K false) ∧ ((decide (a1 < a0.2)) = false → (((decide ((1 : Int) ≤ a0.2)) = true → (A11 (a0.1, a0.2) a0.2 (fun y89 y90 => (((decide (y90 ≠ (0 : Int))) = false → (((!y89) = true → K false) ∧ ((!y89) = false → (I64 (a1 + a0.1) ∧ ((y3 = true → (((decide ((1 : Int) ≤ (a1 + a0.1))) = true → (((decide ((a1 + a0.1) ≤ (1000000000 : Int))) = true → (A11 (a0.1, a0.2) (a1 + a0.1) (fun y91 y92 => (((decide (y92 ≠ (0 : Int))) = false → (((!y91) = true → K false) ∧ ((!y91) = false → (A15 (fun y93 => K y93))))) ∧ ((decide (y92 ≠ (0 : Int))) = true → K false))))) ∧ ((decide ((a1 + a0.1) ≤ (1000000000 : Int))) = false → (A15 (fun y94 => K y94))))) ∧ ((decide ((1 : Int) ≤ (a1 + a0.1))) = false → (A15 (fun y95 => K y95))))) ∧ (y3 = false → (A15 (fun y96 => K y96)))))))) ∧ ((decide (y90 ≠ (0 : Int))) = true → K false))))) ∧ ((decide ((1 : Int) ≤ a0.2)) = false → (I64 (a1 + a0.1) ∧ ((y3 = true → (((decide ((1 : Int) ≤ (a1 + a0.1))) = true → (((decide ((a1 + a0.1) ≤ (1000000000 : Int))) = true → (A11 (a0.1, a0.2) (a1 + a0.1) (fun y97 y98 => (((decide (y98 ≠ (0 : Int))) = false → (((!y97) = true → K false) ∧ ((!y97) = false → (A15 (fun y99 => K y99))))) ∧ ((decide (y98 ≠ (0 : Int))) = true → K false))))) ∧ ((decide ((a1 + a0.1) ≤ (1000000000 : Int))) = false → (A15 (fun y100 => K y100))))) ∧ ((decide ((1 : Int) ≤ (a1 + a0.1))) = false → (A15 (fun y101 => K y101))))) ∧ (y3 = false → (A15 (fun y102 => K y102)))))))))) ∧ ((decide ((0 : Int) < a0.1)) = false → (((decide ((1 : Int) ≤ a0.2)) = true → (A11 (a0.1, a0.2) a0.2 (fun y103 y104 => (((decide (y104 ≠ (0 : Int))) = false → (((!y103) = true → K false) ∧ ((!y103) = false → (I64 (a1 + a0.1) ∧ ((y3 = true → (((decide ((1 : Int) ≤ (a1 + a0.1))) = true → (((decide ((a1 + a0.1) ≤ (1000000000 : Int))) = true → (A11 (a0.1, a0.2) (a1 + a0.1) (fun y105 y106 => (((decide (y106 ≠ (0 : Int))) = false → (((!y105) = true → K false) ∧ ((!y105) = false → (A15 (fun y107 => K y107))))) ∧ ((decide (y106 ≠ (0 : Int))) = true → K false))))) ∧ ((decide ((a1 + a0.1) ≤ (1000000000 : Int))) = false → (A15 (fun y108 => K y108))))) ∧ ((decide ((1 : Int) ≤ (a1 + a0.1))) = false → (A15 (fun y109 => K y109))))) ∧ (y3 = false → (A15 (fun y110 => K y110)))))))) ∧ ((decide (y104 ≠ (0 : Int))) = true → K false))))) ∧ ((decide ((1 : Int) ≤ a0.2)) = false → (I64 (a1 + a0.1) ∧ ((y3 = true → (((decide ((1 : Int) ≤ (a1 + a0.1))) = true → (((decide ((a1 + a0.1) ≤ (1000000000 : Int))) = true → (A11 (a0.1, a0.2) (a1 + a0.1) (fun y111 y112 => (((decide (y112 ≠ (0 : Int))) = false → (((!y111) = true → K false) ∧ ((!y111) = false → (A15 (fun y113 => K y113))))) ∧ ((decide (y112 ≠ (0 : Int))) = true → K false))))) ∧ ((decide ((a1 + a0.1) ≤ (1000000000 : Int))) = false → (A15 (fun y114 => K y114))))) ∧ ((decide ((1 : Int) ≤ (a1 + a0.1))) = false → (A15 (fun y115 => K y115))))) ∧ (y3 = false → (A15 (fun y116 => K y116)))))))))))))) ∧ (y3 = false → (((decide ((1 : Int) ≤ a0.2)) = true → (A11 (a0.1, a0.2) a0.2 (fun y117 y118 => (((decide (y118 ≠ (0 : Int))) = false → (((!y117) = true → K false) ∧ ((!y117) = false → (I64 (a1 + a0.1) ∧ ((y3 = true → (((decide ((1 : Int) ≤ (a1 + a0.1))) = true → (((decide ((a1 + a0.1) ≤ (1000000000 : Int))) = true → (A11 (a0.1, a0.2) (a1 + a0.1) (fun y119 y120 => (((decide (y120 ≠ (0 : Int))) = false → (((!y119) = true → K false) ∧ ((!y119) = false → (A15 (fun y121 => K y121))))) ∧ ((decide (y120 ≠ (0 : Int))) = true → K false))))) ∧ ((decide ((a1 + a0.1) ≤ (1000000000 : Int))) = false → (A15 (fun y122 => K y122))))) ∧ ((decide ((1 : Int) ≤ (a1 + a0.1))) = false → (A15 (fun y123 => K y123))))) ∧ (y3 = false → (A15 (fun y124 => K y124)))))))) ∧ ((decide (y118 ≠ (0 : Int))) = true → K false))))) ∧ ((decide ((1 : Int) ≤ a0.2)) = false → (I64 (a1 + a0.1) ∧ ((y3 = true → (((decide ((1 : Int) ≤ (a1 + a0.1))) = true → (((decide ((a1 + a0.1) ≤ (1000000000 : Int))) = true → (A11 (a0.1, a0.2) (a1 + a0.1) (fun y125 y126 => (((decide (y126 ≠ (0 : Int))) = false → (((!y125) = true → K false) ∧ ((!y125) = false → (A15 (fun y127 => K y127))))) ∧ ((decide (y126 ≠ (0 : Int))) = true → K false))))) ∧ ((decide ((a1 + a0.1) ≤ (1000000000 : Int))) = false → (A15 (fun y128 => K y128))))) ∧ ((decide ((1 : Int) ≤ (a1 + a0.1))) = false → (A15 (fun y129 => K y129))))) ∧ (y3 = false → (A15 (fun y130 => K y130)))))))))) ∧ ((decide (y4 ≠ (0 : Int))) = true → K false))))))) ∧ ((decide (a1 < (1 : Int))) = true → (A15 (fun y131 => K y131))))) ∧ ((!y1) = true → (A15 (fun y132 => K y132))))))

def C_vitrinelaw07_AnbStep (A16 : T_vitrineref07_Valid) (A15 : T_vitrinelaw07_alive) (A11 : T_anb_In) : CallT sg := tab [(16, con [none] (q_vitrineref07_Valid A16)), (15, con [] (q_vitrinelaw07_alive A15)), (11, con [none, none] (q_anb_In A11))]
theorem Cok_vitrinelaw07_AnbStep (A16 : T_vitrineref07_Valid) (A15 : T_vitrinelaw07_alive) (A11 : T_anb_In) (h16 : FnOK sy Tryz.prog GT (ovD ro) ro 16 (q_vitrineref07_Valid A16)) (h15 : FnOK sy Tryz.prog GT (ovD ro) ro 15 (q_vitrinelaw07_alive A15)) (h11 : FnOK sy Tryz.prog GT (ovD ro) ro 11 (q_anb_In A11)) (o0 : Nat → Prop) : CalOK sy Tryz.prog GT (ovD ro) o0 ro (C_vitrinelaw07_AnbStep A16 A15 A11) := (tab_cons (con_ok h16) (tab_cons (con_ok h15) (tab_cons (con_ok h11) tab_nil))) o0

theorem raw_vitrinelaw07_AnbStep (A16 : T_vitrineref07_Valid) (A15 : T_vitrinelaw07_alive) (A11 : T_anb_In) (a0 : (Int × Int)) (a1 : Int) (k : W → Prop) : fnT sy Tryz.prog GT (C_vitrinelaw07_AnbStep A16 A15 A11) noL Tryz.f6.ntmps (bodyOf Tryz.f6) [none] Tryz.f6.results.toList [.a [.i .i64 a0.1, .i .i64 a0.2], .i .i64 a1] k = F_vitrinelaw07_AnbStep A16 A15 A11 a0 a1 (fun r0 => k (.b r0)) := by kernel_rfl

theorem ok_vitrinelaw07_AnbStep (A16 : T_vitrineref07_Valid) (A15 : T_vitrinelaw07_alive) (A11 : T_anb_In) (h16 : FnOK sy Tryz.prog GT (ovD ro) ro 16 (q_vitrineref07_Valid A16)) (h15 : FnOK sy Tryz.prog GT (ovD ro) ro 15 (q_vitrinelaw07_alive A15)) (h11 : FnOK sy Tryz.prog GT (ovD ro) ro 11 (q_anb_In A11)) : FnOK sy Tryz.prog GT (ovD ro) ro 6 (q_vitrinelaw07_AnbStep (F_vitrinelaw07_AnbStep A16 A15 A11)) := (fn_ok (rc := [none]) (f := 6) (fn := Tryz.f6) (c := bodyOf Tryz.f6) (nt := Tryz.f6.ntmps) (res := Tryz.f6.results.toList) (C := C_vitrinelaw07_AnbStep A16 A15 A11) (L := noL) (fun _ _ => rfl) Tryz.func6 (by kernel_rfl) rfl rfl (Cok_vitrinelaw07_AnbStep A16 A15 A11 h16 h15 h11) (lp_of (l := []) (by kernel_rfl) lp_nil)).weak (by
  intro us k h
  unfold q_vitrinelaw07_AnbStep at h
  split at h
  · skip
    rename_i a0_0 a0_1 a1
    rw [raw_vitrinelaw07_AnbStep A16 A15 A11 (a0_0, a0_1) a1 k]
    exact h
  · exact h.elim)

abbrev T_vitrinelaw07_AnbAll := (Int × Int) → Int → (Bool → Prop) → Prop
def q_vitrinelaw07_AnbAll (A : T_vitrinelaw07_AnbAll) (us : List W) (k : W → Prop) : Prop := match us with
  | [.a [.i .i64 a0_0, .i .i64 a0_1], .i .i64 a1] => A (a0_0, a0_1) a1 (fun r0 => k (.b r0))
  | _ => False
theorem q_vitrinelaw07_AnbAll_weak {A A2 : T_vitrinelaw07_AnbAll} (h : FnOK sy Tryz.prog GT (ovD ro) ro 7 (q_vitrinelaw07_AnbAll A)) (hA : ∀ a0 a1 K, A2 a0 a1 K → A a0 a1 K) : FnOK sy Tryz.prog GT (ovD ro) ro 7 (q_vitrinelaw07_AnbAll A2) := h.weak (by
  intro us k h
  unfold q_vitrinelaw07_AnbAll at h ⊢
  split at h
  · exact hA _ _ _ h
  · exact h.elim)

def F_vitrinelaw07_AnbAll_l6 (A16 : T_vitrineref07_Valid) (A15 : T_vitrinelaw07_alive) (A12 : T_anb_All) (A11 : T_anb_In) : Nat → Int → List Int → Int → Int → Int → Int → Int → (List Int → Int → Int → Prop) → (Bool → Prop) → Prop
  | 0, _, _, _, _, _, _, _, _, _ => False
  | n + 1, x1, x5, x6, x7, x8, c0_0, c0_1, Ke, Kr => (((decide (x8 ≤ x1)) = true → (A11 (c0_0, c0_1) x8 (fun y1 y2 => (((decide (y2 ≠ (0 : Int))) = true → Kr false) ∧ ((decide (y2 ≠ (0 : Int))) = false → ((y1 = true → (((decide ((x5.length : Int) ≤ x7)) = false → ((0 ≤ x7 ∧ x7 < (x5.length : Int)) ∧ (((decide ((id (x5.getD x7.toNat (dfltD Cd.i64)) : Int) ≠ x8)) = true → Kr false) ∧ ((decide ((id (x5.getD x7.toNat (dfltD Cd.i64)) : Int) ≠ x8)) = false → (I64 (x7 + (1 : Int)) ∧ (I64 (x8 + (1 : Int)) ∧ F_vitrinelaw07_AnbAll_l6 A16 A15 A12 A11 n x1 x5 x6 (x7 + (1 : Int)) (x8 + (1 : Int)) c0_0 c0_1 Ke Kr)))))) ∧ ((decide ((x5.length : Int) ≤ x7)) = true → Kr false))) ∧ (y1 = false → (I64 (x8 + (1 : Int)) ∧ F_vitrinelaw07_AnbAll_l6 A16 A15 A12 A11 n x1 x5 x6 x7 (x8 + (1 : Int)) c0_0 c0_1 Ke Kr)))))))) ∧ ((decide (x8 ≤ x1)) = false → Ke x5 x6 x7))

def F_vitrinelaw07_AnbAll (A16 : T_vitrineref07_Valid) (A15 : T_vitrinelaw07_alive) (A12 : T_anb_All) (A11 : T_anb_In) (a0 : (Int × Int)) (a1 : Int) (K : Bool → Prop) : Prop :=
  (A16 (a0.1, a0.2) (fun y1 => (((!y1) = false → (((decide (a1 < (0 : Int))) = false → (((decide ((64 : Int) < a1)) = true → (A15 (fun y2 => K y2))) ∧ ((decide ((64 : Int) < a1)) = false → (A12 (a0.1, a0.2) a1 (fun y3 y4 => (∃ m, F_vitrinelaw07_AnbAll_l6 A16 A15 A12 A11 m a1 y3 y4 (0 : Int) (1 : Int) a0.1 a0.2 (fun y5 y6 y7 => (((decide (y6 = (0 : Int))) = true → (((decide (y7 = (y5.length : Int))) = true → (A15 (fun y8 => K y8))) ∧ ((decide (y7 = (y5.length : Int))) = false → K false))) ∧ ((decide (y6 = (0 : Int))) = false → K false))) (fun y9 => K y9))))))) ∧ ((decide (a1 < (0 : Int))) = true → (A15 (fun y10 => K y10))))) ∧ ((!y1) = true → (A15 (fun y11 => K y11))))))

def C_vitrinelaw07_AnbAll (A16 : T_vitrineref07_Valid) (A15 : T_vitrinelaw07_alive) (A12 : T_anb_All) (A11 : T_anb_In) : CallT sg := tab [(16, con [none] (q_vitrineref07_Valid A16)), (15, con [] (q_vitrinelaw07_alive A15)), (12, con [none, none] (q_anb_All A12)), (11, con [none, none] (q_anb_In A11))]
theorem Cok_vitrinelaw07_AnbAll (A16 : T_vitrineref07_Valid) (A15 : T_vitrinelaw07_alive) (A12 : T_anb_All) (A11 : T_anb_In) (h16 : FnOK sy Tryz.prog GT (ovD ro) ro 16 (q_vitrineref07_Valid A16)) (h15 : FnOK sy Tryz.prog GT (ovD ro) ro 15 (q_vitrinelaw07_alive A15)) (h12 : FnOK sy Tryz.prog GT (ovD ro) ro 12 (q_anb_All A12)) (h11 : FnOK sy Tryz.prog GT (ovD ro) ro 11 (q_anb_In A11)) (o0 : Nat → Prop) : CalOK sy Tryz.prog GT (ovD ro) o0 ro (C_vitrinelaw07_AnbAll A16 A15 A12 A11) := (tab_cons (con_ok h16) (tab_cons (con_ok h15) (tab_cons (con_ok h12) (tab_cons (con_ok h11) tab_nil)))) o0

def ls_vitrinelaw07_AnbAll_6 : LS sy (Int × Unit × (List (sg.Den Cd.i64)) × Int × Int × Int × Unit) ((Int × Int × Unit) × Unit) := ⟨[], fCons 1 (vInt sy .i64) (fCons 2 (vLit sy (.p 0 0)) (fCons 5 (vData sy Cd.i64) (fCons 6 (vInt sy .i64) (fCons 7 (vInt sy .i64) (fCons 8 (vInt sy .i64) (fNil sy)))))), hCells 0 (lCons (vInt sy .i64) (lCons (vInt sy .i64) (lNil sy))) (hNil sy), 1, []⟩
def le_vitrinelaw07_AnbAll_6 : LS sy ((List (sg.Den Cd.i64)) × Int × Int × Unit) Unit := ⟨[], fCons 5 (vData sy Cd.i64) (fCons 6 (vInt sy .i64) (fCons 7 (vInt sy .i64) (fNil sy))), hNil sy, 0, []⟩
def lr_vitrinelaw07_AnbAll_6 : LS sy (Bool × Unit) Unit := ⟨[], fCons 4 (vBool sy) (fNil sy), hNil sy, 0, []⟩
def FF_vitrinelaw07_AnbAll_6 (A16 : T_vitrineref07_Valid) (A15 : T_vitrinelaw07_alive) (A12 : T_anb_All) (A11 : T_anb_In) (n : Nat) (x : (Int × Unit × (List (sg.Den Cd.i64)) × Int × Int × Int × Unit) × ((Int × Int × Unit) × Unit)) (K : Ex → Z sg → Prop) : Prop := F_vitrinelaw07_AnbAll_l6 A16 A15 A12 A11 n x.1.1 x.1.2.2.1 x.1.2.2.2.1 x.1.2.2.2.2.1 x.1.2.2.2.2.2.1 x.2.1.1 x.2.1.2.1 (fun y0 y1 y2 => K (.exit 0) (le_vitrinelaw07_AnbAll_6.put ((y0, y1, y2, ()), ()))) (fun y0 => K .ret (lr_vitrinelaw07_AnbAll_6.put ((y0, ()), ())))
def h_vitrinelaw07_AnbAll_6 (A16 : T_vitrineref07_Valid) (A15 : T_vitrinelaw07_alive) (A12 : T_anb_All) (A11 : T_anb_In) (z : Z sg) (K : Ex → Z sg → Prop) : Prop := ls_vitrinelaw07_AnbAll_6.get z (fun x => ∃ n, FF_vitrinelaw07_AnbAll_6 A16 A15 A12 A11 n x K)
def L_vitrinelaw07_AnbAll (A16 : T_vitrineref07_Valid) (A15 : T_vitrinelaw07_alive) (A12 : T_anb_All) (A11 : T_anb_In) : LoopT sg := tabL [(6, h_vitrinelaw07_AnbAll_6 A16 A15 A12 A11)]
theorem hs_vitrinelaw07_AnbAll_6 (A16 : T_vitrineref07_Valid) (A15 : T_vitrinelaw07_alive) (A12 : T_anb_All) (A11 : T_anb_In) (n : Nat) (x : (Int × Unit × (List (sg.Den Cd.i64)) × Int × Int × Int × Unit) × ((Int × Int × Unit) × Unit)) (K : Ex → Z sg → Prop) : forceZ (ls_vitrinelaw07_AnbAll_6.put x) (fun z => sC sy Tryz.prog GT (C_vitrinelaw07_AnbAll A16 A15 A12 A11) (L_vitrinelaw07_AnbAll A16 A15 A12 A11) Tryz.f7.ntmps (nthLoop (bodyOf Tryz.f7) 0) z (rnd ls_vitrinelaw07_AnbAll_6 (czT 0 le_vitrinelaw07_AnbAll_6 lr_vitrinelaw07_AnbAll_6) (fun x => FF_vitrinelaw07_AnbAll_6 A16 A15 A12 A11 n x K) K)) = FF_vitrinelaw07_AnbAll_6 A16 A15 A12 A11 (n + 1) x K := by kernel_rfl
theorem hl_vitrinelaw07_AnbAll_6 (A16 : T_vitrineref07_Valid) (A15 : T_vitrinelaw07_alive) (A12 : T_anb_All) (A11 : T_anb_In) (z : Z sg) (K : Ex → Z sg → Prop) : (L_vitrinelaw07_AnbAll A16 A15 A12 A11) (nthLoop (bodyOf Tryz.f7) 0) z K = ls_vitrinelaw07_AnbAll_6.get z (fun x => ∃ n, FF_vitrinelaw07_AnbAll_6 A16 A15 A12 A11 n x K) := by kernel_rfl
theorem lo_vitrinelaw07_AnbAll_6 (A16 : T_vitrineref07_Valid) (A15 : T_vitrinelaw07_alive) (A12 : T_anb_All) (A11 : T_anb_In) (h16 : FnOK sy Tryz.prog GT (ovD ro) ro 16 (q_vitrineref07_Valid A16)) (h15 : FnOK sy Tryz.prog GT (ovD ro) ro 15 (q_vitrinelaw07_alive A15)) (h12 : FnOK sy Tryz.prog GT (ovD ro) ro 12 (q_anb_All A12)) (h11 : FnOK sy Tryz.prog GT (ovD ro) ro 11 (q_anb_In A11)) : ∀ (o0 : Nat → Prop) (B : Bs sg), B.E.length ≤ 0 → ∀ z K, (L_vitrinelaw07_AnbAll A16 A15 A12 A11) (nthLoop (bodyOf Tryz.f7) 0) z K → Sx.Sem sy Tryz.prog GT (ovD ro) o0 ro Tryz.f7.ntmps B (.loop (nthLoop (bodyOf Tryz.f7) 0)) z K :=
  loop_ok (Cok_vitrinelaw07_AnbAll A16 A15 A12 A11 h16 h15 h12 h11) (lp_of (l := []) (by kernel_rfl) lp_nil) ls_vitrinelaw07_AnbAll_6 (by decide) (czT 0 le_vitrinelaw07_AnbAll_6 lr_vitrinelaw07_AnbAll_6) (fun _ _ hB => czT_ok 0 le_vitrinelaw07_AnbAll_6 lr_vitrinelaw07_AnbAll_6 (Nat.le_trans hB (by decide)) (Nat.le_trans hB (by decide))) (fun _ _ h => h) (hs_vitrinelaw07_AnbAll_6 A16 A15 A12 A11) (hl_vitrinelaw07_AnbAll_6 A16 A15 A12 A11)
theorem Lp_vitrinelaw07_AnbAll (A16 : T_vitrineref07_Valid) (A15 : T_vitrinelaw07_alive) (A12 : T_anb_All) (A11 : T_anb_In) (h16 : FnOK sy Tryz.prog GT (ovD ro) ro 16 (q_vitrineref07_Valid A16)) (h15 : FnOK sy Tryz.prog GT (ovD ro) ro 15 (q_vitrinelaw07_alive A15)) (h12 : FnOK sy Tryz.prog GT (ovD ro) ro 12 (q_anb_All A12)) (h11 : FnOK sy Tryz.prog GT (ovD ro) ro 11 (q_anb_In A11)) : LpOK sy Tryz.prog GT (ovD ro) ro (L_vitrinelaw07_AnbAll A16 A15 A12 A11) 0 Tryz.f7.ntmps (bodyOf Tryz.f7) := lp_of (l := [(nthLoop (bodyOf Tryz.f7) 0)]) (by kernel_rfl) (lp_cons (lo_vitrinelaw07_AnbAll_6 A16 A15 A12 A11 h16 h15 h12 h11) lp_nil)


theorem raw_vitrinelaw07_AnbAll (A16 : T_vitrineref07_Valid) (A15 : T_vitrinelaw07_alive) (A12 : T_anb_All) (A11 : T_anb_In) (a0 : (Int × Int)) (a1 : Int) (k : W → Prop) : fnT sy Tryz.prog GT (C_vitrinelaw07_AnbAll A16 A15 A12 A11) (L_vitrinelaw07_AnbAll A16 A15 A12 A11) Tryz.f7.ntmps (bodyOf Tryz.f7) [none] Tryz.f7.results.toList [.a [.i .i64 a0.1, .i .i64 a0.2], .i .i64 a1] k = F_vitrinelaw07_AnbAll A16 A15 A12 A11 a0 a1 (fun r0 => k (.b r0)) := by kernel_rfl

theorem ok_vitrinelaw07_AnbAll (A16 : T_vitrineref07_Valid) (A15 : T_vitrinelaw07_alive) (A12 : T_anb_All) (A11 : T_anb_In) (h16 : FnOK sy Tryz.prog GT (ovD ro) ro 16 (q_vitrineref07_Valid A16)) (h15 : FnOK sy Tryz.prog GT (ovD ro) ro 15 (q_vitrinelaw07_alive A15)) (h12 : FnOK sy Tryz.prog GT (ovD ro) ro 12 (q_anb_All A12)) (h11 : FnOK sy Tryz.prog GT (ovD ro) ro 11 (q_anb_In A11)) : FnOK sy Tryz.prog GT (ovD ro) ro 7 (q_vitrinelaw07_AnbAll (F_vitrinelaw07_AnbAll A16 A15 A12 A11)) := (fn_ok (rc := [none]) (f := 7) (fn := Tryz.f7) (c := bodyOf Tryz.f7) (nt := Tryz.f7.ntmps) (res := Tryz.f7.results.toList) (C := C_vitrinelaw07_AnbAll A16 A15 A12 A11) (L := (L_vitrinelaw07_AnbAll A16 A15 A12 A11)) (fun _ _ => rfl) Tryz.func7 (by kernel_rfl) rfl rfl (Cok_vitrinelaw07_AnbAll A16 A15 A12 A11 h16 h15 h12 h11) (Lp_vitrinelaw07_AnbAll A16 A15 A12 A11 h16 h15 h12 h11)).weak (by
  intro us k h
  unfold q_vitrinelaw07_AnbAll at h
  split at h
  · skip
    rename_i a0_0 a0_1 a1
    rw [raw_vitrinelaw07_AnbAll A16 A15 A12 A11 (a0_0, a0_1) a1 k]
    exact h
  · exact h.elim)

abbrev T_vitrinelaw07_AnbBack := (Int × Int) → (Int × Int) → (Bool → Prop) → Prop
def q_vitrinelaw07_AnbBack (A : T_vitrinelaw07_AnbBack) (us : List W) (k : W → Prop) : Prop := match us with
  | [.a [.i .i64 a0_0, .i .i64 a0_1], .a [.i .i64 a1_0, .i .i64 a1_1]] => A (a0_0, a0_1) (a1_0, a1_1) (fun r0 => k (.b r0))
  | _ => False
theorem q_vitrinelaw07_AnbBack_weak {A A2 : T_vitrinelaw07_AnbBack} (h : FnOK sy Tryz.prog GT (ovD ro) ro 5 (q_vitrinelaw07_AnbBack A)) (hA : ∀ a0 a1 K, A2 a0 a1 K → A a0 a1 K) : FnOK sy Tryz.prog GT (ovD ro) ro 5 (q_vitrinelaw07_AnbBack A2) := h.weak (by
  intro us k h
  unfold q_vitrinelaw07_AnbBack at h ⊢
  split at h
  · exact hA _ _ _ h
  · exact h.elim)

def F_vitrinelaw07_AnbBack_l12 (A16 : T_vitrineref07_Valid) (A15 : T_vitrinelaw07_alive) (A13 : T_anb_Text) (A9 : T_anb_Read) (A17 : T_TokensA) (A10 : T_anb_Of) : Nat → List UInt8 → List UInt8 → Int → Int → Int → (List UInt8 → Int → Int → Prop) → Prop
  | 0, _, _, _, _, _, _ => False
  | n + 1, x5, x15, x16, c0_0, c0_1, Ke => (((decide (x16 < (x5.length : Int))) = true → (I64 (x16 + (1 : Int)) ∧ ((0 ≤ x16 ∧ x16 ≤ (x16 + (1 : Int)) ∧ (x16 + (1 : Int)) ≤ (x5.length : Int)) ∧ (((((x5.drop x16.toNat).take ((x16 + (1 : Int)).toNat - x16.toNat)) == ([110] : List UInt8)) = true → (((decide ((0 : Int) < x16)) = true → (((([78] : List UInt8) == ([43] : List UInt8)) = false → (((([78] : List UInt8) == ([45] : List UInt8)) = true → (([32] : List UInt8).length + ([78] : List UInt8).length ≤ 1099511627776 ∧ ((([32] : List UInt8) ++ ([78] : List UInt8)).length + ([32] : List UInt8).length ≤ 1099511627776 ∧ (x15.length + ((([32] : List UInt8) ++ ([78] : List UInt8)) ++ ([32] : List UInt8)).length ≤ 1099511627776 ∧ (I64 (x16 + (1 : Int)) ∧ F_vitrinelaw07_AnbBack_l12 A16 A15 A13 A9 A17 A10 n x5 (x15 ++ ((([32] : List UInt8) ++ ([78] : List UInt8)) ++ ([32] : List UInt8))) (x16 + (1 : Int)) c0_0 c0_1 Ke))))) ∧ ((([78] : List UInt8) == ([45] : List UInt8)) = false → (x15.length + ([78] : List UInt8).length ≤ 1099511627776 ∧ (I64 (x16 + (1 : Int)) ∧ F_vitrinelaw07_AnbBack_l12 A16 A15 A13 A9 A17 A10 n x5 (x15 ++ ([78] : List UInt8)) (x16 + (1 : Int)) c0_0 c0_1 Ke))))) ∧ ((([78] : List UInt8) == ([43] : List UInt8)) = true → (([32] : List UInt8).length + ([78] : List UInt8).length ≤ 1099511627776 ∧ ((([32] : List UInt8) ++ ([78] : List UInt8)).length + ([32] : List UInt8).length ≤ 1099511627776 ∧ (x15.length + ((([32] : List UInt8) ++ ([78] : List UInt8)) ++ ([32] : List UInt8)).length ≤ 1099511627776 ∧ (I64 (x16 + (1 : Int)) ∧ F_vitrinelaw07_AnbBack_l12 A16 A15 A13 A9 A17 A10 n x5 (x15 ++ ((([32] : List UInt8) ++ ([78] : List UInt8)) ++ ([32] : List UInt8))) (x16 + (1 : Int)) c0_0 c0_1 Ke))))))) ∧ ((decide ((0 : Int) < x16)) = false → (x15.length + ([78] : List UInt8).length ≤ 1099511627776 ∧ (I64 (x16 + (1 : Int)) ∧ F_vitrinelaw07_AnbBack_l12 A16 A15 A13 A9 A17 A10 n x5 (x15 ++ ([78] : List UInt8)) (x16 + (1 : Int)) c0_0 c0_1 Ke))))) ∧ ((((x5.drop x16.toNat).take ((x16 + (1 : Int)).toNat - x16.toNat)) == ([110] : List UInt8)) = false → (((decide ((0 : Int) < x16)) = true → (((((x5.drop x16.toNat).take ((x16 + (1 : Int)).toNat - x16.toNat)) == ([43] : List UInt8)) = false → (((((x5.drop x16.toNat).take ((x16 + (1 : Int)).toNat - x16.toNat)) == ([45] : List UInt8)) = true → (([32] : List UInt8).length + ((x5.drop x16.toNat).take ((x16 + (1 : Int)).toNat - x16.toNat)).length ≤ 1099511627776 ∧ ((([32] : List UInt8) ++ ((x5.drop x16.toNat).take ((x16 + (1 : Int)).toNat - x16.toNat))).length + ([32] : List UInt8).length ≤ 1099511627776 ∧ (x15.length + ((([32] : List UInt8) ++ ((x5.drop x16.toNat).take ((x16 + (1 : Int)).toNat - x16.toNat))) ++ ([32] : List UInt8)).length ≤ 1099511627776 ∧ (I64 (x16 + (1 : Int)) ∧ F_vitrinelaw07_AnbBack_l12 A16 A15 A13 A9 A17 A10 n x5 (x15 ++ ((([32] : List UInt8) ++ ((x5.drop x16.toNat).take ((x16 + (1 : Int)).toNat - x16.toNat))) ++ ([32] : List UInt8))) (x16 + (1 : Int)) c0_0 c0_1 Ke))))) ∧ ((((x5.drop x16.toNat).take ((x16 + (1 : Int)).toNat - x16.toNat)) == ([45] : List UInt8)) = false → (x15.length + ((x5.drop x16.toNat).take ((x16 + (1 : Int)).toNat - x16.toNat)).length ≤ 1099511627776 ∧ (I64 (x16 + (1 : Int)) ∧ F_vitrinelaw07_AnbBack_l12 A16 A15 A13 A9 A17 A10 n x5 (x15 ++ ((x5.drop x16.toNat).take ((x16 + (1 : Int)).toNat - x16.toNat))) (x16 + (1 : Int)) c0_0 c0_1 Ke))))) ∧ ((((x5.drop x16.toNat).take ((x16 + (1 : Int)).toNat - x16.toNat)) == ([43] : List UInt8)) = true → (([32] : List UInt8).length + ((x5.drop x16.toNat).take ((x16 + (1 : Int)).toNat - x16.toNat)).length ≤ 1099511627776 ∧ ((([32] : List UInt8) ++ ((x5.drop x16.toNat).take ((x16 + (1 : Int)).toNat - x16.toNat))).length + ([32] : List UInt8).length ≤ 1099511627776 ∧ (x15.length + ((([32] : List UInt8) ++ ((x5.drop x16.toNat).take ((x16 + (1 : Int)).toNat - x16.toNat))) ++ ([32] : List UInt8)).length ≤ 1099511627776 ∧ (I64 (x16 + (1 : Int)) ∧ F_vitrinelaw07_AnbBack_l12 A16 A15 A13 A9 A17 A10 n x5 (x15 ++ ((([32] : List UInt8) ++ ((x5.drop x16.toNat).take ((x16 + (1 : Int)).toNat - x16.toNat))) ++ ([32] : List UInt8))) (x16 + (1 : Int)) c0_0 c0_1 Ke))))))) ∧ ((decide ((0 : Int) < x16)) = false → (x15.length + ((x5.drop x16.toNat).take ((x16 + (1 : Int)).toNat - x16.toNat)).length ≤ 1099511627776 ∧ (I64 (x16 + (1 : Int)) ∧ F_vitrinelaw07_AnbBack_l12 A16 A15 A13 A9 A17 A10 n x5 (x15 ++ ((x5.drop x16.toNat).take ((x16 + (1 : Int)).toNat - x16.toNat))) (x16 + (1 : Int)) c0_0 c0_1 Ke))))))))) ∧ ((decide (x16 < (x5.length : Int))) = false → Ke x15 c0_0 c0_1))

def F_vitrinelaw07_AnbBack (A16 : T_vitrineref07_Valid) (A15 : T_vitrinelaw07_alive) (A13 : T_anb_Text) (A9 : T_anb_Read) (A17 : T_TokensA) (A10 : T_anb_Of) (a0 : (Int × Int)) (a1 : (Int × Int)) (K : Bool → Prop) : Prop :=
  (A16 (a0.1, a0.2) (fun y1 => (((!y1) = false → (A16 (a1.1, a1.2) (fun y2 => (((!y2) = true → (A15 (fun y3 => K y3))) ∧ ((!y2) = false → (A13 (a0.1, a0.2) (fun y4 y5 => (A13 (a1.1, a1.2) (fun y6 y7 => (A9 y4 (fun y8 y9 => (A17 y4 (fun y10 y11 => (A10 y10 (fun y12 y13 => (((decide (y5 ≠ (0 : Int))) = false → (((decide (y7 ≠ (0 : Int))) = false → (((decide (y9 ≠ (0 : Int))) = false → (((decide (y11 ≠ (0 : Int))) = false → (((decide (y13 ≠ (0 : Int))) = false → (((!(decide (y8.1 = a0.1) && (decide (y8.2 = a0.2) && true))) = false → (((!(decide (y12.1 = a0.1) && (decide (y12.2 = a0.2) && true))) = false → (((decide (a0.1 = a1.1)) = true → (((!((y4 == y6) == (decide (a0.2 = a1.2)))) = true → K false) ∧ ((!((y4 == y6) == (decide (a0.2 = a1.2)))) = false → (∃ m, F_vitrinelaw07_AnbBack_l12 A16 A15 A13 A9 A17 A10 m y4 ([32] : List UInt8) (0 : Int) a0.1 a0.2 (fun y14 y15 y16 => (y14.length + ([32] : List UInt8).length ≤ 1099511627776 ∧ (A9 (y14 ++ ([32] : List UInt8)) (fun y17 y18 => (((decide (y18 = (0 : Int))) = true → (((decide (y17.1 = y15) && (decide (y17.2 = y16) && true)) = true → (A15 (fun y19 => K y19))) ∧ ((decide (y17.1 = y15) && (decide (y17.2 = y16) && true)) = false → K false))) ∧ ((decide (y18 = (0 : Int))) = false → K false)))))))))) ∧ ((decide (a0.1 = a1.1)) = false → (((!((y4 == y6) == false)) = true → K false) ∧ ((!((y4 == y6) == false)) = false → (∃ m, F_vitrinelaw07_AnbBack_l12 A16 A15 A13 A9 A17 A10 m y4 ([32] : List UInt8) (0 : Int) a0.1 a0.2 (fun y20 y21 y22 => (y20.length + ([32] : List UInt8).length ≤ 1099511627776 ∧ (A9 (y20 ++ ([32] : List UInt8)) (fun y23 y24 => (((decide (y24 = (0 : Int))) = true → (((decide (y23.1 = y21) && (decide (y23.2 = y22) && true)) = true → (A15 (fun y25 => K y25))) ∧ ((decide (y23.1 = y21) && (decide (y23.2 = y22) && true)) = false → K false))) ∧ ((decide (y24 = (0 : Int))) = false → K false)))))))))))) ∧ ((!(decide (y12.1 = a0.1) && (decide (y12.2 = a0.2) && true))) = true → K false))) ∧ ((!(decide (y8.1 = a0.1) && (decide (y8.2 = a0.2) && true))) = true → K false))) ∧ ((decide (y13 ≠ (0 : Int))) = true → K false))) ∧ ((decide (y11 ≠ (0 : Int))) = true → K false))) ∧ ((decide (y9 ≠ (0 : Int))) = true → K false))) ∧ ((decide (y7 ≠ (0 : Int))) = true → K false))) ∧ ((decide (y5 ≠ (0 : Int))) = true → K false))))))))))))))))) ∧ ((!y1) = true → (A15 (fun y26 => K y26))))))

def C_vitrinelaw07_AnbBack (A16 : T_vitrineref07_Valid) (A15 : T_vitrinelaw07_alive) (A13 : T_anb_Text) (A9 : T_anb_Read) (A17 : T_TokensA) (A10 : T_anb_Of) : CallT sg := tab [(16, con [none] (q_vitrineref07_Valid A16)), (15, con [] (q_vitrinelaw07_alive A15)), (13, con [none] (q_anb_Text A13)), (9, con [none] (q_anb_Read A9)), (17, con [none] (q_TokensA A17)), (10, con [some Cd.tok] (q_anb_Of A10))]
theorem Cok_vitrinelaw07_AnbBack (A16 : T_vitrineref07_Valid) (A15 : T_vitrinelaw07_alive) (A13 : T_anb_Text) (A9 : T_anb_Read) (A17 : T_TokensA) (A10 : T_anb_Of) (h16 : FnOK sy Tryz.prog GT (ovD ro) ro 16 (q_vitrineref07_Valid A16)) (h15 : FnOK sy Tryz.prog GT (ovD ro) ro 15 (q_vitrinelaw07_alive A15)) (h13 : FnOK sy Tryz.prog GT (ovD ro) ro 13 (q_anb_Text A13)) (h9 : FnOK sy Tryz.prog GT (ovD ro) ro 9 (q_anb_Read A9)) (h17 : FnOK sy Tryz.prog GT (ovD ro) ro 17 (q_TokensA A17)) (h10 : FnOK sy Tryz.prog GT (ovD ro) ro 10 (q_anb_Of A10)) (o0 : Nat → Prop) : CalOK sy Tryz.prog GT (ovD ro) o0 ro (C_vitrinelaw07_AnbBack A16 A15 A13 A9 A17 A10) := (tab_cons (con_ok h16) (tab_cons (con_ok h15) (tab_cons (con_ok h13) (tab_cons (con_ok h9) (tab_cons (con_ok h17) (tab_cons (con_ok h10) tab_nil)))))) o0

def ls_vitrinelaw07_AnbBack_12 : LS sy (Unit × (List UInt8) × (List UInt8) × Int × Unit) ((Int × Int × Unit) × Unit) := ⟨[], fCons 2 (vLit sy (.p 0 0)) (fCons 5 (vStr sy) (fCons 15 (vStr sy) (fCons 16 (vInt sy .i64) (fNil sy)))), hCells 0 (lCons (vInt sy .i64) (lCons (vInt sy .i64) (lNil sy))) (hNil sy), 1, []⟩
def le_vitrinelaw07_AnbBack_12 : LS sy (Unit × (List UInt8) × Unit) ((Int × Int × Unit) × Unit) := ⟨[], fCons 2 (vLit sy (.p 0 0)) (fCons 15 (vStr sy) (fNil sy)), hCells 0 (lCons (vInt sy .i64) (lCons (vInt sy .i64) (lNil sy))) (hNil sy), 1, []⟩
def lr_vitrinelaw07_AnbBack_12 : LS sy Unit Unit := ⟨[], fNil sy, hNil sy, 0, []⟩
def FF_vitrinelaw07_AnbBack_12 (A16 : T_vitrineref07_Valid) (A15 : T_vitrinelaw07_alive) (A13 : T_anb_Text) (A9 : T_anb_Read) (A17 : T_TokensA) (A10 : T_anb_Of) (n : Nat) (x : (Unit × (List UInt8) × (List UInt8) × Int × Unit) × ((Int × Int × Unit) × Unit)) (K : Ex → Z sg → Prop) : Prop := F_vitrinelaw07_AnbBack_l12 A16 A15 A13 A9 A17 A10 n x.1.2.1 x.1.2.2.1 x.1.2.2.2.1 x.2.1.1 x.2.1.2.1 (fun y0 y1 y2 => K (.exit 0) (le_vitrinelaw07_AnbBack_12.put (((), y0, ()), ((y1, y2, ()), ()))))
def h_vitrinelaw07_AnbBack_12 (A16 : T_vitrineref07_Valid) (A15 : T_vitrinelaw07_alive) (A13 : T_anb_Text) (A9 : T_anb_Read) (A17 : T_TokensA) (A10 : T_anb_Of) (z : Z sg) (K : Ex → Z sg → Prop) : Prop := ls_vitrinelaw07_AnbBack_12.get z (fun x => ∃ n, FF_vitrinelaw07_AnbBack_12 A16 A15 A13 A9 A17 A10 n x K)
def L_vitrinelaw07_AnbBack (A16 : T_vitrineref07_Valid) (A15 : T_vitrinelaw07_alive) (A13 : T_anb_Text) (A9 : T_anb_Read) (A17 : T_TokensA) (A10 : T_anb_Of) : LoopT sg := tabL [(12, h_vitrinelaw07_AnbBack_12 A16 A15 A13 A9 A17 A10)]
theorem hs_vitrinelaw07_AnbBack_12 (A16 : T_vitrineref07_Valid) (A15 : T_vitrinelaw07_alive) (A13 : T_anb_Text) (A9 : T_anb_Read) (A17 : T_TokensA) (A10 : T_anb_Of) (n : Nat) (x : (Unit × (List UInt8) × (List UInt8) × Int × Unit) × ((Int × Int × Unit) × Unit)) (K : Ex → Z sg → Prop) : forceZ (ls_vitrinelaw07_AnbBack_12.put x) (fun z => sC sy Tryz.prog GT (C_vitrinelaw07_AnbBack A16 A15 A13 A9 A17 A10) (L_vitrinelaw07_AnbBack A16 A15 A13 A9 A17 A10) Tryz.f5.ntmps (nthLoop (bodyOf Tryz.f5) 0) z (rnd ls_vitrinelaw07_AnbBack_12 (czT 0 le_vitrinelaw07_AnbBack_12 lr_vitrinelaw07_AnbBack_12) (fun x => FF_vitrinelaw07_AnbBack_12 A16 A15 A13 A9 A17 A10 n x K) K)) = FF_vitrinelaw07_AnbBack_12 A16 A15 A13 A9 A17 A10 (n + 1) x K := by kernel_rfl
theorem hl_vitrinelaw07_AnbBack_12 (A16 : T_vitrineref07_Valid) (A15 : T_vitrinelaw07_alive) (A13 : T_anb_Text) (A9 : T_anb_Read) (A17 : T_TokensA) (A10 : T_anb_Of) (z : Z sg) (K : Ex → Z sg → Prop) : (L_vitrinelaw07_AnbBack A16 A15 A13 A9 A17 A10) (nthLoop (bodyOf Tryz.f5) 0) z K = ls_vitrinelaw07_AnbBack_12.get z (fun x => ∃ n, FF_vitrinelaw07_AnbBack_12 A16 A15 A13 A9 A17 A10 n x K) := by kernel_rfl
theorem lo_vitrinelaw07_AnbBack_12 (A16 : T_vitrineref07_Valid) (A15 : T_vitrinelaw07_alive) (A13 : T_anb_Text) (A9 : T_anb_Read) (A17 : T_TokensA) (A10 : T_anb_Of) (h16 : FnOK sy Tryz.prog GT (ovD ro) ro 16 (q_vitrineref07_Valid A16)) (h15 : FnOK sy Tryz.prog GT (ovD ro) ro 15 (q_vitrinelaw07_alive A15)) (h13 : FnOK sy Tryz.prog GT (ovD ro) ro 13 (q_anb_Text A13)) (h9 : FnOK sy Tryz.prog GT (ovD ro) ro 9 (q_anb_Read A9)) (h17 : FnOK sy Tryz.prog GT (ovD ro) ro 17 (q_TokensA A17)) (h10 : FnOK sy Tryz.prog GT (ovD ro) ro 10 (q_anb_Of A10)) : ∀ (o0 : Nat → Prop) (B : Bs sg), B.E.length ≤ 0 → ∀ z K, (L_vitrinelaw07_AnbBack A16 A15 A13 A9 A17 A10) (nthLoop (bodyOf Tryz.f5) 0) z K → Sx.Sem sy Tryz.prog GT (ovD ro) o0 ro Tryz.f5.ntmps B (.loop (nthLoop (bodyOf Tryz.f5) 0)) z K :=
  loop_ok (Cok_vitrinelaw07_AnbBack A16 A15 A13 A9 A17 A10 h16 h15 h13 h9 h17 h10) (lp_of (l := []) (by kernel_rfl) lp_nil) ls_vitrinelaw07_AnbBack_12 (by decide) (czT 0 le_vitrinelaw07_AnbBack_12 lr_vitrinelaw07_AnbBack_12) (fun _ _ hB => czT_ok 0 le_vitrinelaw07_AnbBack_12 lr_vitrinelaw07_AnbBack_12 (Nat.le_trans hB (by decide)) (Nat.le_trans hB (by decide))) (fun _ _ h => h) (hs_vitrinelaw07_AnbBack_12 A16 A15 A13 A9 A17 A10) (hl_vitrinelaw07_AnbBack_12 A16 A15 A13 A9 A17 A10)
theorem Lp_vitrinelaw07_AnbBack (A16 : T_vitrineref07_Valid) (A15 : T_vitrinelaw07_alive) (A13 : T_anb_Text) (A9 : T_anb_Read) (A17 : T_TokensA) (A10 : T_anb_Of) (h16 : FnOK sy Tryz.prog GT (ovD ro) ro 16 (q_vitrineref07_Valid A16)) (h15 : FnOK sy Tryz.prog GT (ovD ro) ro 15 (q_vitrinelaw07_alive A15)) (h13 : FnOK sy Tryz.prog GT (ovD ro) ro 13 (q_anb_Text A13)) (h9 : FnOK sy Tryz.prog GT (ovD ro) ro 9 (q_anb_Read A9)) (h17 : FnOK sy Tryz.prog GT (ovD ro) ro 17 (q_TokensA A17)) (h10 : FnOK sy Tryz.prog GT (ovD ro) ro 10 (q_anb_Of A10)) : LpOK sy Tryz.prog GT (ovD ro) ro (L_vitrinelaw07_AnbBack A16 A15 A13 A9 A17 A10) 0 Tryz.f5.ntmps (bodyOf Tryz.f5) := lp_of (l := [(nthLoop (bodyOf Tryz.f5) 0)]) (by kernel_rfl) (lp_cons (lo_vitrinelaw07_AnbBack_12 A16 A15 A13 A9 A17 A10 h16 h15 h13 h9 h17 h10) lp_nil)


theorem raw_vitrinelaw07_AnbBack (A16 : T_vitrineref07_Valid) (A15 : T_vitrinelaw07_alive) (A13 : T_anb_Text) (A9 : T_anb_Read) (A17 : T_TokensA) (A10 : T_anb_Of) (a0 : (Int × Int)) (a1 : (Int × Int)) (k : W → Prop) : fnT sy Tryz.prog GT (C_vitrinelaw07_AnbBack A16 A15 A13 A9 A17 A10) (L_vitrinelaw07_AnbBack A16 A15 A13 A9 A17 A10) Tryz.f5.ntmps (bodyOf Tryz.f5) [none] Tryz.f5.results.toList [.a [.i .i64 a0.1, .i .i64 a0.2], .a [.i .i64 a1.1, .i .i64 a1.2]] k = F_vitrinelaw07_AnbBack A16 A15 A13 A9 A17 A10 a0 a1 (fun r0 => k (.b r0)) := by kernel_rfl

theorem ok_vitrinelaw07_AnbBack (A16 : T_vitrineref07_Valid) (A15 : T_vitrinelaw07_alive) (A13 : T_anb_Text) (A9 : T_anb_Read) (A17 : T_TokensA) (A10 : T_anb_Of) (h16 : FnOK sy Tryz.prog GT (ovD ro) ro 16 (q_vitrineref07_Valid A16)) (h15 : FnOK sy Tryz.prog GT (ovD ro) ro 15 (q_vitrinelaw07_alive A15)) (h13 : FnOK sy Tryz.prog GT (ovD ro) ro 13 (q_anb_Text A13)) (h9 : FnOK sy Tryz.prog GT (ovD ro) ro 9 (q_anb_Read A9)) (h17 : FnOK sy Tryz.prog GT (ovD ro) ro 17 (q_TokensA A17)) (h10 : FnOK sy Tryz.prog GT (ovD ro) ro 10 (q_anb_Of A10)) : FnOK sy Tryz.prog GT (ovD ro) ro 5 (q_vitrinelaw07_AnbBack (F_vitrinelaw07_AnbBack A16 A15 A13 A9 A17 A10)) := (fn_ok (rc := [none]) (f := 5) (fn := Tryz.f5) (c := bodyOf Tryz.f5) (nt := Tryz.f5.ntmps) (res := Tryz.f5.results.toList) (C := C_vitrinelaw07_AnbBack A16 A15 A13 A9 A17 A10) (L := (L_vitrinelaw07_AnbBack A16 A15 A13 A9 A17 A10)) (fun _ _ => rfl) Tryz.func5 (by kernel_rfl) rfl rfl (Cok_vitrinelaw07_AnbBack A16 A15 A13 A9 A17 A10 h16 h15 h13 h9 h17 h10) (Lp_vitrinelaw07_AnbBack A16 A15 A13 A9 A17 A10 h16 h15 h13 h9 h17 h10)).weak (by
  intro us k h
  unfold q_vitrinelaw07_AnbBack at h
  split at h
  · skip
    rename_i a0_0 a0_1 a1_0 a1_1
    rw [raw_vitrinelaw07_AnbBack A16 A15 A13 A9 A17 A10 (a0_0, a0_1) (a1_0, a1_1) k]
    exact h
  · exact h.elim)

end Go.Proofs.YtbpbaicbaehhjaaGreatDoor
