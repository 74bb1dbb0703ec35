/-
  Names of glue, followed; the law GlueNamed. Nothing is claimed here.
-/
import Derived.Test.YtkmgbibhkilffaaGreatDoorTh
namespace Go.Proofs.YtkmgbibhkilffaaGreatDoor
open Go.Vm Go.Sx Go.RowKit
variable {ro : Nat}

abbrev T_gslIndexByte := Bt → Int → (Int → Prop) → Prop
def q_gslIndexByte (A : T_gslIndexByte) (us : List W) (k : W → Prop) : Prop := match us with
  | [.s a0, .i .u8 a1] => A a0 a1 (fun r0 => k (.i .i64 r0))
  | _ => False
abbrev T_gs_IndexByte := Bt → Int → (Int → Prop) → Prop
def q_gs_IndexByte (A : T_gs_IndexByte) (us : List W) (k : W → Prop) : Prop := match us with
  | [.s a0, .i .u8 a1] => A a0 a1 (fun r0 => k (.i .i64 r0))
  | _ => False
theorem q_gs_IndexByte_weak {A A2 : T_gs_IndexByte} (h : FO ro 34 (q_gs_IndexByte A)) (hA : ∀ a0 a1 K, A2 a0 a1 K → A a0 a1 K) : FO ro 34 (q_gs_IndexByte A2) := h.weak (by
  intro us k h
  unfold q_gs_IndexByte at h ⊢
  split at h
  · exact hA _ _ _ h
  · exact h.elim)

def F_gs_IndexByte (A59 : T_gslIndexByte) (a0 : Bt) (a1 : Int) (K : Int → Prop) : Prop :=
  (A59 a0 a1 (fun y1 => K y1))

def C_gs_IndexByte (A59 : T_gslIndexByte) : CallT sg := tab [(59, con [none, none] (q_gslIndexByte A59))]
theorem Cok_gs_IndexByte (A59 : T_gslIndexByte) (h59 : FO ro 59 (q_gslIndexByte A59)) (o0 : Nat → Prop) : CalOK sy Tryz.prog GT (ovD ro) o0 ro (C_gs_IndexByte A59) := (tab_cons (con_ok h59) tab_nil) o0

theorem raw_gs_IndexByte (A59 : T_gslIndexByte) (a0 : Bt) (a1 : Int) (k : W → Prop) : fnT sy Tryz.prog GT (C_gs_IndexByte A59) noL Tryz.f34.ntmps (bodyOf Tryz.f34) [none] Tryz.f34.results.toList [.s a0, .i .u8 a1] k = F_gs_IndexByte A59 a0 a1 (fun r0 => k (.i .i64 r0)) := by kernel_rfl

theorem ok_gs_IndexByte (A59 : T_gslIndexByte) (h59 : FO ro 59 (q_gslIndexByte A59)) : FO ro 34 (q_gs_IndexByte (F_gs_IndexByte A59)) := (fn_ok (rc := [none]) (f := 34) (fn := Tryz.f34) (c := bodyOf Tryz.f34) (nt := Tryz.f34.ntmps) (res := Tryz.f34.results.toList) (C := C_gs_IndexByte A59) (L := noL) (fun _ _ => rfl) Tryz.func34 (by kernel_rfl) rfl rfl (Cok_gs_IndexByte A59 h59) (lp_of (l := []) (by kernel_rfl) lp_nil)).weak (by
  intro us k h
  unfold q_gs_IndexByte at h
  split at h
  · skip
    rename_i a0 a1
    rw [raw_gs_IndexByte A59 a0 a1 k]
    exact h
  · exact h.elim)

abbrev T_glue_isName := Bt → (Bool → Prop) → Prop
def q_glue_isName (A : T_glue_isName) (us : List W) (k : W → Prop) : Prop := match us with
  | [.s a0] => A a0 (fun r0 => k (.b r0))
  | _ => False
theorem q_glue_isName_weak {A A2 : T_glue_isName} (h : FO ro 33 (q_glue_isName A)) (hA : ∀ a0 K, A2 a0 K → A a0 K) : FO ro 33 (q_glue_isName A2) := h.weak (by
  intro us k h
  unfold q_glue_isName at h ⊢
  split at h
  · exact hA _ _ h
  · exact h.elim)

def F_glue_isName (a0 : Bt) (K : Bool → Prop) : Prop :=
  K (!(a0 == ([] : Bt)))

def C_glue_isName : CallT sg := tab []
theorem Cok_glue_isName (o0 : Nat → Prop) : CalOK sy Tryz.prog GT (ovD ro) o0 ro (C_glue_isName) := tab_nil o0

theorem raw_glue_isName (a0 : Bt) (k : W → Prop) : fnT sy Tryz.prog GT (C_glue_isName) noL Tryz.f33.ntmps (bodyOf Tryz.f33) [none] Tryz.f33.results.toList [.s a0] k = F_glue_isName a0 (fun r0 => k (.b r0)) := by kernel_rfl

theorem ok_glue_isName : FO ro 33 (q_glue_isName (F_glue_isName)) := (fn_ok (rc := [none]) (f := 33) (fn := Tryz.f33) (c := bodyOf Tryz.f33) (nt := Tryz.f33.ntmps) (res := Tryz.f33.results.toList) (C := C_glue_isName) (L := noL) (fun _ _ => rfl) Tryz.func33 (by kernel_rfl) rfl rfl (Cok_glue_isName) (lp_of (l := []) (by kernel_rfl) lp_nil)).weak (by
  intro us k h
  unfold q_glue_isName at h
  split at h
  · skip
    rename_i a0
    rw [raw_glue_isName a0 k]
    exact h
  · exact h.elim)

abbrev T_g_sWithDigit := Bt → (Bool → Prop) → Prop
def q_g_sWithDigit (A : T_g_sWithDigit) (us : List W) (k : W → Prop) : Prop := match us with
  | [.s a0] => A a0 (fun r0 => k (.b r0))
  | _ => False
theorem q_g_sWithDigit_weak {A A2 : T_g_sWithDigit} (h : FO ro 95 (q_g_sWithDigit A)) (hA : ∀ a0 K, A2 a0 K → A a0 K) : FO ro 95 (q_g_sWithDigit A2) := h.weak (by
  intro us k h
  unfold q_g_sWithDigit at h ⊢
  split at h
  · exact hA _ _ h
  · exact h.elim)

def F_g_sWithDigit (A87 : T_c_IsDigit) (a0 : Bt) (K : Bool → Prop) : Prop :=
  (((!(a0 == ([] : Bt))) = true → ((0 ≤ (0 : Int) ∧ (0 : Int) < (a0.length : Int)) ∧ (A87 ((a0.getD 0 0).toNat : Int) (fun y1 => K y1)))) ∧ ((!(a0 == ([] : Bt))) = false → K false))

def C_g_sWithDigit (A87 : T_c_IsDigit) : CallT sg := tab [(87, con [none] (q_c_IsDigit A87))]
theorem Cok_g_sWithDigit (A87 : T_c_IsDigit) (h87 : FO ro 87 (q_c_IsDigit A87)) (o0 : Nat → Prop) : CalOK sy Tryz.prog GT (ovD ro) o0 ro (C_g_sWithDigit A87) := (tab_cons (con_ok h87) tab_nil) o0

theorem raw_g_sWithDigit (A87 : T_c_IsDigit) (a0 : Bt) (k : W → Prop) : fnT sy Tryz.prog GT (C_g_sWithDigit A87) noL Tryz.f95.ntmps (bodyOf Tryz.f95) [none] Tryz.f95.results.toList [.s a0] k = F_g_sWithDigit A87 a0 (fun r0 => k (.b r0)) := by kernel_rfl

theorem ok_g_sWithDigit (A87 : T_c_IsDigit) (h87 : FO ro 87 (q_c_IsDigit A87)) : FO ro 95 (q_g_sWithDigit (F_g_sWithDigit A87)) := (fn_ok (rc := [none]) (f := 95) (fn := Tryz.f95) (c := bodyOf Tryz.f95) (nt := Tryz.f95.ntmps) (res := Tryz.f95.results.toList) (C := C_g_sWithDigit A87) (L := noL) (fun _ _ => rfl) Tryz.func95 (by kernel_rfl) rfl rfl (Cok_g_sWithDigit A87 h87) (lp_of (l := []) (by kernel_rfl) lp_nil)).weak (by
  intro us k h
  unfold q_g_sWithDigit at h
  split at h
  · skip
    rename_i a0
    rw [raw_g_sWithDigit A87 a0 k]
    exact h
  · exact h.elim)

abbrev T_g_sWithMinusDigit := Bt → (Bool → Prop) → Prop
def q_g_sWithMinusDigit (A : T_g_sWithMinusDigit) (us : List W) (k : W → Prop) : Prop := match us with
  | [.s a0] => A a0 (fun r0 => k (.b r0))
  | _ => False
theorem q_g_sWithMinusDigit_weak {A A2 : T_g_sWithMinusDigit} (h : FO ro 96 (q_g_sWithMinusDigit A)) (hA : ∀ a0 K, A2 a0 K → A a0 K) : FO ro 96 (q_g_sWithMinusDigit A2) := h.weak (by
  intro us k h
  unfold q_g_sWithMinusDigit at h ⊢
  split at h
  · exact hA _ _ h
  · exact h.elim)

def F_g_sWithMinusDigit (A115 : T_gs_HPx) (A95 : T_g_sWithDigit) (a0 : Bt) (K : Bool → Prop) : Prop :=
  (A115 a0 ([45] : Bt) (fun y1 => ((y1 = true → ((0 ≤ (1 : Int) ∧ (1 : Int) ≤ (a0.length : Int)) ∧ (A95 (a0.drop 1) (fun y2 => K y2)))) ∧ (y1 = false → K false))))

def C_g_sWithMinusDigit (A115 : T_gs_HPx) (A95 : T_g_sWithDigit) : CallT sg := tab [(115, con [none, none] (q_gs_HPx A115)), (95, con [none] (q_g_sWithDigit A95))]
theorem Cok_g_sWithMinusDigit (A115 : T_gs_HPx) (A95 : T_g_sWithDigit) (h115 : FO ro 115 (q_gs_HPx A115)) (h95 : FO ro 95 (q_g_sWithDigit A95)) (o0 : Nat → Prop) : CalOK sy Tryz.prog GT (ovD ro) o0 ro (C_g_sWithMinusDigit A115 A95) := (tab_cons (con_ok h115) (tab_cons (con_ok h95) tab_nil)) o0

theorem raw_g_sWithMinusDigit (A115 : T_gs_HPx) (A95 : T_g_sWithDigit) (a0 : Bt) (k : W → Prop) : fnT sy Tryz.prog GT (C_g_sWithMinusDigit A115 A95) noL Tryz.f96.ntmps (bodyOf Tryz.f96) [none] Tryz.f96.results.toList [.s a0] k = F_g_sWithMinusDigit A115 A95 a0 (fun r0 => k (.b r0)) := by kernel_rfl

theorem ok_g_sWithMinusDigit (A115 : T_gs_HPx) (A95 : T_g_sWithDigit) (h115 : FO ro 115 (q_gs_HPx A115)) (h95 : FO ro 95 (q_g_sWithDigit A95)) : FO ro 96 (q_g_sWithMinusDigit (F_g_sWithMinusDigit A115 A95)) := (fn_ok (rc := [none]) (f := 96) (fn := Tryz.f96) (c := bodyOf Tryz.f96) (nt := Tryz.f96.ntmps) (res := Tryz.f96.results.toList) (C := C_g_sWithMinusDigit A115 A95) (L := noL) (fun _ _ => rfl) Tryz.func96 (by kernel_rfl) rfl rfl (Cok_g_sWithMinusDigit A115 A95 h115 h95) (lp_of (l := []) (by kernel_rfl) lp_nil)).weak (by
  intro us k h
  unfold q_g_sWithMinusDigit at h
  split at h
  · skip
    rename_i a0
    rw [raw_g_sWithMinusDigit A115 A95 a0 k]
    exact h
  · exact h.elim)

abbrev T_glue_obstacle := Bt → (Int → Prop) → Prop
def q_glue_obstacle (A : T_glue_obstacle) (us : List W) (k : W → Prop) : Prop := match us with
  | [.s a0] => A a0 (fun r0 => k (.i .i64 r0))
  | _ => False
theorem q_glue_obstacle_weak {A A2 : T_glue_obstacle} (h : FO ro 50 (q_glue_obstacle A)) (hA : ∀ a0 K, A2 a0 K → A a0 K) : FO ro 50 (q_glue_obstacle A2) := h.weak (by
  intro us k h
  unfold q_glue_obstacle at h ⊢
  split at h
  · exact hA _ _ h
  · exact h.elim)

def F_glue_obstacle (A95 : T_g_sWithDigit) (A96 : T_g_sWithMinusDigit) (a0 : Bt) (K : Int → Prop) : Prop :=
  (((a0 == ([45] : Bt)) = false → (A95 a0 (fun y1 => ((y1 = true → K (0 : Int)) ∧ (y1 = false → (A96 a0 (fun y2 => ((y2 = true → K (1 : Int)) ∧ (y2 = false → K (-1 : Int)))))))))) ∧ ((a0 == ([45] : Bt)) = true → K (0 : Int)))

def C_glue_obstacle (A95 : T_g_sWithDigit) (A96 : T_g_sWithMinusDigit) : CallT sg := tab [(95, con [none] (q_g_sWithDigit A95)), (96, con [none] (q_g_sWithMinusDigit A96))]
theorem Cok_glue_obstacle (A95 : T_g_sWithDigit) (A96 : T_g_sWithMinusDigit) (h95 : FO ro 95 (q_g_sWithDigit A95)) (h96 : FO ro 96 (q_g_sWithMinusDigit A96)) (o0 : Nat → Prop) : CalOK sy Tryz.prog GT (ovD ro) o0 ro (C_glue_obstacle A95 A96) := (tab_cons (con_ok h95) (tab_cons (con_ok h96) tab_nil)) o0

theorem raw_glue_obstacle (A95 : T_g_sWithDigit) (A96 : T_g_sWithMinusDigit) (a0 : Bt) (k : W → Prop) : fnT sy Tryz.prog GT (C_glue_obstacle A95 A96) noL Tryz.f50.ntmps (bodyOf Tryz.f50) [none] Tryz.f50.results.toList [.s a0] k = F_glue_obstacle A95 A96 a0 (fun r0 => k (.i .i64 r0)) := by kernel_rfl

theorem ok_glue_obstacle (A95 : T_g_sWithDigit) (A96 : T_g_sWithMinusDigit) (h95 : FO ro 95 (q_g_sWithDigit A95)) (h96 : FO ro 96 (q_g_sWithMinusDigit A96)) : FO ro 50 (q_glue_obstacle (F_glue_obstacle A95 A96)) := (fn_ok (rc := [none]) (f := 50) (fn := Tryz.f50) (c := bodyOf Tryz.f50) (nt := Tryz.f50.ntmps) (res := Tryz.f50.results.toList) (C := C_glue_obstacle A95 A96) (L := noL) (fun _ _ => rfl) Tryz.func50 (by kernel_rfl) rfl rfl (Cok_glue_obstacle A95 A96 h95 h96) (lp_of (l := []) (by kernel_rfl) lp_nil)).weak (by
  intro us k h
  unfold q_glue_obstacle at h
  split at h
  · skip
    rename_i a0
    rw [raw_glue_obstacle A95 A96 a0 k]
    exact h
  · exact h.elim)

def C_gE_m (A87 : T_c_IsDigit) (A122 : T_c_IsLetter) : CallT sg := tab [(87, con [none] (q_c_IsDigit A87)), (122, con [none] (q_c_IsLetter A122)), (108, pAI sy Tryz.prog 33)]
theorem Cok_gE_m (A87 : T_c_IsDigit) (A122 : T_c_IsLetter) (h87 : FO ro 87 (q_c_IsDigit A87)) (h122 : FO ro 122 (q_c_IsLetter A122)) (o0 : Nat → Prop) : CalOK sy Tryz.prog GT (ovD ro) o0 ro (C_gE_m A87 A122) := (tab_cons (con_ok h87) (tab_cons (con_ok h122) (tab_cons (pAI_ok (f := 108) (t := 33) ovD_ai) tab_nil))) o0

def sl_gE_m : LS sy (Unit × Int × Unit) (List (sg.Den Cd.u8) × Unit) := ⟨[], fCons 0 (vLit sy (.o 0)) (fCons 1 (vInt sy .u8) (fNil sy)), hBuf 0 Cd.u8 (hNil sy), 1, []⟩
def sr_gE_m : LS sy (Unit × Unit) (List (sg.Den Cd.u8) × Unit) := ⟨[], fCons 4 (vLit sy (.o 0)) (fNil sy), hBuf 0 Cd.u8 (hNil sy), 1, [0]⟩
abbrev T_gE_m := Int → (Bt) → (Bt → Prop) → Prop
def g_gE_m (A : T_gE_m) (x : (Unit × Int × Unit) × (List (sg.Den Cd.u8) × Unit)) (K : (Unit × Unit) × (List (sg.Den Cd.u8) × Unit) → Prop) : Prop := A x.1.2.1 x.2.1 (fun y0 => K (((), ()), (y0, ())))
def F_gE_m (A87 : T_c_IsDigit) (A122 : T_c_IsLetter) (x1 : Int) (b0 : Bt) (K : (Bt → Prop)) : Prop :=
  ((0 ≤ (92 : Int) ∧ (92 : Int) ≤ 255) ∧ ((b0.length + [UInt8.ofNat 92].length) * 1 ≤ 1099511627776 ∧ (((decide ((33 : Int) ≤ x1)) = true → (((decide (x1 ≤ 126)) = true → (A87 x1 (fun y1 => (((!y1) = true → (A122 x1 (fun y2 => (((!y2) = true → ((0 ≤ x1 ∧ x1 ≤ 255) ∧ (((b0 ++ [UInt8.ofNat 92]).length + [UInt8.ofNat x1.toNat].length) * 1 ≤ 1099511627776 ∧ K ((b0 ++ [UInt8.ofNat 92]) ++ [UInt8.ofNat x1.toNat])))) ∧ ((!y2) = false → (I64 x1 ∧ (intB x1 (16 : Int) = true ∧ (((b0 ++ [UInt8.ofNat 92]).length + (intT x1 (16 : Int)).length) * 1 ≤ 1099511627776 ∧ ((0 ≤ (32 : Int) ∧ (32 : Int) ≤ 255) ∧ ((((b0 ++ [UInt8.ofNat 92]) ++ (intT x1 (16 : Int))).length + [UInt8.ofNat 32].length) * 1 ≤ 1099511627776 ∧ K (((b0 ++ [UInt8.ofNat 92]) ++ (intT x1 (16 : Int))) ++ [UInt8.ofNat 32]))))))))))) ∧ ((!y1) = false → (I64 x1 ∧ (intB x1 (16 : Int) = true ∧ (((b0 ++ [UInt8.ofNat 92]).length + (intT x1 (16 : Int)).length) * 1 ≤ 1099511627776 ∧ ((0 ≤ (32 : Int) ∧ (32 : Int) ≤ 255) ∧ ((((b0 ++ [UInt8.ofNat 92]) ++ (intT x1 (16 : Int))).length + [UInt8.ofNat 32].length) * 1 ≤ 1099511627776 ∧ K (((b0 ++ [UInt8.ofNat 92]) ++ (intT x1 (16 : Int))) ++ [UInt8.ofNat 32]))))))))))) ∧ ((decide (x1 ≤ 126)) = false → (I64 x1 ∧ (intB x1 (16 : Int) = true ∧ (((b0 ++ [UInt8.ofNat 92]).length + (intT x1 (16 : Int)).length) * 1 ≤ 1099511627776 ∧ ((0 ≤ (32 : Int) ∧ (32 : Int) ≤ 255) ∧ ((((b0 ++ [UInt8.ofNat 92]) ++ (intT x1 (16 : Int))).length + [UInt8.ofNat 32].length) * 1 ≤ 1099511627776 ∧ K (((b0 ++ [UInt8.ofNat 92]) ++ (intT x1 (16 : Int))) ++ [UInt8.ofNat 32]))))))))) ∧ ((decide ((33 : Int) ≤ x1)) = false → (I64 x1 ∧ (intB x1 (16 : Int) = true ∧ (((b0 ++ [UInt8.ofNat 92]).length + (intT x1 (16 : Int)).length) * 1 ≤ 1099511627776 ∧ ((0 ≤ (32 : Int) ∧ (32 : Int) ≤ 255) ∧ ((((b0 ++ [UInt8.ofNat 92]) ++ (intT x1 (16 : Int))).length + [UInt8.ofNat 32].length) * 1 ≤ 1099511627776 ∧ K (((b0 ++ [UInt8.ofNat 92]) ++ (intT x1 (16 : Int))) ++ [UInt8.ofNat 32]))))))))))

theorem tie_gE_m (A87 : T_c_IsDigit) (A122 : T_c_IsLetter) (x : (Unit × Int × Unit) × (List (sg.Den Cd.u8) × Unit)) (K : (Unit × Unit) × (List (sg.Den Cd.u8) × Unit) → Prop) : forceZ (sl_gE_m.put x) (fun z => sC sy Tryz.prog GT (C_gE_m A87 A122) noL Tryz.f105.ntmps (bodyOf Tryz.f105) z (fin2 sr_gE_m K)) = g_gE_m (F_gE_m A87 A122) x K := by kernel_rfl
theorem ok_gE_m (A87 : T_c_IsDigit) (A122 : T_c_IsLetter) (h87 : FO ro 87 (q_c_IsDigit A87)) (h122 : FO ro 122 (q_c_IsLetter A122)) : ShOK sy Tryz.prog GT (ovD ro) ro Tryz.f105.ntmps (bodyOf Tryz.f105) sl_gE_m sr_gE_m (g_gE_m (F_gE_m A87 A122)) := sh_of (Cok_gE_m A87 A122 h87 h122) (lp_of (l := []) (by kernel_rfl) lp_nil) (tie_gE_m A87 A122)

def F_gB_m_l2 (A104 : T_c_IsOfName) (A105_m : T_gE_m) : Nat → Bt → Int → Int → Int → Bt → (Bt → Prop) → Prop
  | 0, _, _, _, _, _, _ => False
  | n + 1, x1, x2, x9, x10, b0, Ke => (((decide (x10 < x9)) = true → (((decide (x10 ≠ x2)) = true → ((0 ≤ x10 ∧ x10 < (x1.length : Int)) ∧ (A104 ((x1.getD x10.toNat 0).toNat : Int) (fun y1 => ((y1 = true → ((0 ≤ x10 ∧ x10 < (x1.length : Int)) ∧ ((0 ≤ ((x1.getD x10.toNat 0).toNat : Int) ∧ ((x1.getD x10.toNat 0).toNat : Int) ≤ 255) ∧ ((b0.length + [UInt8.ofNat (((x1.getD x10.toNat 0).toNat : Int).toNat)].length) * 1 ≤ 1099511627776 ∧ (I64 (x10 + 1) ∧ F_gB_m_l2 A104 A105_m n x1 x2 x9 (x10 + 1) (b0 ++ [UInt8.ofNat (((x1.getD x10.toNat 0).toNat : Int).toNat)]) Ke))))) ∧ (y1 = false → ((0 ≤ x10 ∧ x10 < (x1.length : Int)) ∧ (A105_m ((x1.getD x10.toNat 0).toNat : Int) b0 (fun y2 => (I64 (x10 + 1) ∧ F_gB_m_l2 A104 A105_m n x1 x2 x9 (x10 + 1) y2 Ke)))))))))) ∧ ((decide (x10 ≠ x2)) = false → ((0 ≤ x10 ∧ x10 < (x1.length : Int)) ∧ (A105_m ((x1.getD x10.toNat 0).toNat : Int) b0 (fun y3 => (I64 (x10 + 1) ∧ F_gB_m_l2 A104 A105_m n x1 x2 x9 (x10 + 1) y3 Ke))))))) ∧ ((decide (x10 < x9)) = false → Ke b0))

def C_gB_m (A104 : T_c_IsOfName) (A105_m : T_gE_m) : CallT sg := tab [(104, con [none] (q_c_IsOfName A104)), (105, shp sy Tryz.prog GT Tryz.f105.ntmps sl_gE_m sr_gE_m Tryz.f105.results.toList (g_gE_m A105_m))]
theorem Cok_gB_m (A104 : T_c_IsOfName) (A105_m : T_gE_m) (h104 : FO ro 104 (q_c_IsOfName A104)) (h105_m : ShOK sy Tryz.prog GT (ovD ro) ro Tryz.f105.ntmps (bodyOf Tryz.f105) sl_gE_m sr_gE_m (g_gE_m A105_m)) (o0 : Nat → Prop) : CalOK sy Tryz.prog GT (ovD ro) o0 ro (C_gB_m A104 A105_m) := (tab_cons (con_ok h104) (tab_cons (shp_ok (f := 105) (fn := Tryz.f105) (c := bodyOf Tryz.f105) (fun _ _ => rfl) Tryz.func105 (by kernel_rfl) rfl rfl (by decide) h105_m) tab_nil)) o0

def ls_gB_m_2 : LS sy (Unit × (Bt) × Int × Int × Int × Unit) (List (sg.Den Cd.u8) × Unit) := ⟨[], fCons 0 (vLit sy (.o 0)) (fCons 1 (vStr sy) (fCons 2 (vInt sy .i64) (fCons 9 (vInt sy .i64) (fCons 10 (vInt sy .i64) (fNil sy))))), hBuf 0 Cd.u8 (hNil sy), 1, [0]⟩
def le_gB_m_2 : LS sy (Unit × Unit) (List (sg.Den Cd.u8) × Unit) := ⟨[], fCons 0 (vLit sy (.o 0)) (fNil sy), hBuf 0 Cd.u8 (hNil sy), 1, [0]⟩
def lr_gB_m_2 : LS sy Unit Unit := ⟨[], fNil sy, hNil sy, 1, []⟩
def FF_gB_m_2 (A104 : T_c_IsOfName) (A105_m : T_gE_m) (n : Nat) (x : (Unit × (Bt) × Int × Int × Int × Unit) × (List (sg.Den Cd.u8) × Unit)) (K : Ex → Z sg → Prop) : Prop := F_gB_m_l2 A104 A105_m n x.1.2.1 x.1.2.2.1 x.1.2.2.2.1 x.1.2.2.2.2.1 x.2.1 (fun y0 => K (.exit 0) (le_gB_m_2.put (((), ()), (y0, ()))))
def h_gB_m_2 (A104 : T_c_IsOfName) (A105_m : T_gE_m) (z : Z sg) (K : Ex → Z sg → Prop) : Prop := ls_gB_m_2.get z (fun x => ∃ n, FF_gB_m_2 A104 A105_m n x K)
def L_gB_m (A104 : T_c_IsOfName) (A105_m : T_gE_m) : LoopT sg := tabL [(2, h_gB_m_2 A104 A105_m)]
theorem hs_gB_m_2 (A104 : T_c_IsOfName) (A105_m : T_gE_m) (n : Nat) (x : (Unit × (Bt) × Int × Int × Int × Unit) × (List (sg.Den Cd.u8) × Unit)) (K : Ex → Z sg → Prop) : forceZ (ls_gB_m_2.put x) (fun z => sC sy Tryz.prog GT (C_gB_m A104 A105_m) (L_gB_m A104 A105_m) Tryz.f60.ntmps (nthLoop (bodyOf Tryz.f60) 0) z (rnd ls_gB_m_2 (czT 0 le_gB_m_2 lr_gB_m_2) (fun x => FF_gB_m_2 A104 A105_m n x K) K)) = FF_gB_m_2 A104 A105_m (n + 1) x K := by kernel_rfl
theorem hl_gB_m_2 (A104 : T_c_IsOfName) (A105_m : T_gE_m) (z : Z sg) (K : Ex → Z sg → Prop) : (L_gB_m A104 A105_m) (nthLoop (bodyOf Tryz.f60) 0) z K = ls_gB_m_2.get z (fun x => ∃ n, FF_gB_m_2 A104 A105_m n x K) := by kernel_rfl
theorem lo_gB_m_2 (A104 : T_c_IsOfName) (A105_m : T_gE_m) (h104 : FO ro 104 (q_c_IsOfName A104)) (h105_m : ShOK sy Tryz.prog GT (ovD ro) ro Tryz.f105.ntmps (bodyOf Tryz.f105) sl_gE_m sr_gE_m (g_gE_m A105_m)) : ∀ (o0 : Nat → Prop) (B : Bs sg), B.E.length ≤ 1 → ∀ z K, (L_gB_m A104 A105_m) (nthLoop (bodyOf Tryz.f60) 0) z K → Sx.Sem sy Tryz.prog GT (ovD ro) o0 ro Tryz.f60.ntmps B (.loop (nthLoop (bodyOf Tryz.f60) 0)) z K :=
  loop_ok (Cok_gB_m A104 A105_m h104 h105_m) (lp_of (l := []) (by kernel_rfl) lp_nil) ls_gB_m_2 (by decide) (czT 0 le_gB_m_2 lr_gB_m_2) (fun _ _ hB => czT_ok 0 le_gB_m_2 lr_gB_m_2 (Nat.le_trans hB (by decide)) (Nat.le_trans hB (by decide))) (fun _ _ h => h) (hs_gB_m_2 A104 A105_m) (hl_gB_m_2 A104 A105_m)
theorem Lp_gB_m (A104 : T_c_IsOfName) (A105_m : T_gE_m) (h104 : FO ro 104 (q_c_IsOfName A104)) (h105_m : ShOK sy Tryz.prog GT (ovD ro) ro Tryz.f105.ntmps (bodyOf Tryz.f105) sl_gE_m sr_gE_m (g_gE_m A105_m)) : LpOK sy Tryz.prog GT (ovD ro) ro (L_gB_m A104 A105_m) 1 Tryz.f60.ntmps (bodyOf Tryz.f60) := lp_of (l := [(nthLoop (bodyOf Tryz.f60) 0)]) (by kernel_rfl) (lp_cons (lo_gB_m_2 A104 A105_m h104 h105_m) lp_nil)


def sl_gB_m : LS sy (Unit × (Bt) × Int × Unit) (List (sg.Den Cd.u8) × Unit) := ⟨[], fCons 0 (vLit sy (.o 0)) (fCons 1 (vStr sy) (fCons 2 (vInt sy .i64) (fNil sy))), hBuf 0 Cd.u8 (hNil sy), 1, []⟩
def sr_gB_m : LS sy (Unit × Unit) (List (sg.Den Cd.u8) × Unit) := ⟨[], fCons 6 (vLit sy (.o 0)) (fNil sy), hBuf 0 Cd.u8 (hNil sy), 1, [0]⟩
abbrev T_gB_m := (Bt) → Int → (Bt) → (Bt → Prop) → Prop
def g_gB_m (A : T_gB_m) (x : (Unit × (Bt) × Int × Unit) × (List (sg.Den Cd.u8) × Unit)) (K : (Unit × Unit) × (List (sg.Den Cd.u8) × Unit) → Prop) : Prop := A x.1.2.1 x.1.2.2.1 x.2.1 (fun y0 => K (((), ()), (y0, ())))
def F_gB_m (A104 : T_c_IsOfName) (A105_m : T_gE_m) (x1 : Bt) (x2 : Int) (b0 : Bt) (K : (Bt → Prop)) : Prop :=
  (∃ m, F_gB_m_l2 A104 A105_m m x1 x2 (x1.length : Int) (0 : Int) b0 (fun y1 => K y1))

theorem tie_gB_m (A104 : T_c_IsOfName) (A105_m : T_gE_m) (x : (Unit × (Bt) × Int × Unit) × (List (sg.Den Cd.u8) × Unit)) (K : (Unit × Unit) × (List (sg.Den Cd.u8) × Unit) → Prop) : forceZ (sl_gB_m.put x) (fun z => sC sy Tryz.prog GT (C_gB_m A104 A105_m) (L_gB_m A104 A105_m) Tryz.f60.ntmps (bodyOf Tryz.f60) z (fin2 sr_gB_m K)) = g_gB_m (F_gB_m A104 A105_m) x K := by kernel_rfl
theorem ok_gB_m (A104 : T_c_IsOfName) (A105_m : T_gE_m) (h104 : FO ro 104 (q_c_IsOfName A104)) (h105_m : ShOK sy Tryz.prog GT (ovD ro) ro Tryz.f105.ntmps (bodyOf Tryz.f105) sl_gE_m sr_gE_m (g_gE_m A105_m)) : ShOK sy Tryz.prog GT (ovD ro) ro Tryz.f60.ntmps (bodyOf Tryz.f60) sl_gB_m sr_gB_m (g_gB_m (F_gB_m A104 A105_m)) := sh_of (Cok_gB_m A104 A105_m h104 h105_m) (Lp_gB_m A104 A105_m h104 h105_m) (tie_gB_m A104 A105_m)

def C_gN_m (A50 : T_glue_obstacle) (A60_m : T_gB_m) : CallT sg := tab [(50, con [none] (q_glue_obstacle A50)), (60, shp sy Tryz.prog GT Tryz.f60.ntmps sl_gB_m sr_gB_m Tryz.f60.results.toList (g_gB_m A60_m))]
theorem Cok_gN_m (A50 : T_glue_obstacle) (A60_m : T_gB_m) (h50 : FO ro 50 (q_glue_obstacle A50)) (h60_m : ShOK sy Tryz.prog GT (ovD ro) ro Tryz.f60.ntmps (bodyOf Tryz.f60) sl_gB_m sr_gB_m (g_gB_m A60_m)) (o0 : Nat → Prop) : CalOK sy Tryz.prog GT (ovD ro) o0 ro (C_gN_m A50 A60_m) := (tab_cons (con_ok h50) (tab_cons (shp_ok (f := 60) (fn := Tryz.f60) (c := bodyOf Tryz.f60) (fun _ _ => rfl) Tryz.func60 (by kernel_rfl) rfl rfl (by decide) h60_m) tab_nil)) o0

def sl_gN_m : LS sy (Unit × (Bt) × Unit) (List (sg.Den Cd.u8) × Unit) := ⟨[.slot 0 0 Cd.u8], fCons 0 (vLit sy (.o 0)) (fCons 1 (vStr sy) (fNil sy)), hBuf 0 Cd.u8 (hNil sy), 1, []⟩
def sr_gN_m : LS sy (Unit × Unit) (List (sg.Den Cd.u8) × Unit) := ⟨[], fCons 4 (vLit sy (.o 0)) (fNil sy), hBuf 0 Cd.u8 (hNil sy), 1, [0]⟩
abbrev T_gN_m := (Bt) → (Bt) → (Bt → Prop) → Prop
def g_gN_m (A : T_gN_m) (x : (Unit × (Bt) × Unit) × (List (sg.Den Cd.u8) × Unit)) (K : (Unit × Unit) × (List (sg.Den Cd.u8) × Unit) → Prop) : Prop := A x.1.2.1 x.2.1 (fun y0 => K (((), ()), (y0, ())))
def F_gN_m (A50 : T_glue_obstacle) (A60_m : T_gB_m) (x1 : Bt) (b0 : Bt) (K : (Bt → Prop)) : Prop :=
  (A50 x1 (fun y1 => (A60_m x1 y1 b0 (fun y2 => K y2))))

theorem tie_gN_m (A50 : T_glue_obstacle) (A60_m : T_gB_m) (x : (Unit × (Bt) × Unit) × (List (sg.Den Cd.u8) × Unit)) (K : (Unit × Unit) × (List (sg.Den Cd.u8) × Unit) → Prop) : forceZ (sl_gN_m.put x) (fun z => sC sy Tryz.prog GT (C_gN_m A50 A60_m) noL Tryz.f35.ntmps (bodyOf Tryz.f35) z (fin2 sr_gN_m K)) = g_gN_m (F_gN_m A50 A60_m) x K := by kernel_rfl
theorem ok_gN_m (A50 : T_glue_obstacle) (A60_m : T_gB_m) (h50 : FO ro 50 (q_glue_obstacle A50)) (h60_m : ShOK sy Tryz.prog GT (ovD ro) ro Tryz.f60.ntmps (bodyOf Tryz.f60) sl_gB_m sr_gB_m (g_gB_m A60_m)) : ShOK sy Tryz.prog GT (ovD ro) ro Tryz.f35.ntmps (bodyOf Tryz.f35) sl_gN_m sr_gN_m (g_gN_m (F_gN_m A50 A60_m)) := sh_of (Cok_gN_m A50 A60_m h50 h60_m) (lp_of (l := []) (by kernel_rfl) lp_nil) (tie_gN_m A50 A60_m)

abbrev T_glue_Name := Bt → (Bt → Int → Prop) → Prop
def q_glue_Name (A : T_glue_Name) (us : List W) (k : W → Prop) : Prop := match us with
  | [.s a0] => A a0 (fun r0 r1 => k (.t [.s r0, .i .i64 r1]))
  | _ => False
theorem q_glue_Name_weak {A A2 : T_glue_Name} (h : FO ro 16 (q_glue_Name A)) (hA : ∀ a0 K, A2 a0 K → A a0 K) : FO ro 16 (q_glue_Name A2) := h.weak (by
  intro us k h
  unfold q_glue_Name at h ⊢
  split at h
  · exact hA _ _ h
  · exact h.elim)

def F_glue_Name (A33 : T_glue_isName) (A34 : T_gs_IndexByte) (A35_m : T_gN_m) (a0 : Bt) (K : Bt → Int → Prop) : Prop :=
  (A33 a0 (fun y1 => (((!y1) = false → (A34 a0 (0 : Int) (fun y2 => (((decide ((0 : Int) ≤ y2)) = true → K ([] : Bt) (8 : Int)) ∧ ((decide ((0 : Int) ≤ y2)) = false → (((decide ((4000 : Int) < (a0.length : Int))) = true → K ([] : Bt) (28 : Int)) ∧ ((decide ((4000 : Int) < (a0.length : Int))) = false → (A35_m a0 ([] : Bt) (fun y3 => (((decide ((4000 : Int) < (y3.length : Int))) = true → K ([] : Bt) (28 : Int)) ∧ ((decide ((4000 : Int) < (y3.length : Int))) = false → K y3 (0 : Int)))))))))))) ∧ ((!y1) = true → K ([] : Bt) (8 : Int)))))

def C_glue_Name (A33 : T_glue_isName) (A34 : T_gs_IndexByte) (A35_m : T_gN_m) : CallT sg := tab [(33, con [none] (q_glue_isName A33)), (34, con [none, none] (q_gs_IndexByte A34)), (35, shp sy Tryz.prog GT Tryz.f35.ntmps sl_gN_m sr_gN_m Tryz.f35.results.toList (g_gN_m A35_m))]
theorem Cok_glue_Name (A33 : T_glue_isName) (A34 : T_gs_IndexByte) (A35_m : T_gN_m) (h33 : FO ro 33 (q_glue_isName A33)) (h34 : FO ro 34 (q_gs_IndexByte A34)) (h35_m : ShOK sy Tryz.prog GT (ovD ro) ro Tryz.f35.ntmps (bodyOf Tryz.f35) sl_gN_m sr_gN_m (g_gN_m A35_m)) (o0 : Nat → Prop) : CalOK sy Tryz.prog GT (ovD ro) o0 ro (C_glue_Name A33 A34 A35_m) := (tab_cons (con_ok h33) (tab_cons (con_ok h34) (tab_cons (shp_ok (f := 35) (fn := Tryz.f35) (c := bodyOf Tryz.f35) (fun _ _ => rfl) Tryz.func35 (by kernel_rfl) rfl rfl (by decide) h35_m) tab_nil))) o0

theorem raw_glue_Name (A33 : T_glue_isName) (A34 : T_gs_IndexByte) (A35_m : T_gN_m) (a0 : Bt) (k : W → Prop) : fnT sy Tryz.prog GT (C_glue_Name A33 A34 A35_m) noL Tryz.f16.ntmps (bodyOf Tryz.f16) [none, none] Tryz.f16.results.toList [.s a0] k = F_glue_Name A33 A34 A35_m a0 (fun r0 r1 => k (.t [.s r0, .i .i64 r1])) := by kernel_rfl

theorem ok_glue_Name (A33 : T_glue_isName) (A34 : T_gs_IndexByte) (A35_m : T_gN_m) (h33 : FO ro 33 (q_glue_isName A33)) (h34 : FO ro 34 (q_gs_IndexByte A34)) (h35_m : ShOK sy Tryz.prog GT (ovD ro) ro Tryz.f35.ntmps (bodyOf Tryz.f35) sl_gN_m sr_gN_m (g_gN_m A35_m)) : FO ro 16 (q_glue_Name (F_glue_Name A33 A34 A35_m)) := (fn_ok (rc := [none, none]) (f := 16) (fn := Tryz.f16) (c := bodyOf Tryz.f16) (nt := Tryz.f16.ntmps) (res := Tryz.f16.results.toList) (C := C_glue_Name A33 A34 A35_m) (L := noL) (fun _ _ => rfl) Tryz.func16 (by kernel_rfl) rfl rfl (Cok_glue_Name A33 A34 A35_m h33 h34 h35_m) (lp_of (l := []) (by kernel_rfl) lp_nil)).weak (by
  intro us k h
  unfold q_glue_Name at h
  split at h
  · skip
    rename_i a0
    rw [raw_glue_Name A33 A34 A35_m a0 k]
    exact h
  · exact h.elim)

abbrev T_l_alive := (Bool → Prop) → Prop
def q_l_alive (A : T_l_alive) (us : List W) (k : W → Prop) : Prop := match us with
  | [] => A (fun r0 => k (.b r0))
  | _ => False
abbrev T_l_ident := Bt → (Tok → Prop) → Prop
def q_l_ident (A : T_l_ident) (us : List W) (k : W → Prop) : Prop := match us with
  | [.s a0] => A a0 (fun r0 => k (.a [.i .u8 r0.kind, .s r0.text, .i .i64 r0.num, .s r0.unit, .b r0.flag]))
  | _ => False
theorem q_l_ident_weak {A A2 : T_l_ident} (h : FO ro 13 (q_l_ident A)) (hA : ∀ a0 K, A2 a0 K → A a0 K) : FO ro 13 (q_l_ident A2) := h.weak (by
  intro us k h
  unfold q_l_ident at h ⊢
  split at h
  · exact hA _ _ h
  · exact h.elim)

def F_l_ident (a0 : Bt) (K : Tok → Prop) : Prop :=
  K (Tok.mk (1 : Int) a0 (0 : Int) ([] : Bt) false)

def C_l_ident : CallT sg := tab []
theorem Cok_l_ident (o0 : Nat → Prop) : CalOK sy Tryz.prog GT (ovD ro) o0 ro (C_l_ident) := tab_nil o0

theorem raw_l_ident (a0 : Bt) (k : W → Prop) : fnT sy Tryz.prog GT (C_l_ident) noL Tryz.f13.ntmps (bodyOf Tryz.f13) [none] Tryz.f13.results.toList [.s a0] k = F_l_ident a0 (fun r0 => k (.a [.i .u8 r0.kind, .s r0.text, .i .i64 r0.num, .s r0.unit, .b r0.flag])) := by kernel_rfl

theorem ok_l_ident : FO ro 13 (q_l_ident (F_l_ident)) := (fn_ok (rc := [none]) (f := 13) (fn := Tryz.f13) (c := bodyOf Tryz.f13) (nt := Tryz.f13.ntmps) (res := Tryz.f13.results.toList) (C := C_l_ident) (L := noL) (fun _ _ => rfl) Tryz.func13 (by kernel_rfl) rfl rfl (Cok_l_ident) (lp_of (l := []) (by kernel_rfl) lp_nil)).weak (by
  intro us k h
  unfold q_l_ident at h
  split at h
  · skip
    rename_i a0
    rw [raw_l_ident a0 k]
    exact h
  · exact h.elim)

abbrev T_l_GlueNamed := Bt → Bt → (Bool → Prop) → Prop
def q_l_GlueNamed (A : T_l_GlueNamed) (us : List W) (k : W → Prop) : Prop := match us with
  | [.s a0, .s a1] => A a0 a1 (fun r0 => k (.b r0))
  | _ => False
theorem q_l_GlueNamed_weak {A A2 : T_l_GlueNamed} (h : FO ro 7 (q_l_GlueNamed A)) (hA : ∀ a0 a1 K, A2 a0 a1 K → A a0 a1 K) : FO ro 7 (q_l_GlueNamed A2) := h.weak (by
  intro us k h
  unfold q_l_GlueNamed at h ⊢
  split at h
  · exact hA _ _ _ h
  · exact h.elim)

def F_l_GlueNamed (A17 : T_l_alive) (A16 : T_glue_Name) (A27 : T_k_Name) (A25 : T_TokensA) (A13 : T_l_ident) (a0 : Bt) (a1 : Bt) (K : Bool → Prop) : Prop :=
  (((decide ((300 : Int) < (a0.length : Int))) = false → (((decide ((300 : Int) < (a1.length : Int))) = true → (A17 (fun y1 => K y1))) ∧ ((decide ((300 : Int) < (a1.length : Int))) = false → (A16 a0 (fun y2 y3 => (A16 a1 (fun y4 y5 => (((decide (y3 ≠ 0)) = false → (((decide (y5 ≠ 0)) = true → (A17 (fun y6 => K y6))) ∧ ((decide (y5 ≠ 0)) = false → (A27 y2 (fun y7 y8 => (A25 y2 (fun y9 y10 => (((decide (y8 = 0)) = true → (((y7 == a0) = true → (((decide (y10 = 0)) = true → (((decide ((y9.length : Int) = (1 : Int))) = true → ((0 ≤ (0 : Int) ∧ (0 : Int) < (y9.length : Int)) ∧ (A13 a0 (fun y11 => (((decide ((y9.getD 0 (dfltD Cd.tok)).kind = y11.kind) && ((((y9.getD 0 (dfltD Cd.tok)).text) == y11.text) && (decide ((y9.getD 0 (dfltD Cd.tok)).num = y11.num) && ((((y9.getD 0 (dfltD Cd.tok)).unit) == y11.unit) && ((((y9.getD 0 (dfltD Cd.tok)).flag) == y11.flag) && true))))) = true → ((((y2 == y4) == (a0 == a1)) = true → (A17 (fun y12 => K y12))) ∧ (((y2 == y4) == (a0 == a1)) = false → K false))) ∧ ((decide ((y9.getD 0 (dfltD Cd.tok)).kind = y11.kind) && ((((y9.getD 0 (dfltD Cd.tok)).text) == y11.text) && (decide ((y9.getD 0 (dfltD Cd.tok)).num = y11.num) && ((((y9.getD 0 (dfltD Cd.tok)).unit) == y11.unit) && ((((y9.getD 0 (dfltD Cd.tok)).flag) == y11.flag) && true))))) = false → K false)))))) ∧ ((decide ((y9.length : Int) = (1 : Int))) = false → K false))) ∧ ((decide (y10 = 0)) = false → K false))) ∧ ((y7 == a0) = false → K false))) ∧ ((decide (y8 = 0)) = false → K false))))))))) ∧ ((decide (y3 ≠ 0)) = true → (A17 (fun y13 => K y13))))))))))) ∧ ((decide ((300 : Int) < (a0.length : Int))) = true → (A17 (fun y14 => K y14))))

def C_l_GlueNamed (A17 : T_l_alive) (A16 : T_glue_Name) (A27 : T_k_Name) (A25 : T_TokensA) (A13 : T_l_ident) : CallT sg := tab [(17, con [] (q_l_alive A17)), (16, con [none] (q_glue_Name A16)), (27, con [none] (q_k_Name A27)), (25, con [none] (q_TokensA A25)), (13, con [none] (q_l_ident A13))]
theorem Cok_l_GlueNamed (A17 : T_l_alive) (A16 : T_glue_Name) (A27 : T_k_Name) (A25 : T_TokensA) (A13 : T_l_ident) (h17 : FO ro 17 (q_l_alive A17)) (h16 : FO ro 16 (q_glue_Name A16)) (h27 : FO ro 27 (q_k_Name A27)) (h25 : FO ro 25 (q_TokensA A25)) (h13 : FO ro 13 (q_l_ident A13)) (o0 : Nat → Prop) : CalOK sy Tryz.prog GT (ovD ro) o0 ro (C_l_GlueNamed A17 A16 A27 A25 A13) := (tab_cons (con_ok h17) (tab_cons (con_ok h16) (tab_cons (con_ok h27) (tab_cons (con_ok h25) (tab_cons (con_ok h13) tab_nil))))) o0

theorem raw_l_GlueNamed (A17 : T_l_alive) (A16 : T_glue_Name) (A27 : T_k_Name) (A25 : T_TokensA) (A13 : T_l_ident) (a0 : Bt) (a1 : Bt) (k : W → Prop) : fnT sy Tryz.prog GT (C_l_GlueNamed A17 A16 A27 A25 A13) noL Tryz.f7.ntmps (bodyOf Tryz.f7) [none] Tryz.f7.results.toList [.s a0, .s a1] k = F_l_GlueNamed A17 A16 A27 A25 A13 a0 a1 (fun r0 => k (.b r0)) := by kernel_rfl

theorem ok_l_GlueNamed (A17 : T_l_alive) (A16 : T_glue_Name) (A27 : T_k_Name) (A25 : T_TokensA) (A13 : T_l_ident) (h17 : FO ro 17 (q_l_alive A17)) (h16 : FO ro 16 (q_glue_Name A16)) (h27 : FO ro 27 (q_k_Name A27)) (h25 : FO ro 25 (q_TokensA A25)) (h13 : FO ro 13 (q_l_ident A13)) : FO ro 7 (q_l_GlueNamed (F_l_GlueNamed A17 A16 A27 A25 A13)) := (fn_ok (rc := [none]) (f := 7) (fn := Tryz.f7) (c := bodyOf Tryz.f7) (nt := Tryz.f7.ntmps) (res := Tryz.f7.results.toList) (C := C_l_GlueNamed A17 A16 A27 A25 A13) (L := noL) (fun _ _ => rfl) Tryz.func7 (by kernel_rfl) rfl rfl (Cok_l_GlueNamed A17 A16 A27 A25 A13 h17 h16 h27 h25 h13) (lp_of (l := []) (by kernel_rfl) lp_nil)).weak (by
  intro us k h
  unfold q_l_GlueNamed at h
  split at h
  · skip
    rename_i a0 a1
    rw [raw_l_GlueNamed A17 A16 A27 A25 A13 a0 a1 k]
    exact h
  · exact h.elim)

end Go.Proofs.YtkmgbibhkilffaaGreatDoor
