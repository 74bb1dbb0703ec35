/-
  Weights are compared and added, followed. Nothing is claimed here.
-/
import Derived.Test.YtfpobnafniefpaaGreatDoorTa
import Derived.Test.YtfpobnafniefpaaGreatDoorOq
namespace Go.Proofs.YtfpobnafniefpaaGreatDoor
open Go.Vm Go.Sx Go.RowKit
variable {ro : Nat}

def GT : Gl := fun _ => none
noncomputable def ovD (ro : Nat) : Ov := ovA ro
def noT (_ : List W) (_ : W → Prop) : Prop := False
theorem noT_ok {ro : Nat} (f : FuncId) : FnOK sy Tryz.prog GT (ovD ro) ro f noT := fun _ _ _ h => h.elim

abbrev T_cmp_isNaN := Int → (Bool → Prop) → Prop
def q_cmp_isNaN (A : T_cmp_isNaN) (us : List W) (k : W → Prop) : Prop := match us with
  | [.i .i64 a0] => A a0 (fun r0 => k (.b r0))
  | _ => False
theorem q_cmp_isNaN_weak {A A2 : T_cmp_isNaN} (h : FnOK sy Tryz.prog GT (ovD ro) ro 47 (q_cmp_isNaN A)) (hA : ∀ a0 K, A2 a0 K → A a0 K) : FnOK sy Tryz.prog GT (ovD ro) ro 47 (q_cmp_isNaN A2) := h.weak (by
  intro us k h
  unfold q_cmp_isNaN at h ⊢
  split at h
  · exact hA _ _ h
  · exact h.elim)

def F_cmp_isNaN (a0 : Int) (K : Bool → Prop) : Prop :=
  K (decide (a0 ≠ a0))

def C_cmp_isNaN : CallT sg := tab []
theorem Cok_cmp_isNaN (o0 : Nat → Prop) : CalOK sy Tryz.prog GT (ovD ro) o0 ro (C_cmp_isNaN) := tab_nil o0

theorem raw_cmp_isNaN (a0 : Int) (k : W → Prop) : fnT sy Tryz.prog GT (C_cmp_isNaN) noL Tryz.f47.ntmps (bodyOf Tryz.f47) [none] Tryz.f47.results.toList [.i .i64 a0] k = F_cmp_isNaN a0 (fun r0 => k (.b r0)) := by kernel_rfl

theorem ok_cmp_isNaN : FnOK sy Tryz.prog GT (ovD ro) ro 47 (q_cmp_isNaN (F_cmp_isNaN)) := (fn_ok (rc := [none]) (f := 47) (fn := Tryz.f47) (c := bodyOf Tryz.f47) (nt := Tryz.f47.ntmps) (res := Tryz.f47.results.toList) (C := C_cmp_isNaN) (L := noL) (fun _ _ => rfl) Tryz.func47 (by kernel_rfl) rfl rfl (Cok_cmp_isNaN) (lp_of (l := []) (by kernel_rfl) lp_nil)).weak (by
  intro us k h
  unfold q_cmp_isNaN at h
  split at h
  · rw [raw_cmp_isNaN]; exact h
  · exact h.elim)

abbrev T_cmp_Compare := Int → Int → (Int → Prop) → Prop
def q_cmp_Compare (A : T_cmp_Compare) (us : List W) (k : W → Prop) : Prop := match us with
  | [.i .i64 a0, .i .i64 a1] => A a0 a1 (fun r0 => k (.i .i64 r0))
  | _ => False
theorem q_cmp_Compare_weak {A A2 : T_cmp_Compare} (h : FnOK sy Tryz.prog GT (ovD ro) ro 36 (q_cmp_Compare A)) (hA : ∀ a0 a1 K, A2 a0 a1 K → A a0 a1 K) : FnOK sy Tryz.prog GT (ovD ro) ro 36 (q_cmp_Compare A2) := h.weak (by
  intro us k h
  unfold q_cmp_Compare at h ⊢
  split at h
  · exact hA _ _ _ h
  · exact h.elim)

def F_cmp_Compare (A47 : T_cmp_isNaN) (a0 : Int) (a1 : Int) (K : Int → Prop) : Prop :=
  (A47 a0 (fun y1 => (A47 a1 (fun y2 => ((y1 = true → ((y2 = true → K (0 : Int)) ∧ (y2 = false → K (-1 : Int)))) ∧ (y1 = false → ((y2 = true → K (1 : Int)) ∧ (y2 = false → (((decide (a0 < a1)) = true → K (-1 : Int)) ∧ ((decide (a0 < a1)) = false → (((decide (a1 < a0)) = true → K (1 : Int)) ∧ ((decide (a1 < a0)) = false → K (0 : Int)))))))))))))

def C_cmp_Compare (A47 : T_cmp_isNaN) : CallT sg := tab [(47, con sy [none] (q_cmp_isNaN A47))]
theorem Cok_cmp_Compare (A47 : T_cmp_isNaN) (h47 : FnOK sy Tryz.prog GT (ovD ro) ro 47 (q_cmp_isNaN A47)) (o0 : Nat → Prop) : CalOK sy Tryz.prog GT (ovD ro) o0 ro (C_cmp_Compare A47) := (tab_cons (con_ok h47) tab_nil) o0

theorem raw_cmp_Compare (A47 : T_cmp_isNaN) (a0 : Int) (a1 : Int) (k : W → Prop) : fnT sy Tryz.prog GT (C_cmp_Compare A47) noL Tryz.f36.ntmps (bodyOf Tryz.f36) [none] Tryz.f36.results.toList [.i .i64 a0, .i .i64 a1] k = F_cmp_Compare A47 a0 a1 (fun r0 => k (.i .i64 r0)) := by kernel_rfl

theorem ok_cmp_Compare (A47 : T_cmp_isNaN) (h47 : FnOK sy Tryz.prog GT (ovD ro) ro 47 (q_cmp_isNaN A47)) : FnOK sy Tryz.prog GT (ovD ro) ro 36 (q_cmp_Compare (F_cmp_Compare A47)) := (fn_ok (rc := [none]) (f := 36) (fn := Tryz.f36) (c := bodyOf Tryz.f36) (nt := Tryz.f36.ntmps) (res := Tryz.f36.results.toList) (C := C_cmp_Compare A47) (L := noL) (fun _ _ => rfl) Tryz.func36 (by kernel_rfl) rfl rfl (Cok_cmp_Compare A47 h47) (lp_of (l := []) (by kernel_rfl) lp_nil)).weak (by
  intro us k h
  unfold q_cmp_Compare at h
  split at h
  · rw [raw_cmp_Compare]; exact h
  · exact h.elim)

abbrev T_sl_Compare := List Int → List Int → (Int → Prop) → Prop
def q_sl_Compare (A : T_sl_Compare) (us : List W) (k : W → Prop) : Prop := match us with
  | [.l Cd.i64 a0, .l Cd.i64 a1] => A a0 a1 (fun r0 => k (.i .i64 r0))
  | _ => False
theorem q_sl_Compare_weak {A A2 : T_sl_Compare} (h : FnOK sy Tryz.prog GT (ovD ro) ro 24 (q_sl_Compare A)) (hA : ∀ a0 a1 K, A2 a0 a1 K → A a0 a1 K) : FnOK sy Tryz.prog GT (ovD ro) ro 24 (q_sl_Compare A2) := h.weak (by
  intro us k h
  unfold q_sl_Compare at h ⊢
  split at h
  · exact hA _ _ _ h
  · exact h.elim)

def F_sl_Compare_l2 (A36 : T_cmp_Compare) : Nat → List Int → List Int → List Int → Int → Int → (List Int → List Int → Prop) → (Int → Prop) → Prop
  | 0, _, _, _, _, _, _, _ => False
  | n + 1, x0, x1, x9, x10, x11, Ke, Kr => (((decide (x11 < x10)) = true → ((0 ≤ x11 ∧ x11 < (x9.length : Int)) ∧ (((decide ((x1.length : Int) ≤ x11)) = true → Kr (1 : Int)) ∧ ((decide ((x1.length : Int) ≤ x11)) = false → ((0 ≤ x11 ∧ x11 < (x1.length : Int)) ∧ (A36 (id (x9.getD x11.toNat (dfltD Cd.i64)) : Int) (id (x1.getD x11.toNat (dfltD Cd.i64)) : Int) (fun y1 => (((decide (y1 ≠ (0 : Int))) = true → Kr y1) ∧ ((decide (y1 ≠ (0 : Int))) = false → (I64 (x11 + (1 : Int)) ∧ F_sl_Compare_l2 A36 n x0 x1 x9 x10 (x11 + (1 : Int)) Ke Kr)))))))))) ∧ ((decide (x11 < x10)) = false → Ke x0 x1))

def F_sl_Compare (A36 : T_cmp_Compare) (a0 : List Int) (a1 : List Int) (K : Int → Prop) : Prop :=
  (∃ m, F_sl_Compare_l2 A36 m a0 a1 a0 (a0.length : Int) (0 : Int) (fun y1 y2 => (((decide ((y1.length : Int) < (y2.length : Int))) = true → K (-1 : Int)) ∧ ((decide ((y1.length : Int) < (y2.length : Int))) = false → K (0 : Int)))) (fun y3 => K y3))

def C_sl_Compare (A36 : T_cmp_Compare) : CallT sg := tab [(36, con sy [none, none] (q_cmp_Compare A36))]
theorem Cok_sl_Compare (A36 : T_cmp_Compare) (h36 : FnOK sy Tryz.prog GT (ovD ro) ro 36 (q_cmp_Compare A36)) (o0 : Nat → Prop) : CalOK sy Tryz.prog GT (ovD ro) o0 ro (C_sl_Compare A36) := (tab_cons (con_ok h36) tab_nil) o0

abbrev Ya_sl_Compare_2 : Type := ((List (sg.Den Cd.i64)) × (List (sg.Den Cd.i64)) × (List (sg.Den Cd.i64)) × Int × Int × Unit)
abbrev Yb_sl_Compare_2 : Type := Unit
def ls_sl_Compare_2 : LS sy Ya_sl_Compare_2 Yb_sl_Compare_2 := ⟨[], fCons 0 (vData sy Cd.i64) (fCons 1 (vData sy Cd.i64) (fCons 9 (vData sy Cd.i64) (fCons 10 (vInt sy .i64) (fCons 11 (vInt sy .i64) (fNil sy))))), hNil sy, 0, []⟩
def le_sl_Compare_2 : LS sy ((List (sg.Den Cd.i64)) × (List (sg.Den Cd.i64)) × Unit) Unit := ⟨[], fCons 0 (vData sy Cd.i64) (fCons 1 (vData sy Cd.i64) (fNil sy)), hNil sy, 0, []⟩
def lr_sl_Compare_2 : LS sy (Int × Unit) Unit := ⟨[], fCons 4 (vInt sy .i64) (fNil sy), hNil sy, 0, []⟩
def FF_sl_Compare_2 (A36 : T_cmp_Compare) (n : Nat) (x : Ya_sl_Compare_2 × Yb_sl_Compare_2) (K : Ex → Z sg → Prop) : Prop := F_sl_Compare_l2 A36 n x.1.1 x.1.2.1 x.1.2.2.1 x.1.2.2.2.1 x.1.2.2.2.2.1 (fun y0 y1 => K (.exit 0) (le_sl_Compare_2.put ((y0, y1, ()), ()))) (fun y0 => K .ret (lr_sl_Compare_2.put ((y0, ()), ())))
def h_sl_Compare_2 (A36 : T_cmp_Compare) (z : Z sg) (K : Ex → Z sg → Prop) : Prop := ls_sl_Compare_2.get z (fun x => ∃ n, FF_sl_Compare_2 A36 n x K)
def L_sl_Compare (A36 : T_cmp_Compare) : LoopT sg := tabL [(2, h_sl_Compare_2 A36)]
theorem hs_sl_Compare_2 (A36 : T_cmp_Compare) (n : Nat) (x : Ya_sl_Compare_2 × Yb_sl_Compare_2) (K : Ex → Z sg → Prop) : forceZ (ls_sl_Compare_2.put x) (fun z => sC sy Tryz.prog GT (C_sl_Compare A36) (L_sl_Compare A36) Tryz.f24.ntmps (nthLoop (bodyOf Tryz.f24) 0) z (rnd ls_sl_Compare_2 (czT 0 le_sl_Compare_2 lr_sl_Compare_2) (fun x => FF_sl_Compare_2 A36 n x K) K)) = FF_sl_Compare_2 A36 (n + 1) x K := by kernel_rfl
theorem hl_sl_Compare_2 (A36 : T_cmp_Compare) (z : Z sg) (K : Ex → Z sg → Prop) : (L_sl_Compare A36) (nthLoop (bodyOf Tryz.f24) 0) z K = ls_sl_Compare_2.get z (fun x => ∃ n, FF_sl_Compare_2 A36 n x K) := by kernel_rfl
theorem lo_sl_Compare_2 (A36 : T_cmp_Compare) (h36 : FnOK sy Tryz.prog GT (ovD ro) ro 36 (q_cmp_Compare A36)) : ∀ (o0 : Nat → Prop) (B : Bs sg), B.E.length ≤ 0 → ∀ z K, (L_sl_Compare A36) (nthLoop (bodyOf Tryz.f24) 0) z K → Sx.Sem sy Tryz.prog GT (ovD ro) o0 ro Tryz.f24.ntmps B (.loop (nthLoop (bodyOf Tryz.f24) 0)) z K :=
  loop_ok (Cok_sl_Compare A36 h36) (lp_of (l := []) (by kernel_rfl) lp_nil) ls_sl_Compare_2 (by decide) (czT 0 le_sl_Compare_2 lr_sl_Compare_2) (fun _ _ hB => czT_ok 0 le_sl_Compare_2 lr_sl_Compare_2 (Nat.le_trans hB (by decide)) (Nat.le_trans hB (by decide))) (fun _ _ h => h) (hs_sl_Compare_2 A36) (hl_sl_Compare_2 A36)
theorem Lp_sl_Compare (A36 : T_cmp_Compare) (h36 : FnOK sy Tryz.prog GT (ovD ro) ro 36 (q_cmp_Compare A36)) : LpOK sy Tryz.prog GT (ovD ro) ro (L_sl_Compare A36) 0 Tryz.f24.ntmps (bodyOf Tryz.f24) := lp_of (l := [(nthLoop (bodyOf Tryz.f24) 0)]) (by kernel_rfl) (lp_cons (lo_sl_Compare_2 A36 h36) lp_nil)


theorem raw_sl_Compare (A36 : T_cmp_Compare) (a0 : List Int) (a1 : List Int) (k : W → Prop) : fnT sy Tryz.prog GT (C_sl_Compare A36) (L_sl_Compare A36) Tryz.f24.ntmps (bodyOf Tryz.f24) [none] Tryz.f24.results.toList [.l Cd.i64 a0, .l Cd.i64 a1] k = F_sl_Compare A36 a0 a1 (fun r0 => k (.i .i64 r0)) := by kernel_rfl

theorem ok_sl_Compare (A36 : T_cmp_Compare) (h36 : FnOK sy Tryz.prog GT (ovD ro) ro 36 (q_cmp_Compare A36)) : FnOK sy Tryz.prog GT (ovD ro) ro 24 (q_sl_Compare (F_sl_Compare A36)) := (fn_ok (rc := [none]) (f := 24) (fn := Tryz.f24) (c := bodyOf Tryz.f24) (nt := Tryz.f24.ntmps) (res := Tryz.f24.results.toList) (C := C_sl_Compare A36) (L := (L_sl_Compare A36)) (fun _ _ => rfl) Tryz.func24 (by kernel_rfl) rfl rfl (Cok_sl_Compare A36 h36) (Lp_sl_Compare A36 h36)).weak (by
  intro us k h
  unfold q_sl_Compare at h
  split at h
  · skip
    rename_i a0 a1
    rw [raw_sl_Compare A36 a0 a1 k]
    exact h
  · exact h.elim)

abbrev T_w_cmp := (Int × Int × Int) → (Int × Int × Int) → (Int → Prop) → Prop
def q_w_cmp (A : T_w_cmp) (us : List W) (k : W → Prop) : Prop := match us with
  | [.a [.i .i64 a0_0, .i .i64 a0_1, .i .i64 a0_2], .a [.i .i64 a1_0, .i .i64 a1_1, .i .i64 a1_2]] => A (a0_0, a0_1, a0_2) (a1_0, a1_1, a1_2) (fun r0 => k (.i .i64 r0))
  | _ => False
theorem q_w_cmp_weak {A A2 : T_w_cmp} (h : FnOK sy Tryz.prog GT (ovD ro) ro 17 (q_w_cmp A)) (hA : ∀ a0 a1 K, A2 a0 a1 K → A a0 a1 K) : FnOK sy Tryz.prog GT (ovD ro) ro 17 (q_w_cmp A2) := h.weak (by
  intro us k h
  unfold q_w_cmp at h ⊢
  split at h
  · exact hA _ _ _ h
  · exact h.elim)

def F_w_cmp (A24 : T_sl_Compare) (a0 : (Int × Int × Int)) (a1 : (Int × Int × Int)) (K : Int → Prop) : Prop :=
  (A24 [a0.1, a0.2.1, a0.2.2] [a1.1, a1.2.1, a1.2.2] (fun y1 => K y1))

def C_w_cmp (A24 : T_sl_Compare) : CallT sg := tab [(24, con sy [some Cd.i64, some Cd.i64] (q_sl_Compare A24))]
theorem Cok_w_cmp (A24 : T_sl_Compare) (h24 : FnOK sy Tryz.prog GT (ovD ro) ro 24 (q_sl_Compare A24)) (o0 : Nat → Prop) : CalOK sy Tryz.prog GT (ovD ro) o0 ro (C_w_cmp A24) := (tab_cons (con_ok h24) tab_nil) o0

theorem raw_w_cmp (A24 : T_sl_Compare) (a0 : (Int × Int × Int)) (a1 : (Int × Int × Int)) (k : W → Prop) : fnT sy Tryz.prog GT (C_w_cmp A24) noL Tryz.f17.ntmps (bodyOf Tryz.f17) [none] Tryz.f17.results.toList [.a [.i .i64 a0.1, .i .i64 a0.2.1, .i .i64 a0.2.2], .a [.i .i64 a1.1, .i .i64 a1.2.1, .i .i64 a1.2.2]] k = F_w_cmp A24 a0 a1 (fun r0 => k (.i .i64 r0)) := by kernel_rfl

theorem ok_w_cmp (A24 : T_sl_Compare) (h24 : FnOK sy Tryz.prog GT (ovD ro) ro 24 (q_sl_Compare A24)) : FnOK sy Tryz.prog GT (ovD ro) ro 17 (q_w_cmp (F_w_cmp A24)) := (fn_ok (rc := [none]) (f := 17) (fn := Tryz.f17) (c := bodyOf Tryz.f17) (nt := Tryz.f17.ntmps) (res := Tryz.f17.results.toList) (C := C_w_cmp A24) (L := noL) (fun _ _ => rfl) Tryz.func17 (by kernel_rfl) rfl rfl (Cok_w_cmp A24 h24) (lp_of (l := []) (by kernel_rfl) lp_nil)).weak (by
  intro us k h
  unfold q_w_cmp at h
  split at h
  · skip
    rename_i a0_0 a0_1 a0_2 a1_0 a1_1 a1_2
    rw [raw_w_cmp A24 (a0_0, a0_1, a0_2) (a1_0, a1_1, a1_2) k]
    exact h
  · exact h.elim)

abbrev T_w_isValid := (Int × Int × Int) → (Bool → Prop) → Prop
def q_w_isValid (A : T_w_isValid) (us : List W) (k : W → Prop) : Prop := match us with
  | [.a [.i .i64 a0_0, .i .i64 a0_1, .i .i64 a0_2]] => A (a0_0, a0_1, a0_2) (fun r0 => k (.b r0))
  | _ => False
theorem q_w_isValid_weak {A A2 : T_w_isValid} (h : FnOK sy Tryz.prog GT (ovD ro) ro 16 (q_w_isValid A)) (hA : ∀ a0 K, A2 a0 K → A a0 K) : FnOK sy Tryz.prog GT (ovD ro) ro 16 (q_w_isValid A2) := h.weak (by
  intro us k h
  unfold q_w_isValid at h ⊢
  split at h
  · exact hA _ _ h
  · exact h.elim)

def F_w_isValid_l2 : Nat → Int → Int → Int → Int → (Unit → Prop) → (Bool → Prop) → Prop
  | 0, _, _, _, _, _, _ => False
  | n + 1, x5_0, x5_1, x5_2, x6, Ke, Kr => (((decide (x6 < (3 : Int))) = true → ((0 ≤ x6 ∧ x6 < (3 : Int)) ∧ ((x6 = 0 → ((0 ≤ (0 : Int) ∧ (0 : Int) < (3 : Int)) ∧ (((decide (x5_0 < (0 : Int))) = false → (((decide ((4000 : Int) < x5_0)) = true → Kr false) ∧ ((decide ((4000 : Int) < x5_0)) = false → (I64 (x6 + (1 : Int)) ∧ F_w_isValid_l2 n x5_0 x5_1 x5_2 (x6 + (1 : Int)) Ke Kr)))) ∧ ((decide (x5_0 < (0 : Int))) = true → Kr false)))) ∧ ((x6 = 1 → ((0 ≤ (1 : Int) ∧ (1 : Int) < (3 : Int)) ∧ (((decide (x5_1 < (0 : Int))) = false → (((decide ((4000 : Int) < x5_1)) = true → Kr false) ∧ ((decide ((4000 : Int) < x5_1)) = false → (I64 (x6 + (1 : Int)) ∧ F_w_isValid_l2 n x5_0 x5_1 x5_2 (x6 + (1 : Int)) Ke Kr)))) ∧ ((decide (x5_1 < (0 : Int))) = true → Kr false)))) ∧ ((x6 = 2 → ((0 ≤ (2 : Int) ∧ (2 : Int) < (3 : Int)) ∧ (((decide (x5_2 < (0 : Int))) = false → (((decide ((4000 : Int) < x5_2)) = true → Kr false) ∧ ((decide ((4000 : Int) < x5_2)) = false → (I64 (x6 + (1 : Int)) ∧ F_w_isValid_l2 n x5_0 x5_1 x5_2 (x6 + (1 : Int)) Ke Kr)))) ∧ ((decide (x5_2 < (0 : Int))) = true → Kr false)))) ∧ True))))) ∧ ((decide (x6 < (3 : Int))) = false → Ke ()))

def F_w_isValid (a0 : (Int × Int × Int)) (K : Bool → Prop) : Prop :=
  (∃ m, F_w_isValid_l2 m a0.1 a0.2.1 a0.2.2 (0 : Int) (fun _ => K true) (fun y1 => K y1))

def C_w_isValid : CallT sg := tab []
theorem Cok_w_isValid (o0 : Nat → Prop) : CalOK sy Tryz.prog GT (ovD ro) o0 ro (C_w_isValid) := tab_nil o0

abbrev Ya_w_isValid_2 : Type := ((Int × Int × Int × Unit) × Int × Unit)
abbrev Yb_w_isValid_2 : Type := Unit
def ls_w_isValid_2 : LS sy Ya_w_isValid_2 Yb_w_isValid_2 := ⟨[], fCons 5 (vAgg (lCons (vInt sy .i64) (lCons (vInt sy .i64) (lCons (vInt sy .i64) (lNil sy))))) (fCons 6 (vInt sy .i64) (fNil sy)), hNil sy, 0, []⟩
def le_w_isValid_2 : LS sy Unit Unit := ⟨[], fNil sy, hNil sy, 0, []⟩
def lr_w_isValid_2 : LS sy (Bool × Unit) Unit := ⟨[], fCons 2 (vBool sy) (fNil sy), hNil sy, 0, []⟩
def FF_w_isValid_2 (n : Nat) (x : Ya_w_isValid_2 × Yb_w_isValid_2) (K : Ex → Z sg → Prop) : Prop := F_w_isValid_l2 n x.1.1.1 x.1.1.2.1 x.1.1.2.2.1 x.1.2.1 (fun _ => K (.exit 0) (le_w_isValid_2.put ((), ()))) (fun y0 => K .ret (lr_w_isValid_2.put ((y0, ()), ())))
def h_w_isValid_2 (z : Z sg) (K : Ex → Z sg → Prop) : Prop := ls_w_isValid_2.get z (fun x => ∃ n, FF_w_isValid_2 n x K)
def L_w_isValid : LoopT sg := tabL [(2, h_w_isValid_2)]
theorem hs_w_isValid_2 (n : Nat) (x : Ya_w_isValid_2 × Yb_w_isValid_2) (K : Ex → Z sg → Prop) : forceZ (ls_w_isValid_2.put x) (fun z => sC sy Tryz.prog GT (C_w_isValid) (L_w_isValid) Tryz.f16.ntmps (nthLoop (bodyOf Tryz.f16) 0) z (rnd ls_w_isValid_2 (czT 0 le_w_isValid_2 lr_w_isValid_2) (fun x => FF_w_isValid_2 n x K) K)) = FF_w_isValid_2 (n + 1) x K := by kernel_rfl
theorem hl_w_isValid_2 (z : Z sg) (K : Ex → Z sg → Prop) : (L_w_isValid) (nthLoop (bodyOf Tryz.f16) 0) z K = ls_w_isValid_2.get z (fun x => ∃ n, FF_w_isValid_2 n x K) := by kernel_rfl
theorem lo_w_isValid_2 : ∀ (o0 : Nat → Prop) (B : Bs sg), B.E.length ≤ 0 → ∀ z K, (L_w_isValid) (nthLoop (bodyOf Tryz.f16) 0) z K → Sx.Sem sy Tryz.prog GT (ovD ro) o0 ro Tryz.f16.ntmps B (.loop (nthLoop (bodyOf Tryz.f16) 0)) z K :=
  loop_ok (Cok_w_isValid) (lp_of (l := []) (by kernel_rfl) lp_nil) ls_w_isValid_2 (by decide) (czT 0 le_w_isValid_2 lr_w_isValid_2) (fun _ _ hB => czT_ok 0 le_w_isValid_2 lr_w_isValid_2 (Nat.le_trans hB (by decide)) (Nat.le_trans hB (by decide))) (fun _ _ h => h) (hs_w_isValid_2) (hl_w_isValid_2)
theorem Lp_w_isValid : LpOK sy Tryz.prog GT (ovD ro) ro (L_w_isValid) 0 Tryz.f16.ntmps (bodyOf Tryz.f16) := lp_of (l := [(nthLoop (bodyOf Tryz.f16) 0)]) (by kernel_rfl) (lp_cons (lo_w_isValid_2) lp_nil)


theorem raw_w_isValid (a0 : (Int × Int × Int)) (k : W → Prop) : fnT sy Tryz.prog GT (C_w_isValid) (L_w_isValid) Tryz.f16.ntmps (bodyOf Tryz.f16) [none] Tryz.f16.results.toList [.a [.i .i64 a0.1, .i .i64 a0.2.1, .i .i64 a0.2.2]] k = F_w_isValid a0 (fun r0 => k (.b r0)) := by kernel_rfl

theorem ok_w_isValid : FnOK sy Tryz.prog GT (ovD ro) ro 16 (q_w_isValid (F_w_isValid)) := (fn_ok (rc := [none]) (f := 16) (fn := Tryz.f16) (c := bodyOf Tryz.f16) (nt := Tryz.f16.ntmps) (res := Tryz.f16.results.toList) (C := C_w_isValid) (L := (L_w_isValid)) (fun _ _ => rfl) Tryz.func16 (by kernel_rfl) rfl rfl (Cok_w_isValid) (Lp_w_isValid)).weak (by
  intro us k h
  unfold q_w_isValid at h
  split at h
  · skip
    rename_i a0_0 a0_1 a0_2
    rw [raw_w_isValid (a0_0, a0_1, a0_2) k]
    exact h
  · exact h.elim)

abbrev T_w_sum := (Int × Int × Int) → (Int × Int × Int) → ((Int × Int × Int) → Prop) → Prop
def q_w_sum (A : T_w_sum) (us : List W) (k : W → Prop) : Prop := match us with
  | [.a [.i .i64 a0_0, .i .i64 a0_1, .i .i64 a0_2], .a [.i .i64 a1_0, .i .i64 a1_1, .i .i64 a1_2]] => A (a0_0, a0_1, a0_2) (a1_0, a1_1, a1_2) (fun r0 => k (.a [.i .i64 r0.1, .i .i64 r0.2.1, .i .i64 r0.2.2]))
  | _ => False
theorem q_w_sum_weak {A A2 : T_w_sum} (h : FnOK sy Tryz.prog GT (ovD ro) ro 18 (q_w_sum A)) (hA : ∀ a0 a1 K, A2 a0 a1 K → A a0 a1 K) : FnOK sy Tryz.prog GT (ovD ro) ro 18 (q_w_sum A2) := h.weak (by
  intro us k h
  unfold q_w_sum at h ⊢
  split at h
  · exact hA _ _ _ h
  · exact h.elim)

def F_w_sum_l2 : Nat → Int → Int → Int → Int → Int → Int → Int → Int → Int → Int → (Int → Int → Int → Int → Int → Int → Prop) → Prop
  | 0, _, _, _, _, _, _, _, _, _, _, _ => False
  | n + 1, x7_0, x7_1, x7_2, x8, c0_0, c0_1, c0_2, c2_0, c2_1, c2_2, Ke => (((decide (x8 < (3 : Int))) = true → ((0 ≤ x8 ∧ x8 < (3 : Int)) ∧ ((x8 = 0 → ((0 ≤ (0 : Int) ∧ (0 : Int) < (3 : Int)) ∧ ((0 ≤ x8 ∧ x8 < (3 : Int)) ∧ ((x8 = 0 → ((0 ≤ (0 : Int) ∧ (0 : Int) < (3 : Int)) ∧ (I64 (c0_0 + x7_0) ∧ ((0 ≤ x8 ∧ x8 < (3 : Int)) ∧ ((x8 = 0 → ((0 ≤ (0 : Int) ∧ (0 : Int) < (3 : Int)) ∧ (I64 (x8 + (1 : Int)) ∧ F_w_sum_l2 n x7_0 x7_1 x7_2 (x8 + (1 : Int)) (c0_0 + x7_0) c0_1 c0_2 c2_0 c2_1 c2_2 Ke))) ∧ ((x8 = 1 → ((0 ≤ (1 : Int) ∧ (1 : Int) < (3 : Int)) ∧ (I64 (x8 + (1 : Int)) ∧ F_w_sum_l2 n x7_0 x7_1 x7_2 (x8 + (1 : Int)) c0_0 (c0_0 + x7_0) c0_2 c2_0 c2_1 c2_2 Ke))) ∧ ((x8 = 2 → ((0 ≤ (2 : Int) ∧ (2 : Int) < (3 : Int)) ∧ (I64 (x8 + (1 : Int)) ∧ F_w_sum_l2 n x7_0 x7_1 x7_2 (x8 + (1 : Int)) c0_0 c0_1 (c0_0 + x7_0) c2_0 c2_1 c2_2 Ke))) ∧ True))))))) ∧ ((x8 = 1 → ((0 ≤ (1 : Int) ∧ (1 : Int) < (3 : Int)) ∧ (I64 (c0_1 + x7_0) ∧ ((0 ≤ x8 ∧ x8 < (3 : Int)) ∧ ((x8 = 0 → ((0 ≤ (0 : Int) ∧ (0 : Int) < (3 : Int)) ∧ (I64 (x8 + (1 : Int)) ∧ F_w_sum_l2 n x7_0 x7_1 x7_2 (x8 + (1 : Int)) (c0_1 + x7_0) c0_1 c0_2 c2_0 c2_1 c2_2 Ke))) ∧ ((x8 = 1 → ((0 ≤ (1 : Int) ∧ (1 : Int) < (3 : Int)) ∧ (I64 (x8 + (1 : Int)) ∧ F_w_sum_l2 n x7_0 x7_1 x7_2 (x8 + (1 : Int)) c0_0 (c0_1 + x7_0) c0_2 c2_0 c2_1 c2_2 Ke))) ∧ ((x8 = 2 → ((0 ≤ (2 : Int) ∧ (2 : Int) < (3 : Int)) ∧ (I64 (x8 + (1 : Int)) ∧ F_w_sum_l2 n x7_0 x7_1 x7_2 (x8 + (1 : Int)) c0_0 c0_1 (c0_1 + x7_0) c2_0 c2_1 c2_2 Ke))) ∧ True))))))) ∧ ((x8 = 2 → ((0 ≤ (2 : Int) ∧ (2 : Int) < (3 : Int)) ∧ (I64 (c0_2 + x7_0) ∧ ((0 ≤ x8 ∧ x8 < (3 : Int)) ∧ ((x8 = 0 → ((0 ≤ (0 : Int) ∧ (0 : Int) < (3 : Int)) ∧ (I64 (x8 + (1 : Int)) ∧ F_w_sum_l2 n x7_0 x7_1 x7_2 (x8 + (1 : Int)) (c0_2 + x7_0) c0_1 c0_2 c2_0 c2_1 c2_2 Ke))) ∧ ((x8 = 1 → ((0 ≤ (1 : Int) ∧ (1 : Int) < (3 : Int)) ∧ (I64 (x8 + (1 : Int)) ∧ F_w_sum_l2 n x7_0 x7_1 x7_2 (x8 + (1 : Int)) c0_0 (c0_2 + x7_0) c0_2 c2_0 c2_1 c2_2 Ke))) ∧ ((x8 = 2 → ((0 ≤ (2 : Int) ∧ (2 : Int) < (3 : Int)) ∧ (I64 (x8 + (1 : Int)) ∧ F_w_sum_l2 n x7_0 x7_1 x7_2 (x8 + (1 : Int)) c0_0 c0_1 (c0_2 + x7_0) c2_0 c2_1 c2_2 Ke))) ∧ True))))))) ∧ True)))))) ∧ ((x8 = 1 → ((0 ≤ (1 : Int) ∧ (1 : Int) < (3 : Int)) ∧ ((0 ≤ x8 ∧ x8 < (3 : Int)) ∧ ((x8 = 0 → ((0 ≤ (0 : Int) ∧ (0 : Int) < (3 : Int)) ∧ (I64 (c0_0 + x7_1) ∧ ((0 ≤ x8 ∧ x8 < (3 : Int)) ∧ ((x8 = 0 → ((0 ≤ (0 : Int) ∧ (0 : Int) < (3 : Int)) ∧ (I64 (x8 + (1 : Int)) ∧ F_w_sum_l2 n x7_0 x7_1 x7_2 (x8 + (1 : Int)) (c0_0 + x7_1) c0_1 c0_2 c2_0 c2_1 c2_2 Ke))) ∧ ((x8 = 1 → ((0 ≤ (1 : Int) ∧ (1 : Int) < (3 : Int)) ∧ (I64 (x8 + (1 : Int)) ∧ F_w_sum_l2 n x7_0 x7_1 x7_2 (x8 + (1 : Int)) c0_0 (c0_0 + x7_1) c0_2 c2_0 c2_1 c2_2 Ke))) ∧ ((x8 = 2 → ((0 ≤ (2 : Int) ∧ (2 : Int) < (3 : Int)) ∧ (I64 (x8 + (1 : Int)) ∧ F_w_sum_l2 n x7_0 x7_1 x7_2 (x8 + (1 : Int)) c0_0 c0_1 (c0_0 + x7_1) c2_0 c2_1 c2_2 Ke))) ∧ True))))))) ∧ ((x8 = 1 → ((0 ≤ (1 : Int) ∧ (1 : Int) < (3 : Int)) ∧ (I64 (c0_1 + x7_1) ∧ ((0 ≤ x8 ∧ x8 < (3 : Int)) ∧ ((x8 = 0 → ((0 ≤ (0 : Int) ∧ (0 : Int) < (3 : Int)) ∧ (I64 (x8 + (1 : Int)) ∧ F_w_sum_l2 n x7_0 x7_1 x7_2 (x8 + (1 : Int)) (c0_1 + x7_1) c0_1 c0_2 c2_0 c2_1 c2_2 Ke))) ∧ ((x8 = 1 → ((0 ≤ (1 : Int) ∧ (1 : Int) < (3 : Int)) ∧ (I64 (x8 + (1 : Int)) ∧ F_w_sum_l2 n x7_0 x7_1 x7_2 (x8 + (1 : Int)) c0_0 (c0_1 + x7_1) c0_2 c2_0 c2_1 c2_2 Ke))) ∧ ((x8 = 2 → ((0 ≤ (2 : Int) ∧ (2 : Int) < (3 : Int)) ∧ (I64 (x8 + (1 : Int)) ∧ F_w_sum_l2 n x7_0 x7_1 x7_2 (x8 + (1 : Int)) c0_0 c0_1 (c0_1 + x7_1) c2_0 c2_1 c2_2 Ke))) ∧ True))))))) ∧ ((x8 = 2 → ((0 ≤ (2 : Int) ∧ (2 : Int) < (3 : Int)) ∧ (I64 (c0_2 + x7_1) ∧ ((0 ≤ x8 ∧ x8 < (3 : Int)) ∧ ((x8 = 0 → ((0 ≤ (0 : Int) ∧ (0 : Int) < (3 : Int)) ∧ (I64 (x8 + (1 : Int)) ∧ F_w_sum_l2 n x7_0 x7_1 x7_2 (x8 + (1 : Int)) (c0_2 + x7_1) c0_1 c0_2 c2_0 c2_1 c2_2 Ke))) ∧ ((x8 = 1 → ((0 ≤ (1 : Int) ∧ (1 : Int) < (3 : Int)) ∧ (I64 (x8 + (1 : Int)) ∧ F_w_sum_l2 n x7_0 x7_1 x7_2 (x8 + (1 : Int)) c0_0 (c0_2 + x7_1) c0_2 c2_0 c2_1 c2_2 Ke))) ∧ ((x8 = 2 → ((0 ≤ (2 : Int) ∧ (2 : Int) < (3 : Int)) ∧ (I64 (x8 + (1 : Int)) ∧ F_w_sum_l2 n x7_0 x7_1 x7_2 (x8 + (1 : Int)) c0_0 c0_1 (c0_2 + x7_1) c2_0 c2_1 c2_2 Ke))) ∧ True))))))) ∧ True)))))) ∧ ((x8 = 2 → ((0 ≤ (2 : Int) ∧ (2 : Int) < (3 : Int)) ∧ ((0 ≤ x8 ∧ x8 < (3 : Int)) ∧ ((x8 = 0 → ((0 ≤ (0 : Int) ∧ (0 : Int) < (3 : Int)) ∧ (I64 (c0_0 + x7_2) ∧ ((0 ≤ x8 ∧ x8 < (3 : Int)) ∧ ((x8 = 0 → ((0 ≤ (0 : Int) ∧ (0 : Int) < (3 : Int)) ∧ (I64 (x8 + (1 : Int)) ∧ F_w_sum_l2 n x7_0 x7_1 x7_2 (x8 + (1 : Int)) (c0_0 + x7_2) c0_1 c0_2 c2_0 c2_1 c2_2 Ke))) ∧ ((x8 = 1 → ((0 ≤ (1 : Int) ∧ (1 : Int) < (3 : Int)) ∧ (I64 (x8 + (1 : Int)) ∧ F_w_sum_l2 n x7_0 x7_1 x7_2 (x8 + (1 : Int)) c0_0 (c0_0 + x7_2) c0_2 c2_0 c2_1 c2_2 Ke))) ∧ ((x8 = 2 → ((0 ≤ (2 : Int) ∧ (2 : Int) < (3 : Int)) ∧ (I64 (x8 + (1 : Int)) ∧ F_w_sum_l2 n x7_0 x7_1 x7_2 (x8 + (1 : Int)) c0_0 c0_1 (c0_0 + x7_2) c2_0 c2_1 c2_2 Ke))) ∧ True))))))) ∧ ((x8 = 1 → ((0 ≤ (1 : Int) ∧ (1 : Int) < (3 : Int)) ∧ (I64 (c0_1 + x7_2) ∧ ((0 ≤ x8 ∧ x8 < (3 : Int)) ∧ ((x8 = 0 → ((0 ≤ (0 : Int) ∧ (0 : Int) < (3 : Int)) ∧ (I64 (x8 + (1 : Int)) ∧ F_w_sum_l2 n x7_0 x7_1 x7_2 (x8 + (1 : Int)) (c0_1 + x7_2) c0_1 c0_2 c2_0 c2_1 c2_2 Ke))) ∧ ((x8 = 1 → ((0 ≤ (1 : Int) ∧ (1 : Int) < (3 : Int)) ∧ (I64 (x8 + (1 : Int)) ∧ F_w_sum_l2 n x7_0 x7_1 x7_2 (x8 + (1 : Int)) c0_0 (c0_1 + x7_2) c0_2 c2_0 c2_1 c2_2 Ke))) ∧ ((x8 = 2 → ((0 ≤ (2 : Int) ∧ (2 : Int) < (3 : Int)) ∧ (I64 (x8 + (1 : Int)) ∧ F_w_sum_l2 n x7_0 x7_1 x7_2 (x8 + (1 : Int)) c0_0 c0_1 (c0_1 + x7_2) c2_0 c2_1 c2_2 Ke))) ∧ True))))))) ∧ ((x8 = 2 → ((0 ≤ (2 : Int) ∧ (2 : Int) < (3 : Int)) ∧ (I64 (c0_2 + x7_2) ∧ ((0 ≤ x8 ∧ x8 < (3 : Int)) ∧ ((x8 = 0 → ((0 ≤ (0 : Int) ∧ (0 : Int) < (3 : Int)) ∧ (I64 (x8 + (1 : Int)) ∧ F_w_sum_l2 n x7_0 x7_1 x7_2 (x8 + (1 : Int)) (c0_2 + x7_2) c0_1 c0_2 c2_0 c2_1 c2_2 Ke))) ∧ ((x8 = 1 → ((0 ≤ (1 : Int) ∧ (1 : Int) < (3 : Int)) ∧ (I64 (x8 + (1 : Int)) ∧ F_w_sum_l2 n x7_0 x7_1 x7_2 (x8 + (1 : Int)) c0_0 (c0_2 + x7_2) c0_2 c2_0 c2_1 c2_2 Ke))) ∧ ((x8 = 2 → ((0 ≤ (2 : Int) ∧ (2 : Int) < (3 : Int)) ∧ (I64 (x8 + (1 : Int)) ∧ F_w_sum_l2 n x7_0 x7_1 x7_2 (x8 + (1 : Int)) c0_0 c0_1 (c0_2 + x7_2) c2_0 c2_1 c2_2 Ke))) ∧ True))))))) ∧ True)))))) ∧ True))))) ∧ ((decide (x8 < (3 : Int))) = false → Ke c0_0 c0_1 c0_2 c2_0 c2_1 c2_2))

def F_w_sum (a0 : (Int × Int × Int)) (a1 : (Int × Int × Int)) (K : (Int × Int × Int) → Prop) : Prop :=
  (∃ m, F_w_sum_l2 m a1.1 a1.2.1 a1.2.2 (0 : Int) a0.1 a0.2.1 a0.2.2 (0 : Int) (0 : Int) (0 : Int) (fun y1 y2 y3 y4 y5 y6 => K (y1, y2, y3)))

def C_w_sum : CallT sg := tab []
theorem Cok_w_sum (o0 : Nat → Prop) : CalOK sy Tryz.prog GT (ovD ro) o0 ro (C_w_sum) := tab_nil o0

abbrev Ya_w_sum_2 : Type := (Unit × Unit × (Int × Int × Int × Unit) × Int × Unit)
abbrev Yb_w_sum_2 : Type := ((Int × Int × Int × Unit) × (Int × Int × Int × Unit) × Unit)
def ls_w_sum_2 : LS sy Ya_w_sum_2 Yb_w_sum_2 := ⟨[], fCons 2 (vLit sy (.p 0 0)) (fCons 4 (vLit sy (.p 2 0)) (fCons 7 (vAgg (lCons (vInt sy .i64) (lCons (vInt sy .i64) (lCons (vInt sy .i64) (lNil sy))))) (fCons 8 (vInt sy .i64) (fNil sy)))), hCells 0 (lCons (vInt sy .i64) (lCons (vInt sy .i64) (lCons (vInt sy .i64) (lNil sy)))) (hCells 2 (lCons (vInt sy .i64) (lCons (vInt sy .i64) (lCons (vInt sy .i64) (lNil sy)))) (hNil sy)), 3, []⟩
def le_w_sum_2 : LS sy (Unit × Unit × Unit) ((Int × Int × Int × Unit) × (Int × Int × Int × Unit) × Unit) := ⟨[], fCons 2 (vLit sy (.p 0 0)) (fCons 4 (vLit sy (.p 2 0)) (fNil sy)), hCells 0 (lCons (vInt sy .i64) (lCons (vInt sy .i64) (lCons (vInt sy .i64) (lNil sy)))) (hCells 2 (lCons (vInt sy .i64) (lCons (vInt sy .i64) (lCons (vInt sy .i64) (lNil sy)))) (hNil sy)), 3, []⟩
def lr_w_sum_2 : LS sy Unit Unit := ⟨[], fNil sy, hNil sy, 0, []⟩
def FF_w_sum_2 (n : Nat) (x : Ya_w_sum_2 × Yb_w_sum_2) (K : Ex → Z sg → Prop) : Prop := F_w_sum_l2 n x.1.2.2.1.1 x.1.2.2.1.2.1 x.1.2.2.1.2.2.1 x.1.2.2.2.1 x.2.1.1 x.2.1.2.1 x.2.1.2.2.1 x.2.2.1.1 x.2.2.1.2.1 x.2.2.1.2.2.1 (fun y0 y1 y2 y3 y4 y5 => K (.exit 0) (le_w_sum_2.put (((), (), ()), ((y0, y1, y2, ()), (y3, y4, y5, ()), ()))))
def h_w_sum_2 (z : Z sg) (K : Ex → Z sg → Prop) : Prop := ls_w_sum_2.get z (fun x => ∃ n, FF_w_sum_2 n x K)
def L_w_sum : LoopT sg := tabL [(2, h_w_sum_2)]
theorem hs_w_sum_2 (n : Nat) (x : Ya_w_sum_2 × Yb_w_sum_2) (K : Ex → Z sg → Prop) : forceZ (ls_w_sum_2.put x) (fun z => sC sy Tryz.prog GT (C_w_sum) (L_w_sum) Tryz.f18.ntmps (nthLoop (bodyOf Tryz.f18) 0) z (rnd ls_w_sum_2 (czT 0 le_w_sum_2 lr_w_sum_2) (fun x => FF_w_sum_2 n x K) K)) = FF_w_sum_2 (n + 1) x K := by kernel_rfl
theorem hl_w_sum_2 (z : Z sg) (K : Ex → Z sg → Prop) : (L_w_sum) (nthLoop (bodyOf Tryz.f18) 0) z K = ls_w_sum_2.get z (fun x => ∃ n, FF_w_sum_2 n x K) := by kernel_rfl
theorem lo_w_sum_2 : ∀ (o0 : Nat → Prop) (B : Bs sg), B.E.length ≤ 0 → ∀ z K, (L_w_sum) (nthLoop (bodyOf Tryz.f18) 0) z K → Sx.Sem sy Tryz.prog GT (ovD ro) o0 ro Tryz.f18.ntmps B (.loop (nthLoop (bodyOf Tryz.f18) 0)) z K :=
  loop_ok (Cok_w_sum) (lp_of (l := []) (by kernel_rfl) lp_nil) ls_w_sum_2 (by decide) (czT 0 le_w_sum_2 lr_w_sum_2) (fun _ _ hB => czT_ok 0 le_w_sum_2 lr_w_sum_2 (Nat.le_trans hB (by decide)) (Nat.le_trans hB (by decide))) (fun _ _ h => h) (hs_w_sum_2) (hl_w_sum_2)
theorem Lp_w_sum : LpOK sy Tryz.prog GT (ovD ro) ro (L_w_sum) 0 Tryz.f18.ntmps (bodyOf Tryz.f18) := lp_of (l := [(nthLoop (bodyOf Tryz.f18) 0)]) (by kernel_rfl) (lp_cons (lo_w_sum_2) lp_nil)


theorem raw_w_sum (a0 : (Int × Int × Int)) (a1 : (Int × Int × Int)) (k : W → Prop) : fnT sy Tryz.prog GT (C_w_sum) (L_w_sum) Tryz.f18.ntmps (bodyOf Tryz.f18) [none] Tryz.f18.results.toList [.a [.i .i64 a0.1, .i .i64 a0.2.1, .i .i64 a0.2.2], .a [.i .i64 a1.1, .i .i64 a1.2.1, .i .i64 a1.2.2]] k = F_w_sum a0 a1 (fun r0 => k (.a [.i .i64 r0.1, .i .i64 r0.2.1, .i .i64 r0.2.2])) := by kernel_rfl

theorem ok_w_sum : FnOK sy Tryz.prog GT (ovD ro) ro 18 (q_w_sum (F_w_sum)) := (fn_ok (rc := [none]) (f := 18) (fn := Tryz.f18) (c := bodyOf Tryz.f18) (nt := Tryz.f18.ntmps) (res := Tryz.f18.results.toList) (C := C_w_sum) (L := (L_w_sum)) (fun _ _ => rfl) Tryz.func18 (by kernel_rfl) rfl rfl (Cok_w_sum) (Lp_w_sum)).weak (by
  intro us k h
  unfold q_w_sum at h
  split at h
  · skip
    rename_i a0_0 a0_1 a0_2 a1_0 a1_1 a1_2
    rw [raw_w_sum (a0_0, a0_1, a0_2) (a1_0, a1_1, a1_2) k]
    exact h
  · exact h.elim)

abbrev T_w_Compare := (Int × Int × Int) → (Int × Int × Int) → (Int → Int → Prop) → Prop
def q_w_Compare (A : T_w_Compare) (us : List W) (k : W → Prop) : Prop := match us with
  | [.a [.i .i64 a0_0, .i .i64 a0_1, .i .i64 a0_2], .a [.i .i64 a1_0, .i .i64 a1_1, .i .i64 a1_2]] => A (a0_0, a0_1, a0_2) (a1_0, a1_1, a1_2) (fun r0 r1 => k (.t [.i .i64 r0, .i .i64 r1]))
  | _ => False
theorem q_w_Compare_weak {A A2 : T_w_Compare} (h : FnOK sy Tryz.prog GT (ovD ro) ro 8 (q_w_Compare A)) (hA : ∀ a0 a1 K, A2 a0 a1 K → A a0 a1 K) : FnOK sy Tryz.prog GT (ovD ro) ro 8 (q_w_Compare A2) := h.weak (by
  intro us k h
  unfold q_w_Compare at h ⊢
  split at h
  · exact hA _ _ _ h
  · exact h.elim)

def F_w_Compare (A16 : T_w_isValid) (A17 : T_w_cmp) (a0 : (Int × Int × Int)) (a1 : (Int × Int × Int)) (K : Int → Int → Prop) : Prop :=
  (A16 (a0.1, a0.2.1, a0.2.2) (fun y1 => (((!y1) = false → (A16 (a1.1, a1.2.1, a1.2.2) (fun y2 => (((!y2) = true → K (0 : Int) (8 : Int)) ∧ ((!y2) = false → (A17 (a0.1, a0.2.1, a0.2.2) (a1.1, a1.2.1, a1.2.2) (fun y3 => K y3 (0 : Int)))))))) ∧ ((!y1) = true → K (0 : Int) (8 : Int)))))

def C_w_Compare (A16 : T_w_isValid) (A17 : T_w_cmp) : CallT sg := tab [(16, con sy [none] (q_w_isValid A16)), (17, con sy [none, none] (q_w_cmp A17))]
theorem Cok_w_Compare (A16 : T_w_isValid) (A17 : T_w_cmp) (h16 : FnOK sy Tryz.prog GT (ovD ro) ro 16 (q_w_isValid A16)) (h17 : FnOK sy Tryz.prog GT (ovD ro) ro 17 (q_w_cmp A17)) (o0 : Nat → Prop) : CalOK sy Tryz.prog GT (ovD ro) o0 ro (C_w_Compare A16 A17) := (tab_cons (con_ok h16) (tab_cons (con_ok h17) tab_nil)) o0

theorem raw_w_Compare (A16 : T_w_isValid) (A17 : T_w_cmp) (a0 : (Int × Int × Int)) (a1 : (Int × Int × Int)) (k : W → Prop) : fnT sy Tryz.prog GT (C_w_Compare A16 A17) noL Tryz.f8.ntmps (bodyOf Tryz.f8) [none, none] Tryz.f8.results.toList [.a [.i .i64 a0.1, .i .i64 a0.2.1, .i .i64 a0.2.2], .a [.i .i64 a1.1, .i .i64 a1.2.1, .i .i64 a1.2.2]] k = F_w_Compare A16 A17 a0 a1 (fun r0 r1 => k (.t [.i .i64 r0, .i .i64 r1])) := by kernel_rfl

theorem ok_w_Compare (A16 : T_w_isValid) (A17 : T_w_cmp) (h16 : FnOK sy Tryz.prog GT (ovD ro) ro 16 (q_w_isValid A16)) (h17 : FnOK sy Tryz.prog GT (ovD ro) ro 17 (q_w_cmp A17)) : FnOK sy Tryz.prog GT (ovD ro) ro 8 (q_w_Compare (F_w_Compare A16 A17)) := (fn_ok (rc := [none, none]) (f := 8) (fn := Tryz.f8) (c := bodyOf Tryz.f8) (nt := Tryz.f8.ntmps) (res := Tryz.f8.results.toList) (C := C_w_Compare A16 A17) (L := noL) (fun _ _ => rfl) Tryz.func8 (by kernel_rfl) rfl rfl (Cok_w_Compare A16 A17 h16 h17) (lp_of (l := []) (by kernel_rfl) lp_nil)).weak (by
  intro us k h
  unfold q_w_Compare at h
  split at h
  · skip
    rename_i a0_0 a0_1 a0_2 a1_0 a1_1 a1_2
    rw [raw_w_Compare A16 A17 (a0_0, a0_1, a0_2) (a1_0, a1_1, a1_2) k]
    exact h
  · exact h.elim)

abbrev T_w_Sum := (Int × Int × Int) → (Int × Int × Int) → ((Int × Int × Int) → Int → Prop) → Prop
def q_w_Sum (A : T_w_Sum) (us : List W) (k : W → Prop) : Prop := match us with
  | [.a [.i .i64 a0_0, .i .i64 a0_1, .i .i64 a0_2], .a [.i .i64 a1_0, .i .i64 a1_1, .i .i64 a1_2]] => A (a0_0, a0_1, a0_2) (a1_0, a1_1, a1_2) (fun r0 r1 => k (.t [.a [.i .i64 r0.1, .i .i64 r0.2.1, .i .i64 r0.2.2], .i .i64 r1]))
  | _ => False
theorem q_w_Sum_weak {A A2 : T_w_Sum} (h : FnOK sy Tryz.prog GT (ovD ro) ro 9 (q_w_Sum A)) (hA : ∀ a0 a1 K, A2 a0 a1 K → A a0 a1 K) : FnOK sy Tryz.prog GT (ovD ro) ro 9 (q_w_Sum A2) := h.weak (by
  intro us k h
  unfold q_w_Sum at h ⊢
  split at h
  · exact hA _ _ _ h
  · exact h.elim)

def F_w_Sum (A16 : T_w_isValid) (A18 : T_w_sum) (a0 : (Int × Int × Int)) (a1 : (Int × Int × Int)) (K : (Int × Int × Int) → Int → Prop) : Prop :=
  (A16 (a0.1, a0.2.1, a0.2.2) (fun y1 => (((!y1) = false → (A16 (a1.1, a1.2.1, a1.2.2) (fun y2 => (((!y2) = true → K ((0 : Int), (0 : Int), (0 : Int)) (8 : Int)) ∧ ((!y2) = false → (A18 (a0.1, a0.2.1, a0.2.2) (a1.1, a1.2.1, a1.2.2) (fun y3 => (A16 (y3.1, y3.2.1, y3.2.2) (fun y4 => (((!y4) = true → K ((0 : Int), (0 : Int), (0 : Int)) (8 : Int)) ∧ ((!y4) = false → K (y3.1, y3.2.1, y3.2.2) (0 : Int)))))))))))) ∧ ((!y1) = true → K ((0 : Int), (0 : Int), (0 : Int)) (8 : Int)))))

def C_w_Sum (A16 : T_w_isValid) (A18 : T_w_sum) : CallT sg := tab [(16, con sy [none] (q_w_isValid A16)), (18, con sy [none, none] (q_w_sum A18))]
theorem Cok_w_Sum (A16 : T_w_isValid) (A18 : T_w_sum) (h16 : FnOK sy Tryz.prog GT (ovD ro) ro 16 (q_w_isValid A16)) (h18 : FnOK sy Tryz.prog GT (ovD ro) ro 18 (q_w_sum A18)) (o0 : Nat → Prop) : CalOK sy Tryz.prog GT (ovD ro) o0 ro (C_w_Sum A16 A18) := (tab_cons (con_ok h16) (tab_cons (con_ok h18) tab_nil)) o0

theorem raw_w_Sum (A16 : T_w_isValid) (A18 : T_w_sum) (a0 : (Int × Int × Int)) (a1 : (Int × Int × Int)) (k : W → Prop) : fnT sy Tryz.prog GT (C_w_Sum A16 A18) noL Tryz.f9.ntmps (bodyOf Tryz.f9) [none, none] Tryz.f9.results.toList [.a [.i .i64 a0.1, .i .i64 a0.2.1, .i .i64 a0.2.2], .a [.i .i64 a1.1, .i .i64 a1.2.1, .i .i64 a1.2.2]] k = F_w_Sum A16 A18 a0 a1 (fun r0 r1 => k (.t [.a [.i .i64 r0.1, .i .i64 r0.2.1, .i .i64 r0.2.2], .i .i64 r1])) := by kernel_rfl

theorem ok_w_Sum (A16 : T_w_isValid) (A18 : T_w_sum) (h16 : FnOK sy Tryz.prog GT (ovD ro) ro 16 (q_w_isValid A16)) (h18 : FnOK sy Tryz.prog GT (ovD ro) ro 18 (q_w_sum A18)) : FnOK sy Tryz.prog GT (ovD ro) ro 9 (q_w_Sum (F_w_Sum A16 A18)) := (fn_ok (rc := [none, none]) (f := 9) (fn := Tryz.f9) (c := bodyOf Tryz.f9) (nt := Tryz.f9.ntmps) (res := Tryz.f9.results.toList) (C := C_w_Sum A16 A18) (L := noL) (fun _ _ => rfl) Tryz.func9 (by kernel_rfl) rfl rfl (Cok_w_Sum A16 A18 h16 h18) (lp_of (l := []) (by kernel_rfl) lp_nil)).weak (by
  intro us k h
  unfold q_w_Sum at h
  split at h
  · skip
    rename_i a0_0 a0_1 a0_2 a1_0 a1_1 a1_2
    rw [raw_w_Sum A16 A18 (a0_0, a0_1, a0_2) (a1_0, a1_1, a1_2) k]
    exact h
  · exact h.elim)

abbrev T_r9_Valid := (Int × Int × Int) → (Bool → Prop) → Prop
def q_r9_Valid (A : T_r9_Valid) (us : List W) (k : W → Prop) : Prop := match us with
  | [.a [.i .i64 a0_0, .i .i64 a0_1, .i .i64 a0_2]] => A (a0_0, a0_1, a0_2) (fun r0 => k (.b r0))
  | _ => False
theorem q_r9_Valid_weak {A A2 : T_r9_Valid} (h : FnOK sy Tryz.prog GT (ovD ro) ro 11 (q_r9_Valid A)) (hA : ∀ a0 K, A2 a0 K → A a0 K) : FnOK sy Tryz.prog GT (ovD ro) ro 11 (q_r9_Valid A2) := h.weak (by
  intro us k h
  unfold q_r9_Valid at h ⊢
  split at h
  · exact hA _ _ h
  · exact h.elim)

def F_r9_Valid_l2 : Nat → Int → Int → Int → Int → (Unit → Prop) → (Bool → Prop) → Prop
  | 0, _, _, _, _, _, _ => False
  | n + 1, x3, c0_0, c0_1, c0_2, Ke, Kr => (((decide (x3 < (3 : Int))) = true → ((0 ≤ x3 ∧ x3 < (3 : Int)) ∧ ((x3 = 0 → ((0 ≤ (0 : Int) ∧ (0 : Int) < (3 : Int)) ∧ (((decide (c0_0 < (0 : Int))) = false → ((0 ≤ x3 ∧ x3 < (3 : Int)) ∧ ((x3 = 0 → ((0 ≤ (0 : Int) ∧ (0 : Int) < (3 : Int)) ∧ (((decide ((4000 : Int) < c0_0)) = true → Kr false) ∧ ((decide ((4000 : Int) < c0_0)) = false → (I64 (x3 + (1 : Int)) ∧ F_r9_Valid_l2 n (x3 + (1 : Int)) c0_0 c0_1 c0_2 Ke Kr))))) ∧ ((x3 = 1 → ((0 ≤ (1 : Int) ∧ (1 : Int) < (3 : Int)) ∧ (((decide ((4000 : Int) < c0_1)) = true → Kr false) ∧ ((decide ((4000 : Int) < c0_1)) = false → (I64 (x3 + (1 : Int)) ∧ F_r9_Valid_l2 n (x3 + (1 : Int)) c0_0 c0_1 c0_2 Ke Kr))))) ∧ ((x3 = 2 → ((0 ≤ (2 : Int) ∧ (2 : Int) < (3 : Int)) ∧ (((decide ((4000 : Int) < c0_2)) = true → Kr false) ∧ ((decide ((4000 : Int) < c0_2)) = false → (I64 (x3 + (1 : Int)) ∧ F_r9_Valid_l2 n (x3 + (1 : Int)) c0_0 c0_1 c0_2 Ke Kr))))) ∧ True))))) ∧ ((decide (c0_0 < (0 : Int))) = true → Kr false)))) ∧ ((x3 = 1 → ((0 ≤ (1 : Int) ∧ (1 : Int) < (3 : Int)) ∧ (((decide (c0_1 < (0 : Int))) = false → ((0 ≤ x3 ∧ x3 < (3 : Int)) ∧ ((x3 = 0 → ((0 ≤ (0 : Int) ∧ (0 : Int) < (3 : Int)) ∧ (((decide ((4000 : Int) < c0_0)) = true → Kr false) ∧ ((decide ((4000 : Int) < c0_0)) = false → (I64 (x3 + (1 : Int)) ∧ F_r9_Valid_l2 n (x3 + (1 : Int)) c0_0 c0_1 c0_2 Ke Kr))))) ∧ ((x3 = 1 → ((0 ≤ (1 : Int) ∧ (1 : Int) < (3 : Int)) ∧ (((decide ((4000 : Int) < c0_1)) = true → Kr false) ∧ ((decide ((4000 : Int) < c0_1)) = false → (I64 (x3 + (1 : Int)) ∧ F_r9_Valid_l2 n (x3 + (1 : Int)) c0_0 c0_1 c0_2 Ke Kr))))) ∧ ((x3 = 2 → ((0 ≤ (2 : Int) ∧ (2 : Int) < (3 : Int)) ∧ (((decide ((4000 : Int) < c0_2)) = true → Kr false) ∧ ((decide ((4000 : Int) < c0_2)) = false → (I64 (x3 + (1 : Int)) ∧ F_r9_Valid_l2 n (x3 + (1 : Int)) c0_0 c0_1 c0_2 Ke Kr))))) ∧ True))))) ∧ ((decide (c0_1 < (0 : Int))) = true → Kr false)))) ∧ ((x3 = 2 → ((0 ≤ (2 : Int) ∧ (2 : Int) < (3 : Int)) ∧ (((decide (c0_2 < (0 : Int))) = false → ((0 ≤ x3 ∧ x3 < (3 : Int)) ∧ ((x3 = 0 → ((0 ≤ (0 : Int) ∧ (0 : Int) < (3 : Int)) ∧ (((decide ((4000 : Int) < c0_0)) = true → Kr false) ∧ ((decide ((4000 : Int) < c0_0)) = false → (I64 (x3 + (1 : Int)) ∧ F_r9_Valid_l2 n (x3 + (1 : Int)) c0_0 c0_1 c0_2 Ke Kr))))) ∧ ((x3 = 1 → ((0 ≤ (1 : Int) ∧ (1 : Int) < (3 : Int)) ∧ (((decide ((4000 : Int) < c0_1)) = true → Kr false) ∧ ((decide ((4000 : Int) < c0_1)) = false → (I64 (x3 + (1 : Int)) ∧ F_r9_Valid_l2 n (x3 + (1 : Int)) c0_0 c0_1 c0_2 Ke Kr))))) ∧ ((x3 = 2 → ((0 ≤ (2 : Int) ∧ (2 : Int) < (3 : Int)) ∧ (((decide ((4000 : Int) < c0_2)) = true → Kr false) ∧ ((decide ((4000 : Int) < c0_2)) = false → (I64 (x3 + (1 : Int)) ∧ F_r9_Valid_l2 n (x3 + (1 : Int)) c0_0 c0_1 c0_2 Ke Kr))))) ∧ True))))) ∧ ((decide (c0_2 < (0 : Int))) = true → Kr false)))) ∧ True))))) ∧ ((decide (x3 < (3 : Int))) = false → Ke ()))

def F_r9_Valid (a0 : (Int × Int × Int)) (K : Bool → Prop) : Prop :=
  (∃ m, F_r9_Valid_l2 m (0 : Int) a0.1 a0.2.1 a0.2.2 (fun _ => K true) (fun y1 => K y1))

def C_r9_Valid : CallT sg := tab []
theorem Cok_r9_Valid (o0 : Nat → Prop) : CalOK sy Tryz.prog GT (ovD ro) o0 ro (C_r9_Valid) := tab_nil o0

abbrev Ya_r9_Valid_2 : Type := (Unit × Int × Unit)
abbrev Yb_r9_Valid_2 : Type := ((Int × Int × Int × Unit) × Unit)
def ls_r9_Valid_2 : LS sy Ya_r9_Valid_2 Yb_r9_Valid_2 := ⟨[], fCons 1 (vLit sy (.p 0 0)) (fCons 3 (vInt sy .i64) (fNil sy)), hCells 0 (lCons (vInt sy .i64) (lCons (vInt sy .i64) (lCons (vInt sy .i64) (lNil sy)))) (hNil sy), 1, []⟩
def le_r9_Valid_2 : LS sy Unit Unit := ⟨[], fNil sy, hNil sy, 0, []⟩
def lr_r9_Valid_2 : LS sy (Bool × Unit) Unit := ⟨[], fCons 2 (vBool sy) (fNil sy), hNil sy, 0, []⟩
def FF_r9_Valid_2 (n : Nat) (x : Ya_r9_Valid_2 × Yb_r9_Valid_2) (K : Ex → Z sg → Prop) : Prop := F_r9_Valid_l2 n x.1.2.1 x.2.1.1 x.2.1.2.1 x.2.1.2.2.1 (fun _ => K (.exit 0) (le_r9_Valid_2.put ((), ()))) (fun y0 => K .ret (lr_r9_Valid_2.put ((y0, ()), ())))
def h_r9_Valid_2 (z : Z sg) (K : Ex → Z sg → Prop) : Prop := ls_r9_Valid_2.get z (fun x => ∃ n, FF_r9_Valid_2 n x K)
def L_r9_Valid : LoopT sg := tabL [(2, h_r9_Valid_2)]
theorem hs_r9_Valid_2 (n : Nat) (x : Ya_r9_Valid_2 × Yb_r9_Valid_2) (K : Ex → Z sg → Prop) : forceZ (ls_r9_Valid_2.put x) (fun z => sC sy Tryz.prog GT (C_r9_Valid) (L_r9_Valid) Tryz.f11.ntmps (nthLoop (bodyOf Tryz.f11) 0) z (rnd ls_r9_Valid_2 (czT 0 le_r9_Valid_2 lr_r9_Valid_2) (fun x => FF_r9_Valid_2 n x K) K)) = FF_r9_Valid_2 (n + 1) x K := by kernel_rfl
theorem hl_r9_Valid_2 (z : Z sg) (K : Ex → Z sg → Prop) : (L_r9_Valid) (nthLoop (bodyOf Tryz.f11) 0) z K = ls_r9_Valid_2.get z (fun x => ∃ n, FF_r9_Valid_2 n x K) := by kernel_rfl
theorem lo_r9_Valid_2 : ∀ (o0 : Nat → Prop) (B : Bs sg), B.E.length ≤ 0 → ∀ z K, (L_r9_Valid) (nthLoop (bodyOf Tryz.f11) 0) z K → Sx.Sem sy Tryz.prog GT (ovD ro) o0 ro Tryz.f11.ntmps B (.loop (nthLoop (bodyOf Tryz.f11) 0)) z K :=
  loop_ok (Cok_r9_Valid) (lp_of (l := []) (by kernel_rfl) lp_nil) ls_r9_Valid_2 (by decide) (czT 0 le_r9_Valid_2 lr_r9_Valid_2) (fun _ _ hB => czT_ok 0 le_r9_Valid_2 lr_r9_Valid_2 (Nat.le_trans hB (by decide)) (Nat.le_trans hB (by decide))) (fun _ _ h => h) (hs_r9_Valid_2) (hl_r9_Valid_2)
theorem Lp_r9_Valid : LpOK sy Tryz.prog GT (ovD ro) ro (L_r9_Valid) 0 Tryz.f11.ntmps (bodyOf Tryz.f11) := lp_of (l := [(nthLoop (bodyOf Tryz.f11) 0)]) (by kernel_rfl) (lp_cons (lo_r9_Valid_2) lp_nil)


theorem raw_r9_Valid (a0 : (Int × Int × Int)) (k : W → Prop) : fnT sy Tryz.prog GT (C_r9_Valid) (L_r9_Valid) Tryz.f11.ntmps (bodyOf Tryz.f11) [none] Tryz.f11.results.toList [.a [.i .i64 a0.1, .i .i64 a0.2.1, .i .i64 a0.2.2]] k = F_r9_Valid a0 (fun r0 => k (.b r0)) := by kernel_rfl

theorem ok_r9_Valid : FnOK sy Tryz.prog GT (ovD ro) ro 11 (q_r9_Valid (F_r9_Valid)) := (fn_ok (rc := [none]) (f := 11) (fn := Tryz.f11) (c := bodyOf Tryz.f11) (nt := Tryz.f11.ntmps) (res := Tryz.f11.results.toList) (C := C_r9_Valid) (L := (L_r9_Valid)) (fun _ _ => rfl) Tryz.func11 (by kernel_rfl) rfl rfl (Cok_r9_Valid) (Lp_r9_Valid)).weak (by
  intro us k h
  unfold q_r9_Valid at h
  split at h
  · skip
    rename_i a0_0 a0_1 a0_2
    rw [raw_r9_Valid (a0_0, a0_1, a0_2) k]
    exact h
  · exact h.elim)

abbrev T_vitrinelaw09_alive := (Bool → Prop) → Prop
def q_vitrinelaw09_alive (A : T_vitrinelaw09_alive) (us : List W) (k : W → Prop) : Prop := match us with
  | [] => A (fun r0 => k (.b r0))
  | _ => False
theorem q_vitrinelaw09_alive_weak {A A2 : T_vitrinelaw09_alive} (h : FnOK sy Tryz.prog GT (ovD ro) ro 10 (q_vitrinelaw09_alive A)) (hA : ∀  K, A2  K → A  K) : FnOK sy Tryz.prog GT (ovD ro) ro 10 (q_vitrinelaw09_alive A2) := h.weak (by
  intro us k h
  unfold q_vitrinelaw09_alive at h ⊢
  split at h
  · exact hA _ h
  · exact h.elim)

abbrev T_vitrinelaw09_WeighOrder := (Int × Int × Int) → (Int × Int × Int) → (Int × Int × Int) → (Bool → Prop) → Prop
def q_vitrinelaw09_WeighOrder (A : T_vitrinelaw09_WeighOrder) (us : List W) (k : W → Prop) : Prop := match us with
  | [.a [.i .i64 a0_0, .i .i64 a0_1, .i .i64 a0_2], .a [.i .i64 a1_0, .i .i64 a1_1, .i .i64 a1_2], .a [.i .i64 a2_0, .i .i64 a2_1, .i .i64 a2_2]] => A (a0_0, a0_1, a0_2) (a1_0, a1_1, a1_2) (a2_0, a2_1, a2_2) (fun r0 => k (.b r0))
  | _ => False
theorem q_vitrinelaw09_WeighOrder_weak {A A2 : T_vitrinelaw09_WeighOrder} (h : FnOK sy Tryz.prog GT (ovD ro) ro 4 (q_vitrinelaw09_WeighOrder A)) (hA : ∀ a0 a1 a2 K, A2 a0 a1 a2 K → A a0 a1 a2 K) : FnOK sy Tryz.prog GT (ovD ro) ro 4 (q_vitrinelaw09_WeighOrder A2) := h.weak (by
  intro us k h
  unfold q_vitrinelaw09_WeighOrder at h ⊢
  split at h
  · exact hA _ _ _ _ h
  · exact h.elim)

def F_vitrinelaw09_WeighOrder (A11 : T_r9_Valid) (A10 : T_vitrinelaw09_alive) (A8 : T_w_Compare) (A9 : T_w_Sum) (a0 : (Int × Int × Int)) (a1 : (Int × Int × Int)) (a2 : (Int × Int × Int)) (K : Bool → Prop) : Prop :=
  (A11 (a0.1, a0.2.1, a0.2.2) (fun y1 => (((!y1) = false → (A11 (a1.1, a1.2.1, a1.2.2) (fun y2 => (((!y2) = false → (A11 (a2.1, a2.2.1, a2.2.2) (fun y3 => (((!y3) = true → (A10 (fun y4 => K y4))) ∧ ((!y3) = false → (A8 (a0.1, a0.2.1, a0.2.2) (a1.1, a1.2.1, a1.2.2) (fun y5 y6 => (A8 (a1.1, a1.2.1, a1.2.2) (a0.1, a0.2.1, a0.2.2) (fun y7 y8 => (A8 (a1.1, a1.2.1, a1.2.2) (a2.1, a2.2.1, a2.2.2) (fun y9 y10 => (A8 (a0.1, a0.2.1, a0.2.2) (a2.1, a2.2.1, a2.2.2) (fun y11 y12 => (((decide (y6 ≠ (0 : Int))) = false → (((decide (y8 ≠ (0 : Int))) = false → (((decide (y10 ≠ (0 : Int))) = false → (((decide (y12 ≠ (0 : Int))) = false → (I64 (0 - y7) ∧ (((decide (y5 ≠ (0 - y7))) = false → (((!((decide (y5 = (0 : Int))) == (decide (a0.1 = a1.1) && (decide (a0.2.1 = a1.2.1) && (decide (a0.2.2 = a1.2.2) && true))))) = false → (((decide (y5 < (-1 : Int))) = false → (((decide ((1 : Int) < y5)) = false → (((decide (y5 ≤ (0 : Int))) = true → (((decide (y9 ≤ (0 : Int))) = true → (((decide ((0 : Int) < y11)) = true → K false) ∧ ((decide ((0 : Int) < y11)) = false → (A9 (a0.1, a0.2.1, a0.2.2) (a2.1, a2.2.1, a2.2.2) (fun y13 y14 => (A9 (a1.1, a1.2.1, a1.2.2) (a2.1, a2.2.1, a2.2.2) (fun y15 y16 => (((decide (y14 ≠ (0 : Int))) = false → (((decide (y16 ≠ (0 : Int))) = true → (A10 (fun y17 => K y17))) ∧ ((decide (y16 ≠ (0 : Int))) = false → (A8 (y13.1, y13.2.1, y13.2.2) (y15.1, y15.2.1, y15.2.2) (fun y18 y19 => (((decide (y19 = (0 : Int))) = true → (((decide (y18 = y5)) = true → (A10 (fun y20 => K y20))) ∧ ((decide (y18 = y5)) = false → K false))) ∧ ((decide (y19 = (0 : Int))) = false → K false))))))) ∧ ((decide (y14 ≠ (0 : Int))) = true → (A10 (fun y21 => K y21))))))))))) ∧ ((decide (y9 ≤ (0 : Int))) = false → (A9 (a0.1, a0.2.1, a0.2.2) (a2.1, a2.2.1, a2.2.2) (fun y22 y23 => (A9 (a1.1, a1.2.1, a1.2.2) (a2.1, a2.2.1, a2.2.2) (fun y24 y25 => (((decide (y23 ≠ (0 : Int))) = false → (((decide (y25 ≠ (0 : Int))) = true → (A10 (fun y26 => K y26))) ∧ ((decide (y25 ≠ (0 : Int))) = false → (A8 (y22.1, y22.2.1, y22.2.2) (y24.1, y24.2.1, y24.2.2) (fun y27 y28 => (((decide (y28 = (0 : Int))) = true → (((decide (y27 = y5)) = true → (A10 (fun y29 => K y29))) ∧ ((decide (y27 = y5)) = false → K false))) ∧ ((decide (y28 = (0 : Int))) = false → K false))))))) ∧ ((decide (y23 ≠ (0 : Int))) = true → (A10 (fun y30 => K y30))))))))))) ∧ ((decide (y5 ≤ (0 : Int))) = false → (A9 (a0.1, a0.2.1, a0.2.2) (a2.1, a2.2.1, a2.2.2) (fun y31 y32 => (A9 (a1.1, a1.2.1, a1.2.2) (a2.1, a2.2.1, a2.2.2) (fun y33 y34 => (((decide (y32 ≠ (0 : Int))) = false → (((decide (y34 ≠ (0 : Int))) = true → (A10 (fun y35 => K y35))) ∧ ((decide (y34 ≠ (0 : Int))) = false → (A8 (y31.1, y31.2.1, y31.2.2) (y33.1, y33.2.1, y33.2.2) (fun y36 y37 => (((decide (y37 = (0 : Int))) = true → (((decide (y36 = y5)) = true → (A10 (fun y38 => K y38))) ∧ ((decide (y36 = y5)) = false → K false))) ∧ ((decide (y37 = (0 : Int))) = false → K false))))))) ∧ ((decide (y32 ≠ (0 : Int))) = true → (A10 (fun y39 => K y39))))))))))) ∧ ((decide ((1 : Int) < y5)) = true → K false))) ∧ ((decide (y5 < (-1 : Int))) = true → K false))) ∧ ((!((decide (y5 = (0 : Int))) == (decide (a0.1 = a1.1) && (decide (a0.2.1 = a1.2.1) && (decide (a0.2.2 = a1.2.2) && true))))) = true → K false))) ∧ ((decide (y5 ≠ (0 - y7))) = true → K false)))) ∧ ((decide (y12 ≠ (0 : Int))) = true → K false))) ∧ ((decide (y10 ≠ (0 : Int))) = true → K false))) ∧ ((decide (y8 ≠ (0 : Int))) = true → K false))) ∧ ((decide (y6 ≠ (0 : Int))) = true → K false))))))))))))))) ∧ ((!y2) = true → (A10 (fun y40 => K y40))))))) ∧ ((!y1) = true → (A10 (fun y41 => K y41))))))

def C_vitrinelaw09_WeighOrder (A11 : T_r9_Valid) (A10 : T_vitrinelaw09_alive) (A8 : T_w_Compare) (A9 : T_w_Sum) : CallT sg := tab [(11, con sy [none] (q_r9_Valid A11)), (10, con sy [] (q_vitrinelaw09_alive A10)), (8, con sy [none, none] (q_w_Compare A8)), (9, con sy [none, none] (q_w_Sum A9))]
theorem Cok_vitrinelaw09_WeighOrder (A11 : T_r9_Valid) (A10 : T_vitrinelaw09_alive) (A8 : T_w_Compare) (A9 : T_w_Sum) (h11 : FnOK sy Tryz.prog GT (ovD ro) ro 11 (q_r9_Valid A11)) (h10 : FnOK sy Tryz.prog GT (ovD ro) ro 10 (q_vitrinelaw09_alive A10)) (h8 : FnOK sy Tryz.prog GT (ovD ro) ro 8 (q_w_Compare A8)) (h9 : FnOK sy Tryz.prog GT (ovD ro) ro 9 (q_w_Sum A9)) (o0 : Nat → Prop) : CalOK sy Tryz.prog GT (ovD ro) o0 ro (C_vitrinelaw09_WeighOrder A11 A10 A8 A9) := (tab_cons (con_ok h11) (tab_cons (con_ok h10) (tab_cons (con_ok h8) (tab_cons (con_ok h9) tab_nil)))) o0

theorem raw_vitrinelaw09_WeighOrder (A11 : T_r9_Valid) (A10 : T_vitrinelaw09_alive) (A8 : T_w_Compare) (A9 : T_w_Sum) (a0 : (Int × Int × Int)) (a1 : (Int × Int × Int)) (a2 : (Int × Int × Int)) (k : W → Prop) : fnT sy Tryz.prog GT (C_vitrinelaw09_WeighOrder A11 A10 A8 A9) noL Tryz.f4.ntmps (bodyOf Tryz.f4) [none] Tryz.f4.results.toList [.a [.i .i64 a0.1, .i .i64 a0.2.1, .i .i64 a0.2.2], .a [.i .i64 a1.1, .i .i64 a1.2.1, .i .i64 a1.2.2], .a [.i .i64 a2.1, .i .i64 a2.2.1, .i .i64 a2.2.2]] k = F_vitrinelaw09_WeighOrder A11 A10 A8 A9 a0 a1 a2 (fun r0 => k (.b r0)) := by kernel_rfl

theorem ok_vitrinelaw09_WeighOrder (A11 : T_r9_Valid) (A10 : T_vitrinelaw09_alive) (A8 : T_w_Compare) (A9 : T_w_Sum) (h11 : FnOK sy Tryz.prog GT (ovD ro) ro 11 (q_r9_Valid A11)) (h10 : FnOK sy Tryz.prog GT (ovD ro) ro 10 (q_vitrinelaw09_alive A10)) (h8 : FnOK sy Tryz.prog GT (ovD ro) ro 8 (q_w_Compare A8)) (h9 : FnOK sy Tryz.prog GT (ovD ro) ro 9 (q_w_Sum A9)) : FnOK sy Tryz.prog GT (ovD ro) ro 4 (q_vitrinelaw09_WeighOrder (F_vitrinelaw09_WeighOrder A11 A10 A8 A9)) := (fn_ok (rc := [none]) (f := 4) (fn := Tryz.f4) (c := bodyOf Tryz.f4) (nt := Tryz.f4.ntmps) (res := Tryz.f4.results.toList) (C := C_vitrinelaw09_WeighOrder A11 A10 A8 A9) (L := noL) (fun _ _ => rfl) Tryz.func4 (by kernel_rfl) rfl rfl (Cok_vitrinelaw09_WeighOrder A11 A10 A8 A9 h11 h10 h8 h9) (lp_of (l := []) (by kernel_rfl) lp_nil)).weak (by
  intro us k h
  unfold q_vitrinelaw09_WeighOrder at h
  split at h
  · skip
    rename_i a0_0 a0_1 a0_2 a1_0 a1_1 a1_2 a2_0 a2_1 a2_2
    rw [raw_vitrinelaw09_WeighOrder A11 A10 A8 A9 (a0_0, a0_1, a0_2) (a1_0, a1_1, a1_2) (a2_0, a2_1, a2_2) k]
    exact h
  · exact h.elim)

end Go.Proofs.YtfpobnafniefpaaGreatDoor
