/-
  Weights are compared and added, followed. Nothing is claimed here.
-/
import Derived.Test.YtfpobnafniefpaaTa
import Derived.Test.YtfpobnafniefpaaOb
namespace Go.Proofs.Ytfpobnafniefpaa
open Go.Vm Go.Sx Go.RowKit
variable {ro : Nat}

def GT : Gl := fun _ => none
def ovD (ro : Nat) : Ov := ovA ro
def noT (_ : List W) (_ : W → Prop) : Prop := False
theorem noT_ok {ro : Nat} (f : FuncId) : FnOK sy Try.prog GT (ovD ro) ro f noT := fun _ _ _ h => h.elim

abbrev T_cmp_isNaN := Int → (Bool → Prop) → Prop
def q_cmp_isNaN (A : T_cmp_isNaN) (us : List W) (k : W → Prop) : Prop := match us with
  | [.i .i64 a0] => A a0 (fun r0 => k (.b r0))
  | _ => False
theorem q_cmp_isNaN_weak {A A2 : T_cmp_isNaN} (h : FnOK sy Try.prog GT (ovD ro) ro 16 (q_cmp_isNaN A)) (hA : ∀ a0 K, A2 a0 K → A a0 K) : FnOK sy Try.prog GT (ovD ro) ro 16 (q_cmp_isNaN A2) := h.weak (by
  intro us k h
  unfold q_cmp_isNaN at h ⊢
  split at h
  · exact hA _ _ h
  · exact h.elim)

def F_cmp_isNaN (a0 : Int) (K : Bool → Prop) : Prop :=
  K (decide (a0 ≠ a0))

def C_cmp_isNaN : CallT sg := tab []
theorem Cok_cmp_isNaN (o0 : Nat → Prop) : CalOK sy Try.prog GT (ovD ro) o0 ro (C_cmp_isNaN) := tab_nil o0

theorem raw_cmp_isNaN (a0 : Int) (k : W → Prop) : fnT sy Try.prog GT (C_cmp_isNaN) noL Try.f16.ntmps (bodyOf Try.f16) [none] Try.f16.results.toList [.i .i64 a0] k = F_cmp_isNaN a0 (fun r0 => k (.b r0)) := by kernel_rfl

theorem ok_cmp_isNaN : FnOK sy Try.prog GT (ovD ro) ro 16 (q_cmp_isNaN (F_cmp_isNaN)) := (fn_ok (rc := [none]) (f := 16) (fn := Try.f16) (c := bodyOf Try.f16) (nt := Try.f16.ntmps) (res := Try.f16.results.toList) (C := C_cmp_isNaN) (L := noL) (fun _ _ => rfl) Try.func16 (by kernel_rfl) rfl rfl (Cok_cmp_isNaN) (lp_of (l := []) (by kernel_rfl) lp_nil)).weak (by
  intro us k h
  unfold q_cmp_isNaN at h
  split at h
  · rw [raw_cmp_isNaN]; exact h
  · exact h.elim)

abbrev T_cmp_Compare := Int → Int → (Int → Prop) → Prop
def q_cmp_Compare (A : T_cmp_Compare) (us : List W) (k : W → Prop) : Prop := match us with
  | [.i .i64 a0, .i .i64 a1] => A a0 a1 (fun r0 => k (.i .i64 r0))
  | _ => False
theorem q_cmp_Compare_weak {A A2 : T_cmp_Compare} (h : FnOK sy Try.prog GT (ovD ro) ro 15 (q_cmp_Compare A)) (hA : ∀ a0 a1 K, A2 a0 a1 K → A a0 a1 K) : FnOK sy Try.prog GT (ovD ro) ro 15 (q_cmp_Compare A2) := h.weak (by
  intro us k h
  unfold q_cmp_Compare at h ⊢
  split at h
  · exact hA _ _ _ h
  · exact h.elim)

def F_cmp_Compare (A16 : T_cmp_isNaN) (a0 : Int) (a1 : Int) (K : Int → Prop) : Prop :=
  (A16 a0 (fun y1 => (A16 a1 (fun y2 => ((y1 = true → ((y2 = true → K (0 : Int)) ∧ (y2 = false → K (-1 : Int)))) ∧ (y1 = false → ((y2 = true → K (1 : Int)) ∧ (y2 = false → (((decide (a0 < a1)) = true → K (-1 : Int)) ∧ ((decide (a0 < a1)) = false → (((decide (a1 < a0)) = true → K (1 : Int)) ∧ ((decide (a1 < a0)) = false → K (0 : Int)))))))))))))

def C_cmp_Compare (A16 : T_cmp_isNaN) : CallT sg := tab [(16, con sy [none] (q_cmp_isNaN A16))]
theorem Cok_cmp_Compare (A16 : T_cmp_isNaN) (h16 : FnOK sy Try.prog GT (ovD ro) ro 16 (q_cmp_isNaN A16)) (o0 : Nat → Prop) : CalOK sy Try.prog GT (ovD ro) o0 ro (C_cmp_Compare A16) := (tab_cons (con_ok h16) tab_nil) o0

theorem raw_cmp_Compare (A16 : T_cmp_isNaN) (a0 : Int) (a1 : Int) (k : W → Prop) : fnT sy Try.prog GT (C_cmp_Compare A16) noL Try.f15.ntmps (bodyOf Try.f15) [none] Try.f15.results.toList [.i .i64 a0, .i .i64 a1] k = F_cmp_Compare A16 a0 a1 (fun r0 => k (.i .i64 r0)) := by kernel_rfl

theorem ok_cmp_Compare (A16 : T_cmp_isNaN) (h16 : FnOK sy Try.prog GT (ovD ro) ro 16 (q_cmp_isNaN A16)) : FnOK sy Try.prog GT (ovD ro) ro 15 (q_cmp_Compare (F_cmp_Compare A16)) := (fn_ok (rc := [none]) (f := 15) (fn := Try.f15) (c := bodyOf Try.f15) (nt := Try.f15.ntmps) (res := Try.f15.results.toList) (C := C_cmp_Compare A16) (L := noL) (fun _ _ => rfl) Try.func15 (by kernel_rfl) rfl rfl (Cok_cmp_Compare A16 h16) (lp_of (l := []) (by kernel_rfl) lp_nil)).weak (by
  intro us k h
  unfold q_cmp_Compare at h
  split at h
  · rw [raw_cmp_Compare]; exact h
  · exact h.elim)

abbrev T_sl_Compare := List Int → List Int → (Int → Prop) → Prop
def q_sl_Compare (A : T_sl_Compare) (us : List W) (k : W → Prop) : Prop := match us with
  | [.l Cd.i64 a0, .l Cd.i64 a1] => A a0 a1 (fun r0 => k (.i .i64 r0))
  | _ => False
theorem q_sl_Compare_weak {A A2 : T_sl_Compare} (h : FnOK sy Try.prog GT (ovD ro) ro 14 (q_sl_Compare A)) (hA : ∀ a0 a1 K, A2 a0 a1 K → A a0 a1 K) : FnOK sy Try.prog GT (ovD ro) ro 14 (q_sl_Compare A2) := h.weak (by
  intro us k h
  unfold q_sl_Compare at h ⊢
  split at h
  · exact hA _ _ _ h
  · exact h.elim)

def F_sl_Compare_l2 (A15 : T_cmp_Compare) : Nat → List Int → List Int → List Int → Int → Int → (List Int → List Int → Prop) → (Int → Prop) → Prop
  | 0, _, _, _, _, _, _, _ => False
  | n + 1, x0, x1, x9, x10, x11, Ke, Kr => (((decide (x11 < x10)) = true → ((0 ≤ x11 ∧ x11 < (x9.length : Int)) ∧ (((decide ((x1.length : Int) ≤ x11)) = true → Kr (1 : Int)) ∧ ((decide ((x1.length : Int) ≤ x11)) = false → ((0 ≤ x11 ∧ x11 < (x1.length : Int)) ∧ (A15 (id (x9.getD x11.toNat (dfltD Cd.i64)) : Int) (id (x1.getD x11.toNat (dfltD Cd.i64)) : Int) (fun y1 => (((decide (y1 ≠ (0 : Int))) = true → Kr y1) ∧ ((decide (y1 ≠ (0 : Int))) = false → (I64 (x11 + (1 : Int)) ∧ F_sl_Compare_l2 A15 n x0 x1 x9 x10 (x11 + (1 : Int)) Ke Kr)))))))))) ∧ ((decide (x11 < x10)) = false → Ke x0 x1))

def F_sl_Compare (A15 : T_cmp_Compare) (a0 : List Int) (a1 : List Int) (K : Int → Prop) : Prop :=
  (∃ m, F_sl_Compare_l2 A15 m a0 a1 a0 (a0.length : Int) (0 : Int) (fun y1 y2 => (((decide ((y1.length : Int) < (y2.length : Int))) = true → K (-1 : Int)) ∧ ((decide ((y1.length : Int) < (y2.length : Int))) = false → K (0 : Int)))) (fun y3 => K y3))

def C_sl_Compare (A15 : T_cmp_Compare) : CallT sg := tab [(15, con sy [none, none] (q_cmp_Compare A15))]
theorem Cok_sl_Compare (A15 : T_cmp_Compare) (h15 : FnOK sy Try.prog GT (ovD ro) ro 15 (q_cmp_Compare A15)) (o0 : Nat → Prop) : CalOK sy Try.prog GT (ovD ro) o0 ro (C_sl_Compare A15) := (tab_cons (con_ok h15) tab_nil) o0

abbrev Ya_sl_Compare_2 : Type := ((List (sg.Den Cd.i64)) × (List (sg.Den Cd.i64)) × (List (sg.Den Cd.i64)) × Int × Int × Unit)
abbrev Yb_sl_Compare_2 : Type := Unit
def ls_sl_Compare_2 : LS sy Ya_sl_Compare_2 Yb_sl_Compare_2 := ⟨[], fCons 0 (vData sy Cd.i64) (fCons 1 (vData sy Cd.i64) (fCons 9 (vData sy Cd.i64) (fCons 10 (vInt sy .i64) (fCons 11 (vInt sy .i64) (fNil sy))))), hNil sy, 0, []⟩
def le_sl_Compare_2 : LS sy ((List (sg.Den Cd.i64)) × (List (sg.Den Cd.i64)) × Unit) Unit := ⟨[], fCons 0 (vData sy Cd.i64) (fCons 1 (vData sy Cd.i64) (fNil sy)), hNil sy, 0, []⟩
def lr_sl_Compare_2 : LS sy (Int × Unit) Unit := ⟨[], fCons 4 (vInt sy .i64) (fNil sy), hNil sy, 0, []⟩
def FF_sl_Compare_2 (A15 : T_cmp_Compare) (n : Nat) (x : Ya_sl_Compare_2 × Yb_sl_Compare_2) (K : Ex → Z sg → Prop) : Prop := F_sl_Compare_l2 A15 n x.1.1 x.1.2.1 x.1.2.2.1 x.1.2.2.2.1 x.1.2.2.2.2.1 (fun y0 y1 => K (.exit 0) (le_sl_Compare_2.put ((y0, y1, ()), ()))) (fun y0 => K .ret (lr_sl_Compare_2.put ((y0, ()), ())))
def h_sl_Compare_2 (A15 : T_cmp_Compare) (z : Z sg) (K : Ex → Z sg → Prop) : Prop := ls_sl_Compare_2.get z (fun x => ∃ n, FF_sl_Compare_2 A15 n x K)
def L_sl_Compare (A15 : T_cmp_Compare) : LoopT sg := tabL [(2, h_sl_Compare_2 A15)]
theorem hs_sl_Compare_2 (A15 : T_cmp_Compare) (n : Nat) (x : Ya_sl_Compare_2 × Yb_sl_Compare_2) (K : Ex → Z sg → Prop) : forceZ (ls_sl_Compare_2.put x) (fun z => sC sy Try.prog GT (C_sl_Compare A15) (L_sl_Compare A15) Try.f14.ntmps (nthLoop (bodyOf Try.f14) 0) z (rnd ls_sl_Compare_2 (czT 0 le_sl_Compare_2 lr_sl_Compare_2) (fun x => FF_sl_Compare_2 A15 n x K) K)) = FF_sl_Compare_2 A15 (n + 1) x K := by kernel_rfl
theorem hl_sl_Compare_2 (A15 : T_cmp_Compare) (z : Z sg) (K : Ex → Z sg → Prop) : (L_sl_Compare A15) (nthLoop (bodyOf Try.f14) 0) z K = ls_sl_Compare_2.get z (fun x => ∃ n, FF_sl_Compare_2 A15 n x K) := by kernel_rfl
theorem lo_sl_Compare_2 (A15 : T_cmp_Compare) (h15 : FnOK sy Try.prog GT (ovD ro) ro 15 (q_cmp_Compare A15)) : ∀ (o0 : Nat → Prop) (B : Bs sg), B.E.length ≤ 0 → ∀ z K, (L_sl_Compare A15) (nthLoop (bodyOf Try.f14) 0) z K → Sx.Sem sy Try.prog GT (ovD ro) o0 ro Try.f14.ntmps B (.loop (nthLoop (bodyOf Try.f14) 0)) z K :=
  loop_ok (Cok_sl_Compare A15 h15) (lp_of (l := []) (by kernel_rfl) lp_nil) ls_sl_Compare_2 (by decide) (czT 0 le_sl_Compare_2 lr_sl_Compare_2) (fun _ _ hB => czT_ok 0 le_sl_Compare_2 lr_sl_Compare_2 (Nat.le_trans hB (by decide)) (Nat.le_trans hB (by decide))) (fun _ _ h => h) (hs_sl_Compare_2 A15) (hl_sl_Compare_2 A15)
theorem Lp_sl_Compare (A15 : T_cmp_Compare) (h15 : FnOK sy Try.prog GT (ovD ro) ro 15 (q_cmp_Compare A15)) : LpOK sy Try.prog GT (ovD ro) ro (L_sl_Compare A15) 0 Try.f14.ntmps (bodyOf Try.f14) := lp_of (l := [(nthLoop (bodyOf Try.f14) 0)]) (by kernel_rfl) (lp_cons (lo_sl_Compare_2 A15 h15) lp_nil)


theorem raw_sl_Compare (A15 : T_cmp_Compare) (a0 : List Int) (a1 : List Int) (k : W → Prop) : fnT sy Try.prog GT (C_sl_Compare A15) (L_sl_Compare A15) Try.f14.ntmps (bodyOf Try.f14) [none] Try.f14.results.toList [.l Cd.i64 a0, .l Cd.i64 a1] k = F_sl_Compare A15 a0 a1 (fun r0 => k (.i .i64 r0)) := by kernel_rfl

theorem ok_sl_Compare (A15 : T_cmp_Compare) (h15 : FnOK sy Try.prog GT (ovD ro) ro 15 (q_cmp_Compare A15)) : FnOK sy Try.prog GT (ovD ro) ro 14 (q_sl_Compare (F_sl_Compare A15)) := (fn_ok (rc := [none]) (f := 14) (fn := Try.f14) (c := bodyOf Try.f14) (nt := Try.f14.ntmps) (res := Try.f14.results.toList) (C := C_sl_Compare A15) (L := (L_sl_Compare A15)) (fun _ _ => rfl) Try.func14 (by kernel_rfl) rfl rfl (Cok_sl_Compare A15 h15) (Lp_sl_Compare A15 h15)).weak (by
  intro us k h
  unfold q_sl_Compare at h
  split at h
  · skip
    rename_i a0 a1
    rw [raw_sl_Compare A15 a0 a1 k]
    exact h
  · exact h.elim)

abbrev T_w_cmp := (Int × Int × Int) → (Int × Int × Int) → (Int → Prop) → Prop
def q_w_cmp (A : T_w_cmp) (us : List W) (k : W → Prop) : Prop := match us with
  | [.a [.i .i64 a0_0, .i .i64 a0_1, .i .i64 a0_2], .a [.i .i64 a1_0, .i .i64 a1_1, .i .i64 a1_2]] => A (a0_0, a0_1, a0_2) (a1_0, a1_1, a1_2) (fun r0 => k (.i .i64 r0))
  | _ => False
theorem q_w_cmp_weak {A A2 : T_w_cmp} (h : FnOK sy Try.prog GT (ovD ro) ro 9 (q_w_cmp A)) (hA : ∀ a0 a1 K, A2 a0 a1 K → A a0 a1 K) : FnOK sy Try.prog GT (ovD ro) ro 9 (q_w_cmp A2) := h.weak (by
  intro us k h
  unfold q_w_cmp at h ⊢
  split at h
  · exact hA _ _ _ h
  · exact h.elim)

def F_w_cmp (A14 : T_sl_Compare) (a0 : (Int × Int × Int)) (a1 : (Int × Int × Int)) (K : Int → Prop) : Prop :=
  (A14 [a0.1, a0.2.1, a0.2.2] [a1.1, a1.2.1, a1.2.2] (fun y1 => K y1))

def C_w_cmp (A14 : T_sl_Compare) : CallT sg := tab [(14, con sy [some Cd.i64, some Cd.i64] (q_sl_Compare A14))]
theorem Cok_w_cmp (A14 : T_sl_Compare) (h14 : FnOK sy Try.prog GT (ovD ro) ro 14 (q_sl_Compare A14)) (o0 : Nat → Prop) : CalOK sy Try.prog GT (ovD ro) o0 ro (C_w_cmp A14) := (tab_cons (con_ok h14) tab_nil) o0

theorem raw_w_cmp (A14 : T_sl_Compare) (a0 : (Int × Int × Int)) (a1 : (Int × Int × Int)) (k : W → Prop) : fnT sy Try.prog GT (C_w_cmp A14) noL Try.f9.ntmps (bodyOf Try.f9) [none] Try.f9.results.toList [.a [.i .i64 a0.1, .i .i64 a0.2.1, .i .i64 a0.2.2], .a [.i .i64 a1.1, .i .i64 a1.2.1, .i .i64 a1.2.2]] k = F_w_cmp A14 a0 a1 (fun r0 => k (.i .i64 r0)) := by kernel_rfl

theorem ok_w_cmp (A14 : T_sl_Compare) (h14 : FnOK sy Try.prog GT (ovD ro) ro 14 (q_sl_Compare A14)) : FnOK sy Try.prog GT (ovD ro) ro 9 (q_w_cmp (F_w_cmp A14)) := (fn_ok (rc := [none]) (f := 9) (fn := Try.f9) (c := bodyOf Try.f9) (nt := Try.f9.ntmps) (res := Try.f9.results.toList) (C := C_w_cmp A14) (L := noL) (fun _ _ => rfl) Try.func9 (by kernel_rfl) rfl rfl (Cok_w_cmp A14 h14) (lp_of (l := []) (by kernel_rfl) lp_nil)).weak (by
  intro us k h
  unfold q_w_cmp at h
  split at h
  · skip
    rename_i a0_0 a0_1 a0_2 a1_0 a1_1 a1_2
    rw [raw_w_cmp A14 (a0_0, a0_1, a0_2) (a1_0, a1_1, a1_2) k]
    exact h
  · exact h.elim)

abbrev T_w_isValid := (Int × Int × Int) → (Bool → Prop) → Prop
def q_w_isValid (A : T_w_isValid) (us : List W) (k : W → Prop) : Prop := match us with
  | [.a [.i .i64 a0_0, .i .i64 a0_1, .i .i64 a0_2]] => A (a0_0, a0_1, a0_2) (fun r0 => k (.b r0))
  | _ => False
theorem q_w_isValid_weak {A A2 : T_w_isValid} (h : FnOK sy Try.prog GT (ovD ro) ro 8 (q_w_isValid A)) (hA : ∀ a0 K, A2 a0 K → A a0 K) : FnOK sy Try.prog GT (ovD ro) ro 8 (q_w_isValid A2) := h.weak (by
  intro us k h
  unfold q_w_isValid at h ⊢
  split at h
  · exact hA _ _ h
  · exact h.elim)

def F_w_isValid_l2 : Nat → Int → Int → Int → Int → (Unit → Prop) → (Bool → Prop) → Prop
  | 0, _, _, _, _, _, _ => False
  | n + 1, x5_0, x5_1, x5_2, x6, Ke, Kr => (((decide (x6 < (3 : Int))) = true → ((0 ≤ x6 ∧ x6 < (3 : Int)) ∧ ((x6 = 0 → ((0 ≤ (0 : Int) ∧ (0 : Int) < (3 : Int)) ∧ (((decide (x5_0 < (0 : Int))) = false → (((decide ((4000 : Int) < x5_0)) = true → Kr false) ∧ ((decide ((4000 : Int) < x5_0)) = false → (I64 (x6 + (1 : Int)) ∧ F_w_isValid_l2 n x5_0 x5_1 x5_2 (x6 + (1 : Int)) Ke Kr)))) ∧ ((decide (x5_0 < (0 : Int))) = true → Kr false)))) ∧ ((x6 = 1 → ((0 ≤ (1 : Int) ∧ (1 : Int) < (3 : Int)) ∧ (((decide (x5_1 < (0 : Int))) = false → (((decide ((4000 : Int) < x5_1)) = true → Kr false) ∧ ((decide ((4000 : Int) < x5_1)) = false → (I64 (x6 + (1 : Int)) ∧ F_w_isValid_l2 n x5_0 x5_1 x5_2 (x6 + (1 : Int)) Ke Kr)))) ∧ ((decide (x5_1 < (0 : Int))) = true → Kr false)))) ∧ ((x6 = 2 → ((0 ≤ (2 : Int) ∧ (2 : Int) < (3 : Int)) ∧ (((decide (x5_2 < (0 : Int))) = false → (((decide ((4000 : Int) < x5_2)) = true → Kr false) ∧ ((decide ((4000 : Int) < x5_2)) = false → (I64 (x6 + (1 : Int)) ∧ F_w_isValid_l2 n x5_0 x5_1 x5_2 (x6 + (1 : Int)) Ke Kr)))) ∧ ((decide (x5_2 < (0 : Int))) = true → Kr false)))) ∧ True))))) ∧ ((decide (x6 < (3 : Int))) = false → Ke ()))

def F_w_isValid (a0 : (Int × Int × Int)) (K : Bool → Prop) : Prop :=
  (∃ m, F_w_isValid_l2 m a0.1 a0.2.1 a0.2.2 (0 : Int) (fun _ => K true) (fun y1 => K y1))

def C_w_isValid : CallT sg := tab []
theorem Cok_w_isValid (o0 : Nat → Prop) : CalOK sy Try.prog GT (ovD ro) o0 ro (C_w_isValid) := tab_nil o0

abbrev Ya_w_isValid_2 : Type := ((Int × Int × Int × Unit) × Int × Unit)
abbrev Yb_w_isValid_2 : Type := Unit
def ls_w_isValid_2 : LS sy Ya_w_isValid_2 Yb_w_isValid_2 := ⟨[], fCons 5 (vAgg (lCons (vInt sy .i64) (lCons (vInt sy .i64) (lCons (vInt sy .i64) (lNil sy))))) (fCons 6 (vInt sy .i64) (fNil sy)), hNil sy, 0, []⟩
def le_w_isValid_2 : LS sy Unit Unit := ⟨[], fNil sy, hNil sy, 0, []⟩
def lr_w_isValid_2 : LS sy (Bool × Unit) Unit := ⟨[], fCons 2 (vBool sy) (fNil sy), hNil sy, 0, []⟩
def FF_w_isValid_2 (n : Nat) (x : Ya_w_isValid_2 × Yb_w_isValid_2) (K : Ex → Z sg → Prop) : Prop := F_w_isValid_l2 n x.1.1.1 x.1.1.2.1 x.1.1.2.2.1 x.1.2.1 (fun _ => K (.exit 0) (le_w_isValid_2.put ((), ()))) (fun y0 => K .ret (lr_w_isValid_2.put ((y0, ()), ())))
def h_w_isValid_2 (z : Z sg) (K : Ex → Z sg → Prop) : Prop := ls_w_isValid_2.get z (fun x => ∃ n, FF_w_isValid_2 n x K)
def L_w_isValid : LoopT sg := tabL [(2, h_w_isValid_2)]
theorem hs_w_isValid_2 (n : Nat) (x : Ya_w_isValid_2 × Yb_w_isValid_2) (K : Ex → Z sg → Prop) : forceZ (ls_w_isValid_2.put x) (fun z => sC sy Try.prog GT (C_w_isValid) (L_w_isValid) Try.f8.ntmps (nthLoop (bodyOf Try.f8) 0) z (rnd ls_w_isValid_2 (czT 0 le_w_isValid_2 lr_w_isValid_2) (fun x => FF_w_isValid_2 n x K) K)) = FF_w_isValid_2 (n + 1) x K := by kernel_rfl
theorem hl_w_isValid_2 (z : Z sg) (K : Ex → Z sg → Prop) : (L_w_isValid) (nthLoop (bodyOf Try.f8) 0) z K = ls_w_isValid_2.get z (fun x => ∃ n, FF_w_isValid_2 n x K) := by kernel_rfl
theorem lo_w_isValid_2 : ∀ (o0 : Nat → Prop) (B : Bs sg), B.E.length ≤ 0 → ∀ z K, (L_w_isValid) (nthLoop (bodyOf Try.f8) 0) z K → Sx.Sem sy Try.prog GT (ovD ro) o0 ro Try.f8.ntmps B (.loop (nthLoop (bodyOf Try.f8) 0)) z K :=
  loop_ok (Cok_w_isValid) (lp_of (l := []) (by kernel_rfl) lp_nil) ls_w_isValid_2 (by decide) (czT 0 le_w_isValid_2 lr_w_isValid_2) (fun _ _ hB => czT_ok 0 le_w_isValid_2 lr_w_isValid_2 (Nat.le_trans hB (by decide)) (Nat.le_trans hB (by decide))) (fun _ _ h => h) (hs_w_isValid_2) (hl_w_isValid_2)
theorem Lp_w_isValid : LpOK sy Try.prog GT (ovD ro) ro (L_w_isValid) 0 Try.f8.ntmps (bodyOf Try.f8) := lp_of (l := [(nthLoop (bodyOf Try.f8) 0)]) (by kernel_rfl) (lp_cons (lo_w_isValid_2) lp_nil)


theorem raw_w_isValid (a0 : (Int × Int × Int)) (k : W → Prop) : fnT sy Try.prog GT (C_w_isValid) (L_w_isValid) Try.f8.ntmps (bodyOf Try.f8) [none] Try.f8.results.toList [.a [.i .i64 a0.1, .i .i64 a0.2.1, .i .i64 a0.2.2]] k = F_w_isValid a0 (fun r0 => k (.b r0)) := by kernel_rfl

theorem ok_w_isValid : FnOK sy Try.prog GT (ovD ro) ro 8 (q_w_isValid (F_w_isValid)) := (fn_ok (rc := [none]) (f := 8) (fn := Try.f8) (c := bodyOf Try.f8) (nt := Try.f8.ntmps) (res := Try.f8.results.toList) (C := C_w_isValid) (L := (L_w_isValid)) (fun _ _ => rfl) Try.func8 (by kernel_rfl) rfl rfl (Cok_w_isValid) (Lp_w_isValid)).weak (by
  intro us k h
  unfold q_w_isValid at h
  split at h
  · skip
    rename_i a0_0 a0_1 a0_2
    rw [raw_w_isValid (a0_0, a0_1, a0_2) k]
    exact h
  · exact h.elim)

abbrev T_w_sum := (Int × Int × Int) → (Int × Int × Int) → ((Int × Int × Int) → Prop) → Prop
def q_w_sum (A : T_w_sum) (us : List W) (k : W → Prop) : Prop := match us with
  | [.a [.i .i64 a0_0, .i .i64 a0_1, .i .i64 a0_2], .a [.i .i64 a1_0, .i .i64 a1_1, .i .i64 a1_2]] => A (a0_0, a0_1, a0_2) (a1_0, a1_1, a1_2) (fun r0 => k (.a [.i .i64 r0.1, .i .i64 r0.2.1, .i .i64 r0.2.2]))
  | _ => False
theorem q_w_sum_weak {A A2 : T_w_sum} (h : FnOK sy Try.prog GT (ovD ro) ro 12 (q_w_sum A)) (hA : ∀ a0 a1 K, A2 a0 a1 K → A a0 a1 K) : FnOK sy Try.prog GT (ovD ro) ro 12 (q_w_sum A2) := h.weak (by
  intro us k h
  unfold q_w_sum at h ⊢
  split at h
  · exact hA _ _ _ h
  · exact h.elim)

def F_w_sum_l2 : Nat → Int → Int → Int → Int → Int → Int → Int → Int → Int → Int → (Int → Int → Int → Int → Int → Int → Prop) → Prop
  | 0, _, _, _, _, _, _, _, _, _, _, _ => False
  | n + 1, x7_0, x7_1, x7_2, x8, c0_0, c0_1, c0_2, c2_0, c2_1, c2_2, Ke => (((decide (x8 < (3 : Int))) = true → ((0 ≤ x8 ∧ x8 < (3 : Int)) ∧ ((x8 = 0 → ((0 ≤ (0 : Int) ∧ (0 : Int) < (3 : Int)) ∧ ((0 ≤ x8 ∧ x8 < (3 : Int)) ∧ ((x8 = 0 → ((0 ≤ (0 : Int) ∧ (0 : Int) < (3 : Int)) ∧ (I64 (c0_0 + x7_0) ∧ ((0 ≤ x8 ∧ x8 < (3 : Int)) ∧ ((x8 = 0 → ((0 ≤ (0 : Int) ∧ (0 : Int) < (3 : Int)) ∧ (I64 (x8 + (1 : Int)) ∧ F_w_sum_l2 n x7_0 x7_1 x7_2 (x8 + (1 : Int)) (c0_0 + x7_0) c0_1 c0_2 c2_0 c2_1 c2_2 Ke))) ∧ ((x8 = 1 → ((0 ≤ (1 : Int) ∧ (1 : Int) < (3 : Int)) ∧ (I64 (x8 + (1 : Int)) ∧ F_w_sum_l2 n x7_0 x7_1 x7_2 (x8 + (1 : Int)) c0_0 (c0_0 + x7_0) c0_2 c2_0 c2_1 c2_2 Ke))) ∧ ((x8 = 2 → ((0 ≤ (2 : Int) ∧ (2 : Int) < (3 : Int)) ∧ (I64 (x8 + (1 : Int)) ∧ F_w_sum_l2 n x7_0 x7_1 x7_2 (x8 + (1 : Int)) c0_0 c0_1 (c0_0 + x7_0) c2_0 c2_1 c2_2 Ke))) ∧ True))))))) ∧ ((x8 = 1 → ((0 ≤ (1 : Int) ∧ (1 : Int) < (3 : Int)) ∧ (I64 (c0_1 + x7_0) ∧ ((0 ≤ x8 ∧ x8 < (3 : Int)) ∧ ((x8 = 0 → ((0 ≤ (0 : Int) ∧ (0 : Int) < (3 : Int)) ∧ (I64 (x8 + (1 : Int)) ∧ F_w_sum_l2 n x7_0 x7_1 x7_2 (x8 + (1 : Int)) (c0_1 + x7_0) c0_1 c0_2 c2_0 c2_1 c2_2 Ke))) ∧ ((x8 = 1 → ((0 ≤ (1 : Int) ∧ (1 : Int) < (3 : Int)) ∧ (I64 (x8 + (1 : Int)) ∧ F_w_sum_l2 n x7_0 x7_1 x7_2 (x8 + (1 : Int)) c0_0 (c0_1 + x7_0) c0_2 c2_0 c2_1 c2_2 Ke))) ∧ ((x8 = 2 → ((0 ≤ (2 : Int) ∧ (2 : Int) < (3 : Int)) ∧ (I64 (x8 + (1 : Int)) ∧ F_w_sum_l2 n x7_0 x7_1 x7_2 (x8 + (1 : Int)) c0_0 c0_1 (c0_1 + x7_0) c2_0 c2_1 c2_2 Ke))) ∧ True))))))) ∧ ((x8 = 2 → ((0 ≤ (2 : Int) ∧ (2 : Int) < (3 : Int)) ∧ (I64 (c0_2 + x7_0) ∧ ((0 ≤ x8 ∧ x8 < (3 : Int)) ∧ ((x8 = 0 → ((0 ≤ (0 : Int) ∧ (0 : Int) < (3 : Int)) ∧ (I64 (x8 + (1 : Int)) ∧ F_w_sum_l2 n x7_0 x7_1 x7_2 (x8 + (1 : Int)) (c0_2 + x7_0) c0_1 c0_2 c2_0 c2_1 c2_2 Ke))) ∧ ((x8 = 1 → ((0 ≤ (1 : Int) ∧ (1 : Int) < (3 : Int)) ∧ (I64 (x8 + (1 : Int)) ∧ F_w_sum_l2 n x7_0 x7_1 x7_2 (x8 + (1 : Int)) c0_0 (c0_2 + x7_0) c0_2 c2_0 c2_1 c2_2 Ke))) ∧ ((x8 = 2 → ((0 ≤ (2 : Int) ∧ (2 : Int) < (3 : Int)) ∧ (I64 (x8 + (1 : Int)) ∧ F_w_sum_l2 n x7_0 x7_1 x7_2 (x8 + (1 : Int)) c0_0 c0_1 (c0_2 + x7_0) c2_0 c2_1 c2_2 Ke))) ∧ True))))))) ∧ True)))))) ∧ ((x8 = 1 → ((0 ≤ (1 : Int) ∧ (1 : Int) < (3 : Int)) ∧ ((0 ≤ x8 ∧ x8 < (3 : Int)) ∧ ((x8 = 0 → ((0 ≤ (0 : Int) ∧ (0 : Int) < (3 : Int)) ∧ (I64 (c0_0 + x7_1) ∧ ((0 ≤ x8 ∧ x8 < (3 : Int)) ∧ ((x8 = 0 → ((0 ≤ (0 : Int) ∧ (0 : Int) < (3 : Int)) ∧ (I64 (x8 + (1 : Int)) ∧ F_w_sum_l2 n x7_0 x7_1 x7_2 (x8 + (1 : Int)) (c0_0 + x7_1) c0_1 c0_2 c2_0 c2_1 c2_2 Ke))) ∧ ((x8 = 1 → ((0 ≤ (1 : Int) ∧ (1 : Int) < (3 : Int)) ∧ (I64 (x8 + (1 : Int)) ∧ F_w_sum_l2 n x7_0 x7_1 x7_2 (x8 + (1 : Int)) c0_0 (c0_0 + x7_1) c0_2 c2_0 c2_1 c2_2 Ke))) ∧ ((x8 = 2 → ((0 ≤ (2 : Int) ∧ (2 : Int) < (3 : Int)) ∧ (I64 (x8 + (1 : Int)) ∧ F_w_sum_l2 n x7_0 x7_1 x7_2 (x8 + (1 : Int)) c0_0 c0_1 (c0_0 + x7_1) c2_0 c2_1 c2_2 Ke))) ∧ True))))))) ∧ ((x8 = 1 → ((0 ≤ (1 : Int) ∧ (1 : Int) < (3 : Int)) ∧ (I64 (c0_1 + x7_1) ∧ ((0 ≤ x8 ∧ x8 < (3 : Int)) ∧ ((x8 = 0 → ((0 ≤ (0 : Int) ∧ (0 : Int) < (3 : Int)) ∧ (I64 (x8 + (1 : Int)) ∧ F_w_sum_l2 n x7_0 x7_1 x7_2 (x8 + (1 : Int)) (c0_1 + x7_1) c0_1 c0_2 c2_0 c2_1 c2_2 Ke))) ∧ ((x8 = 1 → ((0 ≤ (1 : Int) ∧ (1 : Int) < (3 : Int)) ∧ (I64 (x8 + (1 : Int)) ∧ F_w_sum_l2 n x7_0 x7_1 x7_2 (x8 + (1 : Int)) c0_0 (c0_1 + x7_1) c0_2 c2_0 c2_1 c2_2 Ke))) ∧ ((x8 = 2 → ((0 ≤ (2 : Int) ∧ (2 : Int) < (3 : Int)) ∧ (I64 (x8 + (1 : Int)) ∧ F_w_sum_l2 n x7_0 x7_1 x7_2 (x8 + (1 : Int)) c0_0 c0_1 (c0_1 + x7_1) c2_0 c2_1 c2_2 Ke))) ∧ True))))))) ∧ ((x8 = 2 → ((0 ≤ (2 : Int) ∧ (2 : Int) < (3 : Int)) ∧ (I64 (c0_2 + x7_1) ∧ ((0 ≤ x8 ∧ x8 < (3 : Int)) ∧ ((x8 = 0 → ((0 ≤ (0 : Int) ∧ (0 : Int) < (3 : Int)) ∧ (I64 (x8 + (1 : Int)) ∧ F_w_sum_l2 n x7_0 x7_1 x7_2 (x8 + (1 : Int)) (c0_2 + x7_1) c0_1 c0_2 c2_0 c2_1 c2_2 Ke))) ∧ ((x8 = 1 → ((0 ≤ (1 : Int) ∧ (1 : Int) < (3 : Int)) ∧ (I64 (x8 + (1 : Int)) ∧ F_w_sum_l2 n x7_0 x7_1 x7_2 (x8 + (1 : Int)) c0_0 (c0_2 + x7_1) c0_2 c2_0 c2_1 c2_2 Ke))) ∧ ((x8 = 2 → ((0 ≤ (2 : Int) ∧ (2 : Int) < (3 : Int)) ∧ (I64 (x8 + (1 : Int)) ∧ F_w_sum_l2 n x7_0 x7_1 x7_2 (x8 + (1 : Int)) c0_0 c0_1 (c0_2 + x7_1) c2_0 c2_1 c2_2 Ke))) ∧ True))))))) ∧ True)))))) ∧ ((x8 = 2 → ((0 ≤ (2 : Int) ∧ (2 : Int) < (3 : Int)) ∧ ((0 ≤ x8 ∧ x8 < (3 : Int)) ∧ ((x8 = 0 → ((0 ≤ (0 : Int) ∧ (0 : Int) < (3 : Int)) ∧ (I64 (c0_0 + x7_2) ∧ ((0 ≤ x8 ∧ x8 < (3 : Int)) ∧ ((x8 = 0 → ((0 ≤ (0 : Int) ∧ (0 : Int) < (3 : Int)) ∧ (I64 (x8 + (1 : Int)) ∧ F_w_sum_l2 n x7_0 x7_1 x7_2 (x8 + (1 : Int)) (c0_0 + x7_2) c0_1 c0_2 c2_0 c2_1 c2_2 Ke))) ∧ ((x8 = 1 → ((0 ≤ (1 : Int) ∧ (1 : Int) < (3 : Int)) ∧ (I64 (x8 + (1 : Int)) ∧ F_w_sum_l2 n x7_0 x7_1 x7_2 (x8 + (1 : Int)) c0_0 (c0_0 + x7_2) c0_2 c2_0 c2_1 c2_2 Ke))) ∧ ((x8 = 2 → ((0 ≤ (2 : Int) ∧ (2 : Int) < (3 : Int)) ∧ (I64 (x8 + (1 : Int)) ∧ F_w_sum_l2 n x7_0 x7_1 x7_2 (x8 + (1 : Int)) c0_0 c0_1 (c0_0 + x7_2) c2_0 c2_1 c2_2 Ke))) ∧ True))))))) ∧ ((x8 = 1 → ((0 ≤ (1 : Int) ∧ (1 : Int) < (3 : Int)) ∧ (I64 (c0_1 + x7_2) ∧ ((0 ≤ x8 ∧ x8 < (3 : Int)) ∧ ((x8 = 0 → ((0 ≤ (0 : Int) ∧ (0 : Int) < (3 : Int)) ∧ (I64 (x8 + (1 : Int)) ∧ F_w_sum_l2 n x7_0 x7_1 x7_2 (x8 + (1 : Int)) (c0_1 + x7_2) c0_1 c0_2 c2_0 c2_1 c2_2 Ke))) ∧ ((x8 = 1 → ((0 ≤ (1 : Int) ∧ (1 : Int) < (3 : Int)) ∧ (I64 (x8 + (1 : Int)) ∧ F_w_sum_l2 n x7_0 x7_1 x7_2 (x8 + (1 : Int)) c0_0 (c0_1 + x7_2) c0_2 c2_0 c2_1 c2_2 Ke))) ∧ ((x8 = 2 → ((0 ≤ (2 : Int) ∧ (2 : Int) < (3 : Int)) ∧ (I64 (x8 + (1 : Int)) ∧ F_w_sum_l2 n x7_0 x7_1 x7_2 (x8 + (1 : Int)) c0_0 c0_1 (c0_1 + x7_2) c2_0 c2_1 c2_2 Ke))) ∧ True))))))) ∧ ((x8 = 2 → ((0 ≤ (2 : Int) ∧ (2 : Int) < (3 : Int)) ∧ (I64 (c0_2 + x7_2) ∧ ((0 ≤ x8 ∧ x8 < (3 : Int)) ∧ ((x8 = 0 → ((0 ≤ (0 : Int) ∧ (0 : Int) < (3 : Int)) ∧ (I64 (x8 + (1 : Int)) ∧ F_w_sum_l2 n x7_0 x7_1 x7_2 (x8 + (1 : Int)) (c0_2 + x7_2) c0_1 c0_2 c2_0 c2_1 c2_2 Ke))) ∧ ((x8 = 1 → ((0 ≤ (1 : Int) ∧ (1 : Int) < (3 : Int)) ∧ (I64 (x8 + (1 : Int)) ∧ F_w_sum_l2 n x7_0 x7_1 x7_2 (x8 + (1 : Int)) c0_0 (c0_2 + x7_2) c0_2 c2_0 c2_1 c2_2 Ke))) ∧ ((x8 = 2 → ((0 ≤ (2 : Int) ∧ (2 : Int) < (3 : Int)) ∧ (I64 (x8 + (1 : Int)) ∧ F_w_sum_l2 n x7_0 x7_1 x7_2 (x8 + (1 : Int)) c0_0 c0_1 (c0_2 + x7_2) c2_0 c2_1 c2_2 Ke))) ∧ True))))))) ∧ True)))))) ∧ True))))) ∧ ((decide (x8 < (3 : Int))) = false → Ke c0_0 c0_1 c0_2 c2_0 c2_1 c2_2))

def F_w_sum (a0 : (Int × Int × Int)) (a1 : (Int × Int × Int)) (K : (Int × Int × Int) → Prop) : Prop :=
  (∃ m, F_w_sum_l2 m a1.1 a1.2.1 a1.2.2 (0 : Int) a0.1 a0.2.1 a0.2.2 (0 : Int) (0 : Int) (0 : Int) (fun y1 y2 y3 y4 y5 y6 => K (y1, y2, y3)))

def C_w_sum : CallT sg := tab []
theorem Cok_w_sum (o0 : Nat → Prop) : CalOK sy Try.prog GT (ovD ro) o0 ro (C_w_sum) := tab_nil o0

abbrev Ya_w_sum_2 : Type := (Unit × Unit × (Int × Int × Int × Unit) × Int × Unit)
abbrev Yb_w_sum_2 : Type := ((Int × Int × Int × Unit) × (Int × Int × Int × Unit) × Unit)
def ls_w_sum_2 : LS sy Ya_w_sum_2 Yb_w_sum_2 := ⟨[], fCons 2 (vLit sy (.p 0 0)) (fCons 4 (vLit sy (.p 2 0)) (fCons 7 (vAgg (lCons (vInt sy .i64) (lCons (vInt sy .i64) (lCons (vInt sy .i64) (lNil sy))))) (fCons 8 (vInt sy .i64) (fNil sy)))), hCells 0 (lCons (vInt sy .i64) (lCons (vInt sy .i64) (lCons (vInt sy .i64) (lNil sy)))) (hCells 2 (lCons (vInt sy .i64) (lCons (vInt sy .i64) (lCons (vInt sy .i64) (lNil sy)))) (hNil sy)), 3, []⟩
def le_w_sum_2 : LS sy (Unit × Unit × Unit) ((Int × Int × Int × Unit) × (Int × Int × Int × Unit) × Unit) := ⟨[], fCons 2 (vLit sy (.p 0 0)) (fCons 4 (vLit sy (.p 2 0)) (fNil sy)), hCells 0 (lCons (vInt sy .i64) (lCons (vInt sy .i64) (lCons (vInt sy .i64) (lNil sy)))) (hCells 2 (lCons (vInt sy .i64) (lCons (vInt sy .i64) (lCons (vInt sy .i64) (lNil sy)))) (hNil sy)), 3, []⟩
def lr_w_sum_2 : LS sy Unit Unit := ⟨[], fNil sy, hNil sy, 0, []⟩
def FF_w_sum_2 (n : Nat) (x : Ya_w_sum_2 × Yb_w_sum_2) (K : Ex → Z sg → Prop) : Prop := F_w_sum_l2 n x.1.2.2.1.1 x.1.2.2.1.2.1 x.1.2.2.1.2.2.1 x.1.2.2.2.1 x.2.1.1 x.2.1.2.1 x.2.1.2.2.1 x.2.2.1.1 x.2.2.1.2.1 x.2.2.1.2.2.1 (fun y0 y1 y2 y3 y4 y5 => K (.exit 0) (le_w_sum_2.put (((), (), ()), ((y0, y1, y2, ()), (y3, y4, y5, ()), ()))))
def h_w_sum_2 (z : Z sg) (K : Ex → Z sg → Prop) : Prop := ls_w_sum_2.get z (fun x => ∃ n, FF_w_sum_2 n x K)
def L_w_sum : LoopT sg := tabL [(2, h_w_sum_2)]
theorem hs_w_sum_2 (n : Nat) (x : Ya_w_sum_2 × Yb_w_sum_2) (K : Ex → Z sg → Prop) : forceZ (ls_w_sum_2.put x) (fun z => sC sy Try.prog GT (C_w_sum) (L_w_sum) Try.f12.ntmps (nthLoop (bodyOf Try.f12) 0) z (rnd ls_w_sum_2 (czT 0 le_w_sum_2 lr_w_sum_2) (fun x => FF_w_sum_2 n x K) K)) = FF_w_sum_2 (n + 1) x K := by kernel_rfl
theorem hl_w_sum_2 (z : Z sg) (K : Ex → Z sg → Prop) : (L_w_sum) (nthLoop (bodyOf Try.f12) 0) z K = ls_w_sum_2.get z (fun x => ∃ n, FF_w_sum_2 n x K) := by kernel_rfl
theorem lo_w_sum_2 : ∀ (o0 : Nat → Prop) (B : Bs sg), B.E.length ≤ 0 → ∀ z K, (L_w_sum) (nthLoop (bodyOf Try.f12) 0) z K → Sx.Sem sy Try.prog GT (ovD ro) o0 ro Try.f12.ntmps B (.loop (nthLoop (bodyOf Try.f12) 0)) z K :=
  loop_ok (Cok_w_sum) (lp_of (l := []) (by kernel_rfl) lp_nil) ls_w_sum_2 (by decide) (czT 0 le_w_sum_2 lr_w_sum_2) (fun _ _ hB => czT_ok 0 le_w_sum_2 lr_w_sum_2 (Nat.le_trans hB (by decide)) (Nat.le_trans hB (by decide))) (fun _ _ h => h) (hs_w_sum_2) (hl_w_sum_2)
theorem Lp_w_sum : LpOK sy Try.prog GT (ovD ro) ro (L_w_sum) 0 Try.f12.ntmps (bodyOf Try.f12) := lp_of (l := [(nthLoop (bodyOf Try.f12) 0)]) (by kernel_rfl) (lp_cons (lo_w_sum_2) lp_nil)


theorem raw_w_sum (a0 : (Int × Int × Int)) (a1 : (Int × Int × Int)) (k : W → Prop) : fnT sy Try.prog GT (C_w_sum) (L_w_sum) Try.f12.ntmps (bodyOf Try.f12) [none] Try.f12.results.toList [.a [.i .i64 a0.1, .i .i64 a0.2.1, .i .i64 a0.2.2], .a [.i .i64 a1.1, .i .i64 a1.2.1, .i .i64 a1.2.2]] k = F_w_sum a0 a1 (fun r0 => k (.a [.i .i64 r0.1, .i .i64 r0.2.1, .i .i64 r0.2.2])) := by kernel_rfl

theorem ok_w_sum : FnOK sy Try.prog GT (ovD ro) ro 12 (q_w_sum (F_w_sum)) := (fn_ok (rc := [none]) (f := 12) (fn := Try.f12) (c := bodyOf Try.f12) (nt := Try.f12.ntmps) (res := Try.f12.results.toList) (C := C_w_sum) (L := (L_w_sum)) (fun _ _ => rfl) Try.func12 (by kernel_rfl) rfl rfl (Cok_w_sum) (Lp_w_sum)).weak (by
  intro us k h
  unfold q_w_sum at h
  split at h
  · skip
    rename_i a0_0 a0_1 a0_2 a1_0 a1_1 a1_2
    rw [raw_w_sum (a0_0, a0_1, a0_2) (a1_0, a1_1, a1_2) k]
    exact h
  · exact h.elim)

abbrev T_w_Compare := (Int × Int × Int) → (Int × Int × Int) → (Int → Int → Prop) → Prop
def q_w_Compare (A : T_w_Compare) (us : List W) (k : W → Prop) : Prop := match us with
  | [.a [.i .i64 a0_0, .i .i64 a0_1, .i .i64 a0_2], .a [.i .i64 a1_0, .i .i64 a1_1, .i .i64 a1_2]] => A (a0_0, a0_1, a0_2) (a1_0, a1_1, a1_2) (fun r0 r1 => k (.t [.i .i64 r0, .i .i64 r1]))
  | _ => False
theorem q_w_Compare_weak {A A2 : T_w_Compare} (h : FnOK sy Try.prog GT (ovD ro) ro 4 (q_w_Compare A)) (hA : ∀ a0 a1 K, A2 a0 a1 K → A a0 a1 K) : FnOK sy Try.prog GT (ovD ro) ro 4 (q_w_Compare A2) := h.weak (by
  intro us k h
  unfold q_w_Compare at h ⊢
  split at h
  · exact hA _ _ _ h
  · exact h.elim)

def F_w_Compare (A8 : T_w_isValid) (A9 : T_w_cmp) (a0 : (Int × Int × Int)) (a1 : (Int × Int × Int)) (K : Int → Int → Prop) : Prop :=
  (A8 (a0.1, a0.2.1, a0.2.2) (fun y1 => (((!y1) = false → (A8 (a1.1, a1.2.1, a1.2.2) (fun y2 => (((!y2) = true → K (0 : Int) (8 : Int)) ∧ ((!y2) = false → (A9 (a0.1, a0.2.1, a0.2.2) (a1.1, a1.2.1, a1.2.2) (fun y3 => K y3 (0 : Int)))))))) ∧ ((!y1) = true → K (0 : Int) (8 : Int)))))

def C_w_Compare (A8 : T_w_isValid) (A9 : T_w_cmp) : CallT sg := tab [(8, con sy [none] (q_w_isValid A8)), (9, con sy [none, none] (q_w_cmp A9))]
theorem Cok_w_Compare (A8 : T_w_isValid) (A9 : T_w_cmp) (h8 : FnOK sy Try.prog GT (ovD ro) ro 8 (q_w_isValid A8)) (h9 : FnOK sy Try.prog GT (ovD ro) ro 9 (q_w_cmp A9)) (o0 : Nat → Prop) : CalOK sy Try.prog GT (ovD ro) o0 ro (C_w_Compare A8 A9) := (tab_cons (con_ok h8) (tab_cons (con_ok h9) tab_nil)) o0

theorem raw_w_Compare (A8 : T_w_isValid) (A9 : T_w_cmp) (a0 : (Int × Int × Int)) (a1 : (Int × Int × Int)) (k : W → Prop) : fnT sy Try.prog GT (C_w_Compare A8 A9) noL Try.f4.ntmps (bodyOf Try.f4) [none, none] Try.f4.results.toList [.a [.i .i64 a0.1, .i .i64 a0.2.1, .i .i64 a0.2.2], .a [.i .i64 a1.1, .i .i64 a1.2.1, .i .i64 a1.2.2]] k = F_w_Compare A8 A9 a0 a1 (fun r0 r1 => k (.t [.i .i64 r0, .i .i64 r1])) := by kernel_rfl

theorem ok_w_Compare (A8 : T_w_isValid) (A9 : T_w_cmp) (h8 : FnOK sy Try.prog GT (ovD ro) ro 8 (q_w_isValid A8)) (h9 : FnOK sy Try.prog GT (ovD ro) ro 9 (q_w_cmp A9)) : FnOK sy Try.prog GT (ovD ro) ro 4 (q_w_Compare (F_w_Compare A8 A9)) := (fn_ok (rc := [none, none]) (f := 4) (fn := Try.f4) (c := bodyOf Try.f4) (nt := Try.f4.ntmps) (res := Try.f4.results.toList) (C := C_w_Compare A8 A9) (L := noL) (fun _ _ => rfl) Try.func4 (by kernel_rfl) rfl rfl (Cok_w_Compare A8 A9 h8 h9) (lp_of (l := []) (by kernel_rfl) lp_nil)).weak (by
  intro us k h
  unfold q_w_Compare at h
  split at h
  · skip
    rename_i a0_0 a0_1 a0_2 a1_0 a1_1 a1_2
    rw [raw_w_Compare A8 A9 (a0_0, a0_1, a0_2) (a1_0, a1_1, a1_2) k]
    exact h
  · exact h.elim)

abbrev T_w_Sum := (Int × Int × Int) → (Int × Int × Int) → ((Int × Int × Int) → Int → Prop) → Prop
def q_w_Sum (A : T_w_Sum) (us : List W) (k : W → Prop) : Prop := match us with
  | [.a [.i .i64 a0_0, .i .i64 a0_1, .i .i64 a0_2], .a [.i .i64 a1_0, .i .i64 a1_1, .i .i64 a1_2]] => A (a0_0, a0_1, a0_2) (a1_0, a1_1, a1_2) (fun r0 r1 => k (.t [.a [.i .i64 r0.1, .i .i64 r0.2.1, .i .i64 r0.2.2], .i .i64 r1]))
  | _ => False
theorem q_w_Sum_weak {A A2 : T_w_Sum} (h : FnOK sy Try.prog GT (ovD ro) ro 6 (q_w_Sum A)) (hA : ∀ a0 a1 K, A2 a0 a1 K → A a0 a1 K) : FnOK sy Try.prog GT (ovD ro) ro 6 (q_w_Sum A2) := h.weak (by
  intro us k h
  unfold q_w_Sum at h ⊢
  split at h
  · exact hA _ _ _ h
  · exact h.elim)

def F_w_Sum (A8 : T_w_isValid) (A12 : T_w_sum) (a0 : (Int × Int × Int)) (a1 : (Int × Int × Int)) (K : (Int × Int × Int) → Int → Prop) : Prop :=
  (A8 (a0.1, a0.2.1, a0.2.2) (fun y1 => (((!y1) = false → (A8 (a1.1, a1.2.1, a1.2.2) (fun y2 => (((!y2) = true → K ((0 : Int), (0 : Int), (0 : Int)) (8 : Int)) ∧ ((!y2) = false → (A12 (a0.1, a0.2.1, a0.2.2) (a1.1, a1.2.1, a1.2.2) (fun y3 => (A8 (y3.1, y3.2.1, y3.2.2) (fun y4 => (((!y4) = true → K ((0 : Int), (0 : Int), (0 : Int)) (8 : Int)) ∧ ((!y4) = false → K (y3.1, y3.2.1, y3.2.2) (0 : Int)))))))))))) ∧ ((!y1) = true → K ((0 : Int), (0 : Int), (0 : Int)) (8 : Int)))))

def C_w_Sum (A8 : T_w_isValid) (A12 : T_w_sum) : CallT sg := tab [(8, con sy [none] (q_w_isValid A8)), (12, con sy [none, none] (q_w_sum A12))]
theorem Cok_w_Sum (A8 : T_w_isValid) (A12 : T_w_sum) (h8 : FnOK sy Try.prog GT (ovD ro) ro 8 (q_w_isValid A8)) (h12 : FnOK sy Try.prog GT (ovD ro) ro 12 (q_w_sum A12)) (o0 : Nat → Prop) : CalOK sy Try.prog GT (ovD ro) o0 ro (C_w_Sum A8 A12) := (tab_cons (con_ok h8) (tab_cons (con_ok h12) tab_nil)) o0

theorem raw_w_Sum (A8 : T_w_isValid) (A12 : T_w_sum) (a0 : (Int × Int × Int)) (a1 : (Int × Int × Int)) (k : W → Prop) : fnT sy Try.prog GT (C_w_Sum A8 A12) noL Try.f6.ntmps (bodyOf Try.f6) [none, none] Try.f6.results.toList [.a [.i .i64 a0.1, .i .i64 a0.2.1, .i .i64 a0.2.2], .a [.i .i64 a1.1, .i .i64 a1.2.1, .i .i64 a1.2.2]] k = F_w_Sum A8 A12 a0 a1 (fun r0 r1 => k (.t [.a [.i .i64 r0.1, .i .i64 r0.2.1, .i .i64 r0.2.2], .i .i64 r1])) := by kernel_rfl

theorem ok_w_Sum (A8 : T_w_isValid) (A12 : T_w_sum) (h8 : FnOK sy Try.prog GT (ovD ro) ro 8 (q_w_isValid A8)) (h12 : FnOK sy Try.prog GT (ovD ro) ro 12 (q_w_sum A12)) : FnOK sy Try.prog GT (ovD ro) ro 6 (q_w_Sum (F_w_Sum A8 A12)) := (fn_ok (rc := [none, none]) (f := 6) (fn := Try.f6) (c := bodyOf Try.f6) (nt := Try.f6.ntmps) (res := Try.f6.results.toList) (C := C_w_Sum A8 A12) (L := noL) (fun _ _ => rfl) Try.func6 (by kernel_rfl) rfl rfl (Cok_w_Sum A8 A12 h8 h12) (lp_of (l := []) (by kernel_rfl) lp_nil)).weak (by
  intro us k h
  unfold q_w_Sum at h
  split at h
  · skip
    rename_i a0_0 a0_1 a0_2 a1_0 a1_1 a1_2
    rw [raw_w_Sum A8 A12 (a0_0, a0_1, a0_2) (a1_0, a1_1, a1_2) k]
    exact h
  · exact h.elim)

abbrev T_r9_Add := (Int × Int × Int) → (Int × Int × Int) → ((Int × Int × Int) → Prop) → Prop
def q_r9_Add (A : T_r9_Add) (us : List W) (k : W → Prop) : Prop := match us with
  | [.a [.i .i64 a0_0, .i .i64 a0_1, .i .i64 a0_2], .a [.i .i64 a1_0, .i .i64 a1_1, .i .i64 a1_2]] => A (a0_0, a0_1, a0_2) (a1_0, a1_1, a1_2) (fun r0 => k (.a [.i .i64 r0.1, .i .i64 r0.2.1, .i .i64 r0.2.2]))
  | _ => False
theorem q_r9_Add_weak {A A2 : T_r9_Add} (h : FnOK sy Try.prog GT (ovD ro) ro 13 (q_r9_Add A)) (hA : ∀ a0 a1 K, A2 a0 a1 K → A a0 a1 K) : FnOK sy Try.prog GT (ovD ro) ro 13 (q_r9_Add A2) := h.weak (by
  intro us k h
  unfold q_r9_Add at h ⊢
  split at h
  · exact hA _ _ _ h
  · exact h.elim)

def F_r9_Add (a0 : (Int × Int × Int)) (a1 : (Int × Int × Int)) (K : (Int × Int × Int) → Prop) : Prop :=
  ((0 ≤ (0 : Int) ∧ (0 : Int) < (3 : Int)) ∧ ((0 ≤ (0 : Int) ∧ (0 : Int) < (3 : Int)) ∧ (I64 (a0.1 + a1.1) ∧ ((0 ≤ (1 : Int) ∧ (1 : Int) < (3 : Int)) ∧ ((0 ≤ (1 : Int) ∧ (1 : Int) < (3 : Int)) ∧ (I64 (a0.2.1 + a1.2.1) ∧ ((0 ≤ (2 : Int) ∧ (2 : Int) < (3 : Int)) ∧ ((0 ≤ (2 : Int) ∧ (2 : Int) < (3 : Int)) ∧ (I64 (a0.2.2 + a1.2.2) ∧ K (a0.1 + a1.1, a0.2.1 + a1.2.1, a0.2.2 + a1.2.2))))))))))

def C_r9_Add : CallT sg := tab []
theorem Cok_r9_Add (o0 : Nat → Prop) : CalOK sy Try.prog GT (ovD ro) o0 ro (C_r9_Add) := tab_nil o0

theorem raw_r9_Add (a0 : (Int × Int × Int)) (a1 : (Int × Int × Int)) (k : W → Prop) : fnT sy Try.prog GT (C_r9_Add) noL Try.f13.ntmps (bodyOf Try.f13) [none] Try.f13.results.toList [.a [.i .i64 a0.1, .i .i64 a0.2.1, .i .i64 a0.2.2], .a [.i .i64 a1.1, .i .i64 a1.2.1, .i .i64 a1.2.2]] k = F_r9_Add a0 a1 (fun r0 => k (.a [.i .i64 r0.1, .i .i64 r0.2.1, .i .i64 r0.2.2])) := by kernel_rfl

theorem ok_r9_Add : FnOK sy Try.prog GT (ovD ro) ro 13 (q_r9_Add (F_r9_Add)) := (fn_ok (rc := [none]) (f := 13) (fn := Try.f13) (c := bodyOf Try.f13) (nt := Try.f13.ntmps) (res := Try.f13.results.toList) (C := C_r9_Add) (L := noL) (fun _ _ => rfl) Try.func13 (by kernel_rfl) rfl rfl (Cok_r9_Add) (lp_of (l := []) (by kernel_rfl) lp_nil)).weak (by
  intro us k h
  unfold q_r9_Add at h
  split at h
  · skip
    rename_i a0_0 a0_1 a0_2 a1_0 a1_1 a1_2
    rw [raw_r9_Add (a0_0, a0_1, a0_2) (a1_0, a1_1, a1_2) k]
    exact h
  · exact h.elim)

abbrev T_r9_Order := (Int × Int × Int) → (Int × Int × Int) → (Int → Prop) → Prop
def q_r9_Order (A : T_r9_Order) (us : List W) (k : W → Prop) : Prop := match us with
  | [.a [.i .i64 a0_0, .i .i64 a0_1, .i .i64 a0_2], .a [.i .i64 a1_0, .i .i64 a1_1, .i .i64 a1_2]] => A (a0_0, a0_1, a0_2) (a1_0, a1_1, a1_2) (fun r0 => k (.i .i64 r0))
  | _ => False
theorem q_r9_Order_weak {A A2 : T_r9_Order} (h : FnOK sy Try.prog GT (ovD ro) ro 11 (q_r9_Order A)) (hA : ∀ a0 a1 K, A2 a0 a1 K → A a0 a1 K) : FnOK sy Try.prog GT (ovD ro) ro 11 (q_r9_Order A2) := h.weak (by
  intro us k h
  unfold q_r9_Order at h ⊢
  split at h
  · exact hA _ _ _ h
  · exact h.elim)

def F_r9_Order_l2 : Nat → Int → Int → Int → Int → Int → Int → Int → (Unit → Prop) → (Int → Prop) → Prop
  | 0, _, _, _, _, _, _, _, _, _ => False
  | n + 1, x5, c0_0, c0_1, c0_2, c1_0, c1_1, c1_2, Ke, Kr => (((decide (x5 < (3 : Int))) = true → ((0 ≤ x5 ∧ x5 < (3 : Int)) ∧ ((x5 = 0 → ((0 ≤ (0 : Int) ∧ (0 : Int) < (3 : Int)) ∧ ((0 ≤ x5 ∧ x5 < (3 : Int)) ∧ ((x5 = 0 → ((0 ≤ (0 : Int) ∧ (0 : Int) < (3 : Int)) ∧ (((decide (c0_0 < c1_0)) = true → Kr (-1 : Int)) ∧ ((decide (c0_0 < c1_0)) = false → ((0 ≤ x5 ∧ x5 < (3 : Int)) ∧ ((x5 = 0 → ((0 ≤ (0 : Int) ∧ (0 : Int) < (3 : Int)) ∧ ((0 ≤ x5 ∧ x5 < (3 : Int)) ∧ ((x5 = 0 → ((0 ≤ (0 : Int) ∧ (0 : Int) < (3 : Int)) ∧ (((decide (c1_0 < c0_0)) = true → Kr (1 : Int)) ∧ ((decide (c1_0 < c0_0)) = false → (I64 (x5 + (1 : Int)) ∧ F_r9_Order_l2 n (x5 + (1 : Int)) c0_0 c0_1 c0_2 c1_0 c1_1 c1_2 Ke Kr))))) ∧ ((x5 = 1 → ((0 ≤ (1 : Int) ∧ (1 : Int) < (3 : Int)) ∧ (((decide (c1_1 < c0_0)) = true → Kr (1 : Int)) ∧ ((decide (c1_1 < c0_0)) = false → (I64 (x5 + (1 : Int)) ∧ F_r9_Order_l2 n (x5 + (1 : Int)) c0_0 c0_1 c0_2 c1_0 c1_1 c1_2 Ke Kr))))) ∧ ((x5 = 2 → ((0 ≤ (2 : Int) ∧ (2 : Int) < (3 : Int)) ∧ (((decide (c1_2 < c0_0)) = true → Kr (1 : Int)) ∧ ((decide (c1_2 < c0_0)) = false → (I64 (x5 + (1 : Int)) ∧ F_r9_Order_l2 n (x5 + (1 : Int)) c0_0 c0_1 c0_2 c1_0 c1_1 c1_2 Ke Kr))))) ∧ True)))))) ∧ ((x5 = 1 → ((0 ≤ (1 : Int) ∧ (1 : Int) < (3 : Int)) ∧ ((0 ≤ x5 ∧ x5 < (3 : Int)) ∧ ((x5 = 0 → ((0 ≤ (0 : Int) ∧ (0 : Int) < (3 : Int)) ∧ (((decide (c1_0 < c0_1)) = true → Kr (1 : Int)) ∧ ((decide (c1_0 < c0_1)) = false → (I64 (x5 + (1 : Int)) ∧ F_r9_Order_l2 n (x5 + (1 : Int)) c0_0 c0_1 c0_2 c1_0 c1_1 c1_2 Ke Kr))))) ∧ ((x5 = 1 → ((0 ≤ (1 : Int) ∧ (1 : Int) < (3 : Int)) ∧ (((decide (c1_1 < c0_1)) = true → Kr (1 : Int)) ∧ ((decide (c1_1 < c0_1)) = false → (I64 (x5 + (1 : Int)) ∧ F_r9_Order_l2 n (x5 + (1 : Int)) c0_0 c0_1 c0_2 c1_0 c1_1 c1_2 Ke Kr))))) ∧ ((x5 = 2 → ((0 ≤ (2 : Int) ∧ (2 : Int) < (3 : Int)) ∧ (((decide (c1_2 < c0_1)) = true → Kr (1 : Int)) ∧ ((decide (c1_2 < c0_1)) = false → (I64 (x5 + (1 : Int)) ∧ F_r9_Order_l2 n (x5 + (1 : Int)) c0_0 c0_1 c0_2 c1_0 c1_1 c1_2 Ke Kr))))) ∧ True)))))) ∧ ((x5 = 2 → ((0 ≤ (2 : Int) ∧ (2 : Int) < (3 : Int)) ∧ ((0 ≤ x5 ∧ x5 < (3 : Int)) ∧ ((x5 = 0 → ((0 ≤ (0 : Int) ∧ (0 : Int) < (3 : Int)) ∧ (((decide (c1_0 < c0_2)) = true → Kr (1 : Int)) ∧ ((decide (c1_0 < c0_2)) = false → (I64 (x5 + (1 : Int)) ∧ F_r9_Order_l2 n (x5 + (1 : Int)) c0_0 c0_1 c0_2 c1_0 c1_1 c1_2 Ke Kr))))) ∧ ((x5 = 1 → ((0 ≤ (1 : Int) ∧ (1 : Int) < (3 : Int)) ∧ (((decide (c1_1 < c0_2)) = true → Kr (1 : Int)) ∧ ((decide (c1_1 < c0_2)) = false → (I64 (x5 + (1 : Int)) ∧ F_r9_Order_l2 n (x5 + (1 : Int)) c0_0 c0_1 c0_2 c1_0 c1_1 c1_2 Ke Kr))))) ∧ ((x5 = 2 → ((0 ≤ (2 : Int) ∧ (2 : Int) < (3 : Int)) ∧ (((decide (c1_2 < c0_2)) = true → Kr (1 : Int)) ∧ ((decide (c1_2 < c0_2)) = false → (I64 (x5 + (1 : Int)) ∧ F_r9_Order_l2 n (x5 + (1 : Int)) c0_0 c0_1 c0_2 c1_0 c1_1 c1_2 Ke Kr))))) ∧ True)))))) ∧ True)))))))) ∧ ((x5 = 1 → ((0 ≤ (1 : Int) ∧ (1 : Int) < (3 : Int)) ∧ (((decide (c0_0 < c1_1)) = true → Kr (-1 : Int)) ∧ ((decide (c0_0 < c1_1)) = false → ((0 ≤ x5 ∧ x5 < (3 : Int)) ∧ ((x5 = 0 → ((0 ≤ (0 : Int) ∧ (0 : Int) < (3 : Int)) ∧ ((0 ≤ x5 ∧ x5 < (3 : Int)) ∧ ((x5 = 0 → ((0 ≤ (0 : Int) ∧ (0 : Int) < (3 : Int)) ∧ (((decide (c1_0 < c0_0)) = true → Kr (1 : Int)) ∧ ((decide (c1_0 < c0_0)) = false → (I64 (x5 + (1 : Int)) ∧ F_r9_Order_l2 n (x5 + (1 : Int)) c0_0 c0_1 c0_2 c1_0 c1_1 c1_2 Ke Kr))))) ∧ ((x5 = 1 → ((0 ≤ (1 : Int) ∧ (1 : Int) < (3 : Int)) ∧ (((decide (c1_1 < c0_0)) = true → Kr (1 : Int)) ∧ ((decide (c1_1 < c0_0)) = false → (I64 (x5 + (1 : Int)) ∧ F_r9_Order_l2 n (x5 + (1 : Int)) c0_0 c0_1 c0_2 c1_0 c1_1 c1_2 Ke Kr))))) ∧ ((x5 = 2 → ((0 ≤ (2 : Int) ∧ (2 : Int) < (3 : Int)) ∧ (((decide (c1_2 < c0_0)) = true → Kr (1 : Int)) ∧ ((decide (c1_2 < c0_0)) = false → (I64 (x5 + (1 : Int)) ∧ F_r9_Order_l2 n (x5 + (1 : Int)) c0_0 c0_1 c0_2 c1_0 c1_1 c1_2 Ke Kr))))) ∧ True)))))) ∧ ((x5 = 1 → ((0 ≤ (1 : Int) ∧ (1 : Int) < (3 : Int)) ∧ ((0 ≤ x5 ∧ x5 < (3 : Int)) ∧ ((x5 = 0 → ((0 ≤ (0 : Int) ∧ (0 : Int) < (3 : Int)) ∧ (((decide (c1_0 < c0_1)) = true → Kr (1 : Int)) ∧ ((decide (c1_0 < c0_1)) = false → (I64 (x5 + (1 : Int)) ∧ F_r9_Order_l2 n (x5 + (1 : Int)) c0_0 c0_1 c0_2 c1_0 c1_1 c1_2 Ke Kr))))) ∧ ((x5 = 1 → ((0 ≤ (1 : Int) ∧ (1 : Int) < (3 : Int)) ∧ (((decide (c1_1 < c0_1)) = true → Kr (1 : Int)) ∧ ((decide (c1_1 < c0_1)) = false → (I64 (x5 + (1 : Int)) ∧ F_r9_Order_l2 n (x5 + (1 : Int)) c0_0 c0_1 c0_2 c1_0 c1_1 c1_2 Ke Kr))))) ∧ ((x5 = 2 → ((0 ≤ (2 : Int) ∧ (2 : Int) < (3 : Int)) ∧ (((decide (c1_2 < c0_1)) = true → Kr (1 : Int)) ∧ ((decide (c1_2 < c0_1)) = false → (I64 (x5 + (1 : Int)) ∧ F_r9_Order_l2 n (x5 + (1 : Int)) c0_0 c0_1 c0_2 c1_0 c1_1 c1_2 Ke Kr))))) ∧ True)))))) ∧ ((x5 = 2 → ((0 ≤ (2 : Int) ∧ (2 : Int) < (3 : Int)) ∧ ((0 ≤ x5 ∧ x5 < (3 : Int)) ∧ ((x5 = 0 → ((0 ≤ (0 : Int) ∧ (0 : Int) < (3 : Int)) ∧ (((decide (c1_0 < c0_2)) = true → Kr (1 : Int)) ∧ ((decide (c1_0 < c0_2)) = false → (I64 (x5 + (1 : Int)) ∧ F_r9_Order_l2 n (x5 + (1 : Int)) c0_0 c0_1 c0_2 c1_0 c1_1 c1_2 Ke Kr))))) ∧ ((x5 = 1 → ((0 ≤ (1 : Int) ∧ (1 : Int) < (3 : Int)) ∧ (((decide (c1_1 < c0_2)) = true → Kr (1 : Int)) ∧ ((decide (c1_1 < c0_2)) = false → (I64 (x5 + (1 : Int)) ∧ F_r9_Order_l2 n (x5 + (1 : Int)) c0_0 c0_1 c0_2 c1_0 c1_1 c1_2 Ke Kr))))) ∧ ((x5 = 2 → ((0 ≤ (2 : Int) ∧ (2 : Int) < (3 : Int)) ∧ (((decide (c1_2 < c0_2)) = true → Kr (1 : Int)) ∧ ((decide (c1_2 < c0_2)) = false → (I64 (x5 + (1 : Int)) ∧ F_r9_Order_l2 n (x5 + (1 : Int)) c0_0 c0_1 c0_2 c1_0 c1_1 c1_2 Ke Kr))))) ∧ True)))))) ∧ True)))))))) ∧ ((x5 = 2 → ((0 ≤ (2 : Int) ∧ (2 : Int) < (3 : Int)) ∧ (((decide (c0_0 < c1_2)) = true → Kr (-1 : Int)) ∧ ((decide (c0_0 < c1_2)) = false → ((0 ≤ x5 ∧ x5 < (3 : Int)) ∧ ((x5 = 0 → ((0 ≤ (0 : Int) ∧ (0 : Int) < (3 : Int)) ∧ ((0 ≤ x5 ∧ x5 < (3 : Int)) ∧ ((x5 = 0 → ((0 ≤ (0 : Int) ∧ (0 : Int) < (3 : Int)) ∧ (((decide (c1_0 < c0_0)) = true → Kr (1 : Int)) ∧ ((decide (c1_0 < c0_0)) = false → (I64 (x5 + (1 : Int)) ∧ F_r9_Order_l2 n (x5 + (1 : Int)) c0_0 c0_1 c0_2 c1_0 c1_1 c1_2 Ke Kr))))) ∧ ((x5 = 1 → ((0 ≤ (1 : Int) ∧ (1 : Int) < (3 : Int)) ∧ (((decide (c1_1 < c0_0)) = true → Kr (1 : Int)) ∧ ((decide (c1_1 < c0_0)) = false → (I64 (x5 + (1 : Int)) ∧ F_r9_Order_l2 n (x5 + (1 : Int)) c0_0 c0_1 c0_2 c1_0 c1_1 c1_2 Ke Kr))))) ∧ ((x5 = 2 → ((0 ≤ (2 : Int) ∧ (2 : Int) < (3 : Int)) ∧ (((decide (c1_2 < c0_0)) = true → Kr (1 : Int)) ∧ ((decide (c1_2 < c0_0)) = false → (I64 (x5 + (1 : Int)) ∧ F_r9_Order_l2 n (x5 + (1 : Int)) c0_0 c0_1 c0_2 c1_0 c1_1 c1_2 Ke Kr))))) ∧ True)))))) ∧ ((x5 = 1 → ((0 ≤ (1 : Int) ∧ (1 : Int) < (3 : Int)) ∧ ((0 ≤ x5 ∧ x5 < (3 : Int)) ∧ ((x5 = 0 → ((0 ≤ (0 : Int) ∧ (0 : Int) < (3 : Int)) ∧ (((decide (c1_0 < c0_1)) = true → Kr (1 : Int)) ∧ ((decide (c1_0 < c0_1)) = false → (I64 (x5 + (1 : Int)) ∧ F_r9_Order_l2 n (x5 + (1 : Int)) c0_0 c0_1 c0_2 c1_0 c1_1 c1_2 Ke Kr))))) ∧ ((x5 = 1 → ((0 ≤ (1 : Int) ∧ (1 : Int) < (3 : Int)) ∧ (((decide (c1_1 < c0_1)) = true → Kr (1 : Int)) ∧ ((decide (c1_1 < c0_1)) = false → (I64 (x5 + (1 : Int)) ∧ F_r9_Order_l2 n (x5 + (1 : Int)) c0_0 c0_1 c0_2 c1_0 c1_1 c1_2 Ke Kr))))) ∧ ((x5 = 2 → ((0 ≤ (2 : Int) ∧ (2 : Int) < (3 : Int)) ∧ (((decide (c1_2 < c0_1)) = true → Kr (1 : Int)) ∧ ((decide (c1_2 < c0_1)) = false → (I64 (x5 + (1 : Int)) ∧ F_r9_Order_l2 n (x5 + (1 : Int)) c0_0 c0_1 c0_2 c1_0 c1_1 c1_2 Ke Kr))))) ∧ True)))))) ∧ ((x5 = 2 → ((0 ≤ (2 : Int) ∧ (2 : Int) < (3 : Int)) ∧ ((0 ≤ x5 ∧ x5 < (3 : Int)) ∧ ((x5 = 0 → ((0 ≤ (0 : Int) ∧ (0 : Int) < (3 : Int)) ∧ (((decide (c1_0 < c0_2)) = true → Kr (1 : Int)) ∧ ((decide (c1_0 < c0_2)) = false → (I64 (x5 + (1 : Int)) ∧ F_r9_Order_l2 n (x5 + (1 : Int)) c0_0 c0_1 c0_2 c1_0 c1_1 c1_2 Ke Kr))))) ∧ ((x5 = 1 → ((0 ≤ (1 : Int) ∧ (1 : Int) < (3 : Int)) ∧ (((decide (c1_1 < c0_2)) = true → Kr (1 : Int)) ∧ ((decide (c1_1 < c0_2)) = false → (I64 (x5 + (1 : Int)) ∧ F_r9_Order_l2 n (x5 + (1 : Int)) c0_0 c0_1 c0_2 c1_0 c1_1 c1_2 Ke Kr))))) ∧ ((x5 = 2 → ((0 ≤ (2 : Int) ∧ (2 : Int) < (3 : Int)) ∧ (((decide (c1_2 < c0_2)) = true → Kr (1 : Int)) ∧ ((decide (c1_2 < c0_2)) = false → (I64 (x5 + (1 : Int)) ∧ F_r9_Order_l2 n (x5 + (1 : Int)) c0_0 c0_1 c0_2 c1_0 c1_1 c1_2 Ke Kr))))) ∧ True)))))) ∧ True)))))))) ∧ True)))))) ∧ ((x5 = 1 → ((0 ≤ (1 : Int) ∧ (1 : Int) < (3 : Int)) ∧ ((0 ≤ x5 ∧ x5 < (3 : Int)) ∧ ((x5 = 0 → ((0 ≤ (0 : Int) ∧ (0 : Int) < (3 : Int)) ∧ (((decide (c0_1 < c1_0)) = true → Kr (-1 : Int)) ∧ ((decide (c0_1 < c1_0)) = false → ((0 ≤ x5 ∧ x5 < (3 : Int)) ∧ ((x5 = 0 → ((0 ≤ (0 : Int) ∧ (0 : Int) < (3 : Int)) ∧ ((0 ≤ x5 ∧ x5 < (3 : Int)) ∧ ((x5 = 0 → ((0 ≤ (0 : Int) ∧ (0 : Int) < (3 : Int)) ∧ (((decide (c1_0 < c0_0)) = true → Kr (1 : Int)) ∧ ((decide (c1_0 < c0_0)) = false → (I64 (x5 + (1 : Int)) ∧ F_r9_Order_l2 n (x5 + (1 : Int)) c0_0 c0_1 c0_2 c1_0 c1_1 c1_2 Ke Kr))))) ∧ ((x5 = 1 → ((0 ≤ (1 : Int) ∧ (1 : Int) < (3 : Int)) ∧ (((decide (c1_1 < c0_0)) = true → Kr (1 : Int)) ∧ ((decide (c1_1 < c0_0)) = false → (I64 (x5 + (1 : Int)) ∧ F_r9_Order_l2 n (x5 + (1 : Int)) c0_0 c0_1 c0_2 c1_0 c1_1 c1_2 Ke Kr))))) ∧ ((x5 = 2 → ((0 ≤ (2 : Int) ∧ (2 : Int) < (3 : Int)) ∧ (((decide (c1_2 < c0_0)) = true → Kr (1 : Int)) ∧ ((decide (c1_2 < c0_0)) = false → (I64 (x5 + (1 : Int)) ∧ F_r9_Order_l2 n (x5 + (1 : Int)) c0_0 c0_1 c0_2 c1_0 c1_1 c1_2 Ke Kr))))) ∧ True)))))) ∧ ((x5 = 1 → ((0 ≤ (1 : Int) ∧ (1 : Int) < (3 : Int)) ∧ ((0 ≤ x5 ∧ x5 < (3 : Int)) ∧ ((x5 = 0 → ((0 ≤ (0 : Int) ∧ (0 : Int) < (3 : Int)) ∧ (((decide (c1_0 < c0_1)) = true → Kr (1 : Int)) ∧ ((decide (c1_0 < c0_1)) = false → (I64 (x5 + (1 : Int)) ∧ F_r9_Order_l2 n (x5 + (1 : Int)) c0_0 c0_1 c0_2 c1_0 c1_1 c1_2 Ke Kr))))) ∧ ((x5 = 1 → ((0 ≤ (1 : Int) ∧ (1 : Int) < (3 : Int)) ∧ (((decide (c1_1 < c0_1)) = true → Kr (1 : Int)) ∧ ((decide (c1_1 < c0_1)) = false → (I64 (x5 + (1 : Int)) ∧ F_r9_Order_l2 n (x5 + (1 : Int)) c0_0 c0_1 c0_2 c1_0 c1_1 c1_2 Ke Kr))))) ∧ ((x5 = 2 → ((0 ≤ (2 : Int) ∧ (2 : Int) < (3 : Int)) ∧ (((decide (c1_2 < c0_1)) = true → Kr (1 : Int)) ∧ ((decide (c1_2 < c0_1)) = false → (I64 (x5 + (1 : Int)) ∧ F_r9_Order_l2 n (x5 + (1 : Int)) c0_0 c0_1 c0_2 c1_0 c1_1 c1_2 Ke Kr))))) ∧ True)))))) ∧ ((x5 = 2 → ((0 ≤ (2 : Int) ∧ (2 : Int) < (3 : Int)) ∧ ((0 ≤ x5 ∧ x5 < (3 : Int)) ∧ ((x5 = 0 → ((0 ≤ (0 : Int) ∧ (0 : Int) < (3 : Int)) ∧ (((decide (c1_0 < c0_2)) = true → Kr (1 : Int)) ∧ ((decide (c1_0 < c0_2)) = false → (I64 (x5 + (1 : Int)) ∧ F_r9_Order_l2 n (x5 + (1 : Int)) c0_0 c0_1 c0_2 c1_0 c1_1 c1_2 Ke Kr))))) ∧ ((x5 = 1 → ((0 ≤ (1 : Int) ∧ (1 : Int) < (3 : Int)) ∧ (((decide (c1_1 < c0_2)) = true → Kr (1 : Int)) ∧ ((decide (c1_1 < c0_2)) = false → (I64 (x5 + (1 : Int)) ∧ F_r9_Order_l2 n (x5 + (1 : Int)) c0_0 c0_1 c0_2 c1_0 c1_1 c1_2 Ke Kr))))) ∧ ((x5 = 2 → ((0 ≤ (2 : Int) ∧ (2 : Int) < (3 : Int)) ∧ (((decide (c1_2 < c0_2)) = true → Kr (1 : Int)) ∧ ((decide (c1_2 < c0_2)) = false → (I64 (x5 + (1 : Int)) ∧ F_r9_Order_l2 n (x5 + (1 : Int)) c0_0 c0_1 c0_2 c1_0 c1_1 c1_2 Ke Kr))))) ∧ True)))))) ∧ True)))))))) ∧ ((x5 = 1 → ((0 ≤ (1 : Int) ∧ (1 : Int) < (3 : Int)) ∧ (((decide (c0_1 < c1_1)) = true → Kr (-1 : Int)) ∧ ((decide (c0_1 < c1_1)) = false → ((0 ≤ x5 ∧ x5 < (3 : Int)) ∧ ((x5 = 0 → ((0 ≤ (0 : Int) ∧ (0 : Int) < (3 : Int)) ∧ ((0 ≤ x5 ∧ x5 < (3 : Int)) ∧ ((x5 = 0 → ((0 ≤ (0 : Int) ∧ (0 : Int) < (3 : Int)) ∧ (((decide (c1_0 < c0_0)) = true → Kr (1 : Int)) ∧ ((decide (c1_0 < c0_0)) = false → (I64 (x5 + (1 : Int)) ∧ F_r9_Order_l2 n (x5 + (1 : Int)) c0_0 c0_1 c0_2 c1_0 c1_1 c1_2 Ke Kr))))) ∧ ((x5 = 1 → ((0 ≤ (1 : Int) ∧ (1 : Int) < (3 : Int)) ∧ (((decide (c1_1 < c0_0)) = true → Kr (1 : Int)) ∧ ((decide (c1_1 < c0_0)) = false → (I64 (x5 + (1 : Int)) ∧ F_r9_Order_l2 n (x5 + (1 : Int)) c0_0 c0_1 c0_2 c1_0 c1_1 c1_2 Ke Kr))))) ∧ ((x5 = 2 → ((0 ≤ (2 : Int) ∧ (2 : Int) < (3 : Int)) ∧ (((decide (c1_2 < c0_0)) = true → Kr (1 : Int)) ∧ ((decide (c1_2 < c0_0)) = false → (I64 (x5 + (1 : Int)) ∧ F_r9_Order_l2 n (x5 + (1 : Int)) c0_0 c0_1 c0_2 c1_0 c1_1 c1_2 Ke Kr))))) ∧ True)))))) ∧ ((x5 = 1 → ((0 ≤ (1 : Int) ∧ (1 : Int) < (3 : Int)) ∧ ((0 ≤ x5 ∧ x5 < (3 : Int)) ∧ ((x5 = 0 → ((0 ≤ (0 : Int) ∧ (0 : Int) < (3 : Int)) ∧ (((decide (c1_0 < c0_1)) = true → Kr (1 : Int)) ∧ ((decide (c1_0 < c0_1)) = false → (I64 (x5 + (1 : Int)) ∧ F_r9_Order_l2 n (x5 + (1 : Int)) c0_0 c0_1 c0_2 c1_0 c1_1 c1_2 Ke Kr))))) ∧ ((x5 = 1 → ((0 ≤ (1 : Int) ∧ (1 : Int) < (3 : Int)) ∧ (((decide (c1_1 < c0_1)) = true → Kr (1 : Int)) ∧ ((decide (c1_1 < c0_1)) = false → (I64 (x5 + (1 : Int)) ∧ F_r9_Order_l2 n (x5 + (1 : Int)) c0_0 c0_1 c0_2 c1_0 c1_1 c1_2 Ke Kr))))) ∧ ((x5 = 2 → ((0 ≤ (2 : Int) ∧ (2 : Int) < (3 : Int)) ∧ (((decide (c1_2 < c0_1)) = true → Kr (1 : Int)) ∧ ((decide (c1_2 < c0_1)) = false → (I64 (x5 + (1 : Int)) ∧ F_r9_Order_l2 n (x5 + (1 : Int)) c0_0 c0_1 c0_2 c1_0 c1_1 c1_2 Ke Kr))))) ∧ True)))))) ∧ ((x5 = 2 → ((0 ≤ (2 : Int) ∧ (2 : Int) < (3 : Int)) ∧ ((0 ≤ x5 ∧ x5 < (3 : Int)) ∧ ((x5 = 0 → ((0 ≤ (0 : Int) ∧ (0 : Int) < (3 : Int)) ∧ (((decide (c1_0 < c0_2)) = true → Kr (1 : Int)) ∧ ((decide (c1_0 < c0_2)) = false → (I64 (x5 + (1 : Int)) ∧ F_r9_Order_l2 n (x5 + (1 : Int)) c0_0 c0_1 c0_2 c1_0 c1_1 c1_2 Ke Kr))))) ∧ ((x5 = 1 → ((0 ≤ (1 : Int) ∧ (1 : Int) < (3 : Int)) ∧ (((decide (c1_1 < c0_2)) = true → Kr (1 : Int)) ∧ ((decide (c1_1 < c0_2)) = false → (I64 (x5 + (1 : Int)) ∧ F_r9_Order_l2 n (x5 + (1 : Int)) c0_0 c0_1 c0_2 c1_0 c1_1 c1_2 Ke Kr))))) ∧ ((x5 = 2 → ((0 ≤ (2 : Int) ∧ (2 : Int) < (3 : Int)) ∧ (((decide (c1_2 < c0_2)) = true → Kr (1 : Int)) ∧ ((decide (c1_2 < c0_2)) = false → (I64 (x5 + (1 : Int)) ∧ F_r9_Order_l2 n (x5 + (1 : Int)) c0_0 c0_1 c0_2 c1_0 c1_1 c1_2 Ke Kr))))) ∧ True)))))) ∧ True)))))))) ∧ ((x5 = 2 → ((0 ≤ (2 : Int) ∧ (2 : Int) < (3 : Int)) ∧ (((decide (c0_1 < c1_2)) = true → Kr (-1 : Int)) ∧ ((decide (c0_1 < c1_2)) = false → ((0 ≤ x5 ∧ x5 < (3 : Int)) ∧ ((x5 = 0 → ((0 ≤ (0 : Int) ∧ (0 : Int) < (3 : Int)) ∧ ((0 ≤ x5 ∧ x5 < (3 : Int)) ∧ ((x5 = 0 → ((0 ≤ (0 : Int) ∧ (0 : Int) < (3 : Int)) ∧ (((decide (c1_0 < c0_0)) = true → Kr (1 : Int)) ∧ ((decide (c1_0 < c0_0)) = false → (I64 (x5 + (1 : Int)) ∧ F_r9_Order_l2 n (x5 + (1 : Int)) c0_0 c0_1 c0_2 c1_0 c1_1 c1_2 Ke Kr))))) ∧ ((x5 = 1 → ((0 ≤ (1 : Int) ∧ (1 : Int) < (3 : Int)) ∧ (((decide (c1_1 < c0_0)) = true → Kr (1 : Int)) ∧ ((decide (c1_1 < c0_0)) = false → (I64 (x5 + (1 : Int)) ∧ F_r9_Order_l2 n (x5 + (1 : Int)) c0_0 c0_1 c0_2 c1_0 c1_1 c1_2 Ke Kr))))) ∧ ((x5 = 2 → ((0 ≤ (2 : Int) ∧ (2 : Int) < (3 : Int)) ∧ (((decide (c1_2 < c0_0)) = true → Kr (1 : Int)) ∧ ((decide (c1_2 < c0_0)) = false → (I64 (x5 + (1 : Int)) ∧ F_r9_Order_l2 n (x5 + (1 : Int)) c0_0 c0_1 c0_2 c1_0 c1_1 c1_2 Ke Kr))))) ∧ True)))))) ∧ ((x5 = 1 → ((0 ≤ (1 : Int) ∧ (1 : Int) < (3 : Int)) ∧ ((0 ≤ x5 ∧ x5 < (3 : Int)) ∧ ((x5 = 0 → ((0 ≤ (0 : Int) ∧ (0 : Int) < (3 : Int)) ∧ (((decide (c1_0 < c0_1)) = true → Kr (1 : Int)) ∧ ((decide (c1_0 < c0_1)) = false → (I64 (x5 + (1 : Int)) ∧ F_r9_Order_l2 n (x5 + (1 : Int)) c0_0 c0_1 c0_2 c1_0 c1_1 c1_2 Ke Kr))))) ∧ ((x5 = 1 → ((0 ≤ (1 : Int) ∧ (1 : Int) < (3 : Int)) ∧ (((decide (c1_1 < c0_1)) = true → Kr (1 : Int)) ∧ ((decide (c1_1 < c0_1)) = false → (I64 (x5 + (1 : Int)) ∧ F_r9_Order_l2 n (x5 + (1 : Int)) c0_0 c0_1 c0_2 c1_0 c1_1 c1_2 Ke Kr))))) ∧ ((x5 = 2 → ((0 ≤ (2 : Int) ∧ (2 : Int) < (3 : Int)) ∧ (((decide (c1_2 < c0_1)) = true → Kr (1 : Int)) ∧ ((decide (c1_2 < c0_1)) = false → (I64 (x5 + (1 : Int)) ∧ F_r9_Order_l2 n (x5 + (1 : Int)) c0_0 c0_1 c0_2 c1_0 c1_1 c1_2 Ke Kr))))) ∧ True)))))) ∧ ((x5 = 2 → ((0 ≤ (2 : Int) ∧ (2 : Int) < (3 : Int)) ∧ ((0 ≤ x5 ∧ x5 < (3 : Int)) ∧ ((x5 = 0 → ((0 ≤ (0 : Int) ∧ (0 : Int) < (3 : Int)) ∧ (((decide (c1_0 < c0_2)) = true → Kr (1 : Int)) ∧ ((decide (c1_0 < c0_2)) = false → (I64 (x5 + (1 : Int)) ∧ F_r9_Order_l2 n (x5 + (1 : Int)) c0_0 c0_1 c0_2 c1_0 c1_1 c1_2 Ke Kr))))) ∧ ((x5 = 1 → ((0 ≤ (1 : Int) ∧ (1 : Int) < (3 : Int)) ∧ (((decide (c1_1 < c0_2)) = true → Kr (1 : Int)) ∧ ((decide (c1_1 < c0_2)) = false → (I64 (x5 + (1 : Int)) ∧ F_r9_Order_l2 n (x5 + (1 : Int)) c0_0 c0_1 c0_2 c1_0 c1_1 c1_2 Ke Kr))))) ∧ ((x5 = 2 → ((0 ≤ (2 : Int) ∧ (2 : Int) < (3 : Int)) ∧ (((decide (c1_2 < c0_2)) = true → Kr (1 : Int)) ∧ ((decide (c1_2 < c0_2)) = false → (I64 (x5 + (1 : Int)) ∧ F_r9_Order_l2 n (x5 + (1 : Int)) c0_0 c0_1 c0_2 c1_0 c1_1 c1_2 Ke Kr))))) ∧ True)))))) ∧ True)))))))) ∧ True)))))) ∧ ((x5 = 2 → ((0 ≤ (2 : Int) ∧ (2 : Int) < (3 : Int)) ∧ ((0 ≤ x5 ∧ x5 < (3 : Int)) ∧ ((x5 = 0 → ((0 ≤ (0 : Int) ∧ (0 : Int) < (3 : Int)) ∧ (((decide (c0_2 < c1_0)) = true → Kr (-1 : Int)) ∧ ((decide (c0_2 < c1_0)) = false → ((0 ≤ x5 ∧ x5 < (3 : Int)) ∧ ((x5 = 0 → ((0 ≤ (0 : Int) ∧ (0 : Int) < (3 : Int)) ∧ ((0 ≤ x5 ∧ x5 < (3 : Int)) ∧ ((x5 = 0 → ((0 ≤ (0 : Int) ∧ (0 : Int) < (3 : Int)) ∧ (((decide (c1_0 < c0_0)) = true → Kr (1 : Int)) ∧ ((decide (c1_0 < c0_0)) = false → (I64 (x5 + (1 : Int)) ∧ F_r9_Order_l2 n (x5 + (1 : Int)) c0_0 c0_1 c0_2 c1_0 c1_1 c1_2 Ke Kr))))) ∧ ((x5 = 1 → ((0 ≤ (1 : Int) ∧ (1 : Int) < (3 : Int)) ∧ (((decide (c1_1 < c0_0)) = true → Kr (1 : Int)) ∧ ((decide (c1_1 < c0_0)) = false → (I64 (x5 + (1 : Int)) ∧ F_r9_Order_l2 n (x5 + (1 : Int)) c0_0 c0_1 c0_2 c1_0 c1_1 c1_2 Ke Kr))))) ∧ ((x5 = 2 → ((0 ≤ (2 : Int) ∧ (2 : Int) < (3 : Int)) ∧ (((decide (c1_2 < c0_0)) = true → Kr (1 : Int)) ∧ ((decide (c1_2 < c0_0)) = false → (I64 (x5 + (1 : Int)) ∧ F_r9_Order_l2 n (x5 + (1 : Int)) c0_0 c0_1 c0_2 c1_0 c1_1 c1_2 Ke Kr))))) ∧ True)))))) ∧ ((x5 = 1 → ((0 ≤ (1 : Int) ∧ (1 : Int) < (3 : Int)) ∧ ((0 ≤ x5 ∧ x5 < (3 : Int)) ∧ ((x5 = 0 → ((0 ≤ (0 : Int) ∧ (0 : Int) < (3 : Int)) ∧ (((decide (c1_0 < c0_1)) = true → Kr (1 : Int)) ∧ ((decide (c1_0 < c0_1)) = false → (I64 (x5 + (1 : Int)) ∧ F_r9_Order_l2 n (x5 + (1 : Int)) c0_0 c0_1 c0_2 c1_0 c1_1 c1_2 Ke Kr))))) ∧ ((x5 = 1 → ((0 ≤ (1 : Int) ∧ (1 : Int) < (3 : Int)) ∧ (((decide (c1_1 < c0_1)) = true → Kr (1 : Int)) ∧ ((decide (c1_1 < c0_1)) = false → (I64 (x5 + (1 : Int)) ∧ F_r9_Order_l2 n (x5 + (1 : Int)) c0_0 c0_1 c0_2 c1_0 c1_1 c1_2 Ke Kr))))) ∧ ((x5 = 2 → ((0 ≤ (2 : Int) ∧ (2 : Int) < (3 : Int)) ∧ (((decide (c1_2 < c0_1)) = true → Kr (1 : Int)) ∧ ((decide (c1_2 < c0_1)) = false → (I64 (x5 + (1 : Int)) ∧ F_r9_Order_l2 n (x5 + (1 : Int)) c0_0 c0_1 c0_2 c1_0 c1_1 c1_2 Ke Kr))))) ∧ True)))))) ∧ ((x5 = 2 → ((0 ≤ (2 : Int) ∧ (2 : Int) < (3 : Int)) ∧ ((0 ≤ x5 ∧ x5 < (3 : Int)) ∧ ((x5 = 0 → ((0 ≤ (0 : Int) ∧ (0 : Int) < (3 : Int)) ∧ (((decide (c1_0 < c0_2)) = true → Kr (1 : Int)) ∧ ((decide (c1_0 < c0_2)) = false → (I64 (x5 + (1 : Int)) ∧ F_r9_Order_l2 n (x5 + (1 : Int)) c0_0 c0_1 c0_2 c1_0 c1_1 c1_2 Ke Kr))))) ∧ ((x5 = 1 → ((0 ≤ (1 : Int) ∧ (1 : Int) < (3 : Int)) ∧ (((decide (c1_1 < c0_2)) = true → Kr (1 : Int)) ∧ ((decide (c1_1 < c0_2)) = false → (I64 (x5 + (1 : Int)) ∧ F_r9_Order_l2 n (x5 + (1 : Int)) c0_0 c0_1 c0_2 c1_0 c1_1 c1_2 Ke Kr))))) ∧ ((x5 = 2 → ((0 ≤ (2 : Int) ∧ (2 : Int) < (3 : Int)) ∧ (((decide (c1_2 < c0_2)) = true → Kr (1 : Int)) ∧ ((decide (c1_2 < c0_2)) = false → (I64 (x5 + (1 : Int)) ∧ F_r9_Order_l2 n (x5 + (1 : Int)) c0_0 c0_1 c0_2 c1_0 c1_1 c1_2 Ke Kr))))) ∧ True)))))) ∧ True)))))))) ∧ ((x5 = 1 → ((0 ≤ (1 : Int) ∧ (1 : Int) < (3 : Int)) ∧ (((decide (c0_2 < c1_1)) = true → Kr (-1 : Int)) ∧ ((decide (c0_2 < c1_1)) = false → ((0 ≤ x5 ∧ x5 < (3 : Int)) ∧ ((x5 = 0 → ((0 ≤ (0 : Int) ∧ (0 : Int) < (3 : Int)) ∧ ((0 ≤ x5 ∧ x5 < (3 : Int)) ∧ ((x5 = 0 → ((0 ≤ (0 : Int) ∧ (0 : Int) < (3 : Int)) ∧ (((decide (c1_0 < c0_0)) = true → Kr (1 : Int)) ∧ ((decide (c1_0 < c0_0)) = false → (I64 (x5 + (1 : Int)) ∧ F_r9_Order_l2 n (x5 + (1 : Int)) c0_0 c0_1 c0_2 c1_0 c1_1 c1_2 Ke Kr))))) ∧ ((x5 = 1 → ((0 ≤ (1 : Int) ∧ (1 : Int) < (3 : Int)) ∧ (((decide (c1_1 < c0_0)) = true → Kr (1 : Int)) ∧ ((decide (c1_1 < c0_0)) = false → (I64 (x5 + (1 : Int)) ∧ F_r9_Order_l2 n (x5 + (1 : Int)) c0_0 c0_1 c0_2 c1_0 c1_1 c1_2 Ke Kr))))) ∧ ((x5 = 2 → ((0 ≤ (2 : Int) ∧ (2 : Int) < (3 : Int)) ∧ (((decide (c1_2 < c0_0)) = true → Kr (1 : Int)) ∧ ((decide (c1_2 < c0_0)) = false → (I64 (x5 + (1 : Int)) ∧ F_r9_Order_l2 n (x5 + (1 : Int)) c0_0 c0_1 c0_2 c1_0 c1_1 c1_2 Ke Kr))))) ∧ True)))))) ∧ ((x5 = 1 → ((0 ≤ (1 : Int) ∧ (1 : Int) < (3 : Int)) ∧ ((0 ≤ x5 ∧ x5 < (3 : Int)) ∧ ((x5 = 0 → ((0 ≤ (0 : Int) ∧ (0 : Int) < (3 : Int)) ∧ (((decide (c1_0 < c0_1)) = true → Kr (1 : Int)) ∧ ((decide (c1_0 < c0_1)) = false → (I64 (x5 + (1 : Int)) ∧ F_r9_Order_l2 n (x5 + (1 : Int)) c0_0 c0_1 c0_2 c1_0 c1_1 c1_2 Ke Kr))))) ∧ ((x5 = 1 → ((0 ≤ (1 : Int) ∧ (1 : Int) < (3 : Int)) ∧ (((decide (c1_1 < c0_1)) = true → Kr (1 : Int)) ∧ ((decide (c1_1 < c0_1)) = false → (I64 (x5 + (1 : Int)) ∧ F_r9_Order_l2 n (x5 + (1 : Int)) c0_0 c0_1 c0_2 c1_0 c1_1 c1_2 Ke Kr))))) ∧ ((x5 = 2 → ((0 ≤ (2 : Int) ∧ (2 : Int) < (3 : Int)) ∧ (((decide (c1_2 < c0_1)) = true → Kr (1 : Int)) ∧ ((decide (c1_2 < c0_1)) = false → (I64 (x5 + (1 : Int)) ∧ F_r9_Order_l2 n (x5 + (1 : Int)) c0_0 c0_1 c0_2 c1_0 c1_1 c1_2 Ke Kr))))) ∧ True)))))) ∧ ((x5 = 2 → ((0 ≤ (2 : Int) ∧ (2 : Int) < (3 : Int)) ∧ ((0 ≤ x5 ∧ x5 < (3 : Int)) ∧ ((x5 = 0 → ((0 ≤ (0 : Int) ∧ (0 : Int) < (3 : Int)) ∧ (((decide (c1_0 < c0_2)) = true → Kr (1 : Int)) ∧ ((decide (c1_0 < c0_2)) = false → (I64 (x5 + (1 : Int)) ∧ F_r9_Order_l2 n (x5 + (1 : Int)) c0_0 c0_1 c0_2 c1_0 c1_1 c1_2 Ke Kr))))) ∧ ((x5 = 1 → ((0 ≤ (1 : Int) ∧ (1 : Int) < (3 : Int)) ∧ (((decide (c1_1 < c0_2)) = true → Kr (1 : Int)) ∧ ((decide (c1_1 < c0_2)) = false → (I64 (x5 + (1 : Int)) ∧ F_r9_Order_l2 n (x5 + (1 : Int)) c0_0 c0_1 c0_2 c1_0 c1_1 c1_2 Ke Kr))))) ∧ ((x5 = 2 → ((0 ≤ (2 : Int) ∧ (2 : Int) < (3 : Int)) ∧ (((decide (c1_2 < c0_2)) = true → Kr (1 : Int)) ∧ ((decide (c1_2 < c0_2)) = false → (I64 (x5 + (1 : Int)) ∧ F_r9_Order_l2 n (x5 + (1 : Int)) c0_0 c0_1 c0_2 c1_0 c1_1 c1_2 Ke Kr))))) ∧ True)))))) ∧ True)))))))) ∧ ((x5 = 2 → ((0 ≤ (2 : Int) ∧ (2 : Int) < (3 : Int)) ∧ (((decide (c0_2 < c1_2)) = true → Kr (-1 : Int)) ∧ ((decide (c0_2 < c1_2)) = false → ((0 ≤ x5 ∧ x5 < (3 : Int)) ∧ ((x5 = 0 → ((0 ≤ (0 : Int) ∧ (0 : Int) < (3 : Int)) ∧ ((0 ≤ x5 ∧ x5 < (3 : Int)) ∧ ((x5 = 0 → ((0 ≤ (0 : Int) ∧ (0 : Int) < (3 : Int)) ∧ (((decide (c1_0 < c0_0)) = true → Kr (1 : Int)) ∧ ((decide (c1_0 < c0_0)) = false → (I64 (x5 + (1 : Int)) ∧ F_r9_Order_l2 n (x5 + (1 : Int)) c0_0 c0_1 c0_2 c1_0 c1_1 c1_2 Ke Kr))))) ∧ ((x5 = 1 → ((0 ≤ (1 : Int) ∧ (1 : Int) < (3 : Int)) ∧ (((decide (c1_1 < c0_0)) = true → Kr (1 : Int)) ∧ ((decide (c1_1 < c0_0)) = false → (I64 (x5 + (1 : Int)) ∧ F_r9_Order_l2 n (x5 + (1 : Int)) c0_0 c0_1 c0_2 c1_0 c1_1 c1_2 Ke Kr))))) ∧ ((x5 = 2 → ((0 ≤ (2 : Int) ∧ (2 : Int) < (3 : Int)) ∧ (((decide (c1_2 < c0_0)) = true → Kr (1 : Int)) ∧ ((decide (c1_2 < c0_0)) = false → (I64 (x5 + (1 : Int)) ∧ F_r9_Order_l2 n (x5 + (1 : Int)) c0_0 c0_1 c0_2 c1_0 c1_1 c1_2 Ke Kr))))) ∧ True)))))) ∧ ((x5 = 1 → ((0 ≤ (1 : Int) ∧ (1 : Int) < (3 : Int)) ∧ ((0 ≤ x5 ∧ x5 < (3 : Int)) ∧ ((x5 = 0 → ((0 ≤ (0 : Int) ∧ (0 : Int) < (3 : Int)) ∧ (((decide (c1_0 < c0_1)) = true → Kr (1 : Int)) ∧ ((decide (c1_0 < c0_1)) = false → (I64 (x5 + (1 : Int)) ∧ F_r9_Order_l2 n (x5 + (1 : Int)) c0_0 c0_1 c0_2 c1_0 c1_1 c1_2 Ke Kr))))) ∧ ((x5 = 1 → ((0 ≤ (1 : Int) ∧ (1 : Int) < (3 : Int)) ∧ (((decide (c1_1 < c0_1)) = true → Kr (1 : Int)) ∧ ((decide (c1_1 < c0_1)) = false → (I64 (x5 + (1 : Int)) ∧ F_r9_Order_l2 n (x5 + (1 : Int)) c0_0 c0_1 c0_2 c1_0 c1_1 c1_2 Ke Kr))))) ∧ ((x5 = 2 → ((0 ≤ (2 : Int) ∧ (2 : Int) < (3 : Int)) ∧ (((decide (c1_2 < c0_1)) = true → Kr (1 : Int)) ∧ ((decide (c1_2 < c0_1)) = false → (I64 (x5 + (1 : Int)) ∧ F_r9_Order_l2 n (x5 + (1 : Int)) c0_0 c0_1 c0_2 c1_0 c1_1 c1_2 Ke Kr))))) ∧ True)))))) ∧ ((x5 = 2 → ((0 ≤ (2 : Int) ∧ (2 : Int) < (3 : Int)) ∧ ((0 ≤ x5 ∧ x5 < (3 : Int)) ∧ ((x5 = 0 → ((0 ≤ (0 : Int) ∧ (0 : Int) < (3 : Int)) ∧ (((decide (c1_0 < c0_2)) = true → Kr (1 : Int)) ∧ ((decide (c1_0 < c0_2)) = false → (I64 (x5 + (1 : Int)) ∧ F_r9_Order_l2 n (x5 + (1 : Int)) c0_0 c0_1 c0_2 c1_0 c1_1 c1_2 Ke Kr))))) ∧ ((x5 = 1 → ((0 ≤ (1 : Int) ∧ (1 : Int) < (3 : Int)) ∧ (((decide (c1_1 < c0_2)) = true → Kr (1 : Int)) ∧ ((decide (c1_1 < c0_2)) = false → (I64 (x5 + (1 : Int)) ∧ F_r9_Order_l2 n (x5 + (1 : Int)) c0_0 c0_1 c0_2 c1_0 c1_1 c1_2 Ke Kr))))) ∧ ((x5 = 2 → ((0 ≤ (2 : Int) ∧ (2 : Int) < (3 : Int)) ∧ (((decide (c1_2 < c0_2)) = true → Kr (1 : Int)) ∧ ((decide (c1_2 < c0_2)) = false → (I64 (x5 + (1 : Int)) ∧ F_r9_Order_l2 n (x5 + (1 : Int)) c0_0 c0_1 c0_2 c1_0 c1_1 c1_2 Ke Kr))))) ∧ True)))))) ∧ True)))))))) ∧ True)))))) ∧ True))))) ∧ ((decide (x5 < (3 : Int))) = false → Ke ()))

def F_r9_Order (a0 : (Int × Int × Int)) (a1 : (Int × Int × Int)) (K : Int → Prop) : Prop :=
  (∃ m, F_r9_Order_l2 m (0 : Int) a0.1 a0.2.1 a0.2.2 a1.1 a1.2.1 a1.2.2 (fun _ => K (0 : Int)) (fun y1 => K y1))

def C_r9_Order : CallT sg := tab []
theorem Cok_r9_Order (o0 : Nat → Prop) : CalOK sy Try.prog GT (ovD ro) o0 ro (C_r9_Order) := tab_nil o0

abbrev Ya_r9_Order_2 : Type := (Unit × Unit × Int × Unit)
abbrev Yb_r9_Order_2 : Type := ((Int × Int × Int × Unit) × (Int × Int × Int × Unit) × Unit)
def ls_r9_Order_2 : LS sy Ya_r9_Order_2 Yb_r9_Order_2 := ⟨[], fCons 2 (vLit sy (.p 0 0)) (fCons 3 (vLit sy (.p 1 0)) (fCons 5 (vInt sy .i64) (fNil sy))), hCells 0 (lCons (vInt sy .i64) (lCons (vInt sy .i64) (lCons (vInt sy .i64) (lNil sy)))) (hCells 1 (lCons (vInt sy .i64) (lCons (vInt sy .i64) (lCons (vInt sy .i64) (lNil sy)))) (hNil sy)), 2, []⟩
def le_r9_Order_2 : LS sy Unit Unit := ⟨[], fNil sy, hNil sy, 0, []⟩
def lr_r9_Order_2 : LS sy (Int × Unit) Unit := ⟨[], fCons 4 (vInt sy .i64) (fNil sy), hNil sy, 0, []⟩
def FF_r9_Order_2 (n : Nat) (x : Ya_r9_Order_2 × Yb_r9_Order_2) (K : Ex → Z sg → Prop) : Prop := F_r9_Order_l2 n x.1.2.2.1 x.2.1.1 x.2.1.2.1 x.2.1.2.2.1 x.2.2.1.1 x.2.2.1.2.1 x.2.2.1.2.2.1 (fun _ => K (.exit 0) (le_r9_Order_2.put ((), ()))) (fun y0 => K .ret (lr_r9_Order_2.put ((y0, ()), ())))
def h_r9_Order_2 (z : Z sg) (K : Ex → Z sg → Prop) : Prop := ls_r9_Order_2.get z (fun x => ∃ n, FF_r9_Order_2 n x K)
def L_r9_Order : LoopT sg := tabL [(2, h_r9_Order_2)]
theorem hs_r9_Order_2 (n : Nat) (x : Ya_r9_Order_2 × Yb_r9_Order_2) (K : Ex → Z sg → Prop) : forceZ (ls_r9_Order_2.put x) (fun z => sC sy Try.prog GT (C_r9_Order) (L_r9_Order) Try.f11.ntmps (nthLoop (bodyOf Try.f11) 0) z (rnd ls_r9_Order_2 (czT 0 le_r9_Order_2 lr_r9_Order_2) (fun x => FF_r9_Order_2 n x K) K)) = FF_r9_Order_2 (n + 1) x K := by kernel_rfl
theorem hl_r9_Order_2 (z : Z sg) (K : Ex → Z sg → Prop) : (L_r9_Order) (nthLoop (bodyOf Try.f11) 0) z K = ls_r9_Order_2.get z (fun x => ∃ n, FF_r9_Order_2 n x K) := by kernel_rfl
theorem lo_r9_Order_2 : ∀ (o0 : Nat → Prop) (B : Bs sg), B.E.length ≤ 0 → ∀ z K, (L_r9_Order) (nthLoop (bodyOf Try.f11) 0) z K → Sx.Sem sy Try.prog GT (ovD ro) o0 ro Try.f11.ntmps B (.loop (nthLoop (bodyOf Try.f11) 0)) z K :=
  loop_ok (Cok_r9_Order) (lp_of (l := []) (by kernel_rfl) lp_nil) ls_r9_Order_2 (by decide) (czT 0 le_r9_Order_2 lr_r9_Order_2) (fun _ _ hB => czT_ok 0 le_r9_Order_2 lr_r9_Order_2 (Nat.le_trans hB (by decide)) (Nat.le_trans hB (by decide))) (fun _ _ h => h) (hs_r9_Order_2) (hl_r9_Order_2)
theorem Lp_r9_Order : LpOK sy Try.prog GT (ovD ro) ro (L_r9_Order) 0 Try.f11.ntmps (bodyOf Try.f11) := lp_of (l := [(nthLoop (bodyOf Try.f11) 0)]) (by kernel_rfl) (lp_cons (lo_r9_Order_2) lp_nil)


theorem raw_r9_Order (a0 : (Int × Int × Int)) (a1 : (Int × Int × Int)) (k : W → Prop) : fnT sy Try.prog GT (C_r9_Order) (L_r9_Order) Try.f11.ntmps (bodyOf Try.f11) [none] Try.f11.results.toList [.a [.i .i64 a0.1, .i .i64 a0.2.1, .i .i64 a0.2.2], .a [.i .i64 a1.1, .i .i64 a1.2.1, .i .i64 a1.2.2]] k = F_r9_Order a0 a1 (fun r0 => k (.i .i64 r0)) := by kernel_rfl

theorem ok_r9_Order : FnOK sy Try.prog GT (ovD ro) ro 11 (q_r9_Order (F_r9_Order)) := (fn_ok (rc := [none]) (f := 11) (fn := Try.f11) (c := bodyOf Try.f11) (nt := Try.f11.ntmps) (res := Try.f11.results.toList) (C := C_r9_Order) (L := (L_r9_Order)) (fun _ _ => rfl) Try.func11 (by kernel_rfl) rfl rfl (Cok_r9_Order) (Lp_r9_Order)).weak (by
  intro us k h
  unfold q_r9_Order at h
  split at h
  · skip
    rename_i a0_0 a0_1 a0_2 a1_0 a1_1 a1_2
    rw [raw_r9_Order (a0_0, a0_1, a0_2) (a1_0, a1_1, a1_2) k]
    exact h
  · exact h.elim)

abbrev T_r9_Valid := (Int × Int × Int) → (Bool → Prop) → Prop
def q_r9_Valid (A : T_r9_Valid) (us : List W) (k : W → Prop) : Prop := match us with
  | [.a [.i .i64 a0_0, .i .i64 a0_1, .i .i64 a0_2]] => A (a0_0, a0_1, a0_2) (fun r0 => k (.b r0))
  | _ => False
theorem q_r9_Valid_weak {A A2 : T_r9_Valid} (h : FnOK sy Try.prog GT (ovD ro) ro 10 (q_r9_Valid A)) (hA : ∀ a0 K, A2 a0 K → A a0 K) : FnOK sy Try.prog GT (ovD ro) ro 10 (q_r9_Valid A2) := h.weak (by
  intro us k h
  unfold q_r9_Valid at h ⊢
  split at h
  · exact hA _ _ h
  · exact h.elim)

def F_r9_Valid_l2 : Nat → Int → Int → Int → Int → (Unit → Prop) → (Bool → Prop) → Prop
  | 0, _, _, _, _, _, _ => False
  | n + 1, x3, c0_0, c0_1, c0_2, Ke, Kr => (((decide (x3 < (3 : Int))) = true → ((0 ≤ x3 ∧ x3 < (3 : Int)) ∧ ((x3 = 0 → ((0 ≤ (0 : Int) ∧ (0 : Int) < (3 : Int)) ∧ (((decide (c0_0 < (0 : Int))) = false → ((0 ≤ x3 ∧ x3 < (3 : Int)) ∧ ((x3 = 0 → ((0 ≤ (0 : Int) ∧ (0 : Int) < (3 : Int)) ∧ (((decide ((4000 : Int) < c0_0)) = true → Kr false) ∧ ((decide ((4000 : Int) < c0_0)) = false → (I64 (x3 + (1 : Int)) ∧ F_r9_Valid_l2 n (x3 + (1 : Int)) c0_0 c0_1 c0_2 Ke Kr))))) ∧ ((x3 = 1 → ((0 ≤ (1 : Int) ∧ (1 : Int) < (3 : Int)) ∧ (((decide ((4000 : Int) < c0_1)) = true → Kr false) ∧ ((decide ((4000 : Int) < c0_1)) = false → (I64 (x3 + (1 : Int)) ∧ F_r9_Valid_l2 n (x3 + (1 : Int)) c0_0 c0_1 c0_2 Ke Kr))))) ∧ ((x3 = 2 → ((0 ≤ (2 : Int) ∧ (2 : Int) < (3 : Int)) ∧ (((decide ((4000 : Int) < c0_2)) = true → Kr false) ∧ ((decide ((4000 : Int) < c0_2)) = false → (I64 (x3 + (1 : Int)) ∧ F_r9_Valid_l2 n (x3 + (1 : Int)) c0_0 c0_1 c0_2 Ke Kr))))) ∧ True))))) ∧ ((decide (c0_0 < (0 : Int))) = true → Kr false)))) ∧ ((x3 = 1 → ((0 ≤ (1 : Int) ∧ (1 : Int) < (3 : Int)) ∧ (((decide (c0_1 < (0 : Int))) = false → ((0 ≤ x3 ∧ x3 < (3 : Int)) ∧ ((x3 = 0 → ((0 ≤ (0 : Int) ∧ (0 : Int) < (3 : Int)) ∧ (((decide ((4000 : Int) < c0_0)) = true → Kr false) ∧ ((decide ((4000 : Int) < c0_0)) = false → (I64 (x3 + (1 : Int)) ∧ F_r9_Valid_l2 n (x3 + (1 : Int)) c0_0 c0_1 c0_2 Ke Kr))))) ∧ ((x3 = 1 → ((0 ≤ (1 : Int) ∧ (1 : Int) < (3 : Int)) ∧ (((decide ((4000 : Int) < c0_1)) = true → Kr false) ∧ ((decide ((4000 : Int) < c0_1)) = false → (I64 (x3 + (1 : Int)) ∧ F_r9_Valid_l2 n (x3 + (1 : Int)) c0_0 c0_1 c0_2 Ke Kr))))) ∧ ((x3 = 2 → ((0 ≤ (2 : Int) ∧ (2 : Int) < (3 : Int)) ∧ (((decide ((4000 : Int) < c0_2)) = true → Kr false) ∧ ((decide ((4000 : Int) < c0_2)) = false → (I64 (x3 + (1 : Int)) ∧ F_r9_Valid_l2 n (x3 + (1 : Int)) c0_0 c0_1 c0_2 Ke Kr))))) ∧ True))))) ∧ ((decide (c0_1 < (0 : Int))) = true → Kr false)))) ∧ ((x3 = 2 → ((0 ≤ (2 : Int) ∧ (2 : Int) < (3 : Int)) ∧ (((decide (c0_2 < (0 : Int))) = false → ((0 ≤ x3 ∧ x3 < (3 : Int)) ∧ ((x3 = 0 → ((0 ≤ (0 : Int) ∧ (0 : Int) < (3 : Int)) ∧ (((decide ((4000 : Int) < c0_0)) = true → Kr false) ∧ ((decide ((4000 : Int) < c0_0)) = false → (I64 (x3 + (1 : Int)) ∧ F_r9_Valid_l2 n (x3 + (1 : Int)) c0_0 c0_1 c0_2 Ke Kr))))) ∧ ((x3 = 1 → ((0 ≤ (1 : Int) ∧ (1 : Int) < (3 : Int)) ∧ (((decide ((4000 : Int) < c0_1)) = true → Kr false) ∧ ((decide ((4000 : Int) < c0_1)) = false → (I64 (x3 + (1 : Int)) ∧ F_r9_Valid_l2 n (x3 + (1 : Int)) c0_0 c0_1 c0_2 Ke Kr))))) ∧ ((x3 = 2 → ((0 ≤ (2 : Int) ∧ (2 : Int) < (3 : Int)) ∧ (((decide ((4000 : Int) < c0_2)) = true → Kr false) ∧ ((decide ((4000 : Int) < c0_2)) = false → (I64 (x3 + (1 : Int)) ∧ F_r9_Valid_l2 n (x3 + (1 : Int)) c0_0 c0_1 c0_2 Ke Kr))))) ∧ True))))) ∧ ((decide (c0_2 < (0 : Int))) = true → Kr false)))) ∧ True))))) ∧ ((decide (x3 < (3 : Int))) = false → Ke ()))

def F_r9_Valid (a0 : (Int × Int × Int)) (K : Bool → Prop) : Prop :=
  (∃ m, F_r9_Valid_l2 m (0 : Int) a0.1 a0.2.1 a0.2.2 (fun _ => K true) (fun y1 => K y1))

def C_r9_Valid : CallT sg := tab []
theorem Cok_r9_Valid (o0 : Nat → Prop) : CalOK sy Try.prog GT (ovD ro) o0 ro (C_r9_Valid) := tab_nil o0

abbrev Ya_r9_Valid_2 : Type := (Unit × Int × Unit)
abbrev Yb_r9_Valid_2 : Type := ((Int × Int × Int × Unit) × Unit)
def ls_r9_Valid_2 : LS sy Ya_r9_Valid_2 Yb_r9_Valid_2 := ⟨[], fCons 1 (vLit sy (.p 0 0)) (fCons 3 (vInt sy .i64) (fNil sy)), hCells 0 (lCons (vInt sy .i64) (lCons (vInt sy .i64) (lCons (vInt sy .i64) (lNil sy)))) (hNil sy), 1, []⟩
def le_r9_Valid_2 : LS sy Unit Unit := ⟨[], fNil sy, hNil sy, 0, []⟩
def lr_r9_Valid_2 : LS sy (Bool × Unit) Unit := ⟨[], fCons 2 (vBool sy) (fNil sy), hNil sy, 0, []⟩
def FF_r9_Valid_2 (n : Nat) (x : Ya_r9_Valid_2 × Yb_r9_Valid_2) (K : Ex → Z sg → Prop) : Prop := F_r9_Valid_l2 n x.1.2.1 x.2.1.1 x.2.1.2.1 x.2.1.2.2.1 (fun _ => K (.exit 0) (le_r9_Valid_2.put ((), ()))) (fun y0 => K .ret (lr_r9_Valid_2.put ((y0, ()), ())))
def h_r9_Valid_2 (z : Z sg) (K : Ex → Z sg → Prop) : Prop := ls_r9_Valid_2.get z (fun x => ∃ n, FF_r9_Valid_2 n x K)
def L_r9_Valid : LoopT sg := tabL [(2, h_r9_Valid_2)]
theorem hs_r9_Valid_2 (n : Nat) (x : Ya_r9_Valid_2 × Yb_r9_Valid_2) (K : Ex → Z sg → Prop) : forceZ (ls_r9_Valid_2.put x) (fun z => sC sy Try.prog GT (C_r9_Valid) (L_r9_Valid) Try.f10.ntmps (nthLoop (bodyOf Try.f10) 0) z (rnd ls_r9_Valid_2 (czT 0 le_r9_Valid_2 lr_r9_Valid_2) (fun x => FF_r9_Valid_2 n x K) K)) = FF_r9_Valid_2 (n + 1) x K := by kernel_rfl
theorem hl_r9_Valid_2 (z : Z sg) (K : Ex → Z sg → Prop) : (L_r9_Valid) (nthLoop (bodyOf Try.f10) 0) z K = ls_r9_Valid_2.get z (fun x => ∃ n, FF_r9_Valid_2 n x K) := by kernel_rfl
theorem lo_r9_Valid_2 : ∀ (o0 : Nat → Prop) (B : Bs sg), B.E.length ≤ 0 → ∀ z K, (L_r9_Valid) (nthLoop (bodyOf Try.f10) 0) z K → Sx.Sem sy Try.prog GT (ovD ro) o0 ro Try.f10.ntmps B (.loop (nthLoop (bodyOf Try.f10) 0)) z K :=
  loop_ok (Cok_r9_Valid) (lp_of (l := []) (by kernel_rfl) lp_nil) ls_r9_Valid_2 (by decide) (czT 0 le_r9_Valid_2 lr_r9_Valid_2) (fun _ _ hB => czT_ok 0 le_r9_Valid_2 lr_r9_Valid_2 (Nat.le_trans hB (by decide)) (Nat.le_trans hB (by decide))) (fun _ _ h => h) (hs_r9_Valid_2) (hl_r9_Valid_2)
theorem Lp_r9_Valid : LpOK sy Try.prog GT (ovD ro) ro (L_r9_Valid) 0 Try.f10.ntmps (bodyOf Try.f10) := lp_of (l := [(nthLoop (bodyOf Try.f10) 0)]) (by kernel_rfl) (lp_cons (lo_r9_Valid_2) lp_nil)


theorem raw_r9_Valid (a0 : (Int × Int × Int)) (k : W → Prop) : fnT sy Try.prog GT (C_r9_Valid) (L_r9_Valid) Try.f10.ntmps (bodyOf Try.f10) [none] Try.f10.results.toList [.a [.i .i64 a0.1, .i .i64 a0.2.1, .i .i64 a0.2.2]] k = F_r9_Valid a0 (fun r0 => k (.b r0)) := by kernel_rfl

theorem ok_r9_Valid : FnOK sy Try.prog GT (ovD ro) ro 10 (q_r9_Valid (F_r9_Valid)) := (fn_ok (rc := [none]) (f := 10) (fn := Try.f10) (c := bodyOf Try.f10) (nt := Try.f10.ntmps) (res := Try.f10.results.toList) (C := C_r9_Valid) (L := (L_r9_Valid)) (fun _ _ => rfl) Try.func10 (by kernel_rfl) rfl rfl (Cok_r9_Valid) (Lp_r9_Valid)).weak (by
  intro us k h
  unfold q_r9_Valid at h
  split at h
  · skip
    rename_i a0_0 a0_1 a0_2
    rw [raw_r9_Valid (a0_0, a0_1, a0_2) k]
    exact h
  · exact h.elim)

abbrev T_r9_Compare := (Int × Int × Int) → (Int × Int × Int) → (Int → Int → Prop) → Prop
def q_r9_Compare (A : T_r9_Compare) (us : List W) (k : W → Prop) : Prop := match us with
  | [.a [.i .i64 a0_0, .i .i64 a0_1, .i .i64 a0_2], .a [.i .i64 a1_0, .i .i64 a1_1, .i .i64 a1_2]] => A (a0_0, a0_1, a0_2) (a1_0, a1_1, a1_2) (fun r0 r1 => k (.t [.i .i64 r0, .i .i64 r1]))
  | _ => False
theorem q_r9_Compare_weak {A A2 : T_r9_Compare} (h : FnOK sy Try.prog GT (ovD ro) ro 5 (q_r9_Compare A)) (hA : ∀ a0 a1 K, A2 a0 a1 K → A a0 a1 K) : FnOK sy Try.prog GT (ovD ro) ro 5 (q_r9_Compare A2) := h.weak (by
  intro us k h
  unfold q_r9_Compare at h ⊢
  split at h
  · exact hA _ _ _ h
  · exact h.elim)

def F_r9_Compare (A10 : T_r9_Valid) (A11 : T_r9_Order) (a0 : (Int × Int × Int)) (a1 : (Int × Int × Int)) (K : Int → Int → Prop) : Prop :=
  (A10 (a0.1, a0.2.1, a0.2.2) (fun y1 => (((!y1) = false → (A10 (a1.1, a1.2.1, a1.2.2) (fun y2 => (((!y2) = true → K (0 : Int) (8 : Int)) ∧ ((!y2) = false → (A11 (a0.1, a0.2.1, a0.2.2) (a1.1, a1.2.1, a1.2.2) (fun y3 => K y3 (0 : Int)))))))) ∧ ((!y1) = true → K (0 : Int) (8 : Int)))))

def C_r9_Compare (A10 : T_r9_Valid) (A11 : T_r9_Order) : CallT sg := tab [(10, con sy [none] (q_r9_Valid A10)), (11, con sy [none, none] (q_r9_Order A11))]
theorem Cok_r9_Compare (A10 : T_r9_Valid) (A11 : T_r9_Order) (h10 : FnOK sy Try.prog GT (ovD ro) ro 10 (q_r9_Valid A10)) (h11 : FnOK sy Try.prog GT (ovD ro) ro 11 (q_r9_Order A11)) (o0 : Nat → Prop) : CalOK sy Try.prog GT (ovD ro) o0 ro (C_r9_Compare A10 A11) := (tab_cons (con_ok h10) (tab_cons (con_ok h11) tab_nil)) o0

theorem raw_r9_Compare (A10 : T_r9_Valid) (A11 : T_r9_Order) (a0 : (Int × Int × Int)) (a1 : (Int × Int × Int)) (k : W → Prop) : fnT sy Try.prog GT (C_r9_Compare A10 A11) noL Try.f5.ntmps (bodyOf Try.f5) [none, none] Try.f5.results.toList [.a [.i .i64 a0.1, .i .i64 a0.2.1, .i .i64 a0.2.2], .a [.i .i64 a1.1, .i .i64 a1.2.1, .i .i64 a1.2.2]] k = F_r9_Compare A10 A11 a0 a1 (fun r0 r1 => k (.t [.i .i64 r0, .i .i64 r1])) := by kernel_rfl

theorem ok_r9_Compare (A10 : T_r9_Valid) (A11 : T_r9_Order) (h10 : FnOK sy Try.prog GT (ovD ro) ro 10 (q_r9_Valid A10)) (h11 : FnOK sy Try.prog GT (ovD ro) ro 11 (q_r9_Order A11)) : FnOK sy Try.prog GT (ovD ro) ro 5 (q_r9_Compare (F_r9_Compare A10 A11)) := (fn_ok (rc := [none, none]) (f := 5) (fn := Try.f5) (c := bodyOf Try.f5) (nt := Try.f5.ntmps) (res := Try.f5.results.toList) (C := C_r9_Compare A10 A11) (L := noL) (fun _ _ => rfl) Try.func5 (by kernel_rfl) rfl rfl (Cok_r9_Compare A10 A11 h10 h11) (lp_of (l := []) (by kernel_rfl) lp_nil)).weak (by
  intro us k h
  unfold q_r9_Compare at h
  split at h
  · skip
    rename_i a0_0 a0_1 a0_2 a1_0 a1_1 a1_2
    rw [raw_r9_Compare A10 A11 (a0_0, a0_1, a0_2) (a1_0, a1_1, a1_2) k]
    exact h
  · exact h.elim)

abbrev T_r9_Sum := (Int × Int × Int) → (Int × Int × Int) → ((Int × Int × Int) → Int → Prop) → Prop
def q_r9_Sum (A : T_r9_Sum) (us : List W) (k : W → Prop) : Prop := match us with
  | [.a [.i .i64 a0_0, .i .i64 a0_1, .i .i64 a0_2], .a [.i .i64 a1_0, .i .i64 a1_1, .i .i64 a1_2]] => A (a0_0, a0_1, a0_2) (a1_0, a1_1, a1_2) (fun r0 r1 => k (.t [.a [.i .i64 r0.1, .i .i64 r0.2.1, .i .i64 r0.2.2], .i .i64 r1]))
  | _ => False
theorem q_r9_Sum_weak {A A2 : T_r9_Sum} (h : FnOK sy Try.prog GT (ovD ro) ro 7 (q_r9_Sum A)) (hA : ∀ a0 a1 K, A2 a0 a1 K → A a0 a1 K) : FnOK sy Try.prog GT (ovD ro) ro 7 (q_r9_Sum A2) := h.weak (by
  intro us k h
  unfold q_r9_Sum at h ⊢
  split at h
  · exact hA _ _ _ h
  · exact h.elim)

def F_r9_Sum (A10 : T_r9_Valid) (A13 : T_r9_Add) (a0 : (Int × Int × Int)) (a1 : (Int × Int × Int)) (K : (Int × Int × Int) → Int → Prop) : Prop :=
  (A10 (a0.1, a0.2.1, a0.2.2) (fun y1 => (((!y1) = false → (A10 (a1.1, a1.2.1, a1.2.2) (fun y2 => (((!y2) = false → (A13 (a0.1, a0.2.1, a0.2.2) (a1.1, a1.2.1, a1.2.2) (fun y3 => (A10 (y3.1, y3.2.1, y3.2.2) (fun y4 => (((!y4) = true → K ((0 : Int), (0 : Int), (0 : Int)) (8 : Int)) ∧ ((!y4) = false → (A13 (a0.1, a0.2.1, a0.2.2) (a1.1, a1.2.1, a1.2.2) (fun y5 => K (y5.1, y5.2.1, y5.2.2) (0 : Int)))))))))) ∧ ((!y2) = true → K ((0 : Int), (0 : Int), (0 : Int)) (8 : Int)))))) ∧ ((!y1) = true → K ((0 : Int), (0 : Int), (0 : Int)) (8 : Int)))))

def C_r9_Sum (A10 : T_r9_Valid) (A13 : T_r9_Add) : CallT sg := tab [(10, con sy [none] (q_r9_Valid A10)), (13, con sy [none, none] (q_r9_Add A13))]
theorem Cok_r9_Sum (A10 : T_r9_Valid) (A13 : T_r9_Add) (h10 : FnOK sy Try.prog GT (ovD ro) ro 10 (q_r9_Valid A10)) (h13 : FnOK sy Try.prog GT (ovD ro) ro 13 (q_r9_Add A13)) (o0 : Nat → Prop) : CalOK sy Try.prog GT (ovD ro) o0 ro (C_r9_Sum A10 A13) := (tab_cons (con_ok h10) (tab_cons (con_ok h13) tab_nil)) o0

theorem raw_r9_Sum (A10 : T_r9_Valid) (A13 : T_r9_Add) (a0 : (Int × Int × Int)) (a1 : (Int × Int × Int)) (k : W → Prop) : fnT sy Try.prog GT (C_r9_Sum A10 A13) noL Try.f7.ntmps (bodyOf Try.f7) [none, none] Try.f7.results.toList [.a [.i .i64 a0.1, .i .i64 a0.2.1, .i .i64 a0.2.2], .a [.i .i64 a1.1, .i .i64 a1.2.1, .i .i64 a1.2.2]] k = F_r9_Sum A10 A13 a0 a1 (fun r0 r1 => k (.t [.a [.i .i64 r0.1, .i .i64 r0.2.1, .i .i64 r0.2.2], .i .i64 r1])) := by kernel_rfl

theorem ok_r9_Sum (A10 : T_r9_Valid) (A13 : T_r9_Add) (h10 : FnOK sy Try.prog GT (ovD ro) ro 10 (q_r9_Valid A10)) (h13 : FnOK sy Try.prog GT (ovD ro) ro 13 (q_r9_Add A13)) : FnOK sy Try.prog GT (ovD ro) ro 7 (q_r9_Sum (F_r9_Sum A10 A13)) := (fn_ok (rc := [none, none]) (f := 7) (fn := Try.f7) (c := bodyOf Try.f7) (nt := Try.f7.ntmps) (res := Try.f7.results.toList) (C := C_r9_Sum A10 A13) (L := noL) (fun _ _ => rfl) Try.func7 (by kernel_rfl) rfl rfl (Cok_r9_Sum A10 A13 h10 h13) (lp_of (l := []) (by kernel_rfl) lp_nil)).weak (by
  intro us k h
  unfold q_r9_Sum at h
  split at h
  · skip
    rename_i a0_0 a0_1 a0_2 a1_0 a1_1 a1_2
    rw [raw_r9_Sum A10 A13 (a0_0, a0_1, a0_2) (a1_0, a1_1, a1_2) k]
    exact h
  · exact h.elim)

abbrev T_vitrinelaw09_WeighSums := (Int × Int × Int) → (Int × Int × Int) → (Bool → Prop) → Prop
def q_vitrinelaw09_WeighSums (A : T_vitrinelaw09_WeighSums) (us : List W) (k : W → Prop) : Prop := match us with
  | [.a [.i .i64 a0_0, .i .i64 a0_1, .i .i64 a0_2], .a [.i .i64 a1_0, .i .i64 a1_1, .i .i64 a1_2]] => A (a0_0, a0_1, a0_2) (a1_0, a1_1, a1_2) (fun r0 => k (.b r0))
  | _ => False
theorem q_vitrinelaw09_WeighSums_weak {A A2 : T_vitrinelaw09_WeighSums} (h : FnOK sy Try.prog GT (ovD ro) ro 3 (q_vitrinelaw09_WeighSums A)) (hA : ∀ a0 a1 K, A2 a0 a1 K → A a0 a1 K) : FnOK sy Try.prog GT (ovD ro) ro 3 (q_vitrinelaw09_WeighSums A2) := h.weak (by
  intro us k h
  unfold q_vitrinelaw09_WeighSums at h ⊢
  split at h
  · exact hA _ _ _ h
  · exact h.elim)

def F_vitrinelaw09_WeighSums (A4 : T_w_Compare) (A5 : T_r9_Compare) (A6 : T_w_Sum) (A7 : T_r9_Sum) (a0 : (Int × Int × Int)) (a1 : (Int × Int × Int)) (K : Bool → Prop) : Prop :=
  (A4 (a0.1, a0.2.1, a0.2.2) (a1.1, a1.2.1, a1.2.2) (fun y1 y2 => (A5 (a0.1, a0.2.1, a0.2.2) (a1.1, a1.2.1, a1.2.2) (fun y3 y4 => (A6 (a0.1, a0.2.1, a0.2.2) (a1.1, a1.2.1, a1.2.2) (fun y5 y6 => (A7 (a0.1, a0.2.1, a0.2.2) (a1.1, a1.2.1, a1.2.2) (fun y7 y8 => (((decide (y1 = y3)) = true → (((decide (y2 = y4)) = true → (((decide (y5.1 = y7.1) && (decide (y5.2.1 = y7.2.1) && (decide (y5.2.2 = y7.2.2) && true))) = true → K (decide (y6 = y8))) ∧ ((decide (y5.1 = y7.1) && (decide (y5.2.1 = y7.2.1) && (decide (y5.2.2 = y7.2.2) && true))) = false → K false))) ∧ ((decide (y2 = y4)) = false → K false))) ∧ ((decide (y1 = y3)) = false → K false))))))))))

def C_vitrinelaw09_WeighSums (A4 : T_w_Compare) (A5 : T_r9_Compare) (A6 : T_w_Sum) (A7 : T_r9_Sum) : CallT sg := tab [(4, con sy [none, none] (q_w_Compare A4)), (5, con sy [none, none] (q_r9_Compare A5)), (6, con sy [none, none] (q_w_Sum A6)), (7, con sy [none, none] (q_r9_Sum A7))]
theorem Cok_vitrinelaw09_WeighSums (A4 : T_w_Compare) (A5 : T_r9_Compare) (A6 : T_w_Sum) (A7 : T_r9_Sum) (h4 : FnOK sy Try.prog GT (ovD ro) ro 4 (q_w_Compare A4)) (h5 : FnOK sy Try.prog GT (ovD ro) ro 5 (q_r9_Compare A5)) (h6 : FnOK sy Try.prog GT (ovD ro) ro 6 (q_w_Sum A6)) (h7 : FnOK sy Try.prog GT (ovD ro) ro 7 (q_r9_Sum A7)) (o0 : Nat → Prop) : CalOK sy Try.prog GT (ovD ro) o0 ro (C_vitrinelaw09_WeighSums A4 A5 A6 A7) := (tab_cons (con_ok h4) (tab_cons (con_ok h5) (tab_cons (con_ok h6) (tab_cons (con_ok h7) tab_nil)))) o0

theorem raw_vitrinelaw09_WeighSums (A4 : T_w_Compare) (A5 : T_r9_Compare) (A6 : T_w_Sum) (A7 : T_r9_Sum) (a0 : (Int × Int × Int)) (a1 : (Int × Int × Int)) (k : W → Prop) : fnT sy Try.prog GT (C_vitrinelaw09_WeighSums A4 A5 A6 A7) noL Try.f3.ntmps (bodyOf Try.f3) [none] Try.f3.results.toList [.a [.i .i64 a0.1, .i .i64 a0.2.1, .i .i64 a0.2.2], .a [.i .i64 a1.1, .i .i64 a1.2.1, .i .i64 a1.2.2]] k = F_vitrinelaw09_WeighSums A4 A5 A6 A7 a0 a1 (fun r0 => k (.b r0)) := by kernel_rfl

theorem ok_vitrinelaw09_WeighSums (A4 : T_w_Compare) (A5 : T_r9_Compare) (A6 : T_w_Sum) (A7 : T_r9_Sum) (h4 : FnOK sy Try.prog GT (ovD ro) ro 4 (q_w_Compare A4)) (h5 : FnOK sy Try.prog GT (ovD ro) ro 5 (q_r9_Compare A5)) (h6 : FnOK sy Try.prog GT (ovD ro) ro 6 (q_w_Sum A6)) (h7 : FnOK sy Try.prog GT (ovD ro) ro 7 (q_r9_Sum A7)) : FnOK sy Try.prog GT (ovD ro) ro 3 (q_vitrinelaw09_WeighSums (F_vitrinelaw09_WeighSums A4 A5 A6 A7)) := (fn_ok (rc := [none]) (f := 3) (fn := Try.f3) (c := bodyOf Try.f3) (nt := Try.f3.ntmps) (res := Try.f3.results.toList) (C := C_vitrinelaw09_WeighSums A4 A5 A6 A7) (L := noL) (fun _ _ => rfl) Try.func3 (by kernel_rfl) rfl rfl (Cok_vitrinelaw09_WeighSums A4 A5 A6 A7 h4 h5 h6 h7) (lp_of (l := []) (by kernel_rfl) lp_nil)).weak (by
  intro us k h
  unfold q_vitrinelaw09_WeighSums at h
  split at h
  · skip
    rename_i a0_0 a0_1 a0_2 a1_0 a1_1 a1_2
    rw [raw_vitrinelaw09_WeighSums A4 A5 A6 A7 (a0_0, a0_1, a0_2) (a1_0, a1_1, a1_2) k]
    exact h
  · exact h.elim)

end Go.Proofs.Ytfpobnafniefpaa
