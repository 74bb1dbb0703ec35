/-
  The reference of fixed, and the law, followed. Nothing is claimed here.
-/
import Derived.Test.YthjnkibldhfhmaaTf
namespace Go.Proofs.Ythjnkibldhfhmaa
open Go.Vm Go.Sx Go.RowKit
variable {ro : Nat}

abbrev T_r6_Is := Int → (Bool → Prop) → Prop
def q_r6_Is (A : T_r6_Is) (us : List W) (k : W → Prop) : Prop := match us with
  | [.i .i64 a0] => A a0 (fun r0 => k (.b r0))
  | _ => False
theorem q_r6_Is_weak {A A2 : T_r6_Is} (h : FnOK sy Try.prog GT (ovD ro) ro 11 (q_r6_Is A)) (hA : ∀ a0 K, A2 a0 K → A a0 K) : FnOK sy Try.prog GT (ovD ro) ro 11 (q_r6_Is A2) := h.weak (by
  intro us k h
  unfold q_r6_Is at h ⊢
  split at h
  · exact hA _ _ h
  · exact h.elim)

def F_r6_Is (a0 : Int) (K : Bool → Prop) : Prop :=
  (((decide ((-1000000000000 : Int) ≤ a0)) = true → K (decide (a0 ≤ (1000000000000 : Int)))) ∧ ((decide ((-1000000000000 : Int) ≤ a0)) = false → K false))

def C_r6_Is : CallT sg := tab []
theorem Cok_r6_Is (o0 : Nat → Prop) : CalOK sy Try.prog GT (ovD ro) o0 ro (C_r6_Is) := tab_nil o0

theorem raw_r6_Is (a0 : Int) (k : W → Prop) : fnT sy Try.prog GT (C_r6_Is) noL Try.f11.ntmps (bodyOf Try.f11) [none] Try.f11.results.toList [.i .i64 a0] k = F_r6_Is a0 (fun r0 => k (.b r0)) := by kernel_rfl

theorem ok_r6_Is : FnOK sy Try.prog GT (ovD ro) ro 11 (q_r6_Is (F_r6_Is)) := (fn_ok (rc := [none]) (f := 11) (fn := Try.f11) (c := bodyOf Try.f11) (nt := Try.f11.ntmps) (res := Try.f11.results.toList) (C := C_r6_Is) (L := noL) (fun _ _ => rfl) Try.func11 (by kernel_rfl) rfl rfl (Cok_r6_Is) (lp_of (l := []) (by kernel_rfl) lp_nil)).weak (by
  intro us k h
  unfold q_r6_Is at h
  split at h
  · skip
    rename_i a0
    rw [raw_r6_Is a0 k]
    exact h
  · exact h.elim)

abbrev T_r6_Hold := Int → (Int → Prop) → Prop
def q_r6_Hold (A : T_r6_Hold) (us : List W) (k : W → Prop) : Prop := match us with
  | [.i .i64 a0] => A a0 (fun r0 => k (.i .i64 r0))
  | _ => False
theorem q_r6_Hold_weak {A A2 : T_r6_Hold} (h : FnOK sy Try.prog GT (ovD ro) ro 12 (q_r6_Hold A)) (hA : ∀ a0 K, A2 a0 K → A a0 K) : FnOK sy Try.prog GT (ovD ro) ro 12 (q_r6_Hold A2) := h.weak (by
  intro us k h
  unfold q_r6_Hold at h ⊢
  split at h
  · exact hA _ _ h
  · exact h.elim)

def F_r6_Hold (a0 : Int) (K : Int → Prop) : Prop :=
  K (if (-1000000000000 : Int) < (if a0 < (1000000000000 : Int) then a0 else (1000000000000 : Int)) then (if a0 < (1000000000000 : Int) then a0 else (1000000000000 : Int)) else (-1000000000000 : Int))

def C_r6_Hold : CallT sg := tab []
theorem Cok_r6_Hold (o0 : Nat → Prop) : CalOK sy Try.prog GT (ovD ro) o0 ro (C_r6_Hold) := tab_nil o0

theorem raw_r6_Hold (a0 : Int) (k : W → Prop) : fnT sy Try.prog GT (C_r6_Hold) noL Try.f12.ntmps (bodyOf Try.f12) [none] Try.f12.results.toList [.i .i64 a0] k = F_r6_Hold a0 (fun r0 => k (.i .i64 r0)) := by kernel_rfl

theorem ok_r6_Hold : FnOK sy Try.prog GT (ovD ro) ro 12 (q_r6_Hold (F_r6_Hold)) := (fn_ok (rc := [none]) (f := 12) (fn := Try.f12) (c := bodyOf Try.f12) (nt := Try.f12.ntmps) (res := Try.f12.results.toList) (C := C_r6_Hold) (L := noL) (fun _ _ => rfl) Try.func12 (by kernel_rfl) rfl rfl (Cok_r6_Hold) (lp_of (l := []) (by kernel_rfl) lp_nil)).weak (by
  intro us k h
  unfold q_r6_Hold at h
  split at h
  · skip
    rename_i a0
    rw [raw_r6_Hold a0 k]
    exact h
  · exact h.elim)

abbrev T_r6_Sum := List Int → (Int → Int → Prop) → Prop
def q_r6_Sum (A : T_r6_Sum) (us : List W) (k : W → Prop) : Prop := match us with
  | [.l Cd.i64 a0] => A a0 (fun r0 r1 => k (.t [.i .i64 r0, .i .i64 r1]))
  | _ => False
theorem q_r6_Sum_weak {A A2 : T_r6_Sum} (h : FnOK sy Try.prog GT (ovD ro) ro 5 (q_r6_Sum A)) (hA : ∀ a0 K, A2 a0 K → A a0 K) : FnOK sy Try.prog GT (ovD ro) ro 5 (q_r6_Sum A2) := h.weak (by
  intro us k h
  unfold q_r6_Sum at h ⊢
  split at h
  · exact hA _ _ h
  · exact h.elim)

def F_r6_Sum_l3 (A11 : T_r6_Is) (A12 : T_r6_Hold) : Nat → List Int → Int → Int → (List Int → Int → Prop) → (Int → Int → Prop) → Prop
  | 0, _, _, _, _, _ => False
  | n + 1, x0, x4, x5, Ke, Kr => (((decide (x5 < (x0.length : Int))) = true → ((0 ≤ x5 ∧ x5 < (x0.length : Int)) ∧ (A11 (id (x0.getD x5.toNat (dfltD Cd.i64)) : Int) (fun y1 => (((!y1) = true → Kr (0 : Int) (8 : Int)) ∧ ((!y1) = false → (I64 (x5 + (1 : Int)) ∧ F_r6_Sum_l3 A11 A12 n x0 x4 (x5 + (1 : Int)) Ke Kr))))))) ∧ ((decide (x5 < (x0.length : Int))) = false → Ke x0 x4))

def F_r6_Sum_l8 (A11 : T_r6_Is) (A12 : T_r6_Hold) : Nat → List Int → Int → Int → (Int → Prop) → Prop
  | 0, _, _, _, _ => False
  | n + 1, x0, x4, x6, Ke => (((decide (x6 < (x0.length : Int))) = true → ((0 ≤ x6 ∧ x6 < (x0.length : Int)) ∧ (I64 (x4 + (id (x0.getD x6.toNat (dfltD Cd.i64)) : Int)) ∧ (A12 (x4 + (id (x0.getD x6.toNat (dfltD Cd.i64)) : Int)) (fun y1 => (I64 (x6 + (1 : Int)) ∧ F_r6_Sum_l8 A11 A12 n x0 y1 (x6 + (1 : Int)) Ke)))))) ∧ ((decide (x6 < (x0.length : Int))) = false → Ke x4))

def F_r6_Sum (A11 : T_r6_Is) (A12 : T_r6_Hold) (a0 : List Int) (K : Int → Int → Prop) : Prop :=
  (∃ m, F_r6_Sum_l3 A11 A12 m a0 (0 : Int) (0 : Int) (fun y1 y2 => (∃ m, F_r6_Sum_l8 A11 A12 m y1 y2 (0 : Int) (fun y3 => K y3 (0 : Int)))) (fun y4 y5 => K y4 y5))

def C_r6_Sum (A11 : T_r6_Is) (A12 : T_r6_Hold) : CallT sg := tab [(11, con [none] (q_r6_Is A11)), (12, con [none] (q_r6_Hold A12))]
theorem Cok_r6_Sum (A11 : T_r6_Is) (A12 : T_r6_Hold) (h11 : FnOK sy Try.prog GT (ovD ro) ro 11 (q_r6_Is A11)) (h12 : FnOK sy Try.prog GT (ovD ro) ro 12 (q_r6_Hold A12)) (o0 : Nat → Prop) : CalOK sy Try.prog GT (ovD ro) o0 ro (C_r6_Sum A11 A12) := (tab_cons (con_ok h11) (tab_cons (con_ok h12) tab_nil)) o0

def ls_r6_Sum_3 : LS sy ((List (sg.Den Cd.i64)) × Int × Int × Unit) Unit := ⟨[], fCons 0 (vData sy Cd.i64) (fCons 4 (vInt sy .i64) (fCons 5 (vInt sy .i64) (fNil sy))), hNil sy, 0, []⟩
def le_r6_Sum_3 : LS sy ((List (sg.Den Cd.i64)) × Int × Unit) Unit := ⟨[], fCons 0 (vData sy Cd.i64) (fCons 4 (vInt sy .i64) (fNil sy)), hNil sy, 0, []⟩
def lr_r6_Sum_3 : LS sy (Int × Int × Unit) Unit := ⟨[], fCons 2 (vInt sy .i64) (fCons 3 (vInt sy .i64) (fNil sy)), hNil sy, 0, []⟩
def FF_r6_Sum_3 (A11 : T_r6_Is) (A12 : T_r6_Hold) (n : Nat) (x : ((List (sg.Den Cd.i64)) × Int × Int × Unit) × Unit) (K : Ex → Z sg → Prop) : Prop := F_r6_Sum_l3 A11 A12 n x.1.1 x.1.2.1 x.1.2.2.1 (fun y0 y1 => K (.exit 0) (le_r6_Sum_3.put ((y0, y1, ()), ()))) (fun y0 y1 => K .ret (lr_r6_Sum_3.put ((y0, y1, ()), ())))
def h_r6_Sum_3 (A11 : T_r6_Is) (A12 : T_r6_Hold) (z : Z sg) (K : Ex → Z sg → Prop) : Prop := ls_r6_Sum_3.get z (fun x => ∃ n, FF_r6_Sum_3 A11 A12 n x K)
def ls_r6_Sum_8 : LS sy ((List (sg.Den Cd.i64)) × Int × Int × Unit) Unit := ⟨[], fCons 0 (vData sy Cd.i64) (fCons 4 (vInt sy .i64) (fCons 6 (vInt sy .i64) (fNil sy))), hNil sy, 0, []⟩
def le_r6_Sum_8 : LS sy (Int × Unit) Unit := ⟨[], fCons 4 (vInt sy .i64) (fNil sy), hNil sy, 0, []⟩
def lr_r6_Sum_8 : LS sy Unit Unit := ⟨[], fNil sy, hNil sy, 0, []⟩
def FF_r6_Sum_8 (A11 : T_r6_Is) (A12 : T_r6_Hold) (n : Nat) (x : ((List (sg.Den Cd.i64)) × Int × Int × Unit) × Unit) (K : Ex → Z sg → Prop) : Prop := F_r6_Sum_l8 A11 A12 n x.1.1 x.1.2.1 x.1.2.2.1 (fun y0 => K (.exit 2) (le_r6_Sum_8.put ((y0, ()), ())))
def h_r6_Sum_8 (A11 : T_r6_Is) (A12 : T_r6_Hold) (z : Z sg) (K : Ex → Z sg → Prop) : Prop := ls_r6_Sum_8.get z (fun x => ∃ n, FF_r6_Sum_8 A11 A12 n x K)
def L_r6_Sum (A11 : T_r6_Is) (A12 : T_r6_Hold) : LoopT sg := tabL [(3, h_r6_Sum_3 A11 A12), (8, h_r6_Sum_8 A11 A12)]
theorem hs_r6_Sum_3 (A11 : T_r6_Is) (A12 : T_r6_Hold) (n : Nat) (x : ((List (sg.Den Cd.i64)) × Int × Int × Unit) × Unit) (K : Ex → Z sg → Prop) : forceZ (ls_r6_Sum_3.put x) (fun z => sC sy Try.prog GT (C_r6_Sum A11 A12) (L_r6_Sum A11 A12) Try.f5.ntmps (nthLoop (bodyOf Try.f5) 0) z (rnd ls_r6_Sum_3 (czT 0 le_r6_Sum_3 lr_r6_Sum_3) (fun x => FF_r6_Sum_3 A11 A12 n x K) K)) = FF_r6_Sum_3 A11 A12 (n + 1) x K := by kernel_rfl
theorem hl_r6_Sum_3 (A11 : T_r6_Is) (A12 : T_r6_Hold) (z : Z sg) (K : Ex → Z sg → Prop) : (L_r6_Sum A11 A12) (nthLoop (bodyOf Try.f5) 0) z K = ls_r6_Sum_3.get z (fun x => ∃ n, FF_r6_Sum_3 A11 A12 n x K) := by kernel_rfl
theorem lo_r6_Sum_3 (A11 : T_r6_Is) (A12 : T_r6_Hold) (h11 : FnOK sy Try.prog GT (ovD ro) ro 11 (q_r6_Is A11)) (h12 : FnOK sy Try.prog GT (ovD ro) ro 12 (q_r6_Hold A12)) : ∀ (o0 : Nat → Prop) (B : Bs sg), B.E.length ≤ 0 → ∀ z K, (L_r6_Sum A11 A12) (nthLoop (bodyOf Try.f5) 0) z K → Sx.Sem sy Try.prog GT (ovD ro) o0 ro Try.f5.ntmps B (.loop (nthLoop (bodyOf Try.f5) 0)) z K :=
  loop_ok (Cok_r6_Sum A11 A12 h11 h12) (lp_of (l := []) (by kernel_rfl) lp_nil) ls_r6_Sum_3 (by decide) (czT 0 le_r6_Sum_3 lr_r6_Sum_3) (fun _ _ hB => czT_ok 0 le_r6_Sum_3 lr_r6_Sum_3 (Nat.le_trans hB (by decide)) (Nat.le_trans hB (by decide))) (fun _ _ h => h) (hs_r6_Sum_3 A11 A12) (hl_r6_Sum_3 A11 A12)
theorem hs_r6_Sum_8 (A11 : T_r6_Is) (A12 : T_r6_Hold) (n : Nat) (x : ((List (sg.Den Cd.i64)) × Int × Int × Unit) × Unit) (K : Ex → Z sg → Prop) : forceZ (ls_r6_Sum_8.put x) (fun z => sC sy Try.prog GT (C_r6_Sum A11 A12) (L_r6_Sum A11 A12) Try.f5.ntmps (nthLoop (bodyOf Try.f5) 1) z (rnd ls_r6_Sum_8 (czT 2 le_r6_Sum_8 lr_r6_Sum_8) (fun x => FF_r6_Sum_8 A11 A12 n x K) K)) = FF_r6_Sum_8 A11 A12 (n + 1) x K := by kernel_rfl
theorem hl_r6_Sum_8 (A11 : T_r6_Is) (A12 : T_r6_Hold) (z : Z sg) (K : Ex → Z sg → Prop) : (L_r6_Sum A11 A12) (nthLoop (bodyOf Try.f5) 1) z K = ls_r6_Sum_8.get z (fun x => ∃ n, FF_r6_Sum_8 A11 A12 n x K) := by kernel_rfl
theorem lo_r6_Sum_8 (A11 : T_r6_Is) (A12 : T_r6_Hold) (h11 : FnOK sy Try.prog GT (ovD ro) ro 11 (q_r6_Is A11)) (h12 : FnOK sy Try.prog GT (ovD ro) ro 12 (q_r6_Hold A12)) : ∀ (o0 : Nat → Prop) (B : Bs sg), B.E.length ≤ 0 → ∀ z K, (L_r6_Sum A11 A12) (nthLoop (bodyOf Try.f5) 1) z K → Sx.Sem sy Try.prog GT (ovD ro) o0 ro Try.f5.ntmps B (.loop (nthLoop (bodyOf Try.f5) 1)) z K :=
  loop_ok (Cok_r6_Sum A11 A12 h11 h12) (lp_of (l := []) (by kernel_rfl) lp_nil) ls_r6_Sum_8 (by decide) (czT 2 le_r6_Sum_8 lr_r6_Sum_8) (fun _ _ hB => czT_ok 2 le_r6_Sum_8 lr_r6_Sum_8 (Nat.le_trans hB (by decide)) (Nat.le_trans hB (by decide))) (fun _ _ h => h) (hs_r6_Sum_8 A11 A12) (hl_r6_Sum_8 A11 A12)
theorem Lp_r6_Sum (A11 : T_r6_Is) (A12 : T_r6_Hold) (h11 : FnOK sy Try.prog GT (ovD ro) ro 11 (q_r6_Is A11)) (h12 : FnOK sy Try.prog GT (ovD ro) ro 12 (q_r6_Hold A12)) : LpOK sy Try.prog GT (ovD ro) ro (L_r6_Sum A11 A12) 0 Try.f5.ntmps (bodyOf Try.f5) := lp_of (l := [(nthLoop (bodyOf Try.f5) 0), (nthLoop (bodyOf Try.f5) 1)]) (by kernel_rfl) (lp_cons (lo_r6_Sum_3 A11 A12 h11 h12) (lp_cons (lo_r6_Sum_8 A11 A12 h11 h12) lp_nil))


theorem raw_r6_Sum (A11 : T_r6_Is) (A12 : T_r6_Hold) (a0 : List Int) (k : W → Prop) : fnT sy Try.prog GT (C_r6_Sum A11 A12) (L_r6_Sum A11 A12) Try.f5.ntmps (bodyOf Try.f5) [none, none] Try.f5.results.toList [.l Cd.i64 a0] k = F_r6_Sum A11 A12 a0 (fun r0 r1 => k (.t [.i .i64 r0, .i .i64 r1])) := by kernel_rfl

theorem ok_r6_Sum (A11 : T_r6_Is) (A12 : T_r6_Hold) (h11 : FnOK sy Try.prog GT (ovD ro) ro 11 (q_r6_Is A11)) (h12 : FnOK sy Try.prog GT (ovD ro) ro 12 (q_r6_Hold A12)) : FnOK sy Try.prog GT (ovD ro) ro 5 (q_r6_Sum (F_r6_Sum A11 A12)) := (fn_ok (rc := [none, none]) (f := 5) (fn := Try.f5) (c := bodyOf Try.f5) (nt := Try.f5.ntmps) (res := Try.f5.results.toList) (C := C_r6_Sum A11 A12) (L := (L_r6_Sum A11 A12)) (fun _ _ => rfl) Try.func5 (by kernel_rfl) rfl rfl (Cok_r6_Sum A11 A12 h11 h12) (Lp_r6_Sum A11 A12 h11 h12)).weak (by
  intro us k h
  unfold q_r6_Sum at h
  split at h
  · skip
    rename_i a0
    rw [raw_r6_Sum A11 A12 a0 k]
    exact h
  · exact h.elim)

abbrev T_r6_product := Int → Int → (Int → Prop) → Prop
def q_r6_product (A : T_r6_product) (us : List W) (k : W → Prop) : Prop := match us with
  | [.i .i64 a0, .i .i64 a1] => A a0 a1 (fun r0 => k (.i .i64 r0))
  | _ => False
theorem q_r6_product_weak {A A2 : T_r6_product} (h : FnOK sy Try.prog GT (ovD ro) ro 18 (q_r6_product A)) (hA : ∀ a0 a1 K, A2 a0 a1 K → A a0 a1 K) : FnOK sy Try.prog GT (ovD ro) ro 18 (q_r6_product A2) := h.weak (by
  intro us k h
  unfold q_r6_product at h ⊢
  split at h
  · exact hA _ _ _ h
  · exact h.elim)

def F_r6_product (A12 : T_r6_Hold) (a0 : Int) (a1 : Int) (K : Int → Prop) : Prop :=
  ((1000 : Int) ≠ 0 ∧ (I64 (a0.tdiv (1000 : Int)) ∧ ((1000 : Int) ≠ 0 ∧ (((decide ((0 : Int) < (a0.tdiv (1000 : Int)))) = true → ((a0.tdiv (1000 : Int)) ≠ 0 ∧ (I64 ((1000000000000 : Int).tdiv (a0.tdiv (1000 : Int))) ∧ (((decide (((1000000000000 : Int).tdiv (a0.tdiv (1000 : Int))) < a1)) = true → K (1000000000000 : Int)) ∧ ((decide (((1000000000000 : Int).tdiv (a0.tdiv (1000 : Int))) < a1)) = false → (I64 ((a0.tdiv (1000 : Int)) * a1) ∧ (I64 ((a0.tmod (1000 : Int)) * a1) ∧ ((1000 : Int) ≠ 0 ∧ (I64 (((a0.tmod (1000 : Int)) * a1).tdiv (1000 : Int)) ∧ (I64 (((a0.tdiv (1000 : Int)) * a1) + (((a0.tmod (1000 : Int)) * a1).tdiv (1000 : Int))) ∧ (A12 (((a0.tdiv (1000 : Int)) * a1) + (((a0.tmod (1000 : Int)) * a1).tdiv (1000 : Int))) (fun y1 => K y1)))))))))))) ∧ ((decide ((0 : Int) < (a0.tdiv (1000 : Int)))) = false → (I64 ((a0.tdiv (1000 : Int)) * a1) ∧ (I64 ((a0.tmod (1000 : Int)) * a1) ∧ ((1000 : Int) ≠ 0 ∧ (I64 (((a0.tmod (1000 : Int)) * a1).tdiv (1000 : Int)) ∧ (I64 (((a0.tdiv (1000 : Int)) * a1) + (((a0.tmod (1000 : Int)) * a1).tdiv (1000 : Int))) ∧ (A12 (((a0.tdiv (1000 : Int)) * a1) + (((a0.tmod (1000 : Int)) * a1).tdiv (1000 : Int))) (fun y2 => K y2))))))))))))

def C_r6_product (A12 : T_r6_Hold) : CallT sg := tab [(12, con [none] (q_r6_Hold A12))]
theorem Cok_r6_product (A12 : T_r6_Hold) (h12 : FnOK sy Try.prog GT (ovD ro) ro 12 (q_r6_Hold A12)) (o0 : Nat → Prop) : CalOK sy Try.prog GT (ovD ro) o0 ro (C_r6_product A12) := (tab_cons (con_ok h12) tab_nil) o0

theorem raw_r6_product (A12 : T_r6_Hold) (a0 : Int) (a1 : Int) (k : W → Prop) : fnT sy Try.prog GT (C_r6_product A12) noL Try.f18.ntmps (bodyOf Try.f18) [none] Try.f18.results.toList [.i .i64 a0, .i .i64 a1] k = F_r6_product A12 a0 a1 (fun r0 => k (.i .i64 r0)) := by kernel_rfl

theorem ok_r6_product (A12 : T_r6_Hold) (h12 : FnOK sy Try.prog GT (ovD ro) ro 12 (q_r6_Hold A12)) : FnOK sy Try.prog GT (ovD ro) ro 18 (q_r6_product (F_r6_product A12)) := (fn_ok (rc := [none]) (f := 18) (fn := Try.f18) (c := bodyOf Try.f18) (nt := Try.f18.ntmps) (res := Try.f18.results.toList) (C := C_r6_product A12) (L := noL) (fun _ _ => rfl) Try.func18 (by kernel_rfl) rfl rfl (Cok_r6_product A12 h12) (lp_of (l := []) (by kernel_rfl) lp_nil)).weak (by
  intro us k h
  unfold q_r6_product at h
  split at h
  · skip
    rename_i a0 a1
    rw [raw_r6_product A12 a0 a1 k]
    exact h
  · exact h.elim)

abbrev T_r6_Times := Int → Int → (Int → Prop) → Prop
def q_r6_Times (A : T_r6_Times) (us : List W) (k : W → Prop) : Prop := match us with
  | [.i .i64 a0, .i .i64 a1] => A a0 a1 (fun r0 => k (.i .i64 r0))
  | _ => False
theorem q_r6_Times_weak {A A2 : T_r6_Times} (h : FnOK sy Try.prog GT (ovD ro) ro 15 (q_r6_Times A)) (hA : ∀ a0 a1 K, A2 a0 a1 K → A a0 a1 K) : FnOK sy Try.prog GT (ovD ro) ro 15 (q_r6_Times A2) := h.weak (by
  intro us k h
  unfold q_r6_Times at h ⊢
  split at h
  · exact hA _ _ _ h
  · exact h.elim)

def F_r6_Times (A15 : T_r6_Times) (A18 : T_r6_product) (a0 : Int) (a1 : Int) (K : Int → Prop) : Prop :=
  (((decide (a0 < (0 : Int))) = true → (I64 (0 - a0) ∧ (A15 (0 - a0) a1 (fun y1 => (I64 (0 - y1) ∧ K (0 - y1)))))) ∧ ((decide (a0 < (0 : Int))) = false → (((decide (a1 < (0 : Int))) = true → (I64 (0 - a1) ∧ (A18 a0 (0 - a1) (fun y2 => (I64 (0 - y2) ∧ K (0 - y2)))))) ∧ ((decide (a1 < (0 : Int))) = false → (A18 a0 a1 (fun y3 => K y3))))))

def C_r6_Times (A15 : T_r6_Times) (A18 : T_r6_product) : CallT sg := tab [(15, con [none, none] (q_r6_Times A15)), (18, con [none, none] (q_r6_product A18))]
theorem Cok_r6_Times (A15 : T_r6_Times) (A18 : T_r6_product) (h15 : FnOK sy Try.prog GT (ovD ro) ro 15 (q_r6_Times A15)) (h18 : FnOK sy Try.prog GT (ovD ro) ro 18 (q_r6_product A18)) (o0 : Nat → Prop) : CalOK sy Try.prog GT (ovD ro) o0 ro (C_r6_Times A15 A18) := (tab_cons (con_ok h15) (tab_cons (con_ok h18) tab_nil)) o0

theorem raw_r6_Times (A15 : T_r6_Times) (A18 : T_r6_product) (a0 : Int) (a1 : Int) (k : W → Prop) : fnT sy Try.prog GT (C_r6_Times A15 A18) noL Try.f15.ntmps (bodyOf Try.f15) [none] Try.f15.results.toList [.i .i64 a0, .i .i64 a1] k = F_r6_Times A15 A18 a0 a1 (fun r0 => k (.i .i64 r0)) := by kernel_rfl

theorem ok_r6_Times (A15 : T_r6_Times) (A18 : T_r6_product) (h15 : FnOK sy Try.prog GT (ovD ro) ro 15 (q_r6_Times A15)) (h18 : FnOK sy Try.prog GT (ovD ro) ro 18 (q_r6_product A18)) : FnOK sy Try.prog GT (ovD ro) ro 15 (q_r6_Times (F_r6_Times A15 A18)) := (fn_ok (rc := [none]) (f := 15) (fn := Try.f15) (c := bodyOf Try.f15) (nt := Try.f15.ntmps) (res := Try.f15.results.toList) (C := C_r6_Times A15 A18) (L := noL) (fun _ _ => rfl) Try.func15 (by kernel_rfl) rfl rfl (Cok_r6_Times A15 A18 h15 h18) (lp_of (l := []) (by kernel_rfl) lp_nil)).weak (by
  intro us k h
  unfold q_r6_Times at h
  split at h
  · skip
    rename_i a0 a1
    rw [raw_r6_Times A15 A18 a0 a1 k]
    exact h
  · exact h.elim)

abbrev T_r6_Mul := Int → Int → (Int → Int → Prop) → Prop
def q_r6_Mul (A : T_r6_Mul) (us : List W) (k : W → Prop) : Prop := match us with
  | [.i .i64 a0, .i .i64 a1] => A a0 a1 (fun r0 r1 => k (.t [.i .i64 r0, .i .i64 r1]))
  | _ => False
theorem q_r6_Mul_weak {A A2 : T_r6_Mul} (h : FnOK sy Try.prog GT (ovD ro) ro 7 (q_r6_Mul A)) (hA : ∀ a0 a1 K, A2 a0 a1 K → A a0 a1 K) : FnOK sy Try.prog GT (ovD ro) ro 7 (q_r6_Mul A2) := h.weak (by
  intro us k h
  unfold q_r6_Mul at h ⊢
  split at h
  · exact hA _ _ _ h
  · exact h.elim)

def F_r6_Mul (A11 : T_r6_Is) (A15 : T_r6_Times) (a0 : Int) (a1 : Int) (K : Int → Int → Prop) : Prop :=
  (A11 a0 (fun y1 => (((!y1) = false → (A11 a1 (fun y2 => (((!y2) = true → K (0 : Int) (8 : Int)) ∧ ((!y2) = false → (A15 a0 a1 (fun y3 => K y3 (0 : Int)))))))) ∧ ((!y1) = true → K (0 : Int) (8 : Int)))))

def C_r6_Mul (A11 : T_r6_Is) (A15 : T_r6_Times) : CallT sg := tab [(11, con [none] (q_r6_Is A11)), (15, con [none, none] (q_r6_Times A15))]
theorem Cok_r6_Mul (A11 : T_r6_Is) (A15 : T_r6_Times) (h11 : FnOK sy Try.prog GT (ovD ro) ro 11 (q_r6_Is A11)) (h15 : FnOK sy Try.prog GT (ovD ro) ro 15 (q_r6_Times A15)) (o0 : Nat → Prop) : CalOK sy Try.prog GT (ovD ro) o0 ro (C_r6_Mul A11 A15) := (tab_cons (con_ok h11) (tab_cons (con_ok h15) tab_nil)) o0

theorem raw_r6_Mul (A11 : T_r6_Is) (A15 : T_r6_Times) (a0 : Int) (a1 : Int) (k : W → Prop) : fnT sy Try.prog GT (C_r6_Mul A11 A15) noL Try.f7.ntmps (bodyOf Try.f7) [none, none] Try.f7.results.toList [.i .i64 a0, .i .i64 a1] k = F_r6_Mul A11 A15 a0 a1 (fun r0 r1 => k (.t [.i .i64 r0, .i .i64 r1])) := by kernel_rfl

theorem ok_r6_Mul (A11 : T_r6_Is) (A15 : T_r6_Times) (h11 : FnOK sy Try.prog GT (ovD ro) ro 11 (q_r6_Is A11)) (h15 : FnOK sy Try.prog GT (ovD ro) ro 15 (q_r6_Times A15)) : FnOK sy Try.prog GT (ovD ro) ro 7 (q_r6_Mul (F_r6_Mul A11 A15)) := (fn_ok (rc := [none, none]) (f := 7) (fn := Try.f7) (c := bodyOf Try.f7) (nt := Try.f7.ntmps) (res := Try.f7.results.toList) (C := C_r6_Mul A11 A15) (L := noL) (fun _ _ => rfl) Try.func7 (by kernel_rfl) rfl rfl (Cok_r6_Mul A11 A15 h11 h15) (lp_of (l := []) (by kernel_rfl) lp_nil)).weak (by
  intro us k h
  unfold q_r6_Mul at h
  split at h
  · skip
    rename_i a0 a1
    rw [raw_r6_Mul A11 A15 a0 a1 k]
    exact h
  · exact h.elim)

abbrev T_r6_Within := Int → Int → Int → (Int → Int → Prop) → Prop
def q_r6_Within (A : T_r6_Within) (us : List W) (k : W → Prop) : Prop := match us with
  | [.i .i64 a0, .i .i64 a1, .i .i64 a2] => A a0 a1 a2 (fun r0 r1 => k (.t [.i .i64 r0, .i .i64 r1]))
  | _ => False
theorem q_r6_Within_weak {A A2 : T_r6_Within} (h : FnOK sy Try.prog GT (ovD ro) ro 9 (q_r6_Within A)) (hA : ∀ a0 a1 a2 K, A2 a0 a1 a2 K → A a0 a1 a2 K) : FnOK sy Try.prog GT (ovD ro) ro 9 (q_r6_Within A2) := h.weak (by
  intro us k h
  unfold q_r6_Within at h ⊢
  split at h
  · exact hA _ _ _ _ h
  · exact h.elim)

def F_r6_Within (A11 : T_r6_Is) (a0 : Int) (a1 : Int) (a2 : Int) (K : Int → Int → Prop) : Prop :=
  (A11 a0 (fun y1 => (((!y1) = false → (A11 a1 (fun y2 => (((!y2) = false → (A11 a2 (fun y3 => (((!y3) = true → K (0 : Int) (8 : Int)) ∧ ((!y3) = false → (((decide (a2 < a1)) = true → K (0 : Int) (2 : Int)) ∧ ((decide (a2 < a1)) = false → K (if a1 < (if a0 < a2 then a0 else a2) then (if a0 < a2 then a0 else a2) else a1) (0 : Int)))))))) ∧ ((!y2) = true → K (0 : Int) (8 : Int)))))) ∧ ((!y1) = true → K (0 : Int) (8 : Int)))))

def C_r6_Within (A11 : T_r6_Is) : CallT sg := tab [(11, con [none] (q_r6_Is A11))]
theorem Cok_r6_Within (A11 : T_r6_Is) (h11 : FnOK sy Try.prog GT (ovD ro) ro 11 (q_r6_Is A11)) (o0 : Nat → Prop) : CalOK sy Try.prog GT (ovD ro) o0 ro (C_r6_Within A11) := (tab_cons (con_ok h11) tab_nil) o0

theorem raw_r6_Within (A11 : T_r6_Is) (a0 : Int) (a1 : Int) (a2 : Int) (k : W → Prop) : fnT sy Try.prog GT (C_r6_Within A11) noL Try.f9.ntmps (bodyOf Try.f9) [none, none] Try.f9.results.toList [.i .i64 a0, .i .i64 a1, .i .i64 a2] k = F_r6_Within A11 a0 a1 a2 (fun r0 r1 => k (.t [.i .i64 r0, .i .i64 r1])) := by kernel_rfl

theorem ok_r6_Within (A11 : T_r6_Is) (h11 : FnOK sy Try.prog GT (ovD ro) ro 11 (q_r6_Is A11)) : FnOK sy Try.prog GT (ovD ro) ro 9 (q_r6_Within (F_r6_Within A11)) := (fn_ok (rc := [none, none]) (f := 9) (fn := Try.f9) (c := bodyOf Try.f9) (nt := Try.f9.ntmps) (res := Try.f9.results.toList) (C := C_r6_Within A11) (L := noL) (fun _ _ => rfl) Try.func9 (by kernel_rfl) rfl rfl (Cok_r6_Within A11 h11) (lp_of (l := []) (by kernel_rfl) lp_nil)).weak (by
  intro us k h
  unfold q_r6_Within at h
  split at h
  · skip
    rename_i a0 a1 a2
    rw [raw_r6_Within A11 a0 a1 a2 k]
    exact h
  · exact h.elim)

abbrev T_vitrinelaw06_FixedCounts := Int → Int → Int → List Int → (Bool → Prop) → Prop
def q_vitrinelaw06_FixedCounts (A : T_vitrinelaw06_FixedCounts) (us : List W) (k : W → Prop) : Prop := match us with
  | [.i .i64 a0, .i .i64 a1, .i .i64 a2, .l Cd.i64 a3] => A a0 a1 a2 a3 (fun r0 => k (.b r0))
  | _ => False
theorem q_vitrinelaw06_FixedCounts_weak {A A2 : T_vitrinelaw06_FixedCounts} (h : FnOK sy Try.prog GT (ovD ro) ro 3 (q_vitrinelaw06_FixedCounts A)) (hA : ∀ a0 a1 a2 a3 K, A2 a0 a1 a2 a3 K → A a0 a1 a2 a3 K) : FnOK sy Try.prog GT (ovD ro) ro 3 (q_vitrinelaw06_FixedCounts A2) := h.weak (by
  intro us k h
  unfold q_vitrinelaw06_FixedCounts at h ⊢
  split at h
  · exact hA _ _ _ _ _ h
  · exact h.elim)

def F_vitrinelaw06_FixedCounts_l11 (A4 : T_fixed_Sum) (A5 : T_r6_Sum) (A6 : T_fixed_Mul) (A7 : T_r6_Mul) (A8 : T_fixed_Within) (A9 : T_r6_Within) : Nat → List Int → Int → Int → Int → Int → Int → Int → Int → Int → Int → Int → Int → Int → Int → List Int → (Int → Int → Int → Int → Int → Int → Int → Int → Int → Int → Int → Int → Prop) → (Bool → Prop) → Prop
  | 0, _, _, _, _, _, _, _, _, _, _, _, _, _, _, _, _, _ => False
  | n + 1, x3, x10, x11, x12, x13, x14, x15, x16, x17, x18, x19, x20, x21, x22, b0, Ke, Kr => (((decide (x22 < (x3.length : Int))) = true → ((0 ≤ x22 ∧ x22 < (b0.length : Int)) ∧ (x22.toNat < b0.length ∧ ((0 ≤ x22 ∧ x22 < (x3.length : Int)) ∧ (((decide ((id (b0.getD x22.toNat (dfltD Cd.i64)) : Int) ≠ (id (x3.getD x22.toNat (dfltD Cd.i64)) : Int))) = true → Kr false) ∧ ((decide ((id (b0.getD x22.toNat (dfltD Cd.i64)) : Int) ≠ (id (x3.getD x22.toNat (dfltD Cd.i64)) : Int))) = false → (I64 (x22 + (1 : Int)) ∧ F_vitrinelaw06_FixedCounts_l11 A4 A5 A6 A7 A8 A9 n x3 x10 x11 x12 x13 x14 x15 x16 x17 x18 x19 x20 x21 (x22 + (1 : Int)) b0 Ke Kr))))))) ∧ ((decide (x22 < (x3.length : Int))) = false → Ke x10 x11 x12 x13 x14 x15 x16 x17 x18 x19 x20 x21))

def F_vitrinelaw06_FixedCounts (A4 : T_fixed_Sum) (A5 : T_r6_Sum) (A6 : T_fixed_Mul) (A7 : T_r6_Mul) (A8 : T_fixed_Within) (A9 : T_r6_Within) (a0 : Int) (a1 : Int) (a2 : Int) (a3 : List Int) (K : Bool → Prop) : Prop :=
  (((decide ((50 : Int) < (a3.length : Int))) = true → K true) ∧ ((decide ((50 : Int) < (a3.length : Int))) = false → ((([] : List Int).length + a3.length) * 8 ≤ 1099511627776 ∧ (A4 (([] : List Int) ++ a3) (fun y1 y2 => (A5 a3 (fun y3 y4 => (A6 a0 a1 (fun y5 y6 => (A7 a0 a1 (fun y7 y8 => (A8 a0 a1 a2 (fun y9 y10 => (A9 a0 a1 a2 (fun y11 y12 => (∃ m, F_vitrinelaw06_FixedCounts_l11 A4 A5 A6 A7 A8 A9 m a3 y1 y2 y3 y4 y5 y6 y7 y8 y9 y10 y11 y12 (0 : Int) (([] : List Int) ++ a3) (fun y13 y14 y15 y16 y17 y18 y19 y20 y21 y22 y23 y24 => (((decide (y13 = y15)) = true → (((decide (y14 = y16)) = true → (((decide (y17 = y19)) = true → (((decide (y18 = y20)) = true → (((decide (y21 = y23)) = true → K (decide (y22 = y24))) ∧ ((decide (y21 = y23)) = false → K false))) ∧ ((decide (y18 = y20)) = false → K false))) ∧ ((decide (y17 = y19)) = false → K false))) ∧ ((decide (y14 = y16)) = false → K false))) ∧ ((decide (y13 = y15)) = false → K false))) (fun y25 => K y25)))))))))))))))))

def C_vitrinelaw06_FixedCounts (A4 : T_fixed_Sum) (A5 : T_r6_Sum) (A6 : T_fixed_Mul) (A7 : T_r6_Mul) (A8 : T_fixed_Within) (A9 : T_r6_Within) : CallT sg := tab [(4, con [some Cd.i64] (q_fixed_Sum A4)), (5, con [some Cd.i64] (q_r6_Sum A5)), (6, con [none, none] (q_fixed_Mul A6)), (7, con [none, none] (q_r6_Mul A7)), (8, con [none, none, none] (q_fixed_Within A8)), (9, con [none, none, none] (q_r6_Within A9))]
theorem Cok_vitrinelaw06_FixedCounts (A4 : T_fixed_Sum) (A5 : T_r6_Sum) (A6 : T_fixed_Mul) (A7 : T_r6_Mul) (A8 : T_fixed_Within) (A9 : T_r6_Within) (h4 : FnOK sy Try.prog GT (ovD ro) ro 4 (q_fixed_Sum A4)) (h5 : FnOK sy Try.prog GT (ovD ro) ro 5 (q_r6_Sum A5)) (h6 : FnOK sy Try.prog GT (ovD ro) ro 6 (q_fixed_Mul A6)) (h7 : FnOK sy Try.prog GT (ovD ro) ro 7 (q_r6_Mul A7)) (h8 : FnOK sy Try.prog GT (ovD ro) ro 8 (q_fixed_Within A8)) (h9 : FnOK sy Try.prog GT (ovD ro) ro 9 (q_r6_Within A9)) (o0 : Nat → Prop) : CalOK sy Try.prog GT (ovD ro) o0 ro (C_vitrinelaw06_FixedCounts A4 A5 A6 A7 A8 A9) := (tab_cons (con_ok h4) (tab_cons (con_ok h5) (tab_cons (con_ok h6) (tab_cons (con_ok h7) (tab_cons (con_ok h8) (tab_cons (con_ok h9) tab_nil)))))) o0

def ls_vitrinelaw06_FixedCounts_11 : LS sy ((List (sg.Den Cd.i64)) × Unit × Int × Int × Int × Int × Int × Int × Int × Int × Int × Int × Int × Int × Int × Unit) (List (sg.Den Cd.i64) × Unit) := ⟨[], fCons 3 (vData sy Cd.i64) (fCons 9 (vLit sy (.o 0)) (fCons 10 (vInt sy .i64) (fCons 11 (vInt sy .i64) (fCons 12 (vInt sy .i64) (fCons 13 (vInt sy .i64) (fCons 14 (vInt sy .i64) (fCons 15 (vInt sy .i64) (fCons 16 (vInt sy .i64) (fCons 17 (vInt sy .i64) (fCons 18 (vInt sy .i64) (fCons 19 (vInt sy .i64) (fCons 20 (vInt sy .i64) (fCons 21 (vInt sy .i64) (fCons 22 (vInt sy .i64) (fNil sy))))))))))))))), hBuf 0 Cd.i64 (hNil sy), 1, [0]⟩
def le_vitrinelaw06_FixedCounts_11 : LS sy (Int × Int × Int × Int × Int × Int × Int × Int × Int × Int × Int × Int × Unit) Unit := ⟨[], fCons 10 (vInt sy .i64) (fCons 11 (vInt sy .i64) (fCons 12 (vInt sy .i64) (fCons 13 (vInt sy .i64) (fCons 14 (vInt sy .i64) (fCons 15 (vInt sy .i64) (fCons 16 (vInt sy .i64) (fCons 17 (vInt sy .i64) (fCons 18 (vInt sy .i64) (fCons 19 (vInt sy .i64) (fCons 20 (vInt sy .i64) (fCons 21 (vInt sy .i64) (fNil sy)))))))))))), hNil sy, 0, [0]⟩
def lr_vitrinelaw06_FixedCounts_11 : LS sy (Bool × Unit) Unit := ⟨[], fCons 8 (vBool sy) (fNil sy), hNil sy, 0, [0]⟩
def FF_vitrinelaw06_FixedCounts_11 (A4 : T_fixed_Sum) (A5 : T_r6_Sum) (A6 : T_fixed_Mul) (A7 : T_r6_Mul) (A8 : T_fixed_Within) (A9 : T_r6_Within) (n : Nat) (x : ((List (sg.Den Cd.i64)) × Unit × Int × Int × Int × Int × Int × Int × Int × Int × Int × Int × Int × Int × Int × Unit) × (List (sg.Den Cd.i64) × Unit)) (K : Ex → Z sg → Prop) : Prop := F_vitrinelaw06_FixedCounts_l11 A4 A5 A6 A7 A8 A9 n x.1.1 x.1.2.2.1 x.1.2.2.2.1 x.1.2.2.2.2.1 x.1.2.2.2.2.2.1 x.1.2.2.2.2.2.2.1 x.1.2.2.2.2.2.2.2.1 x.1.2.2.2.2.2.2.2.2.1 x.1.2.2.2.2.2.2.2.2.2.1 x.1.2.2.2.2.2.2.2.2.2.2.1 x.1.2.2.2.2.2.2.2.2.2.2.2.1 x.1.2.2.2.2.2.2.2.2.2.2.2.2.1 x.1.2.2.2.2.2.2.2.2.2.2.2.2.2.1 x.1.2.2.2.2.2.2.2.2.2.2.2.2.2.2.1 x.2.1 (fun y0 y1 y2 y3 y4 y5 y6 y7 y8 y9 y10 y11 => K (.exit 0) (le_vitrinelaw06_FixedCounts_11.put ((y0, y1, y2, y3, y4, y5, y6, y7, y8, y9, y10, y11, ()), ()))) (fun y0 => K .ret (lr_vitrinelaw06_FixedCounts_11.put ((y0, ()), ())))
def h_vitrinelaw06_FixedCounts_11 (A4 : T_fixed_Sum) (A5 : T_r6_Sum) (A6 : T_fixed_Mul) (A7 : T_r6_Mul) (A8 : T_fixed_Within) (A9 : T_r6_Within) (z : Z sg) (K : Ex → Z sg → Prop) : Prop := ls_vitrinelaw06_FixedCounts_11.get z (fun x => ∃ n, FF_vitrinelaw06_FixedCounts_11 A4 A5 A6 A7 A8 A9 n x K)
def L_vitrinelaw06_FixedCounts (A4 : T_fixed_Sum) (A5 : T_r6_Sum) (A6 : T_fixed_Mul) (A7 : T_r6_Mul) (A8 : T_fixed_Within) (A9 : T_r6_Within) : LoopT sg := tabL [(11, h_vitrinelaw06_FixedCounts_11 A4 A5 A6 A7 A8 A9)]
theorem hs_vitrinelaw06_FixedCounts_11 (A4 : T_fixed_Sum) (A5 : T_r6_Sum) (A6 : T_fixed_Mul) (A7 : T_r6_Mul) (A8 : T_fixed_Within) (A9 : T_r6_Within) (n : Nat) (x : ((List (sg.Den Cd.i64)) × Unit × Int × Int × Int × Int × Int × Int × Int × Int × Int × Int × Int × Int × Int × Unit) × (List (sg.Den Cd.i64) × Unit)) (K : Ex → Z sg → Prop) : forceZ (ls_vitrinelaw06_FixedCounts_11.put x) (fun z => sC sy Try.prog GT (C_vitrinelaw06_FixedCounts A4 A5 A6 A7 A8 A9) (L_vitrinelaw06_FixedCounts A4 A5 A6 A7 A8 A9) Try.f3.ntmps (nthLoop (bodyOf Try.f3) 0) z (rnd ls_vitrinelaw06_FixedCounts_11 (czT 0 le_vitrinelaw06_FixedCounts_11 lr_vitrinelaw06_FixedCounts_11) (fun x => FF_vitrinelaw06_FixedCounts_11 A4 A5 A6 A7 A8 A9 n x K) K)) = FF_vitrinelaw06_FixedCounts_11 A4 A5 A6 A7 A8 A9 (n + 1) x K := by kernel_rfl
theorem hl_vitrinelaw06_FixedCounts_11 (A4 : T_fixed_Sum) (A5 : T_r6_Sum) (A6 : T_fixed_Mul) (A7 : T_r6_Mul) (A8 : T_fixed_Within) (A9 : T_r6_Within) (z : Z sg) (K : Ex → Z sg → Prop) : (L_vitrinelaw06_FixedCounts A4 A5 A6 A7 A8 A9) (nthLoop (bodyOf Try.f3) 0) z K = ls_vitrinelaw06_FixedCounts_11.get z (fun x => ∃ n, FF_vitrinelaw06_FixedCounts_11 A4 A5 A6 A7 A8 A9 n x K) := by kernel_rfl
theorem lo_vitrinelaw06_FixedCounts_11 (A4 : T_fixed_Sum) (A5 : T_r6_Sum) (A6 : T_fixed_Mul) (A7 : T_r6_Mul) (A8 : T_fixed_Within) (A9 : T_r6_Within) (h4 : FnOK sy Try.prog GT (ovD ro) ro 4 (q_fixed_Sum A4)) (h5 : FnOK sy Try.prog GT (ovD ro) ro 5 (q_r6_Sum A5)) (h6 : FnOK sy Try.prog GT (ovD ro) ro 6 (q_fixed_Mul A6)) (h7 : FnOK sy Try.prog GT (ovD ro) ro 7 (q_r6_Mul A7)) (h8 : FnOK sy Try.prog GT (ovD ro) ro 8 (q_fixed_Within A8)) (h9 : FnOK sy Try.prog GT (ovD ro) ro 9 (q_r6_Within A9)) : ∀ (o0 : Nat → Prop) (B : Bs sg), B.E.length ≤ 0 → ∀ z K, (L_vitrinelaw06_FixedCounts A4 A5 A6 A7 A8 A9) (nthLoop (bodyOf Try.f3) 0) z K → Sx.Sem sy Try.prog GT (ovD ro) o0 ro Try.f3.ntmps B (.loop (nthLoop (bodyOf Try.f3) 0)) z K :=
  loop_ok (Cok_vitrinelaw06_FixedCounts A4 A5 A6 A7 A8 A9 h4 h5 h6 h7 h8 h9) (lp_of (l := []) (by kernel_rfl) lp_nil) ls_vitrinelaw06_FixedCounts_11 (by decide) (czT 0 le_vitrinelaw06_FixedCounts_11 lr_vitrinelaw06_FixedCounts_11) (fun _ _ hB => czT_ok 0 le_vitrinelaw06_FixedCounts_11 lr_vitrinelaw06_FixedCounts_11 (Nat.le_trans hB (by decide)) (Nat.le_trans hB (by decide))) (fun _ _ h => h) (hs_vitrinelaw06_FixedCounts_11 A4 A5 A6 A7 A8 A9) (hl_vitrinelaw06_FixedCounts_11 A4 A5 A6 A7 A8 A9)
theorem Lp_vitrinelaw06_FixedCounts (A4 : T_fixed_Sum) (A5 : T_r6_Sum) (A6 : T_fixed_Mul) (A7 : T_r6_Mul) (A8 : T_fixed_Within) (A9 : T_r6_Within) (h4 : FnOK sy Try.prog GT (ovD ro) ro 4 (q_fixed_Sum A4)) (h5 : FnOK sy Try.prog GT (ovD ro) ro 5 (q_r6_Sum A5)) (h6 : FnOK sy Try.prog GT (ovD ro) ro 6 (q_fixed_Mul A6)) (h7 : FnOK sy Try.prog GT (ovD ro) ro 7 (q_r6_Mul A7)) (h8 : FnOK sy Try.prog GT (ovD ro) ro 8 (q_fixed_Within A8)) (h9 : FnOK sy Try.prog GT (ovD ro) ro 9 (q_r6_Within A9)) : LpOK sy Try.prog GT (ovD ro) ro (L_vitrinelaw06_FixedCounts A4 A5 A6 A7 A8 A9) 0 Try.f3.ntmps (bodyOf Try.f3) := lp_of (l := [(nthLoop (bodyOf Try.f3) 0)]) (by kernel_rfl) (lp_cons (lo_vitrinelaw06_FixedCounts_11 A4 A5 A6 A7 A8 A9 h4 h5 h6 h7 h8 h9) lp_nil)


theorem raw_vitrinelaw06_FixedCounts (A4 : T_fixed_Sum) (A5 : T_r6_Sum) (A6 : T_fixed_Mul) (A7 : T_r6_Mul) (A8 : T_fixed_Within) (A9 : T_r6_Within) (a0 : Int) (a1 : Int) (a2 : Int) (a3 : List Int) (k : W → Prop) : fnT sy Try.prog GT (C_vitrinelaw06_FixedCounts A4 A5 A6 A7 A8 A9) (L_vitrinelaw06_FixedCounts A4 A5 A6 A7 A8 A9) Try.f3.ntmps (bodyOf Try.f3) [none] Try.f3.results.toList [.i .i64 a0, .i .i64 a1, .i .i64 a2, .l Cd.i64 a3] k = F_vitrinelaw06_FixedCounts A4 A5 A6 A7 A8 A9 a0 a1 a2 a3 (fun r0 => k (.b r0)) := by kernel_rfl

theorem ok_vitrinelaw06_FixedCounts (A4 : T_fixed_Sum) (A5 : T_r6_Sum) (A6 : T_fixed_Mul) (A7 : T_r6_Mul) (A8 : T_fixed_Within) (A9 : T_r6_Within) (h4 : FnOK sy Try.prog GT (ovD ro) ro 4 (q_fixed_Sum A4)) (h5 : FnOK sy Try.prog GT (ovD ro) ro 5 (q_r6_Sum A5)) (h6 : FnOK sy Try.prog GT (ovD ro) ro 6 (q_fixed_Mul A6)) (h7 : FnOK sy Try.prog GT (ovD ro) ro 7 (q_r6_Mul A7)) (h8 : FnOK sy Try.prog GT (ovD ro) ro 8 (q_fixed_Within A8)) (h9 : FnOK sy Try.prog GT (ovD ro) ro 9 (q_r6_Within A9)) : FnOK sy Try.prog GT (ovD ro) ro 3 (q_vitrinelaw06_FixedCounts (F_vitrinelaw06_FixedCounts A4 A5 A6 A7 A8 A9)) := (fn_ok (rc := [none]) (f := 3) (fn := Try.f3) (c := bodyOf Try.f3) (nt := Try.f3.ntmps) (res := Try.f3.results.toList) (C := C_vitrinelaw06_FixedCounts A4 A5 A6 A7 A8 A9) (L := (L_vitrinelaw06_FixedCounts A4 A5 A6 A7 A8 A9)) (fun _ _ => rfl) Try.func3 (by kernel_rfl) rfl rfl (Cok_vitrinelaw06_FixedCounts A4 A5 A6 A7 A8 A9 h4 h5 h6 h7 h8 h9) (Lp_vitrinelaw06_FixedCounts A4 A5 A6 A7 A8 A9 h4 h5 h6 h7 h8 h9)).weak (by
  intro us k h
  unfold q_vitrinelaw06_FixedCounts at h
  split at h
  · skip
    rename_i a0 a1 a2 a3
    rw [raw_vitrinelaw06_FixedCounts A4 A5 A6 A7 A8 A9 a0 a1 a2 a3 k]
    exact h
  · exact h.elim)

end Go.Proofs.Ythjnkibldhfhmaa
