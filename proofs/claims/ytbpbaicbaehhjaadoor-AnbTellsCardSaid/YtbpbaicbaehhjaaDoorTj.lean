/-
  The reference of progressions, and the law, followed. Nothing is claimed here.
-/
import Derived.Test.YtbpbaicbaehhjaaDoorTi
namespace Go.Proofs.YtbpbaicbaehhjaaDoor
open Go.Vm Go.Sx Go.RowKit
variable {ro : Nat}

abbrev T_r7_Valid := (Int × Int) → (Bool → Prop) → Prop
def q_r7_Valid (A : T_r7_Valid) (us : List W) (k : W → Prop) : Prop := match us with
  | [.a [.i .i64 a0_0, .i .i64 a0_1]] => A (a0_0, a0_1) (fun r0 => k (.b r0))
  | _ => False
theorem q_r7_Valid_weak {A A2 : T_r7_Valid} (h : FnOK sy Tryd.prog GT (ovD ro) ro 13 (q_r7_Valid A)) (hA : ∀ a0 K, A2 a0 K → A a0 K) : FnOK sy Tryd.prog GT (ovD ro) ro 13 (q_r7_Valid A2) := h.weak (by
  intro us k h
  unfold q_r7_Valid at h ⊢
  split at h
  · exact hA _ _ h
  · exact h.elim)

def F_r7_Valid (a0 : (Int × Int)) (K : Bool → Prop) : Prop :=
  (((decide ((-1000000000 : Int) ≤ a0.1)) = true → (((decide (a0.1 ≤ (1000000000 : Int))) = true → (((decide ((-1000000000 : Int) ≤ a0.2)) = true → K (decide (a0.2 ≤ (1000000000 : Int)))) ∧ ((decide ((-1000000000 : Int) ≤ a0.2)) = false → K false))) ∧ ((decide (a0.1 ≤ (1000000000 : Int))) = false → K false))) ∧ ((decide ((-1000000000 : Int) ≤ a0.1)) = false → K false))

def C_r7_Valid : CallT sg := tab []
theorem Cok_r7_Valid (o0 : Nat → Prop) : CalOK sy Tryd.prog GT (ovD ro) o0 ro (C_r7_Valid) := tab_nil o0

theorem raw_r7_Valid (a0 : (Int × Int)) (k : W → Prop) : fnT sy Tryd.prog GT (C_r7_Valid) noL Tryd.f13.ntmps (bodyOf Tryd.f13) [none] Tryd.f13.results.toList [.a [.i .i64 a0.1, .i .i64 a0.2]] k = F_r7_Valid a0 (fun r0 => k (.b r0)) := by kernel_rfl

theorem ok_r7_Valid : FnOK sy Tryd.prog GT (ovD ro) ro 13 (q_r7_Valid (F_r7_Valid)) := (fn_ok (rc := [none]) (f := 13) (fn := Tryd.f13) (c := bodyOf Tryd.f13) (nt := Tryd.f13.ntmps) (res := Tryd.f13.results.toList) (C := C_r7_Valid) (L := noL) (fun _ _ => rfl) Tryd.func13 (by kernel_rfl) rfl rfl (Cok_r7_Valid) (lp_of (l := []) (by kernel_rfl) lp_nil)).weak (by
  intro us k h
  unfold q_r7_Valid at h
  split at h
  · skip
    rename_i a0_0 a0_1
    rw [raw_r7_Valid (a0_0, a0_1) k]
    exact h
  · exact h.elim)

abbrev T_r7_Check := (Int × Int) → (Int → Prop) → Prop
def q_r7_Check (A : T_r7_Check) (us : List W) (k : W → Prop) : Prop := match us with
  | [.a [.i .i64 a0_0, .i .i64 a0_1]] => A (a0_0, a0_1) (fun r0 => k (.i .i64 r0))
  | _ => False
theorem q_r7_Check_weak {A A2 : T_r7_Check} (h : FnOK sy Tryd.prog GT (ovD ro) ro 11 (q_r7_Check A)) (hA : ∀ a0 K, A2 a0 K → A a0 K) : FnOK sy Tryd.prog GT (ovD ro) ro 11 (q_r7_Check A2) := h.weak (by
  intro us k h
  unfold q_r7_Check at h ⊢
  split at h
  · exact hA _ _ h
  · exact h.elim)

def F_r7_Check (A13 : T_r7_Valid) (a0 : (Int × Int)) (K : Int → Prop) : Prop :=
  (A13 (a0.1, a0.2) (fun y1 => (((!y1) = true → K (8 : Int)) ∧ ((!y1) = false → K (0 : Int)))))

def C_r7_Check (A13 : T_r7_Valid) : CallT sg := tab [(13, con [none] (q_r7_Valid A13))]
theorem Cok_r7_Check (A13 : T_r7_Valid) (h13 : FnOK sy Tryd.prog GT (ovD ro) ro 13 (q_r7_Valid A13)) (o0 : Nat → Prop) : CalOK sy Tryd.prog GT (ovD ro) o0 ro (C_r7_Check A13) := (tab_cons (con_ok h13) tab_nil) o0

theorem raw_r7_Check (A13 : T_r7_Valid) (a0 : (Int × Int)) (k : W → Prop) : fnT sy Tryd.prog GT (C_r7_Check A13) noL Tryd.f11.ntmps (bodyOf Tryd.f11) [none] Tryd.f11.results.toList [.a [.i .i64 a0.1, .i .i64 a0.2]] k = F_r7_Check A13 a0 (fun r0 => k (.i .i64 r0)) := by kernel_rfl

theorem ok_r7_Check (A13 : T_r7_Valid) (h13 : FnOK sy Tryd.prog GT (ovD ro) ro 13 (q_r7_Valid A13)) : FnOK sy Tryd.prog GT (ovD ro) ro 11 (q_r7_Check (F_r7_Check A13)) := (fn_ok (rc := [none]) (f := 11) (fn := Tryd.f11) (c := bodyOf Tryd.f11) (nt := Tryd.f11.ntmps) (res := Tryd.f11.results.toList) (C := C_r7_Check A13) (L := noL) (fun _ _ => rfl) Tryd.func11 (by kernel_rfl) rfl rfl (Cok_r7_Check A13 h13) (lp_of (l := []) (by kernel_rfl) lp_nil)).weak (by
  intro us k h
  unfold q_r7_Check at h
  split at h
  · skip
    rename_i a0_0 a0_1
    rw [raw_r7_Check A13 (a0_0, a0_1) k]
    exact h
  · exact h.elim)

abbrev T_r7_Has := (Int × Int) → Int → (Bool → Prop) → Prop
def q_r7_Has (A : T_r7_Has) (us : List W) (k : W → Prop) : Prop := match us with
  | [.a [.i .i64 a0_0, .i .i64 a0_1], .i .i64 a1] => A (a0_0, a0_1) a1 (fun r0 => k (.b r0))
  | _ => False
theorem q_r7_Has_weak {A A2 : T_r7_Has} (h : FnOK sy Tryd.prog GT (ovD ro) ro 14 (q_r7_Has A)) (hA : ∀ a0 a1 K, A2 a0 a1 K → A a0 a1 K) : FnOK sy Tryd.prog GT (ovD ro) ro 14 (q_r7_Has A2) := h.weak (by
  intro us k h
  unfold q_r7_Has at h ⊢
  split at h
  · exact hA _ _ _ h
  · exact h.elim)

def F_r7_Has (a0 : (Int × Int)) (a1 : Int) (K : Bool → Prop) : Prop :=
  (I64 (a1 - a0.2) ∧ (((decide (a0.1 = (0 : Int))) = true → K (decide ((a1 - a0.2) = (0 : Int)))) ∧ ((decide (a0.1 = (0 : Int))) = false → (a0.1 ≠ 0 ∧ (((decide (((a1 - a0.2).tmod a0.1) = (0 : Int))) = true → (a0.1 ≠ 0 ∧ (I64 ((a1 - a0.2).tdiv a0.1) ∧ K (decide ((0 : Int) ≤ ((a1 - a0.2).tdiv a0.1)))))) ∧ ((decide (((a1 - a0.2).tmod a0.1) = (0 : Int))) = false → K false))))))

def C_r7_Has : CallT sg := tab []
theorem Cok_r7_Has (o0 : Nat → Prop) : CalOK sy Tryd.prog GT (ovD ro) o0 ro (C_r7_Has) := tab_nil o0

theorem raw_r7_Has (a0 : (Int × Int)) (a1 : Int) (k : W → Prop) : fnT sy Tryd.prog GT (C_r7_Has) noL Tryd.f14.ntmps (bodyOf Tryd.f14) [none] Tryd.f14.results.toList [.a [.i .i64 a0.1, .i .i64 a0.2], .i .i64 a1] k = F_r7_Has a0 a1 (fun r0 => k (.b r0)) := by kernel_rfl

theorem ok_r7_Has : FnOK sy Tryd.prog GT (ovD ro) ro 14 (q_r7_Has (F_r7_Has)) := (fn_ok (rc := [none]) (f := 14) (fn := Tryd.f14) (c := bodyOf Tryd.f14) (nt := Tryd.f14.ntmps) (res := Tryd.f14.results.toList) (C := C_r7_Has) (L := noL) (fun _ _ => rfl) Tryd.func14 (by kernel_rfl) rfl rfl (Cok_r7_Has) (lp_of (l := []) (by kernel_rfl) lp_nil)).weak (by
  intro us k h
  unfold q_r7_Has at h
  split at h
  · skip
    rename_i a0_0 a0_1 a1
    rw [raw_r7_Has (a0_0, a0_1) a1 k]
    exact h
  · exact h.elim)

abbrev T_r7_In := (Int × Int) → Int → (Bool → Int → Prop) → Prop
def q_r7_In (A : T_r7_In) (us : List W) (k : W → Prop) : Prop := match us with
  | [.a [.i .i64 a0_0, .i .i64 a0_1], .i .i64 a1] => A (a0_0, a0_1) a1 (fun r0 r1 => k (.t [.b r0, .i .i64 r1]))
  | _ => False
theorem q_r7_In_weak {A A2 : T_r7_In} (h : FnOK sy Tryd.prog GT (ovD ro) ro 5 (q_r7_In A)) (hA : ∀ a0 a1 K, A2 a0 a1 K → A a0 a1 K) : FnOK sy Tryd.prog GT (ovD ro) ro 5 (q_r7_In A2) := h.weak (by
  intro us k h
  unfold q_r7_In at h ⊢
  split at h
  · exact hA _ _ _ h
  · exact h.elim)

def F_r7_In (A13 : T_r7_Valid) (A14 : T_r7_Has) (a0 : (Int × Int)) (a1 : Int) (K : Bool → Int → Prop) : Prop :=
  (A13 (a0.1, a0.2) (fun y1 => (((!y1) = true → K false (8 : Int)) ∧ ((!y1) = false → (((decide (a1 < (1 : Int))) = false → (((decide ((1000000000 : Int) < a1)) = true → K false (2 : Int)) ∧ ((decide ((1000000000 : Int) < a1)) = false → (A14 (a0.1, a0.2) a1 (fun y2 => K y2 (0 : Int)))))) ∧ ((decide (a1 < (1 : Int))) = true → K false (2 : Int)))))))

def C_r7_In (A13 : T_r7_Valid) (A14 : T_r7_Has) : CallT sg := tab [(13, con [none] (q_r7_Valid A13)), (14, con [none, none] (q_r7_Has A14))]
theorem Cok_r7_In (A13 : T_r7_Valid) (A14 : T_r7_Has) (h13 : FnOK sy Tryd.prog GT (ovD ro) ro 13 (q_r7_Valid A13)) (h14 : FnOK sy Tryd.prog GT (ovD ro) ro 14 (q_r7_Has A14)) (o0 : Nat → Prop) : CalOK sy Tryd.prog GT (ovD ro) o0 ro (C_r7_In A13 A14) := (tab_cons (con_ok h13) (tab_cons (con_ok h14) tab_nil)) o0

theorem raw_r7_In (A13 : T_r7_Valid) (A14 : T_r7_Has) (a0 : (Int × Int)) (a1 : Int) (k : W → Prop) : fnT sy Tryd.prog GT (C_r7_In A13 A14) noL Tryd.f5.ntmps (bodyOf Tryd.f5) [none, none] Tryd.f5.results.toList [.a [.i .i64 a0.1, .i .i64 a0.2], .i .i64 a1] k = F_r7_In A13 A14 a0 a1 (fun r0 r1 => k (.t [.b r0, .i .i64 r1])) := by kernel_rfl

theorem ok_r7_In (A13 : T_r7_Valid) (A14 : T_r7_Has) (h13 : FnOK sy Tryd.prog GT (ovD ro) ro 13 (q_r7_Valid A13)) (h14 : FnOK sy Tryd.prog GT (ovD ro) ro 14 (q_r7_Has A14)) : FnOK sy Tryd.prog GT (ovD ro) ro 5 (q_r7_In (F_r7_In A13 A14)) := (fn_ok (rc := [none, none]) (f := 5) (fn := Tryd.f5) (c := bodyOf Tryd.f5) (nt := Tryd.f5.ntmps) (res := Tryd.f5.results.toList) (C := C_r7_In A13 A14) (L := noL) (fun _ _ => rfl) Tryd.func5 (by kernel_rfl) rfl rfl (Cok_r7_In A13 A14 h13 h14) (lp_of (l := []) (by kernel_rfl) lp_nil)).weak (by
  intro us k h
  unfold q_r7_In at h
  split at h
  · skip
    rename_i a0_0 a0_1 a1
    rw [raw_r7_In A13 A14 (a0_0, a0_1) a1 k]
    exact h
  · exact h.elim)

abbrev T_r7_All := (Int × Int) → Int → (List Int → Int → Prop) → Prop
def q_r7_All (A : T_r7_All) (us : List W) (k : W → Prop) : Prop := match us with
  | [.a [.i .i64 a0_0, .i .i64 a0_1], .i .i64 a1] => A (a0_0, a0_1) a1 (fun r0 r1 => k (.t [.l Cd.i64 r0, .i .i64 r1]))
  | _ => False
theorem q_r7_All_weak {A A2 : T_r7_All} (h : FnOK sy Tryd.prog GT (ovD ro) ro 7 (q_r7_All A)) (hA : ∀ a0 a1 K, A2 a0 a1 K → A a0 a1 K) : FnOK sy Tryd.prog GT (ovD ro) ro 7 (q_r7_All A2) := h.weak (by
  intro us k h
  unfold q_r7_All at h ⊢
  split at h
  · exact hA _ _ _ h
  · exact h.elim)

def F_r7_All_l7 (A13 : T_r7_Valid) (A14 : T_r7_Has) : Nat → Int → Int → Int → Int → List Int → (List Int → Prop) → Prop
  | 0, _, _, _, _, _, _ => False
  | n + 1, x1, x7, c0_0, c0_1, b1, Ke => (((decide (x7 ≤ x1)) = true → (A14 (c0_0, c0_1) x7 (fun y1 => ((y1 = true → ((b1.length + [x7].length) * 8 ≤ 1099511627776 ∧ (I64 (x7 + (1 : Int)) ∧ F_r7_All_l7 A13 A14 n x1 (x7 + (1 : Int)) c0_0 c0_1 (b1 ++ [x7]) Ke))) ∧ (y1 = false → (I64 (x7 + (1 : Int)) ∧ F_r7_All_l7 A13 A14 n x1 (x7 + (1 : Int)) c0_0 c0_1 b1 Ke)))))) ∧ ((decide (x7 ≤ x1)) = false → Ke b1))

def F_r7_All (A13 : T_r7_Valid) (A14 : T_r7_Has) (a0 : (Int × Int)) (a1 : Int) (K : List Int → Int → Prop) : Prop :=
  (A13 (a0.1, a0.2) (fun y1 => (((!y1) = true → K ([] : List Int) (8 : Int)) ∧ ((!y1) = false → (((decide (a1 < (0 : Int))) = false → (((decide ((64 : Int) < a1)) = true → K ([] : List Int) (2 : Int)) ∧ ((decide ((64 : Int) < a1)) = false → (∃ m, F_r7_All_l7 A13 A14 m a1 (1 : Int) a0.1 a0.2 ([] : List Int) (fun y2 => K y2 (0 : Int)))))) ∧ ((decide (a1 < (0 : Int))) = true → K ([] : List Int) (2 : Int)))))))

def C_r7_All (A13 : T_r7_Valid) (A14 : T_r7_Has) : CallT sg := tab [(13, con [none] (q_r7_Valid A13)), (14, con [none, none] (q_r7_Has A14))]
theorem Cok_r7_All (A13 : T_r7_Valid) (A14 : T_r7_Has) (h13 : FnOK sy Tryd.prog GT (ovD ro) ro 13 (q_r7_Valid A13)) (h14 : FnOK sy Tryd.prog GT (ovD ro) ro 14 (q_r7_Has A14)) (o0 : Nat → Prop) : CalOK sy Tryd.prog GT (ovD ro) o0 ro (C_r7_All A13 A14) := (tab_cons (con_ok h13) (tab_cons (con_ok h14) tab_nil)) o0

def ls_r7_All_7 : LS sy (Int × Unit × Unit × Int × Unit) ((Int × Int × Unit) × List (sg.Den Cd.i64) × Unit) := ⟨[.slot 6 1 Cd.i64], fCons 1 (vInt sy .i64) (fCons 2 (vLit sy (.p 0 0)) (fCons 6 (vLit sy (.o 1)) (fCons 7 (vInt sy .i64) (fNil sy)))), hCells 0 (lCons (vInt sy .i64) (lCons (vInt sy .i64) (lNil sy))) (hBuf 1 Cd.i64 (hNil sy)), 2, [1]⟩
def le_r7_All_7 : LS sy (Unit × Unit) (List (sg.Den Cd.i64) × Unit) := ⟨[], fCons 6 (vLit sy (.o 1)) (fNil sy), hBuf 1 Cd.i64 (hNil sy), 2, [1]⟩
def lr_r7_All_7 : LS sy Unit Unit := ⟨[], fNil sy, hNil sy, 0, []⟩
def FF_r7_All_7 (A13 : T_r7_Valid) (A14 : T_r7_Has) (n : Nat) (x : (Int × Unit × Unit × Int × Unit) × ((Int × Int × Unit) × List (sg.Den Cd.i64) × Unit)) (K : Ex → Z sg → Prop) : Prop := F_r7_All_l7 A13 A14 n x.1.1 x.1.2.2.2.1 x.2.1.1 x.2.1.2.1 x.2.2.1 (fun y0 => K (.exit 0) (le_r7_All_7.put (((), ()), (y0, ()))))
def h_r7_All_7 (A13 : T_r7_Valid) (A14 : T_r7_Has) (z : Z sg) (K : Ex → Z sg → Prop) : Prop := ls_r7_All_7.get z (fun x => ∃ n, FF_r7_All_7 A13 A14 n x K)
def L_r7_All (A13 : T_r7_Valid) (A14 : T_r7_Has) : LoopT sg := tabL [(7, h_r7_All_7 A13 A14)]
theorem hs_r7_All_7 (A13 : T_r7_Valid) (A14 : T_r7_Has) (n : Nat) (x : (Int × Unit × Unit × Int × Unit) × ((Int × Int × Unit) × List (sg.Den Cd.i64) × Unit)) (K : Ex → Z sg → Prop) : forceZ (ls_r7_All_7.put x) (fun z => sC sy Tryd.prog GT (C_r7_All A13 A14) (L_r7_All A13 A14) Tryd.f7.ntmps (nthLoop (bodyOf Tryd.f7) 0) z (rnd ls_r7_All_7 (czT 0 le_r7_All_7 lr_r7_All_7) (fun x => FF_r7_All_7 A13 A14 n x K) K)) = FF_r7_All_7 A13 A14 (n + 1) x K := by kernel_rfl
theorem hl_r7_All_7 (A13 : T_r7_Valid) (A14 : T_r7_Has) (z : Z sg) (K : Ex → Z sg → Prop) : (L_r7_All A13 A14) (nthLoop (bodyOf Tryd.f7) 0) z K = ls_r7_All_7.get z (fun x => ∃ n, FF_r7_All_7 A13 A14 n x K) := by kernel_rfl
theorem lo_r7_All_7 (A13 : T_r7_Valid) (A14 : T_r7_Has) (h13 : FnOK sy Tryd.prog GT (ovD ro) ro 13 (q_r7_Valid A13)) (h14 : FnOK sy Tryd.prog GT (ovD ro) ro 14 (q_r7_Has A14)) : ∀ (o0 : Nat → Prop) (B : Bs sg), B.E.length ≤ 0 → ∀ z K, (L_r7_All A13 A14) (nthLoop (bodyOf Tryd.f7) 0) z K → Sx.Sem sy Tryd.prog GT (ovD ro) o0 ro Tryd.f7.ntmps B (.loop (nthLoop (bodyOf Tryd.f7) 0)) z K :=
  loop_ok (Cok_r7_All A13 A14 h13 h14) (lp_of (l := []) (by kernel_rfl) lp_nil) ls_r7_All_7 (by decide) (czT 0 le_r7_All_7 lr_r7_All_7) (fun _ _ hB => czT_ok 0 le_r7_All_7 lr_r7_All_7 (Nat.le_trans hB (by decide)) (Nat.le_trans hB (by decide))) (fun _ _ h => h) (hs_r7_All_7 A13 A14) (hl_r7_All_7 A13 A14)
theorem Lp_r7_All (A13 : T_r7_Valid) (A14 : T_r7_Has) (h13 : FnOK sy Tryd.prog GT (ovD ro) ro 13 (q_r7_Valid A13)) (h14 : FnOK sy Tryd.prog GT (ovD ro) ro 14 (q_r7_Has A14)) : LpOK sy Tryd.prog GT (ovD ro) ro (L_r7_All A13 A14) 0 Tryd.f7.ntmps (bodyOf Tryd.f7) := lp_of (l := [(nthLoop (bodyOf Tryd.f7) 0)]) (by kernel_rfl) (lp_cons (lo_r7_All_7 A13 A14 h13 h14) lp_nil)


theorem raw_r7_All (A13 : T_r7_Valid) (A14 : T_r7_Has) (a0 : (Int × Int)) (a1 : Int) (k : W → Prop) : fnT sy Tryd.prog GT (C_r7_All A13 A14) (L_r7_All A13 A14) Tryd.f7.ntmps (bodyOf Tryd.f7) [some Cd.i64, none] Tryd.f7.results.toList [.a [.i .i64 a0.1, .i .i64 a0.2], .i .i64 a1] k = F_r7_All A13 A14 a0 a1 (fun r0 r1 => k (.t [.l Cd.i64 r0, .i .i64 r1])) := by kernel_rfl

theorem ok_r7_All (A13 : T_r7_Valid) (A14 : T_r7_Has) (h13 : FnOK sy Tryd.prog GT (ovD ro) ro 13 (q_r7_Valid A13)) (h14 : FnOK sy Tryd.prog GT (ovD ro) ro 14 (q_r7_Has A14)) : FnOK sy Tryd.prog GT (ovD ro) ro 7 (q_r7_All (F_r7_All A13 A14)) := (fn_ok (rc := [some Cd.i64, none]) (f := 7) (fn := Tryd.f7) (c := bodyOf Tryd.f7) (nt := Tryd.f7.ntmps) (res := Tryd.f7.results.toList) (C := C_r7_All A13 A14) (L := (L_r7_All A13 A14)) (fun _ _ => rfl) Tryd.func7 (by kernel_rfl) rfl rfl (Cok_r7_All A13 A14 h13 h14) (Lp_r7_All A13 A14 h13 h14)).weak (by
  intro us k h
  unfold q_r7_All at h
  split at h
  · skip
    rename_i a0_0 a0_1 a1
    rw [raw_r7_All A13 A14 (a0_0, a0_1) a1 k]
    exact h
  · exact h.elim)

abbrev T_r7_digits := Int → (List UInt8 → Prop) → Prop
def q_r7_digits (A : T_r7_digits) (us : List W) (k : W → Prop) : Prop := match us with
  | [.i .i64 a0] => A a0 (fun r0 => k (.s r0))
  | _ => False
theorem q_r7_digits_weak {A A2 : T_r7_digits} (h : FnOK sy Tryd.prog GT (ovD ro) ro 22 (q_r7_digits A)) (hA : ∀ a0 K, A2 a0 K → A a0 K) : FnOK sy Tryd.prog GT (ovD ro) ro 22 (q_r7_digits A2) := h.weak (by
  intro us k h
  unfold q_r7_digits at h ⊢
  split at h
  · exact hA _ _ h
  · exact h.elim)

def F_r7_digits (A22 : T_r7_digits) (a0 : Int) (K : List UInt8 → Prop) : Prop :=
  ((10 : Int) ≠ 0 ∧ (I64 ((48 : Int) + (a0.tmod (10 : Int))) ∧ ((0 ≤ (IntKind.u8.wrap ((48 : Int) + (a0.tmod (10 : Int)))) ∧ (IntKind.u8.wrap ((48 : Int) + (a0.tmod (10 : Int)))) ≤ 255) ∧ (((decide (a0 < (10 : Int))) = true → K [UInt8.ofNat ((IntKind.u8.wrap ((48 : Int) + (a0.tmod (10 : Int)))).toNat)]) ∧ ((decide (a0 < (10 : Int))) = false → ((10 : Int) ≠ 0 ∧ (I64 (a0.tdiv (10 : Int)) ∧ (A22 (a0.tdiv (10 : Int)) (fun y1 => (y1.length + [UInt8.ofNat ((IntKind.u8.wrap ((48 : Int) + (a0.tmod (10 : Int)))).toNat)].length ≤ 1099511627776 ∧ K (y1 ++ [UInt8.ofNat ((IntKind.u8.wrap ((48 : Int) + (a0.tmod (10 : Int)))).toNat)])))))))))))

def C_r7_digits (A22 : T_r7_digits) : CallT sg := tab [(22, con [none] (q_r7_digits A22))]
theorem Cok_r7_digits (A22 : T_r7_digits) (h22 : FnOK sy Tryd.prog GT (ovD ro) ro 22 (q_r7_digits A22)) (o0 : Nat → Prop) : CalOK sy Tryd.prog GT (ovD ro) o0 ro (C_r7_digits A22) := (tab_cons (con_ok h22) tab_nil) o0

theorem raw_r7_digits (A22 : T_r7_digits) (a0 : Int) (k : W → Prop) : fnT sy Tryd.prog GT (C_r7_digits A22) noL Tryd.f22.ntmps (bodyOf Tryd.f22) [none] Tryd.f22.results.toList [.i .i64 a0] k = F_r7_digits A22 a0 (fun r0 => k (.s r0)) := by kernel_rfl

theorem ok_r7_digits (A22 : T_r7_digits) (h22 : FnOK sy Tryd.prog GT (ovD ro) ro 22 (q_r7_digits A22)) : FnOK sy Tryd.prog GT (ovD ro) ro 22 (q_r7_digits (F_r7_digits A22)) := (fn_ok (rc := [none]) (f := 22) (fn := Tryd.f22) (c := bodyOf Tryd.f22) (nt := Tryd.f22.ntmps) (res := Tryd.f22.results.toList) (C := C_r7_digits A22) (L := noL) (fun _ _ => rfl) Tryd.func22 (by kernel_rfl) rfl rfl (Cok_r7_digits A22 h22) (lp_of (l := []) (by kernel_rfl) lp_nil)).weak (by
  intro us k h
  unfold q_r7_digits at h
  split at h
  · skip
    rename_i a0
    rw [raw_r7_digits A22 a0 k]
    exact h
  · exact h.elim)

abbrev T_r7_signed := Int → (List UInt8 → Prop) → Prop
def q_r7_signed (A : T_r7_signed) (us : List W) (k : W → Prop) : Prop := match us with
  | [.i .i64 a0] => A a0 (fun r0 => k (.s r0))
  | _ => False
theorem q_r7_signed_weak {A A2 : T_r7_signed} (h : FnOK sy Tryd.prog GT (ovD ro) ro 21 (q_r7_signed A)) (hA : ∀ a0 K, A2 a0 K → A a0 K) : FnOK sy Tryd.prog GT (ovD ro) ro 21 (q_r7_signed A2) := h.weak (by
  intro us k h
  unfold q_r7_signed at h ⊢
  split at h
  · exact hA _ _ h
  · exact h.elim)

def F_r7_signed (A22 : T_r7_digits) (a0 : Int) (K : List UInt8 → Prop) : Prop :=
  (((decide (a0 < (0 : Int))) = true → (I64 (0 - a0) ∧ (A22 (0 - a0) (fun y1 => (([45] : List UInt8).length + y1.length ≤ 1099511627776 ∧ K (([45] : List UInt8) ++ y1)))))) ∧ ((decide (a0 < (0 : Int))) = false → (A22 a0 (fun y2 => K y2))))

def C_r7_signed (A22 : T_r7_digits) : CallT sg := tab [(22, con [none] (q_r7_digits A22))]
theorem Cok_r7_signed (A22 : T_r7_digits) (h22 : FnOK sy Tryd.prog GT (ovD ro) ro 22 (q_r7_digits A22)) (o0 : Nat → Prop) : CalOK sy Tryd.prog GT (ovD ro) o0 ro (C_r7_signed A22) := (tab_cons (con_ok h22) tab_nil) o0

theorem raw_r7_signed (A22 : T_r7_digits) (a0 : Int) (k : W → Prop) : fnT sy Tryd.prog GT (C_r7_signed A22) noL Tryd.f21.ntmps (bodyOf Tryd.f21) [none] Tryd.f21.results.toList [.i .i64 a0] k = F_r7_signed A22 a0 (fun r0 => k (.s r0)) := by kernel_rfl

theorem ok_r7_signed (A22 : T_r7_digits) (h22 : FnOK sy Tryd.prog GT (ovD ro) ro 22 (q_r7_digits A22)) : FnOK sy Tryd.prog GT (ovD ro) ro 21 (q_r7_signed (F_r7_signed A22)) := (fn_ok (rc := [none]) (f := 21) (fn := Tryd.f21) (c := bodyOf Tryd.f21) (nt := Tryd.f21.ntmps) (res := Tryd.f21.results.toList) (C := C_r7_signed A22) (L := noL) (fun _ _ => rfl) Tryd.func21 (by kernel_rfl) rfl rfl (Cok_r7_signed A22 h22) (lp_of (l := []) (by kernel_rfl) lp_nil)).weak (by
  intro us k h
  unfold q_r7_signed at h
  split at h
  · skip
    rename_i a0
    rw [raw_r7_signed A22 a0 k]
    exact h
  · exact h.elim)

abbrev T_r7_Written := (Int × Int) → (List UInt8 → Prop) → Prop
def q_r7_Written (A : T_r7_Written) (us : List W) (k : W → Prop) : Prop := match us with
  | [.a [.i .i64 a0_0, .i .i64 a0_1]] => A (a0_0, a0_1) (fun r0 => k (.s r0))
  | _ => False
theorem q_r7_Written_weak {A A2 : T_r7_Written} (h : FnOK sy Tryd.prog GT (ovD ro) ro 18 (q_r7_Written A)) (hA : ∀ a0 K, A2 a0 K → A a0 K) : FnOK sy Tryd.prog GT (ovD ro) ro 18 (q_r7_Written A2) := h.weak (by
  intro us k h
  unfold q_r7_Written at h ⊢
  split at h
  · exact hA _ _ h
  · exact h.elim)

def F_r7_Written (A21 : T_r7_signed) (A22 : T_r7_digits) (a0 : (Int × Int)) (K : List UInt8 → Prop) : Prop :=
  (((decide (a0.1 = (0 : Int))) = true → (A21 a0.2 (fun y1 => K y1))) ∧ ((decide (a0.1 = (0 : Int))) = false → (A21 a0.1 (fun y2 => (((decide (a0.1 = (1 : Int))) = true → (((decide (a0.1 = (-1 : Int))) = true → (([45] : List UInt8).length + ([110] : List UInt8).length ≤ 1099511627776 ∧ (((decide ((0 : Int) < a0.2)) = true → ((([45] : List UInt8) ++ ([110] : List UInt8)).length + ([43] : List UInt8).length ≤ 1099511627776 ∧ (A22 a0.2 (fun y3 => (((([45] : List UInt8) ++ ([110] : List UInt8)) ++ ([43] : List UInt8)).length + y3.length ≤ 1099511627776 ∧ K (((([45] : List UInt8) ++ ([110] : List UInt8)) ++ ([43] : List UInt8)) ++ y3)))))) ∧ ((decide ((0 : Int) < a0.2)) = false → (((decide (a0.2 < (0 : Int))) = true → (A21 a0.2 (fun y4 => ((([45] : List UInt8) ++ ([110] : List UInt8)).length + y4.length ≤ 1099511627776 ∧ K ((([45] : List UInt8) ++ ([110] : List UInt8)) ++ y4))))) ∧ ((decide (a0.2 < (0 : Int))) = false → K (([45] : List UInt8) ++ ([110] : List UInt8)))))))) ∧ ((decide (a0.1 = (-1 : Int))) = false → (([] : List UInt8).length + ([110] : List UInt8).length ≤ 1099511627776 ∧ (((decide ((0 : Int) < a0.2)) = true → ((([] : List UInt8) ++ ([110] : List UInt8)).length + ([43] : List UInt8).length ≤ 1099511627776 ∧ (A22 a0.2 (fun y5 => (((([] : List UInt8) ++ ([110] : List UInt8)) ++ ([43] : List UInt8)).length + y5.length ≤ 1099511627776 ∧ K (((([] : List UInt8) ++ ([110] : List UInt8)) ++ ([43] : List UInt8)) ++ y5)))))) ∧ ((decide ((0 : Int) < a0.2)) = false → (((decide (a0.2 < (0 : Int))) = true → (A21 a0.2 (fun y6 => ((([] : List UInt8) ++ ([110] : List UInt8)).length + y6.length ≤ 1099511627776 ∧ K ((([] : List UInt8) ++ ([110] : List UInt8)) ++ y6))))) ∧ ((decide (a0.2 < (0 : Int))) = false → K (([] : List UInt8) ++ ([110] : List UInt8)))))))))) ∧ ((decide (a0.1 = (1 : Int))) = false → (((decide (a0.1 = (-1 : Int))) = true → (([45] : List UInt8).length + ([110] : List UInt8).length ≤ 1099511627776 ∧ (((decide ((0 : Int) < a0.2)) = true → ((([45] : List UInt8) ++ ([110] : List UInt8)).length + ([43] : List UInt8).length ≤ 1099511627776 ∧ (A22 a0.2 (fun y7 => (((([45] : List UInt8) ++ ([110] : List UInt8)) ++ ([43] : List UInt8)).length + y7.length ≤ 1099511627776 ∧ K (((([45] : List UInt8) ++ ([110] : List UInt8)) ++ ([43] : List UInt8)) ++ y7)))))) ∧ ((decide ((0 : Int) < a0.2)) = false → (((decide (a0.2 < (0 : Int))) = true → (A21 a0.2 (fun y8 => ((([45] : List UInt8) ++ ([110] : List UInt8)).length + y8.length ≤ 1099511627776 ∧ K ((([45] : List UInt8) ++ ([110] : List UInt8)) ++ y8))))) ∧ ((decide (a0.2 < (0 : Int))) = false → K (([45] : List UInt8) ++ ([110] : List UInt8)))))))) ∧ ((decide (a0.1 = (-1 : Int))) = false → (y2.length + ([110] : List UInt8).length ≤ 1099511627776 ∧ (((decide ((0 : Int) < a0.2)) = true → ((y2 ++ ([110] : List UInt8)).length + ([43] : List UInt8).length ≤ 1099511627776 ∧ (A22 a0.2 (fun y9 => (((y2 ++ ([110] : List UInt8)) ++ ([43] : List UInt8)).length + y9.length ≤ 1099511627776 ∧ K (((y2 ++ ([110] : List UInt8)) ++ ([43] : List UInt8)) ++ y9)))))) ∧ ((decide ((0 : Int) < a0.2)) = false → (((decide (a0.2 < (0 : Int))) = true → (A21 a0.2 (fun y10 => ((y2 ++ ([110] : List UInt8)).length + y10.length ≤ 1099511627776 ∧ K ((y2 ++ ([110] : List UInt8)) ++ y10))))) ∧ ((decide (a0.2 < (0 : Int))) = false → K (y2 ++ ([110] : List UInt8)))))))))))))))

def C_r7_Written (A21 : T_r7_signed) (A22 : T_r7_digits) : CallT sg := tab [(21, con [none] (q_r7_signed A21)), (22, con [none] (q_r7_digits A22))]
theorem Cok_r7_Written (A21 : T_r7_signed) (A22 : T_r7_digits) (h21 : FnOK sy Tryd.prog GT (ovD ro) ro 21 (q_r7_signed A21)) (h22 : FnOK sy Tryd.prog GT (ovD ro) ro 22 (q_r7_digits A22)) (o0 : Nat → Prop) : CalOK sy Tryd.prog GT (ovD ro) o0 ro (C_r7_Written A21 A22) := (tab_cons (con_ok h21) (tab_cons (con_ok h22) tab_nil)) o0

theorem raw_r7_Written (A21 : T_r7_signed) (A22 : T_r7_digits) (a0 : (Int × Int)) (k : W → Prop) : fnT sy Tryd.prog GT (C_r7_Written A21 A22) noL Tryd.f18.ntmps (bodyOf Tryd.f18) [none] Tryd.f18.results.toList [.a [.i .i64 a0.1, .i .i64 a0.2]] k = F_r7_Written A21 A22 a0 (fun r0 => k (.s r0)) := by kernel_rfl

theorem ok_r7_Written (A21 : T_r7_signed) (A22 : T_r7_digits) (h21 : FnOK sy Tryd.prog GT (ovD ro) ro 21 (q_r7_signed A21)) (h22 : FnOK sy Tryd.prog GT (ovD ro) ro 22 (q_r7_digits A22)) : FnOK sy Tryd.prog GT (ovD ro) ro 18 (q_r7_Written (F_r7_Written A21 A22)) := (fn_ok (rc := [none]) (f := 18) (fn := Tryd.f18) (c := bodyOf Tryd.f18) (nt := Tryd.f18.ntmps) (res := Tryd.f18.results.toList) (C := C_r7_Written A21 A22) (L := noL) (fun _ _ => rfl) Tryd.func18 (by kernel_rfl) rfl rfl (Cok_r7_Written A21 A22 h21 h22) (lp_of (l := []) (by kernel_rfl) lp_nil)).weak (by
  intro us k h
  unfold q_r7_Written at h
  split at h
  · skip
    rename_i a0_0 a0_1
    rw [raw_r7_Written A21 A22 (a0_0, a0_1) k]
    exact h
  · exact h.elim)

abbrev T_r7_Text := (Int × Int) → (List UInt8 → Int → Prop) → Prop
def q_r7_Text (A : T_r7_Text) (us : List W) (k : W → Prop) : Prop := match us with
  | [.a [.i .i64 a0_0, .i .i64 a0_1]] => A (a0_0, a0_1) (fun r0 r1 => k (.t [.s r0, .i .i64 r1]))
  | _ => False
theorem q_r7_Text_weak {A A2 : T_r7_Text} (h : FnOK sy Tryd.prog GT (ovD ro) ro 9 (q_r7_Text A)) (hA : ∀ a0 K, A2 a0 K → A a0 K) : FnOK sy Tryd.prog GT (ovD ro) ro 9 (q_r7_Text A2) := h.weak (by
  intro us k h
  unfold q_r7_Text at h ⊢
  split at h
  · exact hA _ _ h
  · exact h.elim)

def F_r7_Text (A13 : T_r7_Valid) (A18 : T_r7_Written) (a0 : (Int × Int)) (K : List UInt8 → Int → Prop) : Prop :=
  (A13 (a0.1, a0.2) (fun y1 => (((!y1) = true → K ([] : List UInt8) (8 : Int)) ∧ ((!y1) = false → (A18 (a0.1, a0.2) (fun y2 => K y2 (0 : Int)))))))

def C_r7_Text (A13 : T_r7_Valid) (A18 : T_r7_Written) : CallT sg := tab [(13, con [none] (q_r7_Valid A13)), (18, con [none] (q_r7_Written A18))]
theorem Cok_r7_Text (A13 : T_r7_Valid) (A18 : T_r7_Written) (h13 : FnOK sy Tryd.prog GT (ovD ro) ro 13 (q_r7_Valid A13)) (h18 : FnOK sy Tryd.prog GT (ovD ro) ro 18 (q_r7_Written A18)) (o0 : Nat → Prop) : CalOK sy Tryd.prog GT (ovD ro) o0 ro (C_r7_Text A13 A18) := (tab_cons (con_ok h13) (tab_cons (con_ok h18) tab_nil)) o0

theorem raw_r7_Text (A13 : T_r7_Valid) (A18 : T_r7_Written) (a0 : (Int × Int)) (k : W → Prop) : fnT sy Tryd.prog GT (C_r7_Text A13 A18) noL Tryd.f9.ntmps (bodyOf Tryd.f9) [none, none] Tryd.f9.results.toList [.a [.i .i64 a0.1, .i .i64 a0.2]] k = F_r7_Text A13 A18 a0 (fun r0 r1 => k (.t [.s r0, .i .i64 r1])) := by kernel_rfl

theorem ok_r7_Text (A13 : T_r7_Valid) (A18 : T_r7_Written) (h13 : FnOK sy Tryd.prog GT (ovD ro) ro 13 (q_r7_Valid A13)) (h18 : FnOK sy Tryd.prog GT (ovD ro) ro 18 (q_r7_Written A18)) : FnOK sy Tryd.prog GT (ovD ro) ro 9 (q_r7_Text (F_r7_Text A13 A18)) := (fn_ok (rc := [none, none]) (f := 9) (fn := Tryd.f9) (c := bodyOf Tryd.f9) (nt := Tryd.f9.ntmps) (res := Tryd.f9.results.toList) (C := C_r7_Text A13 A18) (L := noL) (fun _ _ => rfl) Tryd.func9 (by kernel_rfl) rfl rfl (Cok_r7_Text A13 A18 h13 h18) (lp_of (l := []) (by kernel_rfl) lp_nil)).weak (by
  intro us k h
  unfold q_r7_Text at h
  split at h
  · skip
    rename_i a0_0 a0_1
    rw [raw_r7_Text A13 A18 (a0_0, a0_1) k]
    exact h
  · exact h.elim)

abbrev T_vitrinelaw07_AnbTells := (Int × Int) → Int → Int → (Bool → Prop) → Prop
def q_vitrinelaw07_AnbTells (A : T_vitrinelaw07_AnbTells) (us : List W) (k : W → Prop) : Prop := match us with
  | [.a [.i .i64 a0_0, .i .i64 a0_1], .i .i64 a1, .i .i64 a2] => A (a0_0, a0_1) a1 a2 (fun r0 => k (.b r0))
  | _ => False
theorem q_vitrinelaw07_AnbTells_weak {A A2 : T_vitrinelaw07_AnbTells} (h : FnOK sy Tryd.prog GT (ovD ro) ro 3 (q_vitrinelaw07_AnbTells A)) (hA : ∀ a0 a1 a2 K, A2 a0 a1 a2 K → A a0 a1 a2 K) : FnOK sy Tryd.prog GT (ovD ro) ro 3 (q_vitrinelaw07_AnbTells A2) := h.weak (by
  intro us k h
  unfold q_vitrinelaw07_AnbTells at h ⊢
  split at h
  · exact hA _ _ _ _ h
  · exact h.elim)

def F_vitrinelaw07_AnbTells_l10 (A4 : T_anb_In) (A5 : T_r7_In) (A6 : T_anb_All) (A7 : T_r7_All) (A8 : T_anb_Text) (A9 : T_r7_Text) (A10 : T_anb_Check) (A11 : T_r7_Check) : Nat → Bool → Int → Bool → Int → List Int → Int → List Int → Int → List UInt8 → Int → List UInt8 → Int → Int → Int → Int → (Bool → Int → Bool → Int → Int → Int → List UInt8 → Int → List UInt8 → Int → Int → Int → Prop) → (Bool → Prop) → Prop
  | 0, _, _, _, _, _, _, _, _, _, _, _, _, _, _, _, _, _ => False
  | n + 1, x7, x8, x9, x10, x11, x12, x13, x14, x15, x16, x17, x18, x19, c0_0, c0_1, Ke, Kr => (((decide (x19 < (x11.length : Int))) = true → ((0 ≤ x19 ∧ x19 < (x11.length : Int)) ∧ ((0 ≤ x19 ∧ x19 < (x13.length : Int)) ∧ (((decide ((id (x11.getD x19.toNat (dfltD Cd.i64)) : Int) ≠ (id (x13.getD x19.toNat (dfltD Cd.i64)) : Int))) = true → Kr false) ∧ ((decide ((id (x11.getD x19.toNat (dfltD Cd.i64)) : Int) ≠ (id (x13.getD x19.toNat (dfltD Cd.i64)) : Int))) = false → (I64 (x19 + (1 : Int)) ∧ F_vitrinelaw07_AnbTells_l10 A4 A5 A6 A7 A8 A9 A10 A11 n x7 x8 x9 x10 x11 x12 x13 x14 x15 x16 x17 x18 (x19 + (1 : Int)) c0_0 c0_1 Ke Kr)))))) ∧ ((decide (x19 < (x11.length : Int))) = false → Ke x7 x8 x9 x10 x12 x14 x15 x16 x17 x18 c0_0 c0_1))

def F_vitrinelaw07_AnbTells (A4 : T_anb_In) (A5 : T_r7_In) (A6 : T_anb_All) (A7 : T_r7_All) (A8 : T_anb_Text) (A9 : T_r7_Text) (A10 : T_anb_Check) (A11 : T_r7_Check) (a0 : (Int × Int)) (a1 : Int) (a2 : Int) (K : Bool → Prop) : Prop :=
  (A4 (a0.1, a0.2) a1 (fun y1 y2 => (A5 (a0.1, a0.2) a1 (fun y3 y4 => (A6 (a0.1, a0.2) a2 (fun y5 y6 => (A7 (a0.1, a0.2) a2 (fun y7 y8 => (A8 (a0.1, a0.2) (fun y9 y10 => (A9 (a0.1, a0.2) (fun y11 y12 => (((decide ((y5.length : Int) ≠ (y7.length : Int))) = true → K false) ∧ ((decide ((y5.length : Int) ≠ (y7.length : Int))) = false → (∃ m, F_vitrinelaw07_AnbTells_l10 A4 A5 A6 A7 A8 A9 A10 A11 m y1 y2 y3 y4 y5 y6 y7 y8 y9 y10 y11 y12 (0 : Int) a0.1 a0.2 (fun y13 y14 y15 y16 y17 y18 y19 y20 y21 y22 y23 y24 => (A10 (y23, y24) (fun y25 => (A11 (y23, y24) (fun y26 => (((decide (y25 = y26)) = true → (((y13 == y15) = true → (((decide (y14 = y16)) = true → (((decide (y17 = y18)) = true → (((y19 == y21) = true → K (decide (y20 = y22))) ∧ ((y19 == y21) = false → K false))) ∧ ((decide (y17 = y18)) = false → K false))) ∧ ((decide (y14 = y16)) = false → K false))) ∧ ((y13 == y15) = false → K false))) ∧ ((decide (y25 = y26)) = false → K false))))))) (fun y27 => K y27))))))))))))))))

def C_vitrinelaw07_AnbTells (A4 : T_anb_In) (A5 : T_r7_In) (A6 : T_anb_All) (A7 : T_r7_All) (A8 : T_anb_Text) (A9 : T_r7_Text) (A10 : T_anb_Check) (A11 : T_r7_Check) : CallT sg := tab [(4, con [none, none] (q_anb_In A4)), (5, con [none, none] (q_r7_In A5)), (6, con [none, none] (q_anb_All A6)), (7, con [none, none] (q_r7_All A7)), (8, con [none] (q_anb_Text A8)), (9, con [none] (q_r7_Text A9)), (10, con [none] (q_anb_Check A10)), (11, con [none] (q_r7_Check A11))]
theorem Cok_vitrinelaw07_AnbTells (A4 : T_anb_In) (A5 : T_r7_In) (A6 : T_anb_All) (A7 : T_r7_All) (A8 : T_anb_Text) (A9 : T_r7_Text) (A10 : T_anb_Check) (A11 : T_r7_Check) (h4 : FnOK sy Tryd.prog GT (ovD ro) ro 4 (q_anb_In A4)) (h5 : FnOK sy Tryd.prog GT (ovD ro) ro 5 (q_r7_In A5)) (h6 : FnOK sy Tryd.prog GT (ovD ro) ro 6 (q_anb_All A6)) (h7 : FnOK sy Tryd.prog GT (ovD ro) ro 7 (q_r7_All A7)) (h8 : FnOK sy Tryd.prog GT (ovD ro) ro 8 (q_anb_Text A8)) (h9 : FnOK sy Tryd.prog GT (ovD ro) ro 9 (q_r7_Text A9)) (h10 : FnOK sy Tryd.prog GT (ovD ro) ro 10 (q_anb_Check A10)) (h11 : FnOK sy Tryd.prog GT (ovD ro) ro 11 (q_r7_Check A11)) (o0 : Nat → Prop) : CalOK sy Tryd.prog GT (ovD ro) o0 ro (C_vitrinelaw07_AnbTells A4 A5 A6 A7 A8 A9 A10 A11) := (tab_cons (con_ok h4) (tab_cons (con_ok h5) (tab_cons (con_ok h6) (tab_cons (con_ok h7) (tab_cons (con_ok h8) (tab_cons (con_ok h9) (tab_cons (con_ok h10) (tab_cons (con_ok h11) tab_nil)))))))) o0

def ls_vitrinelaw07_AnbTells_10 : LS sy (Unit × Bool × Int × Bool × Int × (List (sg.Den Cd.i64)) × Int × (List (sg.Den Cd.i64)) × Int × (List UInt8) × Int × (List UInt8) × Int × Int × Unit) ((Int × Int × Unit) × Unit) := ⟨[], fCons 3 (vLit sy (.p 0 0)) (fCons 7 (vBool sy) (fCons 8 (vInt sy .i64) (fCons 9 (vBool sy) (fCons 10 (vInt sy .i64) (fCons 11 (vData sy Cd.i64) (fCons 12 (vInt sy .i64) (fCons 13 (vData sy Cd.i64) (fCons 14 (vInt sy .i64) (fCons 15 (vStr sy) (fCons 16 (vInt sy .i64) (fCons 17 (vStr sy) (fCons 18 (vInt sy .i64) (fCons 19 (vInt sy .i64) (fNil sy)))))))))))))), hCells 0 (lCons (vInt sy .i64) (lCons (vInt sy .i64) (lNil sy))) (hNil sy), 1, []⟩
def le_vitrinelaw07_AnbTells_10 : LS sy (Unit × Bool × Int × Bool × Int × Int × Int × (List UInt8) × Int × (List UInt8) × Int × Unit) ((Int × Int × Unit) × Unit) := ⟨[], fCons 3 (vLit sy (.p 0 0)) (fCons 7 (vBool sy) (fCons 8 (vInt sy .i64) (fCons 9 (vBool sy) (fCons 10 (vInt sy .i64) (fCons 12 (vInt sy .i64) (fCons 14 (vInt sy .i64) (fCons 15 (vStr sy) (fCons 16 (vInt sy .i64) (fCons 17 (vStr sy) (fCons 18 (vInt sy .i64) (fNil sy))))))))))), hCells 0 (lCons (vInt sy .i64) (lCons (vInt sy .i64) (lNil sy))) (hNil sy), 1, []⟩
def lr_vitrinelaw07_AnbTells_10 : LS sy (Bool × Unit) Unit := ⟨[], fCons 6 (vBool sy) (fNil sy), hNil sy, 0, []⟩
def FF_vitrinelaw07_AnbTells_10 (A4 : T_anb_In) (A5 : T_r7_In) (A6 : T_anb_All) (A7 : T_r7_All) (A8 : T_anb_Text) (A9 : T_r7_Text) (A10 : T_anb_Check) (A11 : T_r7_Check) (n : Nat) (x : (Unit × Bool × Int × Bool × Int × (List (sg.Den Cd.i64)) × Int × (List (sg.Den Cd.i64)) × Int × (List UInt8) × Int × (List UInt8) × Int × Int × Unit) × ((Int × Int × Unit) × Unit)) (K : Ex → Z sg → Prop) : Prop := F_vitrinelaw07_AnbTells_l10 A4 A5 A6 A7 A8 A9 A10 A11 n x.1.2.1 x.1.2.2.1 x.1.2.2.2.1 x.1.2.2.2.2.1 x.1.2.2.2.2.2.1 x.1.2.2.2.2.2.2.1 x.1.2.2.2.2.2.2.2.1 x.1.2.2.2.2.2.2.2.2.1 x.1.2.2.2.2.2.2.2.2.2.1 x.1.2.2.2.2.2.2.2.2.2.2.1 x.1.2.2.2.2.2.2.2.2.2.2.2.1 x.1.2.2.2.2.2.2.2.2.2.2.2.2.1 x.1.2.2.2.2.2.2.2.2.2.2.2.2.2.1 x.2.1.1 x.2.1.2.1 (fun y0 y1 y2 y3 y4 y5 y6 y7 y8 y9 y10 y11 => K (.exit 0) (le_vitrinelaw07_AnbTells_10.put (((), y0, y1, y2, y3, y4, y5, y6, y7, y8, y9, ()), ((y10, y11, ()), ())))) (fun y0 => K .ret (lr_vitrinelaw07_AnbTells_10.put ((y0, ()), ())))
def h_vitrinelaw07_AnbTells_10 (A4 : T_anb_In) (A5 : T_r7_In) (A6 : T_anb_All) (A7 : T_r7_All) (A8 : T_anb_Text) (A9 : T_r7_Text) (A10 : T_anb_Check) (A11 : T_r7_Check) (z : Z sg) (K : Ex → Z sg → Prop) : Prop := ls_vitrinelaw07_AnbTells_10.get z (fun x => ∃ n, FF_vitrinelaw07_AnbTells_10 A4 A5 A6 A7 A8 A9 A10 A11 n x K)
def L_vitrinelaw07_AnbTells (A4 : T_anb_In) (A5 : T_r7_In) (A6 : T_anb_All) (A7 : T_r7_All) (A8 : T_anb_Text) (A9 : T_r7_Text) (A10 : T_anb_Check) (A11 : T_r7_Check) : LoopT sg := tabL [(10, h_vitrinelaw07_AnbTells_10 A4 A5 A6 A7 A8 A9 A10 A11)]
theorem hs_vitrinelaw07_AnbTells_10 (A4 : T_anb_In) (A5 : T_r7_In) (A6 : T_anb_All) (A7 : T_r7_All) (A8 : T_anb_Text) (A9 : T_r7_Text) (A10 : T_anb_Check) (A11 : T_r7_Check) (n : Nat) (x : (Unit × Bool × Int × Bool × Int × (List (sg.Den Cd.i64)) × Int × (List (sg.Den Cd.i64)) × Int × (List UInt8) × Int × (List UInt8) × Int × Int × Unit) × ((Int × Int × Unit) × Unit)) (K : Ex → Z sg → Prop) : forceZ (ls_vitrinelaw07_AnbTells_10.put x) (fun z => sC sy Tryd.prog GT (C_vitrinelaw07_AnbTells A4 A5 A6 A7 A8 A9 A10 A11) (L_vitrinelaw07_AnbTells A4 A5 A6 A7 A8 A9 A10 A11) Tryd.f3.ntmps (nthLoop (bodyOf Tryd.f3) 0) z (rnd ls_vitrinelaw07_AnbTells_10 (czT 0 le_vitrinelaw07_AnbTells_10 lr_vitrinelaw07_AnbTells_10) (fun x => FF_vitrinelaw07_AnbTells_10 A4 A5 A6 A7 A8 A9 A10 A11 n x K) K)) = FF_vitrinelaw07_AnbTells_10 A4 A5 A6 A7 A8 A9 A10 A11 (n + 1) x K := by kernel_rfl
theorem hl_vitrinelaw07_AnbTells_10 (A4 : T_anb_In) (A5 : T_r7_In) (A6 : T_anb_All) (A7 : T_r7_All) (A8 : T_anb_Text) (A9 : T_r7_Text) (A10 : T_anb_Check) (A11 : T_r7_Check) (z : Z sg) (K : Ex → Z sg → Prop) : (L_vitrinelaw07_AnbTells A4 A5 A6 A7 A8 A9 A10 A11) (nthLoop (bodyOf Tryd.f3) 0) z K = ls_vitrinelaw07_AnbTells_10.get z (fun x => ∃ n, FF_vitrinelaw07_AnbTells_10 A4 A5 A6 A7 A8 A9 A10 A11 n x K) := by kernel_rfl
theorem lo_vitrinelaw07_AnbTells_10 (A4 : T_anb_In) (A5 : T_r7_In) (A6 : T_anb_All) (A7 : T_r7_All) (A8 : T_anb_Text) (A9 : T_r7_Text) (A10 : T_anb_Check) (A11 : T_r7_Check) (h4 : FnOK sy Tryd.prog GT (ovD ro) ro 4 (q_anb_In A4)) (h5 : FnOK sy Tryd.prog GT (ovD ro) ro 5 (q_r7_In A5)) (h6 : FnOK sy Tryd.prog GT (ovD ro) ro 6 (q_anb_All A6)) (h7 : FnOK sy Tryd.prog GT (ovD ro) ro 7 (q_r7_All A7)) (h8 : FnOK sy Tryd.prog GT (ovD ro) ro 8 (q_anb_Text A8)) (h9 : FnOK sy Tryd.prog GT (ovD ro) ro 9 (q_r7_Text A9)) (h10 : FnOK sy Tryd.prog GT (ovD ro) ro 10 (q_anb_Check A10)) (h11 : FnOK sy Tryd.prog GT (ovD ro) ro 11 (q_r7_Check A11)) : ∀ (o0 : Nat → Prop) (B : Bs sg), B.E.length ≤ 0 → ∀ z K, (L_vitrinelaw07_AnbTells A4 A5 A6 A7 A8 A9 A10 A11) (nthLoop (bodyOf Tryd.f3) 0) z K → Sx.Sem sy Tryd.prog GT (ovD ro) o0 ro Tryd.f3.ntmps B (.loop (nthLoop (bodyOf Tryd.f3) 0)) z K :=
  loop_ok (Cok_vitrinelaw07_AnbTells A4 A5 A6 A7 A8 A9 A10 A11 h4 h5 h6 h7 h8 h9 h10 h11) (lp_of (l := []) (by kernel_rfl) lp_nil) ls_vitrinelaw07_AnbTells_10 (by decide) (czT 0 le_vitrinelaw07_AnbTells_10 lr_vitrinelaw07_AnbTells_10) (fun _ _ hB => czT_ok 0 le_vitrinelaw07_AnbTells_10 lr_vitrinelaw07_AnbTells_10 (Nat.le_trans hB (by decide)) (Nat.le_trans hB (by decide))) (fun _ _ h => h) (hs_vitrinelaw07_AnbTells_10 A4 A5 A6 A7 A8 A9 A10 A11) (hl_vitrinelaw07_AnbTells_10 A4 A5 A6 A7 A8 A9 A10 A11)
theorem Lp_vitrinelaw07_AnbTells (A4 : T_anb_In) (A5 : T_r7_In) (A6 : T_anb_All) (A7 : T_r7_All) (A8 : T_anb_Text) (A9 : T_r7_Text) (A10 : T_anb_Check) (A11 : T_r7_Check) (h4 : FnOK sy Tryd.prog GT (ovD ro) ro 4 (q_anb_In A4)) (h5 : FnOK sy Tryd.prog GT (ovD ro) ro 5 (q_r7_In A5)) (h6 : FnOK sy Tryd.prog GT (ovD ro) ro 6 (q_anb_All A6)) (h7 : FnOK sy Tryd.prog GT (ovD ro) ro 7 (q_r7_All A7)) (h8 : FnOK sy Tryd.prog GT (ovD ro) ro 8 (q_anb_Text A8)) (h9 : FnOK sy Tryd.prog GT (ovD ro) ro 9 (q_r7_Text A9)) (h10 : FnOK sy Tryd.prog GT (ovD ro) ro 10 (q_anb_Check A10)) (h11 : FnOK sy Tryd.prog GT (ovD ro) ro 11 (q_r7_Check A11)) : LpOK sy Tryd.prog GT (ovD ro) ro (L_vitrinelaw07_AnbTells A4 A5 A6 A7 A8 A9 A10 A11) 0 Tryd.f3.ntmps (bodyOf Tryd.f3) := lp_of (l := [(nthLoop (bodyOf Tryd.f3) 0)]) (by kernel_rfl) (lp_cons (lo_vitrinelaw07_AnbTells_10 A4 A5 A6 A7 A8 A9 A10 A11 h4 h5 h6 h7 h8 h9 h10 h11) lp_nil)


theorem raw_vitrinelaw07_AnbTells (A4 : T_anb_In) (A5 : T_r7_In) (A6 : T_anb_All) (A7 : T_r7_All) (A8 : T_anb_Text) (A9 : T_r7_Text) (A10 : T_anb_Check) (A11 : T_r7_Check) (a0 : (Int × Int)) (a1 : Int) (a2 : Int) (k : W → Prop) : fnT sy Tryd.prog GT (C_vitrinelaw07_AnbTells A4 A5 A6 A7 A8 A9 A10 A11) (L_vitrinelaw07_AnbTells A4 A5 A6 A7 A8 A9 A10 A11) Tryd.f3.ntmps (bodyOf Tryd.f3) [none] Tryd.f3.results.toList [.a [.i .i64 a0.1, .i .i64 a0.2], .i .i64 a1, .i .i64 a2] k = F_vitrinelaw07_AnbTells A4 A5 A6 A7 A8 A9 A10 A11 a0 a1 a2 (fun r0 => k (.b r0)) := by kernel_rfl

theorem ok_vitrinelaw07_AnbTells (A4 : T_anb_In) (A5 : T_r7_In) (A6 : T_anb_All) (A7 : T_r7_All) (A8 : T_anb_Text) (A9 : T_r7_Text) (A10 : T_anb_Check) (A11 : T_r7_Check) (h4 : FnOK sy Tryd.prog GT (ovD ro) ro 4 (q_anb_In A4)) (h5 : FnOK sy Tryd.prog GT (ovD ro) ro 5 (q_r7_In A5)) (h6 : FnOK sy Tryd.prog GT (ovD ro) ro 6 (q_anb_All A6)) (h7 : FnOK sy Tryd.prog GT (ovD ro) ro 7 (q_r7_All A7)) (h8 : FnOK sy Tryd.prog GT (ovD ro) ro 8 (q_anb_Text A8)) (h9 : FnOK sy Tryd.prog GT (ovD ro) ro 9 (q_r7_Text A9)) (h10 : FnOK sy Tryd.prog GT (ovD ro) ro 10 (q_anb_Check A10)) (h11 : FnOK sy Tryd.prog GT (ovD ro) ro 11 (q_r7_Check A11)) : FnOK sy Tryd.prog GT (ovD ro) ro 3 (q_vitrinelaw07_AnbTells (F_vitrinelaw07_AnbTells A4 A5 A6 A7 A8 A9 A10 A11)) := (fn_ok (rc := [none]) (f := 3) (fn := Tryd.f3) (c := bodyOf Tryd.f3) (nt := Tryd.f3.ntmps) (res := Tryd.f3.results.toList) (C := C_vitrinelaw07_AnbTells A4 A5 A6 A7 A8 A9 A10 A11) (L := (L_vitrinelaw07_AnbTells A4 A5 A6 A7 A8 A9 A10 A11)) (fun _ _ => rfl) Tryd.func3 (by kernel_rfl) rfl rfl (Cok_vitrinelaw07_AnbTells A4 A5 A6 A7 A8 A9 A10 A11 h4 h5 h6 h7 h8 h9 h10 h11) (Lp_vitrinelaw07_AnbTells A4 A5 A6 A7 A8 A9 A10 A11 h4 h5 h6 h7 h8 h9 h10 h11)).weak (by
  intro us k h
  unfold q_vitrinelaw07_AnbTells at h
  split at h
  · skip
    rename_i a0_0 a0_1 a1 a2
    rw [raw_vitrinelaw07_AnbTells A4 A5 A6 A7 A8 A9 A10 A11 (a0_0, a0_1) a1 a2 k]
    exact h
  · exact h.elim)

end Go.Proofs.YtbpbaicbaehhjaaDoor
