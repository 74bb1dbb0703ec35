/-
  The reference, followed: names and numbers. Nothing is claimed here.
-/
import Derived.Test.YtcjoehlflbegpaaGreatDoorTh
namespace Go.Proofs.YtcjoehlflbegpaaGreatDoor
open Go.Vm Go.Sx Go.RowKit

abbrev T_ref_At := Bt → Int → (Int → Prop) → Prop
def q_ref_At (A : T_ref_At) (us : List W) (k : W → Prop) : Prop := match us with
  | [.s a0, .i .i64 a1] => A a0 a1 (fun r0 => k (.i .u8 r0))
  | _ => False
theorem q_ref_At_weak {A A2 : T_ref_At} (h : FO 60 (q_ref_At A)) (hA : ∀ a0 a1 K, A2 a0 a1 K → A a0 a1 K) : FO 60 (q_ref_At A2) := h.weak (by
  intro us k h
  unfold q_ref_At at h ⊢
  split at h
  · exact hA _ _ _ h
  · exact h.elim)

def F_ref_At (a0 : Bt) (a1 : Int) (K : Int → Prop) : Prop :=
  (((decide (a1 < (a0.length : Int))) = true → ((0 ≤ a1 ∧ a1 < (a0.length : Int)) ∧ K ((a0.getD a1.toNat 0).toNat : Int))) ∧ ((decide (a1 < (a0.length : Int))) = false → K (0 : Int)))

def C_ref_At : CallT sg := tab []
theorem Cok_ref_At (o0 : Nat → Prop) : CalOK sy Tryz.prog GT ovD o0 GL (C_ref_At) := tab_nil o0

theorem raw_ref_At (a0 : Bt) (a1 : Int) (k : W → Prop) : fnT sy Tryz.prog GT (C_ref_At) noL Tryz.f60.ntmps (bodyOf Tryz.f60) [none] Tryz.f60.results.toList [.s a0, .i .i64 a1] k = F_ref_At a0 a1 (fun r0 => k (.i .u8 r0)) := by kernel_rfl

theorem ok_ref_At : FO 60 (q_ref_At (F_ref_At)) := (fn_ok (rc := [none]) (f := 60) (fn := Tryz.f60) (c := bodyOf Tryz.f60) (nt := Tryz.f60.ntmps) (res := Tryz.f60.results.toList) (C := C_ref_At) (L := noL) (fun _ => rfl) Tryz.func60 (by kernel_rfl) rfl rfl (Cok_ref_At) (lp_of (l := []) (by kernel_rfl) lp_nil)).weak (by
  intro us k h
  unfold q_ref_At at h
  split at h
  · skip
    rename_i a0 a1
    rw [raw_ref_At a0 a1 k]
    exact h
  · exact h.elim)

abbrev T_ref_Digit := Int → (Bool → Prop) → Prop
def q_ref_Digit (A : T_ref_Digit) (us : List W) (k : W → Prop) : Prop := match us with
  | [.i .u8 a0] => A a0 (fun r0 => k (.b r0))
  | _ => False
theorem q_ref_Digit_weak {A A2 : T_ref_Digit} (h : FO 63 (q_ref_Digit A)) (hA : ∀ a0 K, A2 a0 K → A a0 K) : FO 63 (q_ref_Digit A2) := h.weak (by
  intro us k h
  unfold q_ref_Digit at h ⊢
  split at h
  · exact hA _ _ h
  · exact h.elim)

def F_ref_Digit (a0 : Int) (K : Bool → Prop) : Prop :=
  (((decide ((48 : Int) ≤ a0)) = true → K (decide (a0 ≤ 57))) ∧ ((decide ((48 : Int) ≤ a0)) = false → K false))

def C_ref_Digit : CallT sg := tab []
theorem Cok_ref_Digit (o0 : Nat → Prop) : CalOK sy Tryz.prog GT ovD o0 GL (C_ref_Digit) := tab_nil o0

theorem raw_ref_Digit (a0 : Int) (k : W → Prop) : fnT sy Tryz.prog GT (C_ref_Digit) noL Tryz.f63.ntmps (bodyOf Tryz.f63) [none] Tryz.f63.results.toList [.i .u8 a0] k = F_ref_Digit a0 (fun r0 => k (.b r0)) := by kernel_rfl

theorem ok_ref_Digit : FO 63 (q_ref_Digit (F_ref_Digit)) := (fn_ok (rc := [none]) (f := 63) (fn := Tryz.f63) (c := bodyOf Tryz.f63) (nt := Tryz.f63.ntmps) (res := Tryz.f63.results.toList) (C := C_ref_Digit) (L := noL) (fun _ => rfl) Tryz.func63 (by kernel_rfl) rfl rfl (Cok_ref_Digit) (lp_of (l := []) (by kernel_rfl) lp_nil)).weak (by
  intro us k h
  unfold q_ref_Digit at h
  split at h
  · skip
    rename_i a0
    rw [raw_ref_Digit a0 k]
    exact h
  · exact h.elim)

abbrev T_ref_digits := Bt → Int → (Int → Prop) → Prop
def q_ref_digits (A : T_ref_digits) (us : List W) (k : W → Prop) : Prop := match us with
  | [.s a0, .i .i64 a1] => A a0 a1 (fun r0 => k (.i .i64 r0))
  | _ => False
theorem q_ref_digits_weak {A A2 : T_ref_digits} (h : FO 88 (q_ref_digits A)) (hA : ∀ a0 a1 K, A2 a0 a1 K → A a0 a1 K) : FO 88 (q_ref_digits A2) := h.weak (by
  intro us k h
  unfold q_ref_digits at h ⊢
  split at h
  · exact hA _ _ _ h
  · exact h.elim)

def F_ref_digits_l1 (A60 : T_ref_At) (A63 : T_ref_Digit) : Nat → Bt → Int → (Int → Prop) → Prop
  | 0, _, _, _ => False
  | n + 1, x0, x1, Ke => (A60 x0 x1 (fun y1 => (A63 y1 (fun y2 => ((y2 = true → (I64 (x1 + 1) ∧ F_ref_digits_l1 A60 A63 n x0 (x1 + 1) Ke)) ∧ (y2 = false → Ke x1))))))

def F_ref_digits (A60 : T_ref_At) (A63 : T_ref_Digit) (a0 : Bt) (a1 : Int) (K : Int → Prop) : Prop :=
  (∃ m, F_ref_digits_l1 A60 A63 m a0 a1 (fun y1 => K y1))

def C_ref_digits (A60 : T_ref_At) (A63 : T_ref_Digit) : CallT sg := tab [(60, con [none, none] (q_ref_At A60)), (63, con [none] (q_ref_Digit A63))]
theorem Cok_ref_digits (A60 : T_ref_At) (A63 : T_ref_Digit) (h60 : FO 60 (q_ref_At A60)) (h63 : FO 63 (q_ref_Digit A63)) (o0 : Nat → Prop) : CalOK sy Tryz.prog GT ovD o0 GL (C_ref_digits A60 A63) := (tab_cons (con_ok h60) (tab_cons (con_ok h63) tab_nil)) o0

def ls_ref_digits_1 : LS sy ((Bt) × Int × Unit) Unit := ⟨[], fCons 0 (vStr sy) (fCons 1 (vInt sy .i64) (fNil sy)), hNil sy, 0, []⟩
def le_ref_digits_1 : LS sy (Int × Unit) Unit := ⟨[], fCons 1 (vInt sy .i64) (fNil sy), hNil sy, 0, []⟩
def lr_ref_digits_1 : LS sy Unit Unit := ⟨[], fNil sy, hNil sy, 0, []⟩
def FF_ref_digits_1 (A60 : T_ref_At) (A63 : T_ref_Digit) (n : Nat) (x : ((Bt) × Int × Unit) × Unit) (K : Ex → Z sg → Prop) : Prop := F_ref_digits_l1 A60 A63 n x.1.1 x.1.2.1 (fun y0 => K (.exit 0) (le_ref_digits_1.put ((y0, ()), ())))
def h_ref_digits_1 (A60 : T_ref_At) (A63 : T_ref_Digit) (z : Z sg) (K : Ex → Z sg → Prop) : Prop := ls_ref_digits_1.get z (fun x => ∃ n, FF_ref_digits_1 A60 A63 n x K)
def L_ref_digits (A60 : T_ref_At) (A63 : T_ref_Digit) : LoopT sg := tabL [(1, h_ref_digits_1 A60 A63)]
theorem hs_ref_digits_1 (A60 : T_ref_At) (A63 : T_ref_Digit) (n : Nat) (x : ((Bt) × Int × Unit) × Unit) (K : Ex → Z sg → Prop) : forceZ (ls_ref_digits_1.put x) (fun z => sC sy Tryz.prog GT (C_ref_digits A60 A63) (L_ref_digits A60 A63) Tryz.f88.ntmps (nthLoop (bodyOf Tryz.f88) 0) z (rnd ls_ref_digits_1 (czT 0 le_ref_digits_1 lr_ref_digits_1) (fun x => FF_ref_digits_1 A60 A63 n x K) K)) = FF_ref_digits_1 A60 A63 (n + 1) x K := by kernel_rfl
theorem hl_ref_digits_1 (A60 : T_ref_At) (A63 : T_ref_Digit) (z : Z sg) (K : Ex → Z sg → Prop) : (L_ref_digits A60 A63) (nthLoop (bodyOf Tryz.f88) 0) z K = ls_ref_digits_1.get z (fun x => ∃ n, FF_ref_digits_1 A60 A63 n x K) := by kernel_rfl
theorem lo_ref_digits_1 (A60 : T_ref_At) (A63 : T_ref_Digit) (h60 : FO 60 (q_ref_At A60)) (h63 : FO 63 (q_ref_Digit A63)) : ∀ (o0 : Nat → Prop) (B : Bs sg), B.E.length ≤ 0 → ∀ z K, (L_ref_digits A60 A63) (nthLoop (bodyOf Tryz.f88) 0) z K → Sx.Sem sy Tryz.prog GT ovD o0 GL Tryz.f88.ntmps B (.loop (nthLoop (bodyOf Tryz.f88) 0)) z K :=
  loop_ok (Cok_ref_digits A60 A63 h60 h63) (lp_of (l := []) (by kernel_rfl) lp_nil) ls_ref_digits_1 (by decide) (czT 0 le_ref_digits_1 lr_ref_digits_1) (fun _ _ hB => czT_ok 0 le_ref_digits_1 lr_ref_digits_1 (Nat.le_trans hB (by decide)) (Nat.le_trans hB (by decide))) (fun _ _ h => h) (hs_ref_digits_1 A60 A63) (hl_ref_digits_1 A60 A63)
theorem Lp_ref_digits (A60 : T_ref_At) (A63 : T_ref_Digit) (h60 : FO 60 (q_ref_At A60)) (h63 : FO 63 (q_ref_Digit A63)) : LpOK sy Tryz.prog GT ovD GL (L_ref_digits A60 A63) 0 Tryz.f88.ntmps (bodyOf Tryz.f88) := lp_of (l := [(nthLoop (bodyOf Tryz.f88) 0)]) (by kernel_rfl) (lp_cons (lo_ref_digits_1 A60 A63 h60 h63) lp_nil)


theorem raw_ref_digits (A60 : T_ref_At) (A63 : T_ref_Digit) (a0 : Bt) (a1 : Int) (k : W → Prop) : fnT sy Tryz.prog GT (C_ref_digits A60 A63) (L_ref_digits A60 A63) Tryz.f88.ntmps (bodyOf Tryz.f88) [none] Tryz.f88.results.toList [.s a0, .i .i64 a1] k = F_ref_digits A60 A63 a0 a1 (fun r0 => k (.i .i64 r0)) := by kernel_rfl

theorem ok_ref_digits (A60 : T_ref_At) (A63 : T_ref_Digit) (h60 : FO 60 (q_ref_At A60)) (h63 : FO 63 (q_ref_Digit A63)) : FO 88 (q_ref_digits (F_ref_digits A60 A63)) := (fn_ok (rc := [none]) (f := 88) (fn := Tryz.f88) (c := bodyOf Tryz.f88) (nt := Tryz.f88.ntmps) (res := Tryz.f88.results.toList) (C := C_ref_digits A60 A63) (L := (L_ref_digits A60 A63)) (fun _ => rfl) Tryz.func88 (by kernel_rfl) rfl rfl (Cok_ref_digits A60 A63 h60 h63) (Lp_ref_digits A60 A63 h60 h63)).weak (by
  intro us k h
  unfold q_ref_digits at h
  split at h
  · skip
    rename_i a0 a1
    rw [raw_ref_digits A60 A63 a0 a1 k]
    exact h
  · exact h.elim)

abbrev T_ref_Small := Int → (Int → Prop) → Prop
def q_ref_Small (A : T_ref_Small) (us : List W) (k : W → Prop) : Prop := match us with
  | [.i .u8 a0] => A a0 (fun r0 => k (.i .u8 r0))
  | _ => False
theorem q_ref_Small_weak {A A2 : T_ref_Small} (h : FO 87 (q_ref_Small A)) (hA : ∀ a0 K, A2 a0 K → A a0 K) : FO 87 (q_ref_Small A2) := h.weak (by
  intro us k h
  unfold q_ref_Small at h ⊢
  split at h
  · exact hA _ _ h
  · exact h.elim)

def F_ref_Small (a0 : Int) (K : Int → Prop) : Prop :=
  (((decide ((65 : Int) ≤ a0)) = true → (((decide (a0 ≤ 90)) = true → K (IntKind.u8.wrap ((IntKind.u8.wrap (a0 - 65)) + 97))) ∧ ((decide (a0 ≤ 90)) = false → K a0))) ∧ ((decide ((65 : Int) ≤ a0)) = false → K a0))

def C_ref_Small : CallT sg := tab []
theorem Cok_ref_Small (o0 : Nat → Prop) : CalOK sy Tryz.prog GT ovD o0 GL (C_ref_Small) := tab_nil o0

theorem raw_ref_Small (a0 : Int) (k : W → Prop) : fnT sy Tryz.prog GT (C_ref_Small) noL Tryz.f87.ntmps (bodyOf Tryz.f87) [none] Tryz.f87.results.toList [.i .u8 a0] k = F_ref_Small a0 (fun r0 => k (.i .u8 r0)) := by kernel_rfl

theorem ok_ref_Small : FO 87 (q_ref_Small (F_ref_Small)) := (fn_ok (rc := [none]) (f := 87) (fn := Tryz.f87) (c := bodyOf Tryz.f87) (nt := Tryz.f87.ntmps) (res := Tryz.f87.results.toList) (C := C_ref_Small) (L := noL) (fun _ => rfl) Tryz.func87 (by kernel_rfl) rfl rfl (Cok_ref_Small) (lp_of (l := []) (by kernel_rfl) lp_nil)).weak (by
  intro us k h
  unfold q_ref_Small at h
  split at h
  · skip
    rename_i a0
    rw [raw_ref_Small a0 k]
    exact h
  · exact h.elim)

abbrev T_ref_Starts := Int → (Bool → Prop) → Prop
def q_ref_Starts (A : T_ref_Starts) (us : List W) (k : W → Prop) : Prop := match us with
  | [.i .u8 a0] => A a0 (fun r0 => k (.b r0))
  | _ => False
theorem q_ref_Starts_weak {A A2 : T_ref_Starts} (h : FO 62 (q_ref_Starts A)) (hA : ∀ a0 K, A2 a0 K → A a0 K) : FO 62 (q_ref_Starts A2) := h.weak (by
  intro us k h
  unfold q_ref_Starts at h ⊢
  split at h
  · exact hA _ _ h
  · exact h.elim)

def F_ref_Starts (A87 : T_ref_Small) (a0 : Int) (K : Bool → Prop) : Prop :=
  (A87 a0 (fun y1 => (((decide ((97 : Int) ≤ y1)) = true → (((decide (y1 ≤ 122)) = false → (((decide (a0 = 95)) = false → K (decide ((128 : Int) ≤ a0))) ∧ ((decide (a0 = 95)) = true → K true))) ∧ ((decide (y1 ≤ 122)) = true → K true))) ∧ ((decide ((97 : Int) ≤ y1)) = false → (((decide (a0 = 95)) = false → K (decide ((128 : Int) ≤ a0))) ∧ ((decide (a0 = 95)) = true → K true))))))

def C_ref_Starts (A87 : T_ref_Small) : CallT sg := tab [(87, con [none] (q_ref_Small A87))]
theorem Cok_ref_Starts (A87 : T_ref_Small) (h87 : FO 87 (q_ref_Small A87)) (o0 : Nat → Prop) : CalOK sy Tryz.prog GT ovD o0 GL (C_ref_Starts A87) := (tab_cons (con_ok h87) tab_nil) o0

theorem raw_ref_Starts (A87 : T_ref_Small) (a0 : Int) (k : W → Prop) : fnT sy Tryz.prog GT (C_ref_Starts A87) noL Tryz.f62.ntmps (bodyOf Tryz.f62) [none] Tryz.f62.results.toList [.i .u8 a0] k = F_ref_Starts A87 a0 (fun r0 => k (.b r0)) := by kernel_rfl

theorem ok_ref_Starts (A87 : T_ref_Small) (h87 : FO 87 (q_ref_Small A87)) : FO 62 (q_ref_Starts (F_ref_Starts A87)) := (fn_ok (rc := [none]) (f := 62) (fn := Tryz.f62) (c := bodyOf Tryz.f62) (nt := Tryz.f62.ntmps) (res := Tryz.f62.results.toList) (C := C_ref_Starts A87) (L := noL) (fun _ => rfl) Tryz.func62 (by kernel_rfl) rfl rfl (Cok_ref_Starts A87 h87) (lp_of (l := []) (by kernel_rfl) lp_nil)).weak (by
  intro us k h
  unfold q_ref_Starts at h
  split at h
  · skip
    rename_i a0
    rw [raw_ref_Starts A87 a0 k]
    exact h
  · exact h.elim)

abbrev T_ref_Escape := Bt → Int → (Bool → Prop) → Prop
def q_ref_Escape (A : T_ref_Escape) (us : List W) (k : W → Prop) : Prop := match us with
  | [.s a0, .i .i64 a1] => A a0 a1 (fun r0 => k (.b r0))
  | _ => False
theorem q_ref_Escape_weak {A A2 : T_ref_Escape} (h : FO 40 (q_ref_Escape A)) (hA : ∀ a0 a1 K, A2 a0 a1 K → A a0 a1 K) : FO 40 (q_ref_Escape A2) := h.weak (by
  intro us k h
  unfold q_ref_Escape at h ⊢
  split at h
  · exact hA _ _ _ h
  · exact h.elim)

def F_ref_Escape (A60 : T_ref_At) (a0 : Bt) (a1 : Int) (K : Bool → Prop) : Prop :=
  (A60 a0 a1 (fun y1 => (((decide (y1 = 92)) = true → (I64 (a1 + 1) ∧ (A60 a0 (a1 + 1) (fun y2 => K (decide (y2 ≠ 10)))))) ∧ ((decide (y1 = 92)) = false → K false))))

def C_ref_Escape (A60 : T_ref_At) : CallT sg := tab [(60, con [none, none] (q_ref_At A60))]
theorem Cok_ref_Escape (A60 : T_ref_At) (h60 : FO 60 (q_ref_At A60)) (o0 : Nat → Prop) : CalOK sy Tryz.prog GT ovD o0 GL (C_ref_Escape A60) := (tab_cons (con_ok h60) tab_nil) o0

theorem raw_ref_Escape (A60 : T_ref_At) (a0 : Bt) (a1 : Int) (k : W → Prop) : fnT sy Tryz.prog GT (C_ref_Escape A60) noL Tryz.f40.ntmps (bodyOf Tryz.f40) [none] Tryz.f40.results.toList [.s a0, .i .i64 a1] k = F_ref_Escape A60 a0 a1 (fun r0 => k (.b r0)) := by kernel_rfl

theorem ok_ref_Escape (A60 : T_ref_At) (h60 : FO 60 (q_ref_At A60)) : FO 40 (q_ref_Escape (F_ref_Escape A60)) := (fn_ok (rc := [none]) (f := 40) (fn := Tryz.f40) (c := bodyOf Tryz.f40) (nt := Tryz.f40.ntmps) (res := Tryz.f40.results.toList) (C := C_ref_Escape A60) (L := noL) (fun _ => rfl) Tryz.func40 (by kernel_rfl) rfl rfl (Cok_ref_Escape A60 h60) (lp_of (l := []) (by kernel_rfl) lp_nil)).weak (by
  intro us k h
  unfold q_ref_Escape at h
  split at h
  · skip
    rename_i a0 a1
    rw [raw_ref_Escape A60 a0 a1 k]
    exact h
  · exact h.elim)

abbrev T_ref_Letter := Int → (Bool → Prop) → Prop
def q_ref_Letter (A : T_ref_Letter) (us : List W) (k : W → Prop) : Prop := match us with
  | [.i .u8 a0] => A a0 (fun r0 => k (.b r0))
  | _ => False
theorem q_ref_Letter_weak {A A2 : T_ref_Letter} (h : FO 39 (q_ref_Letter A)) (hA : ∀ a0 K, A2 a0 K → A a0 K) : FO 39 (q_ref_Letter A2) := h.weak (by
  intro us k h
  unfold q_ref_Letter at h ⊢
  split at h
  · exact hA _ _ h
  · exact h.elim)

def F_ref_Letter (A62 : T_ref_Starts) (A63 : T_ref_Digit) (a0 : Int) (K : Bool → Prop) : Prop :=
  (A62 a0 (fun y1 => ((y1 = false → (A63 a0 (fun y2 => ((y2 = false → K (decide (a0 = 45))) ∧ (y2 = true → K true))))) ∧ (y1 = true → K true))))

def C_ref_Letter (A62 : T_ref_Starts) (A63 : T_ref_Digit) : CallT sg := tab [(62, con [none] (q_ref_Starts A62)), (63, con [none] (q_ref_Digit A63))]
theorem Cok_ref_Letter (A62 : T_ref_Starts) (A63 : T_ref_Digit) (h62 : FO 62 (q_ref_Starts A62)) (h63 : FO 63 (q_ref_Digit A63)) (o0 : Nat → Prop) : CalOK sy Tryz.prog GT ovD o0 GL (C_ref_Letter A62 A63) := (tab_cons (con_ok h62) (tab_cons (con_ok h63) tab_nil)) o0

theorem raw_ref_Letter (A62 : T_ref_Starts) (A63 : T_ref_Digit) (a0 : Int) (k : W → Prop) : fnT sy Tryz.prog GT (C_ref_Letter A62 A63) noL Tryz.f39.ntmps (bodyOf Tryz.f39) [none] Tryz.f39.results.toList [.i .u8 a0] k = F_ref_Letter A62 A63 a0 (fun r0 => k (.b r0)) := by kernel_rfl

theorem ok_ref_Letter (A62 : T_ref_Starts) (A63 : T_ref_Digit) (h62 : FO 62 (q_ref_Starts A62)) (h63 : FO 63 (q_ref_Digit A63)) : FO 39 (q_ref_Letter (F_ref_Letter A62 A63)) := (fn_ok (rc := [none]) (f := 39) (fn := Tryz.f39) (c := bodyOf Tryz.f39) (nt := Tryz.f39.ntmps) (res := Tryz.f39.results.toList) (C := C_ref_Letter A62 A63) (L := noL) (fun _ => rfl) Tryz.func39 (by kernel_rfl) rfl rfl (Cok_ref_Letter A62 A63 h62 h63) (lp_of (l := []) (by kernel_rfl) lp_nil)).weak (by
  intro us k h
  unfold q_ref_Letter at h
  split at h
  · skip
    rename_i a0
    rw [raw_ref_Letter A62 A63 a0 k]
    exact h
  · exact h.elim)

abbrev T_ref_lost := (Bt → Prop) → Prop
def q_ref_lost (A : T_ref_lost) (us : List W) (k : W → Prop) : Prop := match us with
  | [] => A (fun r0 => k (.s r0))
  | _ => False
theorem q_ref_lost_weak {A A2 : T_ref_lost} (h : FO 84 (q_ref_lost A)) (hA : ∀  K, A2  K → A  K) : FO 84 (q_ref_lost A2) := h.weak (by
  intro us k h
  unfold q_ref_lost at h ⊢
  split at h
  · exact hA _ h
  · exact h.elim)

def F_ref_lost (K : Bt → Prop) : Prop :=
  ((0 ≤ (239 : Int) ∧ (239 : Int) ≤ 255) ∧ ((0 ≤ (191 : Int) ∧ (191 : Int) ≤ 255) ∧ ((0 ≤ (189 : Int) ∧ (189 : Int) ≤ 255) ∧ K [UInt8.ofNat 239, UInt8.ofNat 191, UInt8.ofNat 189])))

def C_ref_lost : CallT sg := tab []
theorem Cok_ref_lost (o0 : Nat → Prop) : CalOK sy Tryz.prog GT ovD o0 GL (C_ref_lost) := tab_nil o0

theorem raw_ref_lost (k : W → Prop) : fnT sy Tryz.prog GT (C_ref_lost) noL Tryz.f84.ntmps (bodyOf Tryz.f84) [none] Tryz.f84.results.toList [] k = F_ref_lost (fun r0 => k (.s r0)) := by kernel_rfl

theorem ok_ref_lost : FO 84 (q_ref_lost (F_ref_lost)) := (fn_ok (rc := [none]) (f := 84) (fn := Tryz.f84) (c := bodyOf Tryz.f84) (nt := Tryz.f84.ntmps) (res := Tryz.f84.results.toList) (C := C_ref_lost) (L := noL) (fun _ => rfl) Tryz.func84 (by kernel_rfl) rfl rfl (Cok_ref_lost) (lp_of (l := []) (by kernel_rfl) lp_nil)).weak (by
  intro us k h
  unfold q_ref_lost at h
  split at h
  · skip
    rw [raw_ref_lost  k]
    exact h
  · exact h.elim)

abbrev T_ref_Hex := Int → (Int → Prop) → Prop
def q_ref_Hex (A : T_ref_Hex) (us : List W) (k : W → Prop) : Prop := match us with
  | [.i .u8 a0] => A a0 (fun r0 => k (.i .i64 r0))
  | _ => False
theorem q_ref_Hex_weak {A A2 : T_ref_Hex} (h : FO 85 (q_ref_Hex A)) (hA : ∀ a0 K, A2 a0 K → A a0 K) : FO 85 (q_ref_Hex A2) := h.weak (by
  intro us k h
  unfold q_ref_Hex at h ⊢
  split at h
  · exact hA _ _ h
  · exact h.elim)

def F_ref_Hex (A63 : T_ref_Digit) (A87 : T_ref_Small) (a0 : Int) (K : Int → Prop) : Prop :=
  (A63 a0 (fun y1 => ((y1 = true → (I64 (IntKind.u8.wrap (a0 - 48)) ∧ K (IntKind.u8.wrap (a0 - 48)))) ∧ (y1 = false → (A87 a0 (fun y2 => (((decide ((97 : Int) ≤ y2)) = true → (((decide (y2 ≤ 102)) = true → (I64 (IntKind.u8.wrap (y2 - 97)) ∧ (I64 ((IntKind.u8.wrap (y2 - 97)) + 10) ∧ K ((IntKind.u8.wrap (y2 - 97)) + 10)))) ∧ ((decide (y2 ≤ 102)) = false → K (-1 : Int)))) ∧ ((decide ((97 : Int) ≤ y2)) = false → K (-1 : Int)))))))))

def C_ref_Hex (A63 : T_ref_Digit) (A87 : T_ref_Small) : CallT sg := tab [(63, con [none] (q_ref_Digit A63)), (87, con [none] (q_ref_Small A87))]
theorem Cok_ref_Hex (A63 : T_ref_Digit) (A87 : T_ref_Small) (h63 : FO 63 (q_ref_Digit A63)) (h87 : FO 87 (q_ref_Small A87)) (o0 : Nat → Prop) : CalOK sy Tryz.prog GT ovD o0 GL (C_ref_Hex A63 A87) := (tab_cons (con_ok h63) (tab_cons (con_ok h87) tab_nil)) o0

theorem raw_ref_Hex (A63 : T_ref_Digit) (A87 : T_ref_Small) (a0 : Int) (k : W → Prop) : fnT sy Tryz.prog GT (C_ref_Hex A63 A87) noL Tryz.f85.ntmps (bodyOf Tryz.f85) [none] Tryz.f85.results.toList [.i .u8 a0] k = F_ref_Hex A63 A87 a0 (fun r0 => k (.i .i64 r0)) := by kernel_rfl

theorem ok_ref_Hex (A63 : T_ref_Digit) (A87 : T_ref_Small) (h63 : FO 63 (q_ref_Digit A63)) (h87 : FO 87 (q_ref_Small A87)) : FO 85 (q_ref_Hex (F_ref_Hex A63 A87)) := (fn_ok (rc := [none]) (f := 85) (fn := Tryz.f85) (c := bodyOf Tryz.f85) (nt := Tryz.f85.ntmps) (res := Tryz.f85.results.toList) (C := C_ref_Hex A63 A87) (L := noL) (fun _ => rfl) Tryz.func85 (by kernel_rfl) rfl rfl (Cok_ref_Hex A63 A87 h63 h87) (lp_of (l := []) (by kernel_rfl) lp_nil)).weak (by
  intro us k h
  unfold q_ref_Hex at h
  split at h
  · skip
    rename_i a0
    rw [raw_ref_Hex A63 A87 a0 k]
    exact h
  · exact h.elim)

abbrev T_ref_Space := Int → (Bool → Prop) → Prop
def q_ref_Space (A : T_ref_Space) (us : List W) (k : W → Prop) : Prop := match us with
  | [.i .u8 a0] => A a0 (fun r0 => k (.b r0))
  | _ => False
theorem q_ref_Space_weak {A A2 : T_ref_Space} (h : FO 36 (q_ref_Space A)) (hA : ∀ a0 K, A2 a0 K → A a0 K) : FO 36 (q_ref_Space A2) := h.weak (by
  intro us k h
  unfold q_ref_Space at h ⊢
  split at h
  · exact hA _ _ h
  · exact h.elim)

def F_ref_Space (a0 : Int) (K : Bool → Prop) : Prop :=
  (((decide (a0 = 10)) = false → (((decide (a0 = 9)) = false → K (decide (a0 = 32))) ∧ ((decide (a0 = 9)) = true → K true))) ∧ ((decide (a0 = 10)) = true → K true))

def C_ref_Space : CallT sg := tab []
theorem Cok_ref_Space (o0 : Nat → Prop) : CalOK sy Tryz.prog GT ovD o0 GL (C_ref_Space) := tab_nil o0

theorem raw_ref_Space (a0 : Int) (k : W → Prop) : fnT sy Tryz.prog GT (C_ref_Space) noL Tryz.f36.ntmps (bodyOf Tryz.f36) [none] Tryz.f36.results.toList [.i .u8 a0] k = F_ref_Space a0 (fun r0 => k (.b r0)) := by kernel_rfl

theorem ok_ref_Space : FO 36 (q_ref_Space (F_ref_Space)) := (fn_ok (rc := [none]) (f := 36) (fn := Tryz.f36) (c := bodyOf Tryz.f36) (nt := Tryz.f36.ntmps) (res := Tryz.f36.results.toList) (C := C_ref_Space) (L := noL) (fun _ => rfl) Tryz.func36 (by kernel_rfl) rfl rfl (Cok_ref_Space) (lp_of (l := []) (by kernel_rfl) lp_nil)).weak (by
  intro us k h
  unfold q_ref_Space at h
  split at h
  · skip
    rename_i a0
    rw [raw_ref_Space a0 k]
    exact h
  · exact h.elim)

abbrev T_ref_UTF8 := Int → (Bt → Prop) → Prop
def q_ref_UTF8 (A : T_ref_UTF8) (us : List W) (k : W → Prop) : Prop := match us with
  | [.i .i64 a0] => A a0 (fun r0 => k (.s r0))
  | _ => False
theorem q_ref_UTF8_weak {A A2 : T_ref_UTF8} (h : FO 86 (q_ref_UTF8 A)) (hA : ∀ a0 K, A2 a0 K → A a0 K) : FO 86 (q_ref_UTF8 A2) := h.weak (by
  intro us k h
  unfold q_ref_UTF8 at h ⊢
  split at h
  · exact hA _ _ h
  · exact h.elim)

def F_ref_UTF8 (A84 : T_ref_lost) (a0 : Int) (K : Bt → Prop) : Prop :=
  (((decide (a0 = 0)) = false → (((decide ((55296 : Int) ≤ a0)) = true → (((decide (a0 ≤ 57343)) = false → (((decide ((1114111 : Int) < a0)) = true → (A84 (fun y1 => K y1))) ∧ ((decide ((1114111 : Int) < a0)) = false → (((decide (a0 < 128)) = true → ((0 ≤ (IntKind.u8.wrap a0) ∧ (IntKind.u8.wrap a0) ≤ 255) ∧ K [UInt8.ofNat ((IntKind.u8.wrap a0).toNat)])) ∧ ((decide (a0 < 128)) = false → (((decide (a0 < 2048)) = true → ((64 : Int) ≠ 0 ∧ (I64 (a0.tdiv (64 : Int)) ∧ (I64 ((192 : Int) + (a0.tdiv (64 : Int))) ∧ ((64 : Int) ≠ 0 ∧ (I64 ((128 : Int) + (a0.tmod (64 : Int))) ∧ ((0 ≤ (IntKind.u8.wrap ((192 : Int) + (a0.tdiv (64 : Int)))) ∧ (IntKind.u8.wrap ((192 : Int) + (a0.tdiv (64 : Int)))) ≤ 255) ∧ ((0 ≤ (IntKind.u8.wrap ((128 : Int) + (a0.tmod (64 : Int)))) ∧ (IntKind.u8.wrap ((128 : Int) + (a0.tmod (64 : Int)))) ≤ 255) ∧ K [UInt8.ofNat ((IntKind.u8.wrap ((192 : Int) + (a0.tdiv (64 : Int)))).toNat), UInt8.ofNat ((IntKind.u8.wrap ((128 : Int) + (a0.tmod (64 : Int)))).toNat)])))))))) ∧ ((decide (a0 < 2048)) = false → (((decide (a0 < 65536)) = true → ((4096 : Int) ≠ 0 ∧ (I64 (a0.tdiv (4096 : Int)) ∧ (I64 ((224 : Int) + (a0.tdiv (4096 : Int))) ∧ ((64 : Int) ≠ 0 ∧ (I64 (a0.tdiv (64 : Int)) ∧ ((64 : Int) ≠ 0 ∧ (I64 ((128 : Int) + ((a0.tdiv (64 : Int)).tmod (64 : Int))) ∧ ((64 : Int) ≠ 0 ∧ (I64 ((128 : Int) + (a0.tmod (64 : Int))) ∧ ((0 ≤ (IntKind.u8.wrap ((224 : Int) + (a0.tdiv (4096 : Int)))) ∧ (IntKind.u8.wrap ((224 : Int) + (a0.tdiv (4096 : Int)))) ≤ 255) ∧ ((0 ≤ (IntKind.u8.wrap ((128 : Int) + ((a0.tdiv (64 : Int)).tmod (64 : Int)))) ∧ (IntKind.u8.wrap ((128 : Int) + ((a0.tdiv (64 : Int)).tmod (64 : Int)))) ≤ 255) ∧ ((0 ≤ (IntKind.u8.wrap ((128 : Int) + (a0.tmod (64 : Int)))) ∧ (IntKind.u8.wrap ((128 : Int) + (a0.tmod (64 : Int)))) ≤ 255) ∧ K [UInt8.ofNat ((IntKind.u8.wrap ((224 : Int) + (a0.tdiv (4096 : Int)))).toNat), UInt8.ofNat ((IntKind.u8.wrap ((128 : Int) + ((a0.tdiv (64 : Int)).tmod (64 : Int)))).toNat), UInt8.ofNat ((IntKind.u8.wrap ((128 : Int) + (a0.tmod (64 : Int)))).toNat)]))))))))))))) ∧ ((decide (a0 < 65536)) = false → ((262144 : Int) ≠ 0 ∧ (I64 (a0.tdiv (262144 : Int)) ∧ (I64 ((240 : Int) + (a0.tdiv (262144 : Int))) ∧ ((4096 : Int) ≠ 0 ∧ (I64 (a0.tdiv (4096 : Int)) ∧ ((64 : Int) ≠ 0 ∧ (I64 ((128 : Int) + ((a0.tdiv (4096 : Int)).tmod (64 : Int))) ∧ ((64 : Int) ≠ 0 ∧ (I64 (a0.tdiv (64 : Int)) ∧ ((64 : Int) ≠ 0 ∧ (I64 ((128 : Int) + ((a0.tdiv (64 : Int)).tmod (64 : Int))) ∧ ((64 : Int) ≠ 0 ∧ (I64 ((128 : Int) + (a0.tmod (64 : Int))) ∧ ((0 ≤ (IntKind.u8.wrap ((240 : Int) + (a0.tdiv (262144 : Int)))) ∧ (IntKind.u8.wrap ((240 : Int) + (a0.tdiv (262144 : Int)))) ≤ 255) ∧ ((0 ≤ (IntKind.u8.wrap ((128 : Int) + ((a0.tdiv (4096 : Int)).tmod (64 : Int)))) ∧ (IntKind.u8.wrap ((128 : Int) + ((a0.tdiv (4096 : Int)).tmod (64 : Int)))) ≤ 255) ∧ ((0 ≤ (IntKind.u8.wrap ((128 : Int) + ((a0.tdiv (64 : Int)).tmod (64 : Int)))) ∧ (IntKind.u8.wrap ((128 : Int) + ((a0.tdiv (64 : Int)).tmod (64 : Int)))) ≤ 255) ∧ ((0 ≤ (IntKind.u8.wrap ((128 : Int) + (a0.tmod (64 : Int)))) ∧ (IntKind.u8.wrap ((128 : Int) + (a0.tmod (64 : Int)))) ≤ 255) ∧ K [UInt8.ofNat ((IntKind.u8.wrap ((240 : Int) + (a0.tdiv (262144 : Int)))).toNat), UInt8.ofNat ((IntKind.u8.wrap ((128 : Int) + ((a0.tdiv (4096 : Int)).tmod (64 : Int)))).toNat), UInt8.ofNat ((IntKind.u8.wrap ((128 : Int) + ((a0.tdiv (64 : Int)).tmod (64 : Int)))).toNat), UInt8.ofNat ((IntKind.u8.wrap ((128 : Int) + (a0.tmod (64 : Int)))).toNat)])))))))))))))))))))))))))) ∧ ((decide (a0 ≤ 57343)) = true → (A84 (fun y2 => K y2))))) ∧ ((decide ((55296 : Int) ≤ a0)) = false → (((decide ((1114111 : Int) < a0)) = true → (A84 (fun y3 => K y3))) ∧ ((decide ((1114111 : Int) < a0)) = false → (((decide (a0 < 128)) = true → ((0 ≤ (IntKind.u8.wrap a0) ∧ (IntKind.u8.wrap a0) ≤ 255) ∧ K [UInt8.ofNat ((IntKind.u8.wrap a0).toNat)])) ∧ ((decide (a0 < 128)) = false → (((decide (a0 < 2048)) = true → ((64 : Int) ≠ 0 ∧ (I64 (a0.tdiv (64 : Int)) ∧ (I64 ((192 : Int) + (a0.tdiv (64 : Int))) ∧ ((64 : Int) ≠ 0 ∧ (I64 ((128 : Int) + (a0.tmod (64 : Int))) ∧ ((0 ≤ (IntKind.u8.wrap ((192 : Int) + (a0.tdiv (64 : Int)))) ∧ (IntKind.u8.wrap ((192 : Int) + (a0.tdiv (64 : Int)))) ≤ 255) ∧ ((0 ≤ (IntKind.u8.wrap ((128 : Int) + (a0.tmod (64 : Int)))) ∧ (IntKind.u8.wrap ((128 : Int) + (a0.tmod (64 : Int)))) ≤ 255) ∧ K [UInt8.ofNat ((IntKind.u8.wrap ((192 : Int) + (a0.tdiv (64 : Int)))).toNat), UInt8.ofNat ((IntKind.u8.wrap ((128 : Int) + (a0.tmod (64 : Int)))).toNat)])))))))) ∧ ((decide (a0 < 2048)) = false → (((decide (a0 < 65536)) = true → ((4096 : Int) ≠ 0 ∧ (I64 (a0.tdiv (4096 : Int)) ∧ (I64 ((224 : Int) + (a0.tdiv (4096 : Int))) ∧ ((64 : Int) ≠ 0 ∧ (I64 (a0.tdiv (64 : Int)) ∧ ((64 : Int) ≠ 0 ∧ (I64 ((128 : Int) + ((a0.tdiv (64 : Int)).tmod (64 : Int))) ∧ ((64 : Int) ≠ 0 ∧ (I64 ((128 : Int) + (a0.tmod (64 : Int))) ∧ ((0 ≤ (IntKind.u8.wrap ((224 : Int) + (a0.tdiv (4096 : Int)))) ∧ (IntKind.u8.wrap ((224 : Int) + (a0.tdiv (4096 : Int)))) ≤ 255) ∧ ((0 ≤ (IntKind.u8.wrap ((128 : Int) + ((a0.tdiv (64 : Int)).tmod (64 : Int)))) ∧ (IntKind.u8.wrap ((128 : Int) + ((a0.tdiv (64 : Int)).tmod (64 : Int)))) ≤ 255) ∧ ((0 ≤ (IntKind.u8.wrap ((128 : Int) + (a0.tmod (64 : Int)))) ∧ (IntKind.u8.wrap ((128 : Int) + (a0.tmod (64 : Int)))) ≤ 255) ∧ K [UInt8.ofNat ((IntKind.u8.wrap ((224 : Int) + (a0.tdiv (4096 : Int)))).toNat), UInt8.ofNat ((IntKind.u8.wrap ((128 : Int) + ((a0.tdiv (64 : Int)).tmod (64 : Int)))).toNat), UInt8.ofNat ((IntKind.u8.wrap ((128 : Int) + (a0.tmod (64 : Int)))).toNat)]))))))))))))) ∧ ((decide (a0 < 65536)) = false → ((262144 : Int) ≠ 0 ∧ (I64 (a0.tdiv (262144 : Int)) ∧ (I64 ((240 : Int) + (a0.tdiv (262144 : Int))) ∧ ((4096 : Int) ≠ 0 ∧ (I64 (a0.tdiv (4096 : Int)) ∧ ((64 : Int) ≠ 0 ∧ (I64 ((128 : Int) + ((a0.tdiv (4096 : Int)).tmod (64 : Int))) ∧ ((64 : Int) ≠ 0 ∧ (I64 (a0.tdiv (64 : Int)) ∧ ((64 : Int) ≠ 0 ∧ (I64 ((128 : Int) + ((a0.tdiv (64 : Int)).tmod (64 : Int))) ∧ ((64 : Int) ≠ 0 ∧ (I64 ((128 : Int) + (a0.tmod (64 : Int))) ∧ ((0 ≤ (IntKind.u8.wrap ((240 : Int) + (a0.tdiv (262144 : Int)))) ∧ (IntKind.u8.wrap ((240 : Int) + (a0.tdiv (262144 : Int)))) ≤ 255) ∧ ((0 ≤ (IntKind.u8.wrap ((128 : Int) + ((a0.tdiv (4096 : Int)).tmod (64 : Int)))) ∧ (IntKind.u8.wrap ((128 : Int) + ((a0.tdiv (4096 : Int)).tmod (64 : Int)))) ≤ 255) ∧ ((0 ≤ (IntKind.u8.wrap ((128 : Int) + ((a0.tdiv (64 : Int)).tmod (64 : Int)))) ∧ (IntKind.u8.wrap ((128 : Int) + ((a0.tdiv (64 : Int)).tmod (64 : Int)))) ≤ 255) ∧ ((0 ≤ (IntKind.u8.wrap ((128 : Int) + (a0.tmod (64 : Int)))) ∧ (IntKind.u8.wrap ((128 : Int) + (a0.tmod (64 : Int)))) ≤ 255) ∧ K [UInt8.ofNat ((IntKind.u8.wrap ((240 : Int) + (a0.tdiv (262144 : Int)))).toNat), UInt8.ofNat ((IntKind.u8.wrap ((128 : Int) + ((a0.tdiv (4096 : Int)).tmod (64 : Int)))).toNat), UInt8.ofNat ((IntKind.u8.wrap ((128 : Int) + ((a0.tdiv (64 : Int)).tmod (64 : Int)))).toNat), UInt8.ofNat ((IntKind.u8.wrap ((128 : Int) + (a0.tmod (64 : Int)))).toNat)])))))))))))))))))))))))))))) ∧ ((decide (a0 = 0)) = true → (A84 (fun y4 => K y4))))

def C_ref_UTF8 (A84 : T_ref_lost) : CallT sg := tab [(84, con [] (q_ref_lost A84))]
theorem Cok_ref_UTF8 (A84 : T_ref_lost) (h84 : FO 84 (q_ref_lost A84)) (o0 : Nat → Prop) : CalOK sy Tryz.prog GT ovD o0 GL (C_ref_UTF8 A84) := (tab_cons (con_ok h84) tab_nil) o0

theorem raw_ref_UTF8 (A84 : T_ref_lost) (a0 : Int) (k : W → Prop) : fnT sy Tryz.prog GT (C_ref_UTF8 A84) noL Tryz.f86.ntmps (bodyOf Tryz.f86) [none] Tryz.f86.results.toList [.i .i64 a0] k = F_ref_UTF8 A84 a0 (fun r0 => k (.s r0)) := by kernel_rfl

theorem ok_ref_UTF8 (A84 : T_ref_lost) (h84 : FO 84 (q_ref_lost A84)) : FO 86 (q_ref_UTF8 (F_ref_UTF8 A84)) := (fn_ok (rc := [none]) (f := 86) (fn := Tryz.f86) (c := bodyOf Tryz.f86) (nt := Tryz.f86.ntmps) (res := Tryz.f86.results.toList) (C := C_ref_UTF8 A84) (L := noL) (fun _ => rfl) Tryz.func86 (by kernel_rfl) rfl rfl (Cok_ref_UTF8 A84 h84) (lp_of (l := []) (by kernel_rfl) lp_nil)).weak (by
  intro us k h
  unfold q_ref_UTF8 at h
  split at h
  · skip
    rename_i a0
    rw [raw_ref_UTF8 A84 a0 k]
    exact h
  · exact h.elim)

abbrev T_ref_Ed := Bt → Int → (Bt → Int → Prop) → Prop
def q_ref_Ed (A : T_ref_Ed) (us : List W) (k : W → Prop) : Prop := match us with
  | [.s a0, .i .i64 a1] => A a0 a1 (fun r0 r1 => k (.t [.s r0, .i .i64 r1]))
  | _ => False
theorem q_ref_Ed_weak {A A2 : T_ref_Ed} (h : FO 61 (q_ref_Ed A)) (hA : ∀ a0 a1 K, A2 a0 a1 K → A a0 a1 K) : FO 61 (q_ref_Ed A2) := h.weak (by
  intro us k h
  unfold q_ref_Ed at h ⊢
  split at h
  · exact hA _ _ _ h
  · exact h.elim)

def F_ref_Ed_l7 (A84 : T_ref_lost) (A85 : T_ref_Hex) (A60 : T_ref_At) (A36 : T_ref_Space) (A86 : T_ref_UTF8) : Nat → Bt → Int → Int → Int → (Bt → Int → Int → Prop) → Prop
  | 0, _, _, _, _, _ => False
  | n + 1, x0, x1, x6, x7, Ke => (((decide (x7 < (x0.length : Int))) = true → (I64 (x1 + 6) ∧ (((decide (x7 < (x1 + 6))) = true → ((0 ≤ x7 ∧ x7 < (x0.length : Int)) ∧ (A85 ((x0.getD x7.toNat 0).toNat : Int) (fun y1 => (((decide ((0 : Int) ≤ y1)) = true → (I64 ((16 : Int) * x6) ∧ ((0 ≤ x7 ∧ x7 < (x0.length : Int)) ∧ (A85 ((x0.getD x7.toNat 0).toNat : Int) (fun y2 => (I64 (((16 : Int) * x6) + y2) ∧ (I64 (x7 + 1) ∧ F_ref_Ed_l7 A84 A85 A60 A36 A86 n x0 x1 (((16 : Int) * x6) + y2) (x7 + 1) Ke))))))) ∧ ((decide ((0 : Int) ≤ y1)) = false → Ke x0 x6 x7)))))) ∧ ((decide (x7 < (x1 + 6))) = false → Ke x0 x6 x7)))) ∧ ((decide (x7 < (x0.length : Int))) = false → Ke x0 x6 x7))

def F_ref_Ed (A84 : T_ref_lost) (A85 : T_ref_Hex) (A60 : T_ref_At) (A36 : T_ref_Space) (A86 : T_ref_UTF8) (a0 : Bt) (a1 : Int) (K : Bt → Int → Prop) : Prop :=
  (I64 (a1 + 1) ∧ (((decide ((a0.length : Int) ≤ (a1 + 1))) = true → (A84 (fun y1 => K y1 (a1 + 1)))) ∧ ((decide ((a0.length : Int) ≤ (a1 + 1))) = false → ((0 ≤ (a1 + 1) ∧ (a1 + 1) < (a0.length : Int)) ∧ (A85 ((a0.getD (a1 + 1).toNat 0).toNat : Int) (fun y2 => (((decide (y2 < 0)) = true → (I64 ((a1 + 1) + 1) ∧ ((0 ≤ (a1 + 1) ∧ (a1 + 1) ≤ ((a1 + 1) + 1) ∧ ((a1 + 1) + 1) ≤ (a0.length : Int)) ∧ (I64 ((a1 + 1) + 1) ∧ K ((a0.drop (a1 + 1).toNat).take (((a1 + 1) + 1).toNat - (a1 + 1).toNat)) ((a1 + 1) + 1))))) ∧ ((decide (y2 < 0)) = false → (∃ m, F_ref_Ed_l7 A84 A85 A60 A36 A86 m a0 (a1 + 1) (0 : Int) (a1 + 1) (fun y3 y4 y5 => (A60 y3 y5 (fun y6 => (A36 y6 (fun y7 => ((y7 = true → (I64 (y5 + 1) ∧ (A86 y4 (fun y8 => K y8 (y5 + 1))))) ∧ (y7 = false → (A86 y4 (fun y9 => K y9 y5))))))))))))))))))

def C_ref_Ed (A84 : T_ref_lost) (A85 : T_ref_Hex) (A60 : T_ref_At) (A36 : T_ref_Space) (A86 : T_ref_UTF8) : CallT sg := tab [(84, con [] (q_ref_lost A84)), (85, con [none] (q_ref_Hex A85)), (60, con [none, none] (q_ref_At A60)), (36, con [none] (q_ref_Space A36)), (86, con [none] (q_ref_UTF8 A86))]
theorem Cok_ref_Ed (A84 : T_ref_lost) (A85 : T_ref_Hex) (A60 : T_ref_At) (A36 : T_ref_Space) (A86 : T_ref_UTF8) (h84 : FO 84 (q_ref_lost A84)) (h85 : FO 85 (q_ref_Hex A85)) (h60 : FO 60 (q_ref_At A60)) (h36 : FO 36 (q_ref_Space A36)) (h86 : FO 86 (q_ref_UTF8 A86)) (o0 : Nat → Prop) : CalOK sy Tryz.prog GT ovD o0 GL (C_ref_Ed A84 A85 A60 A36 A86) := (tab_cons (con_ok h84) (tab_cons (con_ok h85) (tab_cons (con_ok h60) (tab_cons (con_ok h36) (tab_cons (con_ok h86) tab_nil))))) o0

def ls_ref_Ed_7 : LS sy ((Bt) × Int × Int × Int × Unit) Unit := ⟨[], fCons 0 (vStr sy) (fCons 1 (vInt sy .i64) (fCons 6 (vInt sy .i64) (fCons 7 (vInt sy .i64) (fNil sy)))), hNil sy, 0, []⟩
def le_ref_Ed_7 : LS sy ((Bt) × Int × Int × Unit) Unit := ⟨[], fCons 0 (vStr sy) (fCons 6 (vInt sy .i64) (fCons 7 (vInt sy .i64) (fNil sy))), hNil sy, 0, []⟩
def lr_ref_Ed_7 : LS sy Unit Unit := ⟨[], fNil sy, hNil sy, 0, []⟩
def FF_ref_Ed_7 (A84 : T_ref_lost) (A85 : T_ref_Hex) (A60 : T_ref_At) (A36 : T_ref_Space) (A86 : T_ref_UTF8) (n : Nat) (x : ((Bt) × Int × Int × Int × Unit) × Unit) (K : Ex → Z sg → Prop) : Prop := F_ref_Ed_l7 A84 A85 A60 A36 A86 n x.1.1 x.1.2.1 x.1.2.2.1 x.1.2.2.2.1 (fun y0 y1 y2 => K (.exit 0) (le_ref_Ed_7.put ((y0, y1, y2, ()), ())))
def h_ref_Ed_7 (A84 : T_ref_lost) (A85 : T_ref_Hex) (A60 : T_ref_At) (A36 : T_ref_Space) (A86 : T_ref_UTF8) (z : Z sg) (K : Ex → Z sg → Prop) : Prop := ls_ref_Ed_7.get z (fun x => ∃ n, FF_ref_Ed_7 A84 A85 A60 A36 A86 n x K)
def L_ref_Ed (A84 : T_ref_lost) (A85 : T_ref_Hex) (A60 : T_ref_At) (A36 : T_ref_Space) (A86 : T_ref_UTF8) : LoopT sg := tabL [(7, h_ref_Ed_7 A84 A85 A60 A36 A86)]
theorem hs_ref_Ed_7 (A84 : T_ref_lost) (A85 : T_ref_Hex) (A60 : T_ref_At) (A36 : T_ref_Space) (A86 : T_ref_UTF8) (n : Nat) (x : ((Bt) × Int × Int × Int × Unit) × Unit) (K : Ex → Z sg → Prop) : forceZ (ls_ref_Ed_7.put x) (fun z => sC sy Tryz.prog GT (C_ref_Ed A84 A85 A60 A36 A86) (L_ref_Ed A84 A85 A60 A36 A86) Tryz.f61.ntmps (nthLoop (bodyOf Tryz.f61) 0) z (rnd ls_ref_Ed_7 (czT 0 le_ref_Ed_7 lr_ref_Ed_7) (fun x => FF_ref_Ed_7 A84 A85 A60 A36 A86 n x K) K)) = FF_ref_Ed_7 A84 A85 A60 A36 A86 (n + 1) x K := by kernel_rfl
theorem hl_ref_Ed_7 (A84 : T_ref_lost) (A85 : T_ref_Hex) (A60 : T_ref_At) (A36 : T_ref_Space) (A86 : T_ref_UTF8) (z : Z sg) (K : Ex → Z sg → Prop) : (L_ref_Ed A84 A85 A60 A36 A86) (nthLoop (bodyOf Tryz.f61) 0) z K = ls_ref_Ed_7.get z (fun x => ∃ n, FF_ref_Ed_7 A84 A85 A60 A36 A86 n x K) := by kernel_rfl
theorem lo_ref_Ed_7 (A84 : T_ref_lost) (A85 : T_ref_Hex) (A60 : T_ref_At) (A36 : T_ref_Space) (A86 : T_ref_UTF8) (h84 : FO 84 (q_ref_lost A84)) (h85 : FO 85 (q_ref_Hex A85)) (h60 : FO 60 (q_ref_At A60)) (h36 : FO 36 (q_ref_Space A36)) (h86 : FO 86 (q_ref_UTF8 A86)) : ∀ (o0 : Nat → Prop) (B : Bs sg), B.E.length ≤ 0 → ∀ z K, (L_ref_Ed A84 A85 A60 A36 A86) (nthLoop (bodyOf Tryz.f61) 0) z K → Sx.Sem sy Tryz.prog GT ovD o0 GL Tryz.f61.ntmps B (.loop (nthLoop (bodyOf Tryz.f61) 0)) z K :=
  loop_ok (Cok_ref_Ed A84 A85 A60 A36 A86 h84 h85 h60 h36 h86) (lp_of (l := []) (by kernel_rfl) lp_nil) ls_ref_Ed_7 (by decide) (czT 0 le_ref_Ed_7 lr_ref_Ed_7) (fun _ _ hB => czT_ok 0 le_ref_Ed_7 lr_ref_Ed_7 (Nat.le_trans hB (by decide)) (Nat.le_trans hB (by decide))) (fun _ _ h => h) (hs_ref_Ed_7 A84 A85 A60 A36 A86) (hl_ref_Ed_7 A84 A85 A60 A36 A86)
theorem Lp_ref_Ed (A84 : T_ref_lost) (A85 : T_ref_Hex) (A60 : T_ref_At) (A36 : T_ref_Space) (A86 : T_ref_UTF8) (h84 : FO 84 (q_ref_lost A84)) (h85 : FO 85 (q_ref_Hex A85)) (h60 : FO 60 (q_ref_At A60)) (h36 : FO 36 (q_ref_Space A36)) (h86 : FO 86 (q_ref_UTF8 A86)) : LpOK sy Tryz.prog GT ovD GL (L_ref_Ed A84 A85 A60 A36 A86) 0 Tryz.f61.ntmps (bodyOf Tryz.f61) := lp_of (l := [(nthLoop (bodyOf Tryz.f61) 0)]) (by kernel_rfl) (lp_cons (lo_ref_Ed_7 A84 A85 A60 A36 A86 h84 h85 h60 h36 h86) lp_nil)


theorem raw_ref_Ed (A84 : T_ref_lost) (A85 : T_ref_Hex) (A60 : T_ref_At) (A36 : T_ref_Space) (A86 : T_ref_UTF8) (a0 : Bt) (a1 : Int) (k : W → Prop) : fnT sy Tryz.prog GT (C_ref_Ed A84 A85 A60 A36 A86) (L_ref_Ed A84 A85 A60 A36 A86) Tryz.f61.ntmps (bodyOf Tryz.f61) [none, none] Tryz.f61.results.toList [.s a0, .i .i64 a1] k = F_ref_Ed A84 A85 A60 A36 A86 a0 a1 (fun r0 r1 => k (.t [.s r0, .i .i64 r1])) := by kernel_rfl

theorem ok_ref_Ed (A84 : T_ref_lost) (A85 : T_ref_Hex) (A60 : T_ref_At) (A36 : T_ref_Space) (A86 : T_ref_UTF8) (h84 : FO 84 (q_ref_lost A84)) (h85 : FO 85 (q_ref_Hex A85)) (h60 : FO 60 (q_ref_At A60)) (h36 : FO 36 (q_ref_Space A36)) (h86 : FO 86 (q_ref_UTF8 A86)) : FO 61 (q_ref_Ed (F_ref_Ed A84 A85 A60 A36 A86)) := (fn_ok (rc := [none, none]) (f := 61) (fn := Tryz.f61) (c := bodyOf Tryz.f61) (nt := Tryz.f61.ntmps) (res := Tryz.f61.results.toList) (C := C_ref_Ed A84 A85 A60 A36 A86) (L := (L_ref_Ed A84 A85 A60 A36 A86)) (fun _ => rfl) Tryz.func61 (by kernel_rfl) rfl rfl (Cok_ref_Ed A84 A85 A60 A36 A86 h84 h85 h60 h36 h86) (Lp_ref_Ed A84 A85 A60 A36 A86 h84 h85 h60 h36 h86)).weak (by
  intro us k h
  unfold q_ref_Ed at h
  split at h
  · skip
    rename_i a0 a1
    rw [raw_ref_Ed A84 A85 A60 A36 A86 a0 a1 k]
    exact h
  · exact h.elim)

abbrev T_ref_NameAt := Bt → Int → (Bool → Prop) → Prop
def q_ref_NameAt (A : T_ref_NameAt) (us : List W) (k : W → Prop) : Prop := match us with
  | [.s a0, .i .i64 a1] => A a0 a1 (fun r0 => k (.b r0))
  | _ => False
theorem q_ref_NameAt_weak {A A2 : T_ref_NameAt} (h : FO 42 (q_ref_NameAt A)) (hA : ∀ a0 a1 K, A2 a0 a1 K → A a0 a1 K) : FO 42 (q_ref_NameAt A2) := h.weak (by
  intro us k h
  unfold q_ref_NameAt at h ⊢
  split at h
  · exact hA _ _ _ h
  · exact h.elim)

def F_ref_NameAt (A60 : T_ref_At) (A62 : T_ref_Starts) (A40 : T_ref_Escape) (a0 : Bt) (a1 : Int) (K : Bool → Prop) : Prop :=
  (A60 a0 a1 (fun y1 => (((decide (y1 = 45)) = true → (I64 (a1 + 1) ∧ (A60 a0 (a1 + 1) (fun y2 => (A62 y2 (fun y3 => ((y3 = false → (I64 (a1 + 1) ∧ (A60 a0 (a1 + 1) (fun y4 => (((decide (y4 = 45)) = false → (I64 (a1 + 1) ∧ (A40 a0 (a1 + 1) (fun y5 => K y5)))) ∧ ((decide (y4 = 45)) = true → K true)))))) ∧ (y3 = true → K true)))))))) ∧ ((decide (y1 = 45)) = false → (A60 a0 a1 (fun y6 => (A62 y6 (fun y7 => ((y7 = false → (A40 a0 a1 (fun y8 => K y8))) ∧ (y7 = true → K true))))))))))

def C_ref_NameAt (A60 : T_ref_At) (A62 : T_ref_Starts) (A40 : T_ref_Escape) : CallT sg := tab [(60, con [none, none] (q_ref_At A60)), (62, con [none] (q_ref_Starts A62)), (40, con [none, none] (q_ref_Escape A40))]
theorem Cok_ref_NameAt (A60 : T_ref_At) (A62 : T_ref_Starts) (A40 : T_ref_Escape) (h60 : FO 60 (q_ref_At A60)) (h62 : FO 62 (q_ref_Starts A62)) (h40 : FO 40 (q_ref_Escape A40)) (o0 : Nat → Prop) : CalOK sy Tryz.prog GT ovD o0 GL (C_ref_NameAt A60 A62 A40) := (tab_cons (con_ok h60) (tab_cons (con_ok h62) (tab_cons (con_ok h40) tab_nil))) o0

theorem raw_ref_NameAt (A60 : T_ref_At) (A62 : T_ref_Starts) (A40 : T_ref_Escape) (a0 : Bt) (a1 : Int) (k : W → Prop) : fnT sy Tryz.prog GT (C_ref_NameAt A60 A62 A40) noL Tryz.f42.ntmps (bodyOf Tryz.f42) [none] Tryz.f42.results.toList [.s a0, .i .i64 a1] k = F_ref_NameAt A60 A62 A40 a0 a1 (fun r0 => k (.b r0)) := by kernel_rfl

theorem ok_ref_NameAt (A60 : T_ref_At) (A62 : T_ref_Starts) (A40 : T_ref_Escape) (h60 : FO 60 (q_ref_At A60)) (h62 : FO 62 (q_ref_Starts A62)) (h40 : FO 40 (q_ref_Escape A40)) : FO 42 (q_ref_NameAt (F_ref_NameAt A60 A62 A40)) := (fn_ok (rc := [none]) (f := 42) (fn := Tryz.f42) (c := bodyOf Tryz.f42) (nt := Tryz.f42.ntmps) (res := Tryz.f42.results.toList) (C := C_ref_NameAt A60 A62 A40) (L := noL) (fun _ => rfl) Tryz.func42 (by kernel_rfl) rfl rfl (Cok_ref_NameAt A60 A62 A40 h60 h62 h40) (lp_of (l := []) (by kernel_rfl) lp_nil)).weak (by
  intro us k h
  unfold q_ref_NameAt at h
  split at h
  · skip
    rename_i a0 a1
    rw [raw_ref_NameAt A60 A62 A40 a0 a1 k]
    exact h
  · exact h.elim)

abbrev T_ref_Named := Bt → Int → (Bt → Int → Prop) → Prop
def q_ref_Named (A : T_ref_Named) (us : List W) (k : W → Prop) : Prop := match us with
  | [.s a0, .i .i64 a1] => A a0 a1 (fun r0 r1 => k (.t [.s r0, .i .i64 r1]))
  | _ => False
theorem q_ref_Named_weak {A A2 : T_ref_Named} (h : FO 41 (q_ref_Named A)) (hA : ∀ a0 a1 K, A2 a0 a1 K → A a0 a1 K) : FO 41 (q_ref_Named A2) := h.weak (by
  intro us k h
  unfold q_ref_Named at h ⊢
  split at h
  · exact hA _ _ _ h
  · exact h.elim)

def F_ref_Named_l2 (A39 : T_ref_Letter) (A40 : T_ref_Escape) (A61 : T_ref_Ed) : Nat → Bt → Int → Bt → (Bt → Int → Prop) → Prop
  | 0, _, _, _, _ => False
  | n + 1, x0, x1, x6, Kr => (((decide (x1 < (x0.length : Int))) = true → ((0 ≤ x1 ∧ x1 < (x0.length : Int)) ∧ (A39 ((x0.getD x1.toNat 0).toNat : Int) (fun y1 => ((y1 = true → (I64 (x1 + 1) ∧ ((0 ≤ x1 ∧ x1 ≤ (x1 + 1) ∧ (x1 + 1) ≤ (x0.length : Int)) ∧ (x6.length + ((x0.drop x1.toNat).take ((x1 + 1).toNat - x1.toNat)).length ≤ 1099511627776 ∧ (I64 (x1 + 1) ∧ F_ref_Named_l2 A39 A40 A61 n x0 (x1 + 1) (x6 ++ ((x0.drop x1.toNat).take ((x1 + 1).toNat - x1.toNat))) Kr))))) ∧ (y1 = false → (((decide (x1 < (x0.length : Int))) = true → (A40 x0 x1 (fun y2 => ((y2 = true → (A61 x0 x1 (fun y3 y4 => (x6.length + y3.length ≤ 1099511627776 ∧ F_ref_Named_l2 A39 A40 A61 n x0 y4 (x6 ++ y3) Kr)))) ∧ (y2 = false → Kr x6 x1))))) ∧ ((decide (x1 < (x0.length : Int))) = false → Kr x6 x1)))))))) ∧ ((decide (x1 < (x0.length : Int))) = false → (((decide (x1 < (x0.length : Int))) = true → (A40 x0 x1 (fun y5 => ((y5 = true → (A61 x0 x1 (fun y6 y7 => (x6.length + y6.length ≤ 1099511627776 ∧ F_ref_Named_l2 A39 A40 A61 n x0 y7 (x6 ++ y6) Kr)))) ∧ (y5 = false → Kr x6 x1))))) ∧ ((decide (x1 < (x0.length : Int))) = false → Kr x6 x1))))

def F_ref_Named (A39 : T_ref_Letter) (A40 : T_ref_Escape) (A61 : T_ref_Ed) (a0 : Bt) (a1 : Int) (K : Bt → Int → Prop) : Prop :=
  (∃ m, F_ref_Named_l2 A39 A40 A61 m a0 a1 ([] : Bt) (fun y1 y2 => K y1 y2))

def C_ref_Named (A39 : T_ref_Letter) (A40 : T_ref_Escape) (A61 : T_ref_Ed) : CallT sg := tab [(39, con [none] (q_ref_Letter A39)), (40, con [none, none] (q_ref_Escape A40)), (61, con [none, none] (q_ref_Ed A61))]
theorem Cok_ref_Named (A39 : T_ref_Letter) (A40 : T_ref_Escape) (A61 : T_ref_Ed) (h39 : FO 39 (q_ref_Letter A39)) (h40 : FO 40 (q_ref_Escape A40)) (h61 : FO 61 (q_ref_Ed A61)) (o0 : Nat → Prop) : CalOK sy Tryz.prog GT ovD o0 GL (C_ref_Named A39 A40 A61) := (tab_cons (con_ok h39) (tab_cons (con_ok h40) (tab_cons (con_ok h61) tab_nil))) o0

def ls_ref_Named_2 : LS sy ((Bt) × Int × (Bt) × Unit) Unit := ⟨[], fCons 0 (vStr sy) (fCons 1 (vInt sy .i64) (fCons 6 (vStr sy) (fNil sy))), hNil sy, 0, []⟩
def le_ref_Named_2 : LS sy Unit Unit := ⟨[], fNil sy, hNil sy, 0, []⟩
def lr_ref_Named_2 : LS sy ((Bt) × Int × Unit) Unit := ⟨[], fCons 4 (vStr sy) (fCons 5 (vInt sy .i64) (fNil sy)), hNil sy, 0, []⟩
def FF_ref_Named_2 (A39 : T_ref_Letter) (A40 : T_ref_Escape) (A61 : T_ref_Ed) (n : Nat) (x : ((Bt) × Int × (Bt) × Unit) × Unit) (K : Ex → Z sg → Prop) : Prop := F_ref_Named_l2 A39 A40 A61 n x.1.1 x.1.2.1 x.1.2.2.1 (fun y0 y1 => K .ret (lr_ref_Named_2.put ((y0, y1, ()), ())))
def h_ref_Named_2 (A39 : T_ref_Letter) (A40 : T_ref_Escape) (A61 : T_ref_Ed) (z : Z sg) (K : Ex → Z sg → Prop) : Prop := ls_ref_Named_2.get z (fun x => ∃ n, FF_ref_Named_2 A39 A40 A61 n x K)
def L_ref_Named (A39 : T_ref_Letter) (A40 : T_ref_Escape) (A61 : T_ref_Ed) : LoopT sg := tabL [(2, h_ref_Named_2 A39 A40 A61)]
theorem hs_ref_Named_2 (A39 : T_ref_Letter) (A40 : T_ref_Escape) (A61 : T_ref_Ed) (n : Nat) (x : ((Bt) × Int × (Bt) × Unit) × Unit) (K : Ex → Z sg → Prop) : forceZ (ls_ref_Named_2.put x) (fun z => sC sy Tryz.prog GT (C_ref_Named A39 A40 A61) (L_ref_Named A39 A40 A61) Tryz.f41.ntmps (nthLoop (bodyOf Tryz.f41) 0) z (rnd ls_ref_Named_2 (czT 0 le_ref_Named_2 lr_ref_Named_2) (fun x => FF_ref_Named_2 A39 A40 A61 n x K) K)) = FF_ref_Named_2 A39 A40 A61 (n + 1) x K := by kernel_rfl
theorem hl_ref_Named_2 (A39 : T_ref_Letter) (A40 : T_ref_Escape) (A61 : T_ref_Ed) (z : Z sg) (K : Ex → Z sg → Prop) : (L_ref_Named A39 A40 A61) (nthLoop (bodyOf Tryz.f41) 0) z K = ls_ref_Named_2.get z (fun x => ∃ n, FF_ref_Named_2 A39 A40 A61 n x K) := by kernel_rfl
theorem lo_ref_Named_2 (A39 : T_ref_Letter) (A40 : T_ref_Escape) (A61 : T_ref_Ed) (h39 : FO 39 (q_ref_Letter A39)) (h40 : FO 40 (q_ref_Escape A40)) (h61 : FO 61 (q_ref_Ed A61)) : ∀ (o0 : Nat → Prop) (B : Bs sg), B.E.length ≤ 0 → ∀ z K, (L_ref_Named A39 A40 A61) (nthLoop (bodyOf Tryz.f41) 0) z K → Sx.Sem sy Tryz.prog GT ovD o0 GL Tryz.f41.ntmps B (.loop (nthLoop (bodyOf Tryz.f41) 0)) z K :=
  loop_ok (Cok_ref_Named A39 A40 A61 h39 h40 h61) (lp_of (l := []) (by kernel_rfl) lp_nil) ls_ref_Named_2 (by decide) (czT 0 le_ref_Named_2 lr_ref_Named_2) (fun _ _ hB => czT_ok 0 le_ref_Named_2 lr_ref_Named_2 (Nat.le_trans hB (by decide)) (Nat.le_trans hB (by decide))) (fun _ _ h => h) (hs_ref_Named_2 A39 A40 A61) (hl_ref_Named_2 A39 A40 A61)
theorem Lp_ref_Named (A39 : T_ref_Letter) (A40 : T_ref_Escape) (A61 : T_ref_Ed) (h39 : FO 39 (q_ref_Letter A39)) (h40 : FO 40 (q_ref_Escape A40)) (h61 : FO 61 (q_ref_Ed A61)) : LpOK sy Tryz.prog GT ovD GL (L_ref_Named A39 A40 A61) 0 Tryz.f41.ntmps (bodyOf Tryz.f41) := lp_of (l := [(nthLoop (bodyOf Tryz.f41) 0)]) (by kernel_rfl) (lp_cons (lo_ref_Named_2 A39 A40 A61 h39 h40 h61) lp_nil)


theorem raw_ref_Named (A39 : T_ref_Letter) (A40 : T_ref_Escape) (A61 : T_ref_Ed) (a0 : Bt) (a1 : Int) (k : W → Prop) : fnT sy Tryz.prog GT (C_ref_Named A39 A40 A61) (L_ref_Named A39 A40 A61) Tryz.f41.ntmps (bodyOf Tryz.f41) [none, none] Tryz.f41.results.toList [.s a0, .i .i64 a1] k = F_ref_Named A39 A40 A61 a0 a1 (fun r0 r1 => k (.t [.s r0, .i .i64 r1])) := by kernel_rfl

theorem ok_ref_Named (A39 : T_ref_Letter) (A40 : T_ref_Escape) (A61 : T_ref_Ed) (h39 : FO 39 (q_ref_Letter A39)) (h40 : FO 40 (q_ref_Escape A40)) (h61 : FO 61 (q_ref_Ed A61)) : FO 41 (q_ref_Named (F_ref_Named A39 A40 A61)) := (fn_ok (rc := [none, none]) (f := 41) (fn := Tryz.f41) (c := bodyOf Tryz.f41) (nt := Tryz.f41.ntmps) (res := Tryz.f41.results.toList) (C := C_ref_Named A39 A40 A61) (L := (L_ref_Named A39 A40 A61)) (fun _ => rfl) Tryz.func41 (by kernel_rfl) rfl rfl (Cok_ref_Named A39 A40 A61 h39 h40 h61) (Lp_ref_Named A39 A40 A61 h39 h40 h61)).weak (by
  intro us k h
  unfold q_ref_Named at h
  split at h
  · skip
    rename_i a0 a1
    rw [raw_ref_Named A39 A40 A61 a0 a1 k]
    exact h
  · exact h.elim)

abbrev T_ref_NumberAt := Bt → Int → (Bool → Prop) → Prop
def q_ref_NumberAt (A : T_ref_NumberAt) (us : List W) (k : W → Prop) : Prop := match us with
  | [.s a0, .i .i64 a1] => A a0 a1 (fun r0 => k (.b r0))
  | _ => False
theorem q_ref_NumberAt_weak {A A2 : T_ref_NumberAt} (h : FO 43 (q_ref_NumberAt A)) (hA : ∀ a0 a1 K, A2 a0 a1 K → A a0 a1 K) : FO 43 (q_ref_NumberAt A2) := h.weak (by
  intro us k h
  unfold q_ref_NumberAt at h ⊢
  split at h
  · exact hA _ _ _ h
  · exact h.elim)

def F_ref_NumberAt (A60 : T_ref_At) (A63 : T_ref_Digit) (a0 : Bt) (a1 : Int) (K : Bool → Prop) : Prop :=
  (A60 a0 a1 (fun y1 => (((decide (y1 = 43)) = false → (((decide (y1 = 45)) = true → (I64 (a1 + 1) ∧ (A60 a0 (a1 + 1) (fun y2 => (((decide (y2 = 46)) = true → (I64 ((a1 + 1) + 1) ∧ (A60 a0 ((a1 + 1) + 1) (fun y3 => (A63 y3 (fun y4 => K y4)))))) ∧ ((decide (y2 = 46)) = false → (A60 a0 (a1 + 1) (fun y5 => (A63 y5 (fun y6 => K y6)))))))))) ∧ ((decide (y1 = 45)) = false → (A60 a0 a1 (fun y7 => (((decide (y7 = 46)) = true → (I64 (a1 + 1) ∧ (A60 a0 (a1 + 1) (fun y8 => (A63 y8 (fun y9 => K y9)))))) ∧ ((decide (y7 = 46)) = false → (A60 a0 a1 (fun y10 => (A63 y10 (fun y11 => K y11))))))))))) ∧ ((decide (y1 = 43)) = true → (I64 (a1 + 1) ∧ (A60 a0 (a1 + 1) (fun y12 => (((decide (y12 = 46)) = true → (I64 ((a1 + 1) + 1) ∧ (A60 a0 ((a1 + 1) + 1) (fun y13 => (A63 y13 (fun y14 => K y14)))))) ∧ ((decide (y12 = 46)) = false → (A60 a0 (a1 + 1) (fun y15 => (A63 y15 (fun y16 => K y16)))))))))))))

def C_ref_NumberAt (A60 : T_ref_At) (A63 : T_ref_Digit) : CallT sg := tab [(60, con [none, none] (q_ref_At A60)), (63, con [none] (q_ref_Digit A63))]
theorem Cok_ref_NumberAt (A60 : T_ref_At) (A63 : T_ref_Digit) (h60 : FO 60 (q_ref_At A60)) (h63 : FO 63 (q_ref_Digit A63)) (o0 : Nat → Prop) : CalOK sy Tryz.prog GT ovD o0 GL (C_ref_NumberAt A60 A63) := (tab_cons (con_ok h60) (tab_cons (con_ok h63) tab_nil)) o0

theorem raw_ref_NumberAt (A60 : T_ref_At) (A63 : T_ref_Digit) (a0 : Bt) (a1 : Int) (k : W → Prop) : fnT sy Tryz.prog GT (C_ref_NumberAt A60 A63) noL Tryz.f43.ntmps (bodyOf Tryz.f43) [none] Tryz.f43.results.toList [.s a0, .i .i64 a1] k = F_ref_NumberAt A60 A63 a0 a1 (fun r0 => k (.b r0)) := by kernel_rfl

theorem ok_ref_NumberAt (A60 : T_ref_At) (A63 : T_ref_Digit) (h60 : FO 60 (q_ref_At A60)) (h63 : FO 63 (q_ref_Digit A63)) : FO 43 (q_ref_NumberAt (F_ref_NumberAt A60 A63)) := (fn_ok (rc := [none]) (f := 43) (fn := Tryz.f43) (c := bodyOf Tryz.f43) (nt := Tryz.f43.ntmps) (res := Tryz.f43.results.toList) (C := C_ref_NumberAt A60 A63) (L := noL) (fun _ => rfl) Tryz.func43 (by kernel_rfl) rfl rfl (Cok_ref_NumberAt A60 A63 h60 h63) (lp_of (l := []) (by kernel_rfl) lp_nil)).weak (by
  intro us k h
  unfold q_ref_NumberAt at h
  split at h
  · skip
    rename_i a0 a1
    rw [raw_ref_NumberAt A60 A63 a0 a1 k]
    exact h
  · exact h.elim)

abbrev T_ref_NumberEnd := Bt → Int → (Int → Bool → Prop) → Prop
def q_ref_NumberEnd (A : T_ref_NumberEnd) (us : List W) (k : W → Prop) : Prop := match us with
  | [.s a0, .i .i64 a1] => A a0 a1 (fun r0 r1 => k (.t [.i .i64 r0, .b r1]))
  | _ => False
theorem q_ref_NumberEnd_weak {A A2 : T_ref_NumberEnd} (h : FO 64 (q_ref_NumberEnd A)) (hA : ∀ a0 a1 K, A2 a0 a1 K → A a0 a1 K) : FO 64 (q_ref_NumberEnd A2) := h.weak (by
  intro us k h
  unfold q_ref_NumberEnd at h ⊢
  split at h
  · exact hA _ _ _ h
  · exact h.elim)

def F_ref_NumberEnd (A60 : T_ref_At) (A88 : T_ref_digits) (A63 : T_ref_Digit) (a0 : Bt) (a1 : Int) (K : Int → Bool → Prop) : Prop :=
  (A60 a0 a1 (fun y1 => (((decide (y1 = 43)) = false → (((decide (y1 = 45)) = true → (I64 (a1 + 1) ∧ (A88 a0 (a1 + 1) (fun y2 => (A60 a0 y2 (fun y3 => (((decide (y3 = 46)) = true → (I64 (y2 + 1) ∧ (A60 a0 (y2 + 1) (fun y4 => (A63 y4 (fun y5 => ((y5 = true → (I64 (y2 + 1) ∧ (A88 a0 (y2 + 1) (fun y6 => (A60 a0 y6 (fun y7 => (((decide (y7 = 101)) = false → (((decide (y7 = 69)) = true → (I64 (y6 + 1) ∧ (A60 a0 (y6 + 1) (fun y8 => (((decide (y8 = 43)) = false → (((decide (y8 = 45)) = true → (I64 ((y6 + 1) + 1) ∧ (A60 a0 ((y6 + 1) + 1) (fun y9 => (A63 y9 (fun y10 => ((y10 = true → (A88 a0 ((y6 + 1) + 1) (fun y11 => K y11 false))) ∧ (y10 = false → K y6 false)))))))) ∧ ((decide (y8 = 45)) = false → (A60 a0 (y6 + 1) (fun y12 => (A63 y12 (fun y13 => ((y13 = true → (A88 a0 (y6 + 1) (fun y14 => K y14 false))) ∧ (y13 = false → K y6 false))))))))) ∧ ((decide (y8 = 43)) = true → (I64 ((y6 + 1) + 1) ∧ (A60 a0 ((y6 + 1) + 1) (fun y15 => (A63 y15 (fun y16 => ((y16 = true → (A88 a0 ((y6 + 1) + 1) (fun y17 => K y17 false))) ∧ (y16 = false → K y6 false))))))))))))) ∧ ((decide (y7 = 69)) = false → K y6 false))) ∧ ((decide (y7 = 101)) = true → (I64 (y6 + 1) ∧ (A60 a0 (y6 + 1) (fun y18 => (((decide (y18 = 43)) = false → (((decide (y18 = 45)) = true → (I64 ((y6 + 1) + 1) ∧ (A60 a0 ((y6 + 1) + 1) (fun y19 => (A63 y19 (fun y20 => ((y20 = true → (A88 a0 ((y6 + 1) + 1) (fun y21 => K y21 false))) ∧ (y20 = false → K y6 false)))))))) ∧ ((decide (y18 = 45)) = false → (A60 a0 (y6 + 1) (fun y22 => (A63 y22 (fun y23 => ((y23 = true → (A88 a0 (y6 + 1) (fun y24 => K y24 false))) ∧ (y23 = false → K y6 false))))))))) ∧ ((decide (y18 = 43)) = true → (I64 ((y6 + 1) + 1) ∧ (A60 a0 ((y6 + 1) + 1) (fun y25 => (A63 y25 (fun y26 => ((y26 = true → (A88 a0 ((y6 + 1) + 1) (fun y27 => K y27 false))) ∧ (y26 = false → K y6 false)))))))))))))))))))) ∧ (y5 = false → (A60 a0 y2 (fun y28 => (((decide (y28 = 101)) = false → (((decide (y28 = 69)) = true → (I64 (y2 + 1) ∧ (A60 a0 (y2 + 1) (fun y29 => (((decide (y29 = 43)) = false → (((decide (y29 = 45)) = true → (I64 ((y2 + 1) + 1) ∧ (A60 a0 ((y2 + 1) + 1) (fun y30 => (A63 y30 (fun y31 => ((y31 = true → (A88 a0 ((y2 + 1) + 1) (fun y32 => K y32 false))) ∧ (y31 = false → K y2 true)))))))) ∧ ((decide (y29 = 45)) = false → (A60 a0 (y2 + 1) (fun y33 => (A63 y33 (fun y34 => ((y34 = true → (A88 a0 (y2 + 1) (fun y35 => K y35 false))) ∧ (y34 = false → K y2 true))))))))) ∧ ((decide (y29 = 43)) = true → (I64 ((y2 + 1) + 1) ∧ (A60 a0 ((y2 + 1) + 1) (fun y36 => (A63 y36 (fun y37 => ((y37 = true → (A88 a0 ((y2 + 1) + 1) (fun y38 => K y38 false))) ∧ (y37 = false → K y2 true))))))))))))) ∧ ((decide (y28 = 69)) = false → K y2 true))) ∧ ((decide (y28 = 101)) = true → (I64 (y2 + 1) ∧ (A60 a0 (y2 + 1) (fun y39 => (((decide (y39 = 43)) = false → (((decide (y39 = 45)) = true → (I64 ((y2 + 1) + 1) ∧ (A60 a0 ((y2 + 1) + 1) (fun y40 => (A63 y40 (fun y41 => ((y41 = true → (A88 a0 ((y2 + 1) + 1) (fun y42 => K y42 false))) ∧ (y41 = false → K y2 true)))))))) ∧ ((decide (y39 = 45)) = false → (A60 a0 (y2 + 1) (fun y43 => (A63 y43 (fun y44 => ((y44 = true → (A88 a0 (y2 + 1) (fun y45 => K y45 false))) ∧ (y44 = false → K y2 true))))))))) ∧ ((decide (y39 = 43)) = true → (I64 ((y2 + 1) + 1) ∧ (A60 a0 ((y2 + 1) + 1) (fun y46 => (A63 y46 (fun y47 => ((y47 = true → (A88 a0 ((y2 + 1) + 1) (fun y48 => K y48 false))) ∧ (y47 = false → K y2 true)))))))))))))))))))))))) ∧ ((decide (y3 = 46)) = false → (A60 a0 y2 (fun y49 => (((decide (y49 = 101)) = false → (((decide (y49 = 69)) = true → (I64 (y2 + 1) ∧ (A60 a0 (y2 + 1) (fun y50 => (((decide (y50 = 43)) = false → (((decide (y50 = 45)) = true → (I64 ((y2 + 1) + 1) ∧ (A60 a0 ((y2 + 1) + 1) (fun y51 => (A63 y51 (fun y52 => ((y52 = true → (A88 a0 ((y2 + 1) + 1) (fun y53 => K y53 false))) ∧ (y52 = false → K y2 true)))))))) ∧ ((decide (y50 = 45)) = false → (A60 a0 (y2 + 1) (fun y54 => (A63 y54 (fun y55 => ((y55 = true → (A88 a0 (y2 + 1) (fun y56 => K y56 false))) ∧ (y55 = false → K y2 true))))))))) ∧ ((decide (y50 = 43)) = true → (I64 ((y2 + 1) + 1) ∧ (A60 a0 ((y2 + 1) + 1) (fun y57 => (A63 y57 (fun y58 => ((y58 = true → (A88 a0 ((y2 + 1) + 1) (fun y59 => K y59 false))) ∧ (y58 = false → K y2 true))))))))))))) ∧ ((decide (y49 = 69)) = false → K y2 true))) ∧ ((decide (y49 = 101)) = true → (I64 (y2 + 1) ∧ (A60 a0 (y2 + 1) (fun y60 => (((decide (y60 = 43)) = false → (((decide (y60 = 45)) = true → (I64 ((y2 + 1) + 1) ∧ (A60 a0 ((y2 + 1) + 1) (fun y61 => (A63 y61 (fun y62 => ((y62 = true → (A88 a0 ((y2 + 1) + 1) (fun y63 => K y63 false))) ∧ (y62 = false → K y2 true)))))))) ∧ ((decide (y60 = 45)) = false → (A60 a0 (y2 + 1) (fun y64 => (A63 y64 (fun y65 => ((y65 = true → (A88 a0 (y2 + 1) (fun y66 => K y66 false))) ∧ (y65 = false → K y2 true))))))))) ∧ ((decide (y60 = 43)) = true → (I64 ((y2 + 1) + 1) ∧ (A60 a0 ((y2 + 1) + 1) (fun y67 => (A63 y67 (fun y68 => ((y68 = true → (A88 a0 ((y2 + 1) + 1) (fun y69 => K y69 false))) ∧ (y68 = false → K y2 true)))))))))))))))))))))))) ∧ ((decide (y1 = 45)) = false → (A88 a0 a1 (fun y70 => (A60 a0 y70 (fun y71 => (((decide (y71 = 46)) = true → (I64 (y70 + 1) ∧ (A60 a0 (y70 + 1) (fun y72 => (A63 y72 (fun y73 => ((y73 = true → (I64 (y70 + 1) ∧ (A88 a0 (y70 + 1) (fun y74 => (A60 a0 y74 (fun y75 => (((decide (y75 = 101)) = false → (((decide (y75 = 69)) = true → (I64 (y74 + 1) ∧ (A60 a0 (y74 + 1) (fun y76 => (((decide (y76 = 43)) = false → (((decide (y76 = 45)) = true → (I64 ((y74 + 1) + 1) ∧ (A60 a0 ((y74 + 1) + 1) (fun y77 => (A63 y77 (fun y78 => ((y78 = true → (A88 a0 ((y74 + 1) + 1) (fun y79 => K y79 false))) ∧ (y78 = false → K y74 false)))))))) ∧ ((decide (y76 = 45)) = false → (A60 a0 (y74 + 1) (fun y80 => (A63 y80 (fun y81 => ((y81 = true → (A88 a0 (y74 + 1) (fun y82 => K y82 false))) ∧ (y81 = false → K y74 false))))))))) ∧ ((decide (y76 = 43)) = true → (I64 ((y74 + 1) + 1) ∧ (A60 a0 ((y74 + 1) + 1) (fun y83 => (A63 y83 (fun y84 => ((y84 = true → (A88 a0 ((y74 + 1) + 1) (fun y85 => K y85 false))) ∧ (y84 = false → K y74 false))))))))))))) ∧ ((decide (y75 = 69)) = false → K y74 false))) ∧ ((decide (y75 = 101)) = true → (I64 (y74 + 1) ∧ (A60 a0 (y74 + 1) (fun y86 => (((decide (y86 = 43)) = false → (((decide (y86 = 45)) = true → (I64 ((y74 + 1) + 1) ∧ (A60 a0 ((y74 + 1) + 1) (fun y87 => (A63 y87 (fun y88 => ((y88 = true → (A88 a0 ((y74 + 1) + 1) (fun y89 => K y89 false))) ∧ (y88 = false → K y74 false)))))))) ∧ ((decide (y86 = 45)) = false → (A60 a0 (y74 + 1) (fun y90 => (A63 y90 (fun y91 => ((y91 = true → (A88 a0 (y74 + 1) (fun y92 => K y92 false))) ∧ (y91 = false → K y74 false))))))))) ∧ ((decide (y86 = 43)) = true → (I64 ((y74 + 1) + 1) ∧ (A60 a0 ((y74 + 1) + 1) (fun y93 => (A63 y93 (fun y94 => ((y94 = true → (A88 a0 ((y74 + 1) + 1) (fun y95 => K y95 false))) ∧ (y94 = false → K y74 false)))))))))))))))))))) ∧ (y73 = false → (A60 a0 y70 (fun y96 => (((decide (y96 = 101)) = false → (((decide (y96 = 69)) = true → (I64 (y70 + 1) ∧ (A60 a0 (y70 + 1) (fun y97 => (((decide (y97 = 43)) = false → (((decide (y97 = 45)) = true → (I64 ((y70 + 1) + 1) ∧ (A60 a0 ((y70 + 1) + 1) (fun y98 => (A63 y98 (fun y99 => ((y99 = true → (A88 a0 ((y70 + 1) + 1) (fun y100 => K y100 false))) ∧ (y99 = false → K y70 true)))))))) ∧ ((decide (y97 = 45)) = false → (A60 a0 (y70 + 1) (fun y101 => (A63 y101 (fun y102 => ((y102 = true → (A88 a0 (y70 + 1) (fun y103 => K y103 false))) ∧ (y102 = false → K y70 true))))))))) ∧ ((decide (y97 = 43)) = true → (I64 ((y70 + 1) + 1) ∧ (A60 a0 ((y70 + 1) + 1) (fun y104 => (A63 y104 (fun y105 => ((y105 = true → (A88 a0 ((y70 + 1) + 1) (fun y106 => K y106 false))) ∧ (y105 = false → K y70 true))))))))))))) ∧ ((decide (y96 = 69)) = false → K y70 true))) ∧ ((decide (y96 = 101)) = true → (I64 (y70 + 1) ∧ (A60 a0 (y70 + 1) (fun y107 => (((decide (y107 = 43)) = false → (((decide (y107 = 45)) = true → (I64 ((y70 + 1) + 1) ∧ (A60 a0 ((y70 + 1) + 1) (fun y108 => (A63 y108 (fun y109 => ((y109 = true → (A88 a0 ((y70 + 1) + 1) (fun y110 => K y110 false))) ∧ (y109 = false → K y70 true)))))))) ∧ ((decide (y107 = 45)) = false → (A60 a0 (y70 + 1) (fun y111 => (A63 y111 (fun y112 => ((y112 = true → (A88 a0 (y70 + 1) (fun y113 => K y113 false))) ∧ (y112 = false → K y70 true))))))))) ∧ ((decide (y107 = 43)) = true → (I64 ((y70 + 1) + 1) ∧ (A60 a0 ((y70 + 1) + 1) (fun y114 => (A63 y114 (fun y115 => ((y115 = true → (A88 a0 ((y70 + 1) + 1) (fun y116 => K y116 false))) ∧ (y115 = false → K y70 true)))))))))))))))))))))))) ∧ ((decide (y71 = 46)) = false → (A60 a0 y70 (fun y117 => (((decide (y117 = 101)) = false → (((decide (y117 = 69)) = true → (I64 (y70 + 1) ∧ (A60 a0 (y70 + 1) (fun y118 => (((decide (y118 = 43)) = false → (((decide (y118 = 45)) = true → (I64 ((y70 + 1) + 1) ∧ (A60 a0 ((y70 + 1) + 1) (fun y119 => (A63 y119 (fun y120 => ((y120 = true → (A88 a0 ((y70 + 1) + 1) (fun y121 => K y121 false))) ∧ (y120 = false → K y70 true)))))))) ∧ ((decide (y118 = 45)) = false → (A60 a0 (y70 + 1) (fun y122 => (A63 y122 (fun y123 => ((y123 = true → (A88 a0 (y70 + 1) (fun y124 => K y124 false))) ∧ (y123 = false → K y70 true))))))))) ∧ ((decide (y118 = 43)) = true → (I64 ((y70 + 1) + 1) ∧ (A60 a0 ((y70 + 1) + 1) (fun y125 => (A63 y125 (fun y126 => ((y126 = true → (A88 a0 ((y70 + 1) + 1) (fun y127 => K y127 false))) ∧ (y126 = false → K y70 true))))))))))))) ∧ ((decide (y117 = 69)) = false → K y70 true))) ∧ ((decide (y117 = 101)) = true → (I64 (y70 + 1) ∧ (A60 a0 (y70 + 1) (fun y128 => (((decide (y128 = 43)) = false → (((decide (y128 = 45)) = true → (I64 ((y70 + 1) + 1) ∧ (A60 a0 ((y70 + 1) + 1) (fun y129 => (A63 y129 (fun y130 => ((y130 = true → (A88 a0 ((y70 + 1) + 1) (fun y131 => K y131 false))) ∧ (y130 = false → K y70 true)))))))) ∧ ((decide (y128 = 45)) = false → (A60 a0 (y70 + 1) (fun y132 => (A63 y132 (fun y133 => ((y133 = true → (A88 a0 (y70 + 1) (fun y134 => K y134 false))) ∧ (y133 = false → K y70 true))))))))) ∧ ((decide (y128 = 43)) = true → (I64 ((y70 + 1) + 1) ∧ (A60 a0 ((y70 + 1) + 1) (fun y135 => (A63 y135 (fun y136 => ((y136 = true → (A88 a0 ((y70 + 1) + 1) (fun y137 => K y137 false))) ∧ (y136 = false → K y70 true))))))))))))))))))))))))) ∧ ((decide (y1 = 43)) = true → (I64 (a1 + 1) ∧ (A88 a0 (a1 + 1) (fun y138 => (A60 a0 y138 (fun y139 => (((decide (y139 = 46)) = true → (I64 (y138 + 1) ∧ (A60 a0 (y138 + 1) (fun y140 => (A63 y140 (fun y141 => ((y141 = true → (I64 (y138 + 1) ∧ (A88 a0 (y138 + 1) (fun y142 => (A60 a0 y142 (fun y143 => (((decide (y143 = 101)) = false → (((decide (y143 = 69)) = true → (I64 (y142 + 1) ∧ (A60 a0 (y142 + 1) (fun y144 => (((decide (y144 = 43)) = false → (((decide (y144 = 45)) = true → (I64 ((y142 + 1) + 1) ∧ (A60 a0 ((y142 + 1) + 1) (fun y145 => (A63 y145 (fun y146 => ((y146 = true → (A88 a0 ((y142 + 1) + 1) (fun y147 => K y147 false))) ∧ (y146 = false → K y142 false)))))))) ∧ ((decide (y144 = 45)) = false → (A60 a0 (y142 + 1) (fun y148 => (A63 y148 (fun y149 => ((y149 = true → (A88 a0 (y142 + 1) (fun y150 => K y150 false))) ∧ (y149 = false → K y142 false))))))))) ∧ ((decide (y144 = 43)) = true → (I64 ((y142 + 1) + 1) ∧ (A60 a0 ((y142 + 1) + 1) (fun y151 => (A63 y151 (fun y152 => ((y152 = true → (A88 a0 ((y142 + 1) + 1) (fun y153 => K y153 false))) ∧ (y152 = false → K y142 false))))))))))))) ∧ ((decide (y143 = 69)) = false → K y142 false))) ∧ ((decide (y143 = 101)) = true → (I64 (y142 + 1) ∧ (A60 a0 (y142 + 1) (fun y154 => (((decide (y154 = 43)) = false → (((decide (y154 = 45)) = true → (I64 ((y142 + 1) + 1) ∧ (A60 a0 ((y142 + 1) + 1) (fun y155 => (A63 y155 (fun y156 => ((y156 = true → (A88 a0 ((y142 + 1) + 1) (fun y157 => K y157 false))) ∧ (y156 = false → K y142 false)))))))) ∧ ((decide (y154 = 45)) = false → (A60 a0 (y142 + 1) (fun y158 => (A63 y158 (fun y159 => ((y159 = true → (A88 a0 (y142 + 1) (fun y160 => K y160 false))) ∧ (y159 = false → K y142 false))))))))) ∧ ((decide (y154 = 43)) = true → (I64 ((y142 + 1) + 1) ∧ (A60 a0 ((y142 + 1) + 1) (fun y161 => (A63 y161 (fun y162 => ((y162 = true → (A88 a0 ((y142 + 1) + 1) (fun y163 => K y163 false))) ∧ (y162 = false → K y142 false)))))))))))))))))))) ∧ (y141 = false → (A60 a0 y138 (fun y164 => (((decide (y164 = 101)) = false → (((decide (y164 = 69)) = true → (I64 (y138 + 1) ∧ (A60 a0 (y138 + 1) (fun y165 => (((decide (y165 = 43)) = false → (((decide (y165 = 45)) = true → (I64 ((y138 + 1) + 1) ∧ (A60 a0 ((y138 + 1) + 1) (fun y166 => (A63 y166 (fun y167 => ((y167 = true → (A88 a0 ((y138 + 1) + 1) (fun y168 => K y168 false))) ∧ (y167 = false → K y138 true)))))))) ∧ ((decide (y165 = 45)) = false → (A60 a0 (y138 + 1) (fun y169 => (A63 y169 (fun y170 => ((y170 = true → (A88 a0 (y138 + 1) (fun y171 => K y171 false))) ∧ (y170 = false → K y138 true))))))))) ∧ ((decide (y165 = 43)) = true → (I64 ((y138 + 1) + 1) ∧ (A60 a0 ((y138 + 1) + 1) (fun y172 => (A63 y172 (fun y173 => ((y173 = true → (A88 a0 ((y138 + 1) + 1) (fun y174 => K y174 false))) ∧ (y173 = false → K y138 true))))))))))))) ∧ ((decide (y164 = 69)) = false → K y138 true))) ∧ ((decide (y164 = 101)) = true → (I64 (y138 + 1) ∧ (A60 a0 (y138 + 1) (fun y175 => (((decide (y175 = 43)) = false → (((decide (y175 = 45)) = true → (I64 ((y138 + 1) + 1) ∧ (A60 a0 ((y138 + 1) + 1) (fun y176 => (A63 y176 (fun y177 => ((y177 = true → (A88 a0 ((y138 + 1) + 1) (fun y178 => K y178 false))) ∧ (y177 = false → K y138 true)))))))) ∧ ((decide (y175 = 45)) = false → (A60 a0 (y138 + 1) (fun y179 => (A63 y179 (fun y180 => ((y180 = true → (A88 a0 (y138 + 1) (fun y181 => K y181 false))) ∧ (y180 = false → K y138 true))))))))) ∧ ((decide (y175 = 43)) = true → (I64 ((y138 + 1) + 1) ∧ (A60 a0 ((y138 + 1) + 1) (fun y182 => (A63 y182 (fun y183 => ((y183 = true → (A88 a0 ((y138 + 1) + 1) (fun y184 => K y184 false))) ∧ (y183 = false → K y138 true)))))))))))))))))))))))) ∧ ((decide (y139 = 46)) = false → (A60 a0 y138 (fun y185 => (((decide (y185 = 101)) = false → (((decide (y185 = 69)) = true → (I64 (y138 + 1) ∧ (A60 a0 (y138 + 1) (fun y186 => (((decide (y186 = 43)) = false → (((decide (y186 = 45)) = true → (I64 ((y138 + 1) + 1) ∧ (A60 a0 ((y138 + 1) + 1) (fun y187 => (A63 y187 (fun y188 => ((y188 = true → (A88 a0 ((y138 + 1) + 1) (fun y189 => K y189 false))) ∧ (y188 = false → K y138 true)))))))) ∧ ((decide (y186 = 45)) = false → (A60 a0 (y138 + 1) (fun y190 => (A63 y190 (fun y191 => ((y191 = true → (A88 a0 (y138 + 1) (fun y192 => K y192 false))) ∧ (y191 = false → K y138 true))))))))) ∧ ((decide (y186 = 43)) = true → (I64 ((y138 + 1) + 1) ∧ (A60 a0 ((y138 + 1) + 1) (fun y193 => (A63 y193 (fun y194 => ((y194 = true → (A88 a0 ((y138 + 1) + 1) (fun y195 => K y195 false))) ∧ (y194 = false → K y138 true))))))))))))) ∧ ((decide (y185 = 69)) = false → K y138 true))) ∧ ((decide (y185 = 101)) = true → (I64 (y138 + 1) ∧ (A60 a0 (y138 + 1) (fun y196 => (((decide (y196 = 43)) = false → (((decide (y196 = 45)) = true → (I64 ((y138 + 1) + 1) ∧ (A60 a0 ((y138 + 1) + 1) (fun y197 => (A63 y197 (fun y198 => ((y198 = true → (A88 a0 ((y138 + 1) + 1) (fun y199 => K y199 false))) ∧ (y198 = false → K y138 true)))))))) ∧ ((decide (y196 = 45)) = false → (A60 a0 (y138 + 1) (fun y200 => (A63 y200 (fun y201 => ((y201 = true → (A88 a0 (y138 + 1) (fun y202 => K y202 false))) ∧ (y201 = false → K y138 true))))))))) ∧ ((decide (y196 = 43)) = true → (I64 ((y138 + 1) + 1) ∧ (A60 a0 ((y138 + 1) + 1) (fun y203 => (A63 y203 (fun y204 => ((y204 = true → (A88 a0 ((y138 + 1) + 1) (fun y205 => K y205 false))) ∧ (y204 = false → K y138 true)))))))))))))))))))))))))))

def C_ref_NumberEnd (A60 : T_ref_At) (A88 : T_ref_digits) (A63 : T_ref_Digit) : CallT sg := tab [(60, con [none, none] (q_ref_At A60)), (88, con [none, none] (q_ref_digits A88)), (63, con [none] (q_ref_Digit A63))]
theorem Cok_ref_NumberEnd (A60 : T_ref_At) (A88 : T_ref_digits) (A63 : T_ref_Digit) (h60 : FO 60 (q_ref_At A60)) (h88 : FO 88 (q_ref_digits A88)) (h63 : FO 63 (q_ref_Digit A63)) (o0 : Nat → Prop) : CalOK sy Tryz.prog GT ovD o0 GL (C_ref_NumberEnd A60 A88 A63) := (tab_cons (con_ok h60) (tab_cons (con_ok h88) (tab_cons (con_ok h63) tab_nil))) o0

theorem raw_ref_NumberEnd (A60 : T_ref_At) (A88 : T_ref_digits) (A63 : T_ref_Digit) (a0 : Bt) (a1 : Int) (k : W → Prop) : fnT sy Tryz.prog GT (C_ref_NumberEnd A60 A88 A63) noL Tryz.f64.ntmps (bodyOf Tryz.f64) [none, none] Tryz.f64.results.toList [.s a0, .i .i64 a1] k = F_ref_NumberEnd A60 A88 A63 a0 a1 (fun r0 r1 => k (.t [.i .i64 r0, .b r1])) := by kernel_rfl

theorem ok_ref_NumberEnd (A60 : T_ref_At) (A88 : T_ref_digits) (A63 : T_ref_Digit) (h60 : FO 60 (q_ref_At A60)) (h88 : FO 88 (q_ref_digits A88)) (h63 : FO 63 (q_ref_Digit A63)) : FO 64 (q_ref_NumberEnd (F_ref_NumberEnd A60 A88 A63)) := (fn_ok (rc := [none, none]) (f := 64) (fn := Tryz.f64) (c := bodyOf Tryz.f64) (nt := Tryz.f64.ntmps) (res := Tryz.f64.results.toList) (C := C_ref_NumberEnd A60 A88 A63) (L := noL) (fun _ => rfl) Tryz.func64 (by kernel_rfl) rfl rfl (Cok_ref_NumberEnd A60 A88 A63 h60 h88 h63) (lp_of (l := []) (by kernel_rfl) lp_nil)).weak (by
  intro us k h
  unfold q_ref_NumberEnd at h
  split at h
  · skip
    rename_i a0 a1
    rw [raw_ref_NumberEnd A60 A88 A63 a0 a1 k]
    exact h
  · exact h.elim)

abbrev T_ref_T := Bt → (Int → Prop) → Prop
def q_ref_T (A : T_ref_T) (us : List W) (k : W → Prop) : Prop := match us with
  | [.s a0] => A a0 (fun r0 => k (.i .i64 r0))
  | _ => False
theorem q_ref_T_weak {A A2 : T_ref_T} (h : FO 65 (q_ref_T A)) (hA : ∀ a0 K, A2 a0 K → A a0 K) : FO 65 (q_ref_T A2) := h.weak (by
  intro us k h
  unfold q_ref_T at h ⊢
  split at h
  · exact hA _ _ h
  · exact h.elim)

def F_ref_T_l5 (A60 : T_ref_At) (A63 : T_ref_Digit) : Nat → Bt → Bt → Int → Int → Bool → (Bt → Bt → Int → Int → Bool → Prop) → Prop
  | 0, _, _, _, _, _, _ => False
  | n + 1, x0, x3, x4, x5, x6, Ke => (A60 x0 x5 (fun y1 => (A63 y1 (fun y2 => ((y2 = true → (I64 (x5 + 1) ∧ ((0 ≤ x5 ∧ x5 ≤ (x5 + 1) ∧ (x5 + 1) ≤ (x0.length : Int)) ∧ (x3.length + ((x0.drop x5.toNat).take ((x5 + 1).toNat - x5.toNat)).length ≤ 1099511627776 ∧ (I64 (x5 + 1) ∧ F_ref_T_l5 A60 A63 n x0 (x3 ++ ((x0.drop x5.toNat).take ((x5 + 1).toNat - x5.toNat))) x4 (x5 + 1) x6 Ke))))) ∧ (y2 = false → Ke x0 x3 x4 x5 x6))))))

def F_ref_T_l10 (A60 : T_ref_At) (A63 : T_ref_Digit) : Nat → Bt → Bt → Int → Int → Bool → (Bt → Bt → Int → Int → Bool → Prop) → Prop
  | 0, _, _, _, _, _, _ => False
  | n + 1, x0, x3, x4, x5, x6, Ke => (A60 x0 x5 (fun y1 => (A63 y1 (fun y2 => ((y2 = true → (I64 (x5 + 1) ∧ ((0 ≤ x5 ∧ x5 ≤ (x5 + 1) ∧ (x5 + 1) ≤ (x0.length : Int)) ∧ (x3.length + ((x0.drop x5.toNat).take ((x5 + 1).toNat - x5.toNat)).length ≤ 1099511627776 ∧ (I64 (x4 - 1) ∧ (I64 (x5 + 1) ∧ F_ref_T_l10 A60 A63 n x0 (x3 ++ ((x0.drop x5.toNat).take ((x5 + 1).toNat - x5.toNat))) (x4 - 1) (x5 + 1) x6 Ke)))))) ∧ (y2 = false → Ke x0 x3 x4 x5 x6))))))

def F_ref_T_l20 (A60 : T_ref_At) (A63 : T_ref_Digit) : Nat → Bt → Bt → Int → Int → Bool → Bool → Int → (Bt → Int → Bool → Bool → Int → Prop) → Prop
  | 0, _, _, _, _, _, _, _, _ => False
  | n + 1, x0, x3, x4, x5, x6, x7, x8, Ke => (((decide (x5 < (x0.length : Int))) = true → (I64 ((10 : Int) * x8) ∧ ((0 ≤ x5 ∧ x5 < (x0.length : Int)) ∧ (I64 (IntKind.u8.wrap (((x0.getD x5.toNat 0).toNat : Int) - (48 : Int))) ∧ (I64 (((10 : Int) * x8) + (IntKind.u8.wrap (((x0.getD x5.toNat 0).toNat : Int) - (48 : Int)))) ∧ (I64 (x5 + 1) ∧ F_ref_T_l20 A60 A63 n x0 x3 x4 (x5 + 1) x6 x7 (if (((10 : Int) * x8) + (IntKind.u8.wrap (((x0.getD x5.toNat 0).toNat : Int) - (48 : Int)))) < 10000 then (((10 : Int) * x8) + (IntKind.u8.wrap (((x0.getD x5.toNat 0).toNat : Int) - (48 : Int)))) else (10000 : Int)) Ke)))))) ∧ ((decide (x5 < (x0.length : Int))) = false → Ke x3 x4 x6 x7 x8))

def F_ref_T_l28 (A60 : T_ref_At) (A63 : T_ref_Digit) : Nat → Bt → Int → Bool → Int → Int → (Int → Bool → Int → Prop) → Prop
  | 0, _, _, _, _, _, _ => False
  | n + 1, x3, x4, x6, x9, x10, Ke => (I64 ((x3.length : Int) + x4) ∧ (((decide (x10 < ((x3.length : Int) + x4))) = true → (((decide (x10 < (x3.length : Int))) = true → (I64 ((10 : Int) * x9) ∧ ((0 ≤ x10 ∧ x10 < (x3.length : Int)) ∧ (I64 (IntKind.u8.wrap (((x3.getD x10.toNat 0).toNat : Int) - (48 : Int))) ∧ (I64 (((10 : Int) * x9) + (IntKind.u8.wrap (((x3.getD x10.toNat 0).toNat : Int) - (48 : Int)))) ∧ (I64 (x10 + 1) ∧ F_ref_T_l28 A60 A63 n x3 x4 x6 (if (((10 : Int) * x9) + (IntKind.u8.wrap (((x3.getD x10.toNat 0).toNat : Int) - (48 : Int)))) < 1000000000000 then (((10 : Int) * x9) + (IntKind.u8.wrap (((x3.getD x10.toNat 0).toNat : Int) - (48 : Int)))) else (1000000000000 : Int)) (x10 + 1) Ke)))))) ∧ ((decide (x10 < (x3.length : Int))) = false → Ke x4 x6 x9))) ∧ ((decide (x10 < ((x3.length : Int) + x4))) = false → Ke x4 x6 x9)))

def F_ref_T_l31 (A60 : T_ref_At) (A63 : T_ref_Digit) : Nat → Int → Bool → Int → (Bool → Int → Prop) → Prop
  | 0, _, _, _, _ => False
  | n + 1, x4, x6, x9, Ke => (((decide ((0 : Int) < x4)) = true → (((decide ((0 : Int) < x9)) = true → (((decide (x9 < 1000000000000)) = true → (I64 ((10 : Int) * x9) ∧ (I64 (x4 - 1) ∧ F_ref_T_l31 A60 A63 n (x4 - 1) x6 (if ((10 : Int) * x9) < (1000000000000 : Int) then ((10 : Int) * x9) else (1000000000000 : Int)) Ke))) ∧ ((decide (x9 < 1000000000000)) = false → Ke x6 x9))) ∧ ((decide ((0 : Int) < x9)) = false → Ke x6 x9))) ∧ ((decide ((0 : Int) < x4)) = false → Ke x6 x9))

def F_ref_T (A60 : T_ref_At) (A63 : T_ref_Digit) (a0 : Bt) (K : Int → Prop) : Prop :=
  ((0 ≤ (0 : Int) ∧ (0 : Int) < (a0.length : Int)) ∧ ((0 ≤ (0 : Int) ∧ (0 : Int) < (a0.length : Int)) ∧ (((decide (((a0.getD 0 0).toNat : Int) = (43 : Int))) = false → (((decide (((a0.getD 0 0).toNat : Int) = (45 : Int))) = true → (I64 ((0 : Int) + (1 : Int)) ∧ (∃ m, F_ref_T_l5 A60 A63 m a0 ([] : Bt) (3 : Int) ((0 : Int) + (1 : Int)) (decide (((a0.getD 0 0).toNat : Int) = (45 : Int))) (fun y1 y2 y3 y4 y5 => (A60 y1 y4 (fun y6 => (((decide (y6 = 46)) = true → (I64 (y4 + 1) ∧ (∃ m, F_ref_T_l10 A60 A63 m y1 y2 y3 (y4 + 1) y5 (fun y7 y8 y9 y10 y11 => (((decide (y10 < (y7.length : Int))) = true → (I64 (y10 + 1) ∧ ((0 ≤ (y10 + 1) ∧ (y10 + 1) < (y7.length : Int)) ∧ ((0 ≤ (y10 + 1) ∧ (y10 + 1) < (y7.length : Int)) ∧ (((decide (((y7.getD (y10 + 1).toNat 0).toNat : Int) = (43 : Int))) = false → (((decide (((y7.getD (y10 + 1).toNat 0).toNat : Int) = (45 : Int))) = true → (I64 ((y10 + 1) + 1) ∧ (∃ m, F_ref_T_l20 A60 A63 m y7 y8 y9 ((y10 + 1) + 1) y11 (decide (((y7.getD (y10 + 1).toNat 0).toNat : Int) = (45 : Int))) (0 : Int) (fun y12 y13 y14 y15 y16 => ((y15 = true → (I64 (0 - y16) ∧ (I64 (y13 + (0 - y16)) ∧ (∃ m, F_ref_T_l28 A60 A63 m y12 (y13 + (0 - y16)) y14 (0 : Int) (0 : Int) (fun y17 y18 y19 => (∃ m, F_ref_T_l31 A60 A63 m y17 y18 y19 (fun y20 y21 => ((y20 = true → (I64 (0 - y21) ∧ K (0 - y21))) ∧ (y20 = false → K y21))))))))) ∧ (y15 = false → (I64 (y13 + y16) ∧ (∃ m, F_ref_T_l28 A60 A63 m y12 (y13 + y16) y14 (0 : Int) (0 : Int) (fun y22 y23 y24 => (∃ m, F_ref_T_l31 A60 A63 m y22 y23 y24 (fun y25 y26 => ((y25 = true → (I64 (0 - y26) ∧ K (0 - y26))) ∧ (y25 = false → K y26))))))))))))) ∧ ((decide (((y7.getD (y10 + 1).toNat 0).toNat : Int) = (45 : Int))) = false → (∃ m, F_ref_T_l20 A60 A63 m y7 y8 y9 (y10 + 1) y11 (decide (((y7.getD (y10 + 1).toNat 0).toNat : Int) = (45 : Int))) (0 : Int) (fun y27 y28 y29 y30 y31 => ((y30 = true → (I64 (0 - y31) ∧ (I64 (y28 + (0 - y31)) ∧ (∃ m, F_ref_T_l28 A60 A63 m y27 (y28 + (0 - y31)) y29 (0 : Int) (0 : Int) (fun y32 y33 y34 => (∃ m, F_ref_T_l31 A60 A63 m y32 y33 y34 (fun y35 y36 => ((y35 = true → (I64 (0 - y36) ∧ K (0 - y36))) ∧ (y35 = false → K y36))))))))) ∧ (y30 = false → (I64 (y28 + y31) ∧ (∃ m, F_ref_T_l28 A60 A63 m y27 (y28 + y31) y29 (0 : Int) (0 : Int) (fun y37 y38 y39 => (∃ m, F_ref_T_l31 A60 A63 m y37 y38 y39 (fun y40 y41 => ((y40 = true → (I64 (0 - y41) ∧ K (0 - y41))) ∧ (y40 = false → K y41)))))))))))))) ∧ ((decide (((y7.getD (y10 + 1).toNat 0).toNat : Int) = (43 : Int))) = true → (I64 ((y10 + 1) + 1) ∧ (∃ m, F_ref_T_l20 A60 A63 m y7 y8 y9 ((y10 + 1) + 1) y11 (decide (((y7.getD (y10 + 1).toNat 0).toNat : Int) = (45 : Int))) (0 : Int) (fun y42 y43 y44 y45 y46 => ((y45 = true → (I64 (0 - y46) ∧ (I64 (y43 + (0 - y46)) ∧ (∃ m, F_ref_T_l28 A60 A63 m y42 (y43 + (0 - y46)) y44 (0 : Int) (0 : Int) (fun y47 y48 y49 => (∃ m, F_ref_T_l31 A60 A63 m y47 y48 y49 (fun y50 y51 => ((y50 = true → (I64 (0 - y51) ∧ K (0 - y51))) ∧ (y50 = false → K y51))))))))) ∧ (y45 = false → (I64 (y43 + y46) ∧ (∃ m, F_ref_T_l28 A60 A63 m y42 (y43 + y46) y44 (0 : Int) (0 : Int) (fun y52 y53 y54 => (∃ m, F_ref_T_l31 A60 A63 m y52 y53 y54 (fun y55 y56 => ((y55 = true → (I64 (0 - y56) ∧ K (0 - y56))) ∧ (y55 = false → K y56)))))))))))))))))) ∧ ((decide (y10 < (y7.length : Int))) = false → (∃ m, F_ref_T_l28 A60 A63 m y8 y9 y11 (0 : Int) (0 : Int) (fun y57 y58 y59 => (∃ m, F_ref_T_l31 A60 A63 m y57 y58 y59 (fun y60 y61 => ((y60 = true → (I64 (0 - y61) ∧ K (0 - y61))) ∧ (y60 = false → K y61)))))))))))) ∧ ((decide (y6 = 46)) = false → (((decide (y4 < (y1.length : Int))) = true → (I64 (y4 + 1) ∧ ((0 ≤ (y4 + 1) ∧ (y4 + 1) < (y1.length : Int)) ∧ ((0 ≤ (y4 + 1) ∧ (y4 + 1) < (y1.length : Int)) ∧ (((decide (((y1.getD (y4 + 1).toNat 0).toNat : Int) = (43 : Int))) = false → (((decide (((y1.getD (y4 + 1).toNat 0).toNat : Int) = (45 : Int))) = true → (I64 ((y4 + 1) + 1) ∧ (∃ m, F_ref_T_l20 A60 A63 m y1 y2 y3 ((y4 + 1) + 1) y5 (decide (((y1.getD (y4 + 1).toNat 0).toNat : Int) = (45 : Int))) (0 : Int) (fun y62 y63 y64 y65 y66 => ((y65 = true → (I64 (0 - y66) ∧ (I64 (y63 + (0 - y66)) ∧ (∃ m, F_ref_T_l28 A60 A63 m y62 (y63 + (0 - y66)) y64 (0 : Int) (0 : Int) (fun y67 y68 y69 => (∃ m, F_ref_T_l31 A60 A63 m y67 y68 y69 (fun y70 y71 => ((y70 = true → (I64 (0 - y71) ∧ K (0 - y71))) ∧ (y70 = false → K y71))))))))) ∧ (y65 = false → (I64 (y63 + y66) ∧ (∃ m, F_ref_T_l28 A60 A63 m y62 (y63 + y66) y64 (0 : Int) (0 : Int) (fun y72 y73 y74 => (∃ m, F_ref_T_l31 A60 A63 m y72 y73 y74 (fun y75 y76 => ((y75 = true → (I64 (0 - y76) ∧ K (0 - y76))) ∧ (y75 = false → K y76))))))))))))) ∧ ((decide (((y1.getD (y4 + 1).toNat 0).toNat : Int) = (45 : Int))) = false → (∃ m, F_ref_T_l20 A60 A63 m y1 y2 y3 (y4 + 1) y5 (decide (((y1.getD (y4 + 1).toNat 0).toNat : Int) = (45 : Int))) (0 : Int) (fun y77 y78 y79 y80 y81 => ((y80 = true → (I64 (0 - y81) ∧ (I64 (y78 + (0 - y81)) ∧ (∃ m, F_ref_T_l28 A60 A63 m y77 (y78 + (0 - y81)) y79 (0 : Int) (0 : Int) (fun y82 y83 y84 => (∃ m, F_ref_T_l31 A60 A63 m y82 y83 y84 (fun y85 y86 => ((y85 = true → (I64 (0 - y86) ∧ K (0 - y86))) ∧ (y85 = false → K y86))))))))) ∧ (y80 = false → (I64 (y78 + y81) ∧ (∃ m, F_ref_T_l28 A60 A63 m y77 (y78 + y81) y79 (0 : Int) (0 : Int) (fun y87 y88 y89 => (∃ m, F_ref_T_l31 A60 A63 m y87 y88 y89 (fun y90 y91 => ((y90 = true → (I64 (0 - y91) ∧ K (0 - y91))) ∧ (y90 = false → K y91)))))))))))))) ∧ ((decide (((y1.getD (y4 + 1).toNat 0).toNat : Int) = (43 : Int))) = true → (I64 ((y4 + 1) + 1) ∧ (∃ m, F_ref_T_l20 A60 A63 m y1 y2 y3 ((y4 + 1) + 1) y5 (decide (((y1.getD (y4 + 1).toNat 0).toNat : Int) = (45 : Int))) (0 : Int) (fun y92 y93 y94 y95 y96 => ((y95 = true → (I64 (0 - y96) ∧ (I64 (y93 + (0 - y96)) ∧ (∃ m, F_ref_T_l28 A60 A63 m y92 (y93 + (0 - y96)) y94 (0 : Int) (0 : Int) (fun y97 y98 y99 => (∃ m, F_ref_T_l31 A60 A63 m y97 y98 y99 (fun y100 y101 => ((y100 = true → (I64 (0 - y101) ∧ K (0 - y101))) ∧ (y100 = false → K y101))))))))) ∧ (y95 = false → (I64 (y93 + y96) ∧ (∃ m, F_ref_T_l28 A60 A63 m y92 (y93 + y96) y94 (0 : Int) (0 : Int) (fun y102 y103 y104 => (∃ m, F_ref_T_l31 A60 A63 m y102 y103 y104 (fun y105 y106 => ((y105 = true → (I64 (0 - y106) ∧ K (0 - y106))) ∧ (y105 = false → K y106)))))))))))))))))) ∧ ((decide (y4 < (y1.length : Int))) = false → (∃ m, F_ref_T_l28 A60 A63 m y2 y3 y5 (0 : Int) (0 : Int) (fun y107 y108 y109 => (∃ m, F_ref_T_l31 A60 A63 m y107 y108 y109 (fun y110 y111 => ((y110 = true → (I64 (0 - y111) ∧ K (0 - y111))) ∧ (y110 = false → K y111)))))))))))))))) ∧ ((decide (((a0.getD 0 0).toNat : Int) = (45 : Int))) = false → (∃ m, F_ref_T_l5 A60 A63 m a0 ([] : Bt) (3 : Int) (0 : Int) (decide (((a0.getD 0 0).toNat : Int) = (45 : Int))) (fun y112 y113 y114 y115 y116 => (A60 y112 y115 (fun y117 => (((decide (y117 = 46)) = true → (I64 (y115 + 1) ∧ (∃ m, F_ref_T_l10 A60 A63 m y112 y113 y114 (y115 + 1) y116 (fun y118 y119 y120 y121 y122 => (((decide (y121 < (y118.length : Int))) = true → (I64 (y121 + 1) ∧ ((0 ≤ (y121 + 1) ∧ (y121 + 1) < (y118.length : Int)) ∧ ((0 ≤ (y121 + 1) ∧ (y121 + 1) < (y118.length : Int)) ∧ (((decide (((y118.getD (y121 + 1).toNat 0).toNat : Int) = (43 : Int))) = false → (((decide (((y118.getD (y121 + 1).toNat 0).toNat : Int) = (45 : Int))) = true → (I64 ((y121 + 1) + 1) ∧ (∃ m, F_ref_T_l20 A60 A63 m y118 y119 y120 ((y121 + 1) + 1) y122 (decide (((y118.getD (y121 + 1).toNat 0).toNat : Int) = (45 : Int))) (0 : Int) (fun y123 y124 y125 y126 y127 => ((y126 = true → (I64 (0 - y127) ∧ (I64 (y124 + (0 - y127)) ∧ (∃ m, F_ref_T_l28 A60 A63 m y123 (y124 + (0 - y127)) y125 (0 : Int) (0 : Int) (fun y128 y129 y130 => (∃ m, F_ref_T_l31 A60 A63 m y128 y129 y130 (fun y131 y132 => ((y131 = true → (I64 (0 - y132) ∧ K (0 - y132))) ∧ (y131 = false → K y132))))))))) ∧ (y126 = false → (I64 (y124 + y127) ∧ (∃ m, F_ref_T_l28 A60 A63 m y123 (y124 + y127) y125 (0 : Int) (0 : Int) (fun y133 y134 y135 => (∃ m, F_ref_T_l31 A60 A63 m y133 y134 y135 (fun y136 y137 => ((y136 = true → (I64 (0 - y137) ∧ K (0 - y137))) ∧ (y136 = false → K y137))))))))))))) ∧ ((decide (((y118.getD (y121 + 1).toNat 0).toNat : Int) = (45 : Int))) = false → (∃ m, F_ref_T_l20 A60 A63 m y118 y119 y120 (y121 + 1) y122 (decide (((y118.getD (y121 + 1).toNat 0).toNat : Int) = (45 : Int))) (0 : Int) (fun y138 y139 y140 y141 y142 => ((y141 = true → (I64 (0 - y142) ∧ (I64 (y139 + (0 - y142)) ∧ (∃ m, F_ref_T_l28 A60 A63 m y138 (y139 + (0 - y142)) y140 (0 : Int) (0 : Int) (fun y143 y144 y145 => (∃ m, F_ref_T_l31 A60 A63 m y143 y144 y145 (fun y146 y147 => ((y146 = true → (I64 (0 - y147) ∧ K (0 - y147))) ∧ (y146 = false → K y147))))))))) ∧ (y141 = false → (I64 (y139 + y142) ∧ (∃ m, F_ref_T_l28 A60 A63 m y138 (y139 + y142) y140 (0 : Int) (0 : Int) (fun y148 y149 y150 => (∃ m, F_ref_T_l31 A60 A63 m y148 y149 y150 (fun y151 y152 => ((y151 = true → (I64 (0 - y152) ∧ K (0 - y152))) ∧ (y151 = false → K y152)))))))))))))) ∧ ((decide (((y118.getD (y121 + 1).toNat 0).toNat : Int) = (43 : Int))) = true → (I64 ((y121 + 1) + 1) ∧ (∃ m, F_ref_T_l20 A60 A63 m y118 y119 y120 ((y121 + 1) + 1) y122 (decide (((y118.getD (y121 + 1).toNat 0).toNat : Int) = (45 : Int))) (0 : Int) (fun y153 y154 y155 y156 y157 => ((y156 = true → (I64 (0 - y157) ∧ (I64 (y154 + (0 - y157)) ∧ (∃ m, F_ref_T_l28 A60 A63 m y153 (y154 + (0 - y157)) y155 (0 : Int) (0 : Int) (fun y158 y159 y160 => (∃ m, F_ref_T_l31 A60 A63 m y158 y159 y160 (fun y161 y162 => ((y161 = true → (I64 (0 - y162) ∧ K (0 - y162))) ∧ (y161 = false → K y162))))))))) ∧ (y156 = false → (I64 (y154 + y157) ∧ (∃ m, F_ref_T_l28 A60 A63 m y153 (y154 + y157) y155 (0 : Int) (0 : Int) (fun y163 y164 y165 => (∃ m, F_ref_T_l31 A60 A63 m y163 y164 y165 (fun y166 y167 => ((y166 = true → (I64 (0 - y167) ∧ K (0 - y167))) ∧ (y166 = false → K y167)))))))))))))))))) ∧ ((decide (y121 < (y118.length : Int))) = false → (∃ m, F_ref_T_l28 A60 A63 m y119 y120 y122 (0 : Int) (0 : Int) (fun y168 y169 y170 => (∃ m, F_ref_T_l31 A60 A63 m y168 y169 y170 (fun y171 y172 => ((y171 = true → (I64 (0 - y172) ∧ K (0 - y172))) ∧ (y171 = false → K y172)))))))))))) ∧ ((decide (y117 = 46)) = false → (((decide (y115 < (y112.length : Int))) = true → (I64 (y115 + 1) ∧ ((0 ≤ (y115 + 1) ∧ (y115 + 1) < (y112.length : Int)) ∧ ((0 ≤ (y115 + 1) ∧ (y115 + 1) < (y112.length : Int)) ∧ (((decide (((y112.getD (y115 + 1).toNat 0).toNat : Int) = (43 : Int))) = false → (((decide (((y112.getD (y115 + 1).toNat 0).toNat : Int) = (45 : Int))) = true → (I64 ((y115 + 1) + 1) ∧ (∃ m, F_ref_T_l20 A60 A63 m y112 y113 y114 ((y115 + 1) + 1) y116 (decide (((y112.getD (y115 + 1).toNat 0).toNat : Int) = (45 : Int))) (0 : Int) (fun y173 y174 y175 y176 y177 => ((y176 = true → (I64 (0 - y177) ∧ (I64 (y174 + (0 - y177)) ∧ (∃ m, F_ref_T_l28 A60 A63 m y173 (y174 + (0 - y177)) y175 (0 : Int) (0 : Int) (fun y178 y179 y180 => (∃ m, F_ref_T_l31 A60 A63 m y178 y179 y180 (fun y181 y182 => ((y181 = true → (I64 (0 - y182) ∧ K (0 - y182))) ∧ (y181 = false → K y182))))))))) ∧ (y176 = false → (I64 (y174 + y177) ∧ (∃ m, F_ref_T_l28 A60 A63 m y173 (y174 + y177) y175 (0 : Int) (0 : Int) (fun y183 y184 y185 => (∃ m, F_ref_T_l31 A60 A63 m y183 y184 y185 (fun y186 y187 => ((y186 = true → (I64 (0 - y187) ∧ K (0 - y187))) ∧ (y186 = false → K y187))))))))))))) ∧ ((decide (((y112.getD (y115 + 1).toNat 0).toNat : Int) = (45 : Int))) = false → (∃ m, F_ref_T_l20 A60 A63 m y112 y113 y114 (y115 + 1) y116 (decide (((y112.getD (y115 + 1).toNat 0).toNat : Int) = (45 : Int))) (0 : Int) (fun y188 y189 y190 y191 y192 => ((y191 = true → (I64 (0 - y192) ∧ (I64 (y189 + (0 - y192)) ∧ (∃ m, F_ref_T_l28 A60 A63 m y188 (y189 + (0 - y192)) y190 (0 : Int) (0 : Int) (fun y193 y194 y195 => (∃ m, F_ref_T_l31 A60 A63 m y193 y194 y195 (fun y196 y197 => ((y196 = true → (I64 (0 - y197) ∧ K (0 - y197))) ∧ (y196 = false → K y197))))))))) ∧ (y191 = false → (I64 (y189 + y192) ∧ (∃ m, F_ref_T_l28 A60 A63 m y188 (y189 + y192) y190 (0 : Int) (0 : Int) (fun y198 y199 y200 => (∃ m, F_ref_T_l31 A60 A63 m y198 y199 y200 (fun y201 y202 => ((y201 = true → (I64 (0 - y202) ∧ K (0 - y202))) ∧ (y201 = false → K y202)))))))))))))) ∧ ((decide (((y112.getD (y115 + 1).toNat 0).toNat : Int) = (43 : Int))) = true → (I64 ((y115 + 1) + 1) ∧ (∃ m, F_ref_T_l20 A60 A63 m y112 y113 y114 ((y115 + 1) + 1) y116 (decide (((y112.getD (y115 + 1).toNat 0).toNat : Int) = (45 : Int))) (0 : Int) (fun y203 y204 y205 y206 y207 => ((y206 = true → (I64 (0 - y207) ∧ (I64 (y204 + (0 - y207)) ∧ (∃ m, F_ref_T_l28 A60 A63 m y203 (y204 + (0 - y207)) y205 (0 : Int) (0 : Int) (fun y208 y209 y210 => (∃ m, F_ref_T_l31 A60 A63 m y208 y209 y210 (fun y211 y212 => ((y211 = true → (I64 (0 - y212) ∧ K (0 - y212))) ∧ (y211 = false → K y212))))))))) ∧ (y206 = false → (I64 (y204 + y207) ∧ (∃ m, F_ref_T_l28 A60 A63 m y203 (y204 + y207) y205 (0 : Int) (0 : Int) (fun y213 y214 y215 => (∃ m, F_ref_T_l31 A60 A63 m y213 y214 y215 (fun y216 y217 => ((y216 = true → (I64 (0 - y217) ∧ K (0 - y217))) ∧ (y216 = false → K y217)))))))))))))))))) ∧ ((decide (y115 < (y112.length : Int))) = false → (∃ m, F_ref_T_l28 A60 A63 m y113 y114 y116 (0 : Int) (0 : Int) (fun y218 y219 y220 => (∃ m, F_ref_T_l31 A60 A63 m y218 y219 y220 (fun y221 y222 => ((y221 = true → (I64 (0 - y222) ∧ K (0 - y222))) ∧ (y221 = false → K y222))))))))))))))))) ∧ ((decide (((a0.getD 0 0).toNat : Int) = (43 : Int))) = true → (I64 ((0 : Int) + (1 : Int)) ∧ (∃ m, F_ref_T_l5 A60 A63 m a0 ([] : Bt) (3 : Int) ((0 : Int) + (1 : Int)) (decide (((a0.getD 0 0).toNat : Int) = (45 : Int))) (fun y223 y224 y225 y226 y227 => (A60 y223 y226 (fun y228 => (((decide (y228 = 46)) = true → (I64 (y226 + 1) ∧ (∃ m, F_ref_T_l10 A60 A63 m y223 y224 y225 (y226 + 1) y227 (fun y229 y230 y231 y232 y233 => (((decide (y232 < (y229.length : Int))) = true → (I64 (y232 + 1) ∧ ((0 ≤ (y232 + 1) ∧ (y232 + 1) < (y229.length : Int)) ∧ ((0 ≤ (y232 + 1) ∧ (y232 + 1) < (y229.length : Int)) ∧ (((decide (((y229.getD (y232 + 1).toNat 0).toNat : Int) = (43 : Int))) = false → (((decide (((y229.getD (y232 + 1).toNat 0).toNat : Int) = (45 : Int))) = true → (I64 ((y232 + 1) + 1) ∧ (∃ m, F_ref_T_l20 A60 A63 m y229 y230 y231 ((y232 + 1) + 1) y233 (decide (((y229.getD (y232 + 1).toNat 0).toNat : Int) = (45 : Int))) (0 : Int) (fun y234 y235 y236 y237 y238 => ((y237 = true → (I64 (0 - y238) ∧ (I64 (y235 + (0 - y238)) ∧ (∃ m, F_ref_T_l28 A60 A63 m y234 (y235 + (0 - y238)) y236 (0 : Int) (0 : Int) (fun y239 y240 y241 => (∃ m, F_ref_T_l31 A60 A63 m y239 y240 y241 (fun y242 y243 => ((y242 = true → (I64 (0 - y243) ∧ K (0 - y243))) ∧ (y242 = false → K y243))))))))) ∧ (y237 = false → (I64 (y235 + y238) ∧ (∃ m, F_ref_T_l28 A60 A63 m y234 (y235 + y238) y236 (0 : Int) (0 : Int) (fun y244 y245 y246 => (∃ m, F_ref_T_l31 A60 A63 m y244 y245 y246 (fun y247 y248 => ((y247 = true → (I64 (0 - y248) ∧ K (0 - y248))) ∧ (y247 = false → K y248))))))))))))) ∧ ((decide (((y229.getD (y232 + 1).toNat 0).toNat : Int) = (45 : Int))) = false → (∃ m, F_ref_T_l20 A60 A63 m y229 y230 y231 (y232 + 1) y233 (decide (((y229.getD (y232 + 1).toNat 0).toNat : Int) = (45 : Int))) (0 : Int) (fun y249 y250 y251 y252 y253 => ((y252 = true → (I64 (0 - y253) ∧ (I64 (y250 + (0 - y253)) ∧ (∃ m, F_ref_T_l28 A60 A63 m y249 (y250 + (0 - y253)) y251 (0 : Int) (0 : Int) (fun y254 y255 y256 => (∃ m, F_ref_T_l31 A60 A63 m y254 y255 y256 (fun y257 y258 => ((y257 = true → (I64 (0 - y258) ∧ K (0 - y258))) ∧ (y257 = false → K y258))))))))) ∧ (y252 = false → (I64 (y250 + y253) ∧ (∃ m, F_ref_T_l28 A60 A63 m y249 (y250 + y253) y251 (0 : Int) (0 : Int) (fun y259 y260 y261 => (∃ m, F_ref_T_l31 A60 A63 m y259 y260 y261 (fun y262 y263 => ((y262 = true → (I64 (0 - y263) ∧ K (0 - y263))) ∧ (y262 = false → K y263)))))))))))))) ∧ ((decide (((y229.getD (y232 + 1).toNat 0).toNat : Int) = (43 : Int))) = true → (I64 ((y232 + 1) + 1) ∧ (∃ m, F_ref_T_l20 A60 A63 m y229 y230 y231 ((y232 + 1) + 1) y233 (decide (((y229.getD (y232 + 1).toNat 0).toNat : Int) = (45 : Int))) (0 : Int) (fun y264 y265 y266 y267 y268 => ((y267 = true → (I64 (0 - y268) ∧ (I64 (y265 + (0 - y268)) ∧ (∃ m, F_ref_T_l28 A60 A63 m y264 (y265 + (0 - y268)) y266 (0 : Int) (0 : Int) (fun y269 y270 y271 => (∃ m, F_ref_T_l31 A60 A63 m y269 y270 y271 (fun y272 y273 => ((y272 = true → (I64 (0 - y273) ∧ K (0 - y273))) ∧ (y272 = false → K y273))))))))) ∧ (y267 = false → (I64 (y265 + y268) ∧ (∃ m, F_ref_T_l28 A60 A63 m y264 (y265 + y268) y266 (0 : Int) (0 : Int) (fun y274 y275 y276 => (∃ m, F_ref_T_l31 A60 A63 m y274 y275 y276 (fun y277 y278 => ((y277 = true → (I64 (0 - y278) ∧ K (0 - y278))) ∧ (y277 = false → K y278)))))))))))))))))) ∧ ((decide (y232 < (y229.length : Int))) = false → (∃ m, F_ref_T_l28 A60 A63 m y230 y231 y233 (0 : Int) (0 : Int) (fun y279 y280 y281 => (∃ m, F_ref_T_l31 A60 A63 m y279 y280 y281 (fun y282 y283 => ((y282 = true → (I64 (0 - y283) ∧ K (0 - y283))) ∧ (y282 = false → K y283)))))))))))) ∧ ((decide (y228 = 46)) = false → (((decide (y226 < (y223.length : Int))) = true → (I64 (y226 + 1) ∧ ((0 ≤ (y226 + 1) ∧ (y226 + 1) < (y223.length : Int)) ∧ ((0 ≤ (y226 + 1) ∧ (y226 + 1) < (y223.length : Int)) ∧ (((decide (((y223.getD (y226 + 1).toNat 0).toNat : Int) = (43 : Int))) = false → (((decide (((y223.getD (y226 + 1).toNat 0).toNat : Int) = (45 : Int))) = true → (I64 ((y226 + 1) + 1) ∧ (∃ m, F_ref_T_l20 A60 A63 m y223 y224 y225 ((y226 + 1) + 1) y227 (decide (((y223.getD (y226 + 1).toNat 0).toNat : Int) = (45 : Int))) (0 : Int) (fun y284 y285 y286 y287 y288 => ((y287 = true → (I64 (0 - y288) ∧ (I64 (y285 + (0 - y288)) ∧ (∃ m, F_ref_T_l28 A60 A63 m y284 (y285 + (0 - y288)) y286 (0 : Int) (0 : Int) (fun y289 y290 y291 => (∃ m, F_ref_T_l31 A60 A63 m y289 y290 y291 (fun y292 y293 => ((y292 = true → (I64 (0 - y293) ∧ K (0 - y293))) ∧ (y292 = false → K y293))))))))) ∧ (y287 = false → (I64 (y285 + y288) ∧ (∃ m, F_ref_T_l28 A60 A63 m y284 (y285 + y288) y286 (0 : Int) (0 : Int) (fun y294 y295 y296 => (∃ m, F_ref_T_l31 A60 A63 m y294 y295 y296 (fun y297 y298 => ((y297 = true → (I64 (0 - y298) ∧ K (0 - y298))) ∧ (y297 = false → K y298))))))))))))) ∧ ((decide (((y223.getD (y226 + 1).toNat 0).toNat : Int) = (45 : Int))) = false → (∃ m, F_ref_T_l20 A60 A63 m y223 y224 y225 (y226 + 1) y227 (decide (((y223.getD (y226 + 1).toNat 0).toNat : Int) = (45 : Int))) (0 : Int) (fun y299 y300 y301 y302 y303 => ((y302 = true → (I64 (0 - y303) ∧ (I64 (y300 + (0 - y303)) ∧ (∃ m, F_ref_T_l28 A60 A63 m y299 (y300 + (0 - y303)) y301 (0 : Int) (0 : Int) (fun y304 y305 y306 => (∃ m, F_ref_T_l31 A60 A63 m y304 y305 y306 (fun y307 y308 => ((y307 = true → (I64 (0 - y308) ∧ K (0 - y308))) ∧ (y307 = false → K y308))))))))) ∧ (y302 = false → (I64 (y300 + y303) ∧ (∃ m, F_ref_T_l28 A60 A63 m y299 (y300 + y303) y301 (0 : Int) (0 : Int) (fun y309 y310 y311 => (∃ m, F_ref_T_l31 A60 A63 m y309 y310 y311 (fun y312 y313 => ((y312 = true → (I64 (0 - y313) ∧ K (0 - y313))) ∧ (y312 = false → K y313)))))))))))))) ∧ ((decide (((y223.getD (y226 + 1).toNat 0).toNat : Int) = (43 : Int))) = true → (I64 ((y226 + 1) + 1) ∧ (∃ m, F_ref_T_l20 A60 A63 m y223 y224 y225 ((y226 + 1) + 1) y227 (decide (((y223.getD (y226 + 1).toNat 0).toNat : Int) = (45 : Int))) (0 : Int) (fun y314 y315 y316 y317 y318 => ((y317 = true → (I64 (0 - y318) ∧ (I64 (y315 + (0 - y318)) ∧ (∃ m, F_ref_T_l28 A60 A63 m y314 (y315 + (0 - y318)) y316 (0 : Int) (0 : Int) (fun y319 y320 y321 => (∃ m, F_ref_T_l31 A60 A63 m y319 y320 y321 (fun y322 y323 => ((y322 = true → (I64 (0 - y323) ∧ K (0 - y323))) ∧ (y322 = false → K y323))))))))) ∧ (y317 = false → (I64 (y315 + y318) ∧ (∃ m, F_ref_T_l28 A60 A63 m y314 (y315 + y318) y316 (0 : Int) (0 : Int) (fun y324 y325 y326 => (∃ m, F_ref_T_l31 A60 A63 m y324 y325 y326 (fun y327 y328 => ((y327 = true → (I64 (0 - y328) ∧ K (0 - y328))) ∧ (y327 = false → K y328)))))))))))))))))) ∧ ((decide (y226 < (y223.length : Int))) = false → (∃ m, F_ref_T_l28 A60 A63 m y224 y225 y227 (0 : Int) (0 : Int) (fun y329 y330 y331 => (∃ m, F_ref_T_l31 A60 A63 m y329 y330 y331 (fun y332 y333 => ((y332 = true → (I64 (0 - y333) ∧ K (0 - y333))) ∧ (y332 = false → K y333)))))))))))))))))))

def C_ref_T (A60 : T_ref_At) (A63 : T_ref_Digit) : CallT sg := tab [(60, con [none, none] (q_ref_At A60)), (63, con [none] (q_ref_Digit A63))]
theorem Cok_ref_T (A60 : T_ref_At) (A63 : T_ref_Digit) (h60 : FO 60 (q_ref_At A60)) (h63 : FO 63 (q_ref_Digit A63)) (o0 : Nat → Prop) : CalOK sy Tryz.prog GT ovD o0 GL (C_ref_T A60 A63) := (tab_cons (con_ok h60) (tab_cons (con_ok h63) tab_nil)) o0

def ls_ref_T_5 : LS sy ((Bt) × (Bt) × Int × Int × Bool × Unit) Unit := ⟨[], fCons 0 (vStr sy) (fCons 3 (vStr sy) (fCons 4 (vInt sy .i64) (fCons 5 (vInt sy .i64) (fCons 6 (vBool sy) (fNil sy))))), hNil sy, 0, []⟩
def le_ref_T_5 : LS sy ((Bt) × (Bt) × Int × Int × Bool × Unit) Unit := ⟨[], fCons 0 (vStr sy) (fCons 3 (vStr sy) (fCons 4 (vInt sy .i64) (fCons 5 (vInt sy .i64) (fCons 6 (vBool sy) (fNil sy))))), hNil sy, 0, []⟩
def lr_ref_T_5 : LS sy Unit Unit := ⟨[], fNil sy, hNil sy, 0, []⟩
def FF_ref_T_5 (A60 : T_ref_At) (A63 : T_ref_Digit) (n : Nat) (x : ((Bt) × (Bt) × Int × Int × Bool × Unit) × Unit) (K : Ex → Z sg → Prop) : Prop := F_ref_T_l5 A60 A63 n x.1.1 x.1.2.1 x.1.2.2.1 x.1.2.2.2.1 x.1.2.2.2.2.1 (fun y0 y1 y2 y3 y4 => K (.exit 0) (le_ref_T_5.put ((y0, y1, y2, y3, y4, ()), ())))
def h_ref_T_5 (A60 : T_ref_At) (A63 : T_ref_Digit) (z : Z sg) (K : Ex → Z sg → Prop) : Prop := ls_ref_T_5.get z (fun x => ∃ n, FF_ref_T_5 A60 A63 n x K)
def ls_ref_T_10 : LS sy ((Bt) × (Bt) × Int × Int × Bool × Unit) Unit := ⟨[], fCons 0 (vStr sy) (fCons 3 (vStr sy) (fCons 4 (vInt sy .i64) (fCons 5 (vInt sy .i64) (fCons 6 (vBool sy) (fNil sy))))), hNil sy, 0, []⟩
def le_ref_T_10 : LS sy ((Bt) × (Bt) × Int × Int × Bool × Unit) Unit := ⟨[], fCons 0 (vStr sy) (fCons 3 (vStr sy) (fCons 4 (vInt sy .i64) (fCons 5 (vInt sy .i64) (fCons 6 (vBool sy) (fNil sy))))), hNil sy, 0, []⟩
def lr_ref_T_10 : LS sy Unit Unit := ⟨[], fNil sy, hNil sy, 0, []⟩
def FF_ref_T_10 (A60 : T_ref_At) (A63 : T_ref_Digit) (n : Nat) (x : ((Bt) × (Bt) × Int × Int × Bool × Unit) × Unit) (K : Ex → Z sg → Prop) : Prop := F_ref_T_l10 A60 A63 n x.1.1 x.1.2.1 x.1.2.2.1 x.1.2.2.2.1 x.1.2.2.2.2.1 (fun y0 y1 y2 y3 y4 => K (.exit 2) (le_ref_T_10.put ((y0, y1, y2, y3, y4, ()), ())))
def h_ref_T_10 (A60 : T_ref_At) (A63 : T_ref_Digit) (z : Z sg) (K : Ex → Z sg → Prop) : Prop := ls_ref_T_10.get z (fun x => ∃ n, FF_ref_T_10 A60 A63 n x K)
def ls_ref_T_20 : LS sy ((Bt) × (Bt) × Int × Int × Bool × Bool × Int × Unit) Unit := ⟨[], fCons 0 (vStr sy) (fCons 3 (vStr sy) (fCons 4 (vInt sy .i64) (fCons 5 (vInt sy .i64) (fCons 6 (vBool sy) (fCons 7 (vBool sy) (fCons 8 (vInt sy .i64) (fNil sy))))))), hNil sy, 0, []⟩
def le_ref_T_20 : LS sy ((Bt) × Int × Bool × Bool × Int × Unit) Unit := ⟨[], fCons 3 (vStr sy) (fCons 4 (vInt sy .i64) (fCons 6 (vBool sy) (fCons 7 (vBool sy) (fCons 8 (vInt sy .i64) (fNil sy))))), hNil sy, 0, []⟩
def lr_ref_T_20 : LS sy Unit Unit := ⟨[], fNil sy, hNil sy, 0, []⟩
def FF_ref_T_20 (A60 : T_ref_At) (A63 : T_ref_Digit) (n : Nat) (x : ((Bt) × (Bt) × Int × Int × Bool × Bool × Int × Unit) × Unit) (K : Ex → Z sg → Prop) : Prop := F_ref_T_l20 A60 A63 n x.1.1 x.1.2.1 x.1.2.2.1 x.1.2.2.2.1 x.1.2.2.2.2.1 x.1.2.2.2.2.2.1 x.1.2.2.2.2.2.2.1 (fun y0 y1 y2 y3 y4 => K (.exit 4) (le_ref_T_20.put ((y0, y1, y2, y3, y4, ()), ())))
def h_ref_T_20 (A60 : T_ref_At) (A63 : T_ref_Digit) (z : Z sg) (K : Ex → Z sg → Prop) : Prop := ls_ref_T_20.get z (fun x => ∃ n, FF_ref_T_20 A60 A63 n x K)
def ls_ref_T_28 : LS sy ((Bt) × Int × Bool × Int × Int × Unit) Unit := ⟨[], fCons 3 (vStr sy) (fCons 4 (vInt sy .i64) (fCons 6 (vBool sy) (fCons 9 (vInt sy .i64) (fCons 10 (vInt sy .i64) (fNil sy))))), hNil sy, 0, []⟩
def le_ref_T_28 : LS sy (Int × Bool × Int × Unit) Unit := ⟨[], fCons 4 (vInt sy .i64) (fCons 6 (vBool sy) (fCons 9 (vInt sy .i64) (fNil sy))), hNil sy, 0, []⟩
def lr_ref_T_28 : LS sy Unit Unit := ⟨[], fNil sy, hNil sy, 0, []⟩
def FF_ref_T_28 (A60 : T_ref_At) (A63 : T_ref_Digit) (n : Nat) (x : ((Bt) × Int × Bool × Int × Int × Unit) × Unit) (K : Ex → Z sg → Prop) : Prop := F_ref_T_l28 A60 A63 n x.1.1 x.1.2.1 x.1.2.2.1 x.1.2.2.2.1 x.1.2.2.2.2.1 (fun y0 y1 y2 => K (.exit 6) (le_ref_T_28.put ((y0, y1, y2, ()), ())))
def h_ref_T_28 (A60 : T_ref_At) (A63 : T_ref_Digit) (z : Z sg) (K : Ex → Z sg → Prop) : Prop := ls_ref_T_28.get z (fun x => ∃ n, FF_ref_T_28 A60 A63 n x K)
def ls_ref_T_31 : LS sy (Int × Bool × Int × Unit) Unit := ⟨[], fCons 4 (vInt sy .i64) (fCons 6 (vBool sy) (fCons 9 (vInt sy .i64) (fNil sy))), hNil sy, 0, []⟩
def le_ref_T_31 : LS sy (Bool × Int × Unit) Unit := ⟨[], fCons 6 (vBool sy) (fCons 9 (vInt sy .i64) (fNil sy)), hNil sy, 0, []⟩
def lr_ref_T_31 : LS sy Unit Unit := ⟨[], fNil sy, hNil sy, 0, []⟩
def FF_ref_T_31 (A60 : T_ref_At) (A63 : T_ref_Digit) (n : Nat) (x : (Int × Bool × Int × Unit) × Unit) (K : Ex → Z sg → Prop) : Prop := F_ref_T_l31 A60 A63 n x.1.1 x.1.2.1 x.1.2.2.1 (fun y0 y1 => K (.exit 8) (le_ref_T_31.put ((y0, y1, ()), ())))
def h_ref_T_31 (A60 : T_ref_At) (A63 : T_ref_Digit) (z : Z sg) (K : Ex → Z sg → Prop) : Prop := ls_ref_T_31.get z (fun x => ∃ n, FF_ref_T_31 A60 A63 n x K)
def L_ref_T (A60 : T_ref_At) (A63 : T_ref_Digit) : LoopT sg := tabL [(5, h_ref_T_5 A60 A63), (10, h_ref_T_10 A60 A63), (20, h_ref_T_20 A60 A63), (28, h_ref_T_28 A60 A63), (31, h_ref_T_31 A60 A63)]
theorem hs_ref_T_5 (A60 : T_ref_At) (A63 : T_ref_Digit) (n : Nat) (x : ((Bt) × (Bt) × Int × Int × Bool × Unit) × Unit) (K : Ex → Z sg → Prop) : forceZ (ls_ref_T_5.put x) (fun z => sC sy Tryz.prog GT (C_ref_T A60 A63) (L_ref_T A60 A63) Tryz.f65.ntmps (nthLoop (bodyOf Tryz.f65) 0) z (rnd ls_ref_T_5 (czT 0 le_ref_T_5 lr_ref_T_5) (fun x => FF_ref_T_5 A60 A63 n x K) K)) = FF_ref_T_5 A60 A63 (n + 1) x K := by kernel_rfl
theorem hl_ref_T_5 (A60 : T_ref_At) (A63 : T_ref_Digit) (z : Z sg) (K : Ex → Z sg → Prop) : (L_ref_T A60 A63) (nthLoop (bodyOf Tryz.f65) 0) z K = ls_ref_T_5.get z (fun x => ∃ n, FF_ref_T_5 A60 A63 n x K) := by kernel_rfl
theorem lo_ref_T_5 (A60 : T_ref_At) (A63 : T_ref_Digit) (h60 : FO 60 (q_ref_At A60)) (h63 : FO 63 (q_ref_Digit A63)) : ∀ (o0 : Nat → Prop) (B : Bs sg), B.E.length ≤ 0 → ∀ z K, (L_ref_T A60 A63) (nthLoop (bodyOf Tryz.f65) 0) z K → Sx.Sem sy Tryz.prog GT ovD o0 GL Tryz.f65.ntmps B (.loop (nthLoop (bodyOf Tryz.f65) 0)) z K :=
  loop_ok (Cok_ref_T A60 A63 h60 h63) (lp_of (l := []) (by kernel_rfl) lp_nil) ls_ref_T_5 (by decide) (czT 0 le_ref_T_5 lr_ref_T_5) (fun _ _ hB => czT_ok 0 le_ref_T_5 lr_ref_T_5 (Nat.le_trans hB (by decide)) (Nat.le_trans hB (by decide))) (fun _ _ h => h) (hs_ref_T_5 A60 A63) (hl_ref_T_5 A60 A63)
theorem hs_ref_T_10 (A60 : T_ref_At) (A63 : T_ref_Digit) (n : Nat) (x : ((Bt) × (Bt) × Int × Int × Bool × Unit) × Unit) (K : Ex → Z sg → Prop) : forceZ (ls_ref_T_10.put x) (fun z => sC sy Tryz.prog GT (C_ref_T A60 A63) (L_ref_T A60 A63) Tryz.f65.ntmps (nthLoop (bodyOf Tryz.f65) 1) z (rnd ls_ref_T_10 (czT 2 le_ref_T_10 lr_ref_T_10) (fun x => FF_ref_T_10 A60 A63 n x K) K)) = FF_ref_T_10 A60 A63 (n + 1) x K := by kernel_rfl
theorem hl_ref_T_10 (A60 : T_ref_At) (A63 : T_ref_Digit) (z : Z sg) (K : Ex → Z sg → Prop) : (L_ref_T A60 A63) (nthLoop (bodyOf Tryz.f65) 1) z K = ls_ref_T_10.get z (fun x => ∃ n, FF_ref_T_10 A60 A63 n x K) := by kernel_rfl
theorem lo_ref_T_10 (A60 : T_ref_At) (A63 : T_ref_Digit) (h60 : FO 60 (q_ref_At A60)) (h63 : FO 63 (q_ref_Digit A63)) : ∀ (o0 : Nat → Prop) (B : Bs sg), B.E.length ≤ 0 → ∀ z K, (L_ref_T A60 A63) (nthLoop (bodyOf Tryz.f65) 1) z K → Sx.Sem sy Tryz.prog GT ovD o0 GL Tryz.f65.ntmps B (.loop (nthLoop (bodyOf Tryz.f65) 1)) z K :=
  loop_ok (Cok_ref_T A60 A63 h60 h63) (lp_of (l := []) (by kernel_rfl) lp_nil) ls_ref_T_10 (by decide) (czT 2 le_ref_T_10 lr_ref_T_10) (fun _ _ hB => czT_ok 2 le_ref_T_10 lr_ref_T_10 (Nat.le_trans hB (by decide)) (Nat.le_trans hB (by decide))) (fun _ _ h => h) (hs_ref_T_10 A60 A63) (hl_ref_T_10 A60 A63)
theorem hs_ref_T_20 (A60 : T_ref_At) (A63 : T_ref_Digit) (n : Nat) (x : ((Bt) × (Bt) × Int × Int × Bool × Bool × Int × Unit) × Unit) (K : Ex → Z sg → Prop) : forceZ (ls_ref_T_20.put x) (fun z => sC sy Tryz.prog GT (C_ref_T A60 A63) (L_ref_T A60 A63) Tryz.f65.ntmps (nthLoop (bodyOf Tryz.f65) 2) z (rnd ls_ref_T_20 (czT 4 le_ref_T_20 lr_ref_T_20) (fun x => FF_ref_T_20 A60 A63 n x K) K)) = FF_ref_T_20 A60 A63 (n + 1) x K := by kernel_rfl
theorem hl_ref_T_20 (A60 : T_ref_At) (A63 : T_ref_Digit) (z : Z sg) (K : Ex → Z sg → Prop) : (L_ref_T A60 A63) (nthLoop (bodyOf Tryz.f65) 2) z K = ls_ref_T_20.get z (fun x => ∃ n, FF_ref_T_20 A60 A63 n x K) := by kernel_rfl
theorem lo_ref_T_20 (A60 : T_ref_At) (A63 : T_ref_Digit) (h60 : FO 60 (q_ref_At A60)) (h63 : FO 63 (q_ref_Digit A63)) : ∀ (o0 : Nat → Prop) (B : Bs sg), B.E.length ≤ 0 → ∀ z K, (L_ref_T A60 A63) (nthLoop (bodyOf Tryz.f65) 2) z K → Sx.Sem sy Tryz.prog GT ovD o0 GL Tryz.f65.ntmps B (.loop (nthLoop (bodyOf Tryz.f65) 2)) z K :=
  loop_ok (Cok_ref_T A60 A63 h60 h63) (lp_of (l := []) (by kernel_rfl) lp_nil) ls_ref_T_20 (by decide) (czT 4 le_ref_T_20 lr_ref_T_20) (fun _ _ hB => czT_ok 4 le_ref_T_20 lr_ref_T_20 (Nat.le_trans hB (by decide)) (Nat.le_trans hB (by decide))) (fun _ _ h => h) (hs_ref_T_20 A60 A63) (hl_ref_T_20 A60 A63)
theorem hs_ref_T_28 (A60 : T_ref_At) (A63 : T_ref_Digit) (n : Nat) (x : ((Bt) × Int × Bool × Int × Int × Unit) × Unit) (K : Ex → Z sg → Prop) : forceZ (ls_ref_T_28.put x) (fun z => sC sy Tryz.prog GT (C_ref_T A60 A63) (L_ref_T A60 A63) Tryz.f65.ntmps (nthLoop (bodyOf Tryz.f65) 3) z (rnd ls_ref_T_28 (czT 6 le_ref_T_28 lr_ref_T_28) (fun x => FF_ref_T_28 A60 A63 n x K) K)) = FF_ref_T_28 A60 A63 (n + 1) x K := by kernel_rfl
theorem hl_ref_T_28 (A60 : T_ref_At) (A63 : T_ref_Digit) (z : Z sg) (K : Ex → Z sg → Prop) : (L_ref_T A60 A63) (nthLoop (bodyOf Tryz.f65) 3) z K = ls_ref_T_28.get z (fun x => ∃ n, FF_ref_T_28 A60 A63 n x K) := by kernel_rfl
theorem lo_ref_T_28 (A60 : T_ref_At) (A63 : T_ref_Digit) (h60 : FO 60 (q_ref_At A60)) (h63 : FO 63 (q_ref_Digit A63)) : ∀ (o0 : Nat → Prop) (B : Bs sg), B.E.length ≤ 0 → ∀ z K, (L_ref_T A60 A63) (nthLoop (bodyOf Tryz.f65) 3) z K → Sx.Sem sy Tryz.prog GT ovD o0 GL Tryz.f65.ntmps B (.loop (nthLoop (bodyOf Tryz.f65) 3)) z K :=
  loop_ok (Cok_ref_T A60 A63 h60 h63) (lp_of (l := []) (by kernel_rfl) lp_nil) ls_ref_T_28 (by decide) (czT 6 le_ref_T_28 lr_ref_T_28) (fun _ _ hB => czT_ok 6 le_ref_T_28 lr_ref_T_28 (Nat.le_trans hB (by decide)) (Nat.le_trans hB (by decide))) (fun _ _ h => h) (hs_ref_T_28 A60 A63) (hl_ref_T_28 A60 A63)
theorem hs_ref_T_31 (A60 : T_ref_At) (A63 : T_ref_Digit) (n : Nat) (x : (Int × Bool × Int × Unit) × Unit) (K : Ex → Z sg → Prop) : forceZ (ls_ref_T_31.put x) (fun z => sC sy Tryz.prog GT (C_ref_T A60 A63) (L_ref_T A60 A63) Tryz.f65.ntmps (nthLoop (bodyOf Tryz.f65) 4) z (rnd ls_ref_T_31 (czT 8 le_ref_T_31 lr_ref_T_31) (fun x => FF_ref_T_31 A60 A63 n x K) K)) = FF_ref_T_31 A60 A63 (n + 1) x K := by kernel_rfl
theorem hl_ref_T_31 (A60 : T_ref_At) (A63 : T_ref_Digit) (z : Z sg) (K : Ex → Z sg → Prop) : (L_ref_T A60 A63) (nthLoop (bodyOf Tryz.f65) 4) z K = ls_ref_T_31.get z (fun x => ∃ n, FF_ref_T_31 A60 A63 n x K) := by kernel_rfl
theorem lo_ref_T_31 (A60 : T_ref_At) (A63 : T_ref_Digit) (h60 : FO 60 (q_ref_At A60)) (h63 : FO 63 (q_ref_Digit A63)) : ∀ (o0 : Nat → Prop) (B : Bs sg), B.E.length ≤ 0 → ∀ z K, (L_ref_T A60 A63) (nthLoop (bodyOf Tryz.f65) 4) z K → Sx.Sem sy Tryz.prog GT ovD o0 GL Tryz.f65.ntmps B (.loop (nthLoop (bodyOf Tryz.f65) 4)) z K :=
  loop_ok (Cok_ref_T A60 A63 h60 h63) (lp_of (l := []) (by kernel_rfl) lp_nil) ls_ref_T_31 (by decide) (czT 8 le_ref_T_31 lr_ref_T_31) (fun _ _ hB => czT_ok 8 le_ref_T_31 lr_ref_T_31 (Nat.le_trans hB (by decide)) (Nat.le_trans hB (by decide))) (fun _ _ h => h) (hs_ref_T_31 A60 A63) (hl_ref_T_31 A60 A63)
theorem Lp_ref_T (A60 : T_ref_At) (A63 : T_ref_Digit) (h60 : FO 60 (q_ref_At A60)) (h63 : FO 63 (q_ref_Digit A63)) : LpOK sy Tryz.prog GT ovD GL (L_ref_T A60 A63) 0 Tryz.f65.ntmps (bodyOf Tryz.f65) := lp_of (l := [(nthLoop (bodyOf Tryz.f65) 0), (nthLoop (bodyOf Tryz.f65) 1), (nthLoop (bodyOf Tryz.f65) 2), (nthLoop (bodyOf Tryz.f65) 3), (nthLoop (bodyOf Tryz.f65) 4)]) (by kernel_rfl) (lp_cons (lo_ref_T_5 A60 A63 h60 h63) (lp_cons (lo_ref_T_10 A60 A63 h60 h63) (lp_cons (lo_ref_T_20 A60 A63 h60 h63) (lp_cons (lo_ref_T_28 A60 A63 h60 h63) (lp_cons (lo_ref_T_31 A60 A63 h60 h63) lp_nil)))))


theorem raw_ref_T (A60 : T_ref_At) (A63 : T_ref_Digit) (a0 : Bt) (k : W → Prop) : fnT sy Tryz.prog GT (C_ref_T A60 A63) (L_ref_T A60 A63) Tryz.f65.ntmps (bodyOf Tryz.f65) [none] Tryz.f65.results.toList [.s a0] k = F_ref_T A60 A63 a0 (fun r0 => k (.i .i64 r0)) := by kernel_rfl

theorem ok_ref_T (A60 : T_ref_At) (A63 : T_ref_Digit) (h60 : FO 60 (q_ref_At A60)) (h63 : FO 63 (q_ref_Digit A63)) : FO 65 (q_ref_T (F_ref_T A60 A63)) := (fn_ok (rc := [none]) (f := 65) (fn := Tryz.f65) (c := bodyOf Tryz.f65) (nt := Tryz.f65.ntmps) (res := Tryz.f65.results.toList) (C := C_ref_T A60 A63) (L := (L_ref_T A60 A63)) (fun _ => rfl) Tryz.func65 (by kernel_rfl) rfl rfl (Cok_ref_T A60 A63 h60 h63) (Lp_ref_T A60 A63 h60 h63)).weak (by
  intro us k h
  unfold q_ref_T at h
  split at h
  · skip
    rename_i a0
    rw [raw_ref_T A60 A63 a0 k]
    exact h
  · exact h.elim)

end Go.Proofs.YtcjoehlflbegpaaGreatDoor
