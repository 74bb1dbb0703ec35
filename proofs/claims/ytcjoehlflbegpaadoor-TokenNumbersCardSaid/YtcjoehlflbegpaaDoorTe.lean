/-
  Functions of the tokenizer, followed: tokens. Nothing is claimed here.
-/
import Derived.Test.YtcjoehlflbegpaaDoorTd
namespace Go.Proofs.YtcjoehlflbegpaaDoor
open Go.Vm Go.Sx Go.RowKit

abbrev T_char_IsLetter := Int → (Bool → Prop) → Prop
def q_char_IsLetter (A : T_char_IsLetter) (us : List W) (k : W → Prop) : Prop := match us with
  | [.i .u8 a0] => A a0 (fun r0 => k (.b r0))
  | _ => False
theorem q_char_IsLetter_weak {A A2 : T_char_IsLetter} (h : FnOK sy Tryd.prog GT ovD GL 70 (q_char_IsLetter A)) (hA : ∀ a0 K, A2 a0 K → A a0 K) : FnOK sy Tryd.prog GT ovD GL 70 (q_char_IsLetter A2) := h.weak (by
  intro us k h
  unfold q_char_IsLetter at h ⊢
  split at h
  · exact hA _ _ h
  · exact h.elim)

def F_char_IsLetter (a0 : Int) (K : Bool → Prop) : Prop :=
  (((decide ((97 : Int) ≤ a0)) = true → (((decide (a0 ≤ (122 : Int))) = false → (((decide ((65 : Int) ≤ a0)) = true → K (decide (a0 ≤ (90 : Int)))) ∧ ((decide ((65 : Int) ≤ a0)) = false → K false))) ∧ ((decide (a0 ≤ (122 : Int))) = true → K true))) ∧ ((decide ((97 : Int) ≤ a0)) = false → (((decide ((65 : Int) ≤ a0)) = true → K (decide (a0 ≤ (90 : Int)))) ∧ ((decide ((65 : Int) ≤ a0)) = false → K false))))

def C_char_IsLetter : CallT sg := tab []
theorem Cok_char_IsLetter (o0 : Nat → Prop) : CalOK sy Tryd.prog GT ovD o0 GL (C_char_IsLetter) := tab_nil o0

theorem raw_char_IsLetter (a0 : Int) (k : W → Prop) : fnT sy Tryd.prog GT (C_char_IsLetter) noL Tryd.f70.ntmps (bodyOf Tryd.f70) [none] Tryd.f70.results.toList [.i .u8 a0] k = F_char_IsLetter a0 (fun r0 => k (.b r0)) := by kernel_rfl

theorem ok_char_IsLetter : FnOK sy Tryd.prog GT ovD GL 70 (q_char_IsLetter (F_char_IsLetter)) := (fn_ok (rc := [none]) (f := 70) (fn := Tryd.f70) (c := bodyOf Tryd.f70) (nt := Tryd.f70.ntmps) (res := Tryd.f70.results.toList) (C := C_char_IsLetter) (L := noL) (fun _ => rfl) Tryd.func70 (by kernel_rfl) rfl rfl (Cok_char_IsLetter) (lp_of (l := []) (by kernel_rfl) lp_nil)).weak (by
  intro us k h
  unfold q_char_IsLetter at h
  split at h
  · skip
    rename_i a0
    rw [raw_char_IsLetter a0 k]
    exact h
  · exact h.elim)

abbrev T_char_StartsName := Int → (Bool → Prop) → Prop
def q_char_StartsName (A : T_char_StartsName) (us : List W) (k : W → Prop) : Prop := match us with
  | [.i .u8 a0] => A a0 (fun r0 => k (.b r0))
  | _ => False
theorem q_char_StartsName_weak {A A2 : T_char_StartsName} (h : FnOK sy Tryd.prog GT ovD GL 49 (q_char_StartsName A)) (hA : ∀ a0 K, A2 a0 K → A a0 K) : FnOK sy Tryd.prog GT ovD GL 49 (q_char_StartsName A2) := h.weak (by
  intro us k h
  unfold q_char_StartsName at h ⊢
  split at h
  · exact hA _ _ h
  · exact h.elim)

def F_char_StartsName (A70 : T_char_IsLetter) (a0 : Int) (K : Bool → Prop) : Prop :=
  (A70 a0 (fun y1 => ((y1 = false → (((decide (a0 = (95 : Int))) = false → K (decide ((128 : Int) ≤ a0))) ∧ ((decide (a0 = (95 : Int))) = true → K true))) ∧ (y1 = true → K true))))

def C_char_StartsName (A70 : T_char_IsLetter) : CallT sg := tab [(70, con [none] (q_char_IsLetter A70))]
theorem Cok_char_StartsName (A70 : T_char_IsLetter) (h70 : FnOK sy Tryd.prog GT ovD GL 70 (q_char_IsLetter A70)) (o0 : Nat → Prop) : CalOK sy Tryd.prog GT ovD o0 GL (C_char_StartsName A70) := (tab_cons (con_ok h70) tab_nil) o0

theorem raw_char_StartsName (A70 : T_char_IsLetter) (a0 : Int) (k : W → Prop) : fnT sy Tryd.prog GT (C_char_StartsName A70) noL Tryd.f49.ntmps (bodyOf Tryd.f49) [none] Tryd.f49.results.toList [.i .u8 a0] k = F_char_StartsName A70 a0 (fun r0 => k (.b r0)) := by kernel_rfl

theorem ok_char_StartsName (A70 : T_char_IsLetter) (h70 : FnOK sy Tryd.prog GT ovD GL 70 (q_char_IsLetter A70)) : FnOK sy Tryd.prog GT ovD GL 49 (q_char_StartsName (F_char_StartsName A70)) := (fn_ok (rc := [none]) (f := 49) (fn := Tryd.f49) (c := bodyOf Tryd.f49) (nt := Tryd.f49.ntmps) (res := Tryd.f49.results.toList) (C := C_char_StartsName A70) (L := noL) (fun _ => rfl) Tryd.func49 (by kernel_rfl) rfl rfl (Cok_char_StartsName A70 h70) (lp_of (l := []) (by kernel_rfl) lp_nil)).weak (by
  intro us k h
  unfold q_char_StartsName at h
  split at h
  · skip
    rename_i a0
    rw [raw_char_StartsName A70 a0 k]
    exact h
  · exact h.elim)

abbrev T_token_escapeStarts := List UInt8 → Int → (Bool → Prop) → Prop
def q_token_escapeStarts (A : T_token_escapeStarts) (us : List W) (k : W → Prop) : Prop := match us with
  | [.s a0, .i .i64 a1] => A a0 a1 (fun r0 => k (.b r0))
  | _ => False
theorem q_token_escapeStarts_weak {A A2 : T_token_escapeStarts} (h : FnOK sy Tryd.prog GT ovD GL 50 (q_token_escapeStarts A)) (hA : ∀ a0 a1 K, A2 a0 a1 K → A a0 a1 K) : FnOK sy Tryd.prog GT ovD GL 50 (q_token_escapeStarts A2) := h.weak (by
  intro us k h
  unfold q_token_escapeStarts at h ⊢
  split at h
  · exact hA _ _ _ h
  · exact h.elim)

def F_token_escapeStarts (A40 : T_token_byteAt) (a0 : List UInt8) (a1 : Int) (K : Bool → Prop) : Prop :=
  (A40 a0 a1 (fun y1 => (((decide (y1 = (92 : Int))) = true → (I64 (a1 + (1 : Int)) ∧ (A40 a0 (a1 + (1 : Int)) (fun y2 => K (decide (y2 ≠ (10 : Int))))))) ∧ ((decide (y1 = (92 : Int))) = false → K false))))

def C_token_escapeStarts (A40 : T_token_byteAt) : CallT sg := tab [(40, con [none, none] (q_token_byteAt A40))]
theorem Cok_token_escapeStarts (A40 : T_token_byteAt) (h40 : FnOK sy Tryd.prog GT ovD GL 40 (q_token_byteAt A40)) (o0 : Nat → Prop) : CalOK sy Tryd.prog GT ovD o0 GL (C_token_escapeStarts A40) := (tab_cons (con_ok h40) tab_nil) o0

theorem raw_token_escapeStarts (A40 : T_token_byteAt) (a0 : List UInt8) (a1 : Int) (k : W → Prop) : fnT sy Tryd.prog GT (C_token_escapeStarts A40) noL Tryd.f50.ntmps (bodyOf Tryd.f50) [none] Tryd.f50.results.toList [.s a0, .i .i64 a1] k = F_token_escapeStarts A40 a0 a1 (fun r0 => k (.b r0)) := by kernel_rfl

theorem ok_token_escapeStarts (A40 : T_token_byteAt) (h40 : FnOK sy Tryd.prog GT ovD GL 40 (q_token_byteAt A40)) : FnOK sy Tryd.prog GT ovD GL 50 (q_token_escapeStarts (F_token_escapeStarts A40)) := (fn_ok (rc := [none]) (f := 50) (fn := Tryd.f50) (c := bodyOf Tryd.f50) (nt := Tryd.f50.ntmps) (res := Tryd.f50.results.toList) (C := C_token_escapeStarts A40) (L := noL) (fun _ => rfl) Tryd.func50 (by kernel_rfl) rfl rfl (Cok_token_escapeStarts A40 h40) (lp_of (l := []) (by kernel_rfl) lp_nil)).weak (by
  intro us k h
  unfold q_token_escapeStarts at h
  split at h
  · skip
    rename_i a0 a1
    rw [raw_token_escapeStarts A40 a0 a1 k]
    exact h
  · exact h.elim)

abbrev T_token_nameStarts := List UInt8 → Int → (Bool → Prop) → Prop
def q_token_nameStarts (A : T_token_nameStarts) (us : List W) (k : W → Prop) : Prop := match us with
  | [.s a0, .i .i64 a1] => A a0 a1 (fun r0 => k (.b r0))
  | _ => False
theorem q_token_nameStarts_weak {A A2 : T_token_nameStarts} (h : FnOK sy Tryd.prog GT ovD GL 28 (q_token_nameStarts A)) (hA : ∀ a0 a1 K, A2 a0 a1 K → A a0 a1 K) : FnOK sy Tryd.prog GT ovD GL 28 (q_token_nameStarts A2) := h.weak (by
  intro us k h
  unfold q_token_nameStarts at h ⊢
  split at h
  · exact hA _ _ _ h
  · exact h.elim)

def F_token_nameStarts (A40 : T_token_byteAt) (A49 : T_char_StartsName) (A50 : T_token_escapeStarts) (a0 : List UInt8) (a1 : Int) (K : Bool → Prop) : Prop :=
  (A40 a0 a1 (fun y1 => (((decide (y1 ≠ (45 : Int))) = true → (A40 a0 a1 (fun y2 => (A49 y2 (fun y3 => ((y3 = false → (A50 a0 a1 (fun y4 => K y4))) ∧ (y3 = true → K true))))))) ∧ ((decide (y1 ≠ (45 : Int))) = false → (I64 (a1 + (1 : Int)) ∧ (A40 a0 (a1 + (1 : Int)) (fun y5 => (A49 y5 (fun y6 => ((y6 = false → (((decide (y5 = (45 : Int))) = false → (I64 (a1 + (1 : Int)) ∧ (A50 a0 (a1 + (1 : Int)) (fun y7 => K y7)))) ∧ ((decide (y5 = (45 : Int))) = true → K true))) ∧ (y6 = true → K true)))))))))))

def C_token_nameStarts (A40 : T_token_byteAt) (A49 : T_char_StartsName) (A50 : T_token_escapeStarts) : CallT sg := tab [(40, con [none, none] (q_token_byteAt A40)), (49, con [none] (q_char_StartsName A49)), (50, con [none, none] (q_token_escapeStarts A50))]
theorem Cok_token_nameStarts (A40 : T_token_byteAt) (A49 : T_char_StartsName) (A50 : T_token_escapeStarts) (h40 : FnOK sy Tryd.prog GT ovD GL 40 (q_token_byteAt A40)) (h49 : FnOK sy Tryd.prog GT ovD GL 49 (q_char_StartsName A49)) (h50 : FnOK sy Tryd.prog GT ovD GL 50 (q_token_escapeStarts A50)) (o0 : Nat → Prop) : CalOK sy Tryd.prog GT ovD o0 GL (C_token_nameStarts A40 A49 A50) := (tab_cons (con_ok h40) (tab_cons (con_ok h49) (tab_cons (con_ok h50) tab_nil))) o0

theorem raw_token_nameStarts (A40 : T_token_byteAt) (A49 : T_char_StartsName) (A50 : T_token_escapeStarts) (a0 : List UInt8) (a1 : Int) (k : W → Prop) : fnT sy Tryd.prog GT (C_token_nameStarts A40 A49 A50) noL Tryd.f28.ntmps (bodyOf Tryd.f28) [none] Tryd.f28.results.toList [.s a0, .i .i64 a1] k = F_token_nameStarts A40 A49 A50 a0 a1 (fun r0 => k (.b r0)) := by kernel_rfl

theorem ok_token_nameStarts (A40 : T_token_byteAt) (A49 : T_char_StartsName) (A50 : T_token_escapeStarts) (h40 : FnOK sy Tryd.prog GT ovD GL 40 (q_token_byteAt A40)) (h49 : FnOK sy Tryd.prog GT ovD GL 49 (q_char_StartsName A49)) (h50 : FnOK sy Tryd.prog GT ovD GL 50 (q_token_escapeStarts A50)) : FnOK sy Tryd.prog GT ovD GL 28 (q_token_nameStarts (F_token_nameStarts A40 A49 A50)) := (fn_ok (rc := [none]) (f := 28) (fn := Tryd.f28) (c := bodyOf Tryd.f28) (nt := Tryd.f28.ntmps) (res := Tryd.f28.results.toList) (C := C_token_nameStarts A40 A49 A50) (L := noL) (fun _ => rfl) Tryd.func28 (by kernel_rfl) rfl rfl (Cok_token_nameStarts A40 A49 A50 h40 h49 h50) (lp_of (l := []) (by kernel_rfl) lp_nil)).weak (by
  intro us k h
  unfold q_token_nameStarts at h
  split at h
  · skip
    rename_i a0 a1
    rw [raw_token_nameStarts A40 A49 A50 a0 a1 k]
    exact h
  · exact h.elim)

abbrev T_char_IsOfName := Int → (Bool → Prop) → Prop
def q_char_IsOfName (A : T_char_IsOfName) (us : List W) (k : W → Prop) : Prop := match us with
  | [.i .u8 a0] => A a0 (fun r0 => k (.b r0))
  | _ => False
theorem q_char_IsOfName_weak {A A2 : T_char_IsOfName} (h : FnOK sy Tryd.prog GT ovD GL 71 (q_char_IsOfName A)) (hA : ∀ a0 K, A2 a0 K → A a0 K) : FnOK sy Tryd.prog GT ovD GL 71 (q_char_IsOfName A2) := h.weak (by
  intro us k h
  unfold q_char_IsOfName at h ⊢
  split at h
  · exact hA _ _ h
  · exact h.elim)

def F_char_IsOfName (A49 : T_char_StartsName) (A41 : T_char_IsDigit) (a0 : Int) (K : Bool → Prop) : Prop :=
  (A49 a0 (fun y1 => ((y1 = false → (A41 a0 (fun y2 => ((y2 = false → K (decide (a0 = (45 : Int)))) ∧ (y2 = true → K true))))) ∧ (y1 = true → K true))))

def C_char_IsOfName (A49 : T_char_StartsName) (A41 : T_char_IsDigit) : CallT sg := tab [(49, con [none] (q_char_StartsName A49)), (41, con [none] (q_char_IsDigit A41))]
theorem Cok_char_IsOfName (A49 : T_char_StartsName) (A41 : T_char_IsDigit) (h49 : FnOK sy Tryd.prog GT ovD GL 49 (q_char_StartsName A49)) (h41 : FnOK sy Tryd.prog GT ovD GL 41 (q_char_IsDigit A41)) (o0 : Nat → Prop) : CalOK sy Tryd.prog GT ovD o0 GL (C_char_IsOfName A49 A41) := (tab_cons (con_ok h49) (tab_cons (con_ok h41) tab_nil)) o0

theorem raw_char_IsOfName (A49 : T_char_StartsName) (A41 : T_char_IsDigit) (a0 : Int) (k : W → Prop) : fnT sy Tryd.prog GT (C_char_IsOfName A49 A41) noL Tryd.f71.ntmps (bodyOf Tryd.f71) [none] Tryd.f71.results.toList [.i .u8 a0] k = F_char_IsOfName A49 A41 a0 (fun r0 => k (.b r0)) := by kernel_rfl

theorem ok_char_IsOfName (A49 : T_char_StartsName) (A41 : T_char_IsDigit) (h49 : FnOK sy Tryd.prog GT ovD GL 49 (q_char_StartsName A49)) (h41 : FnOK sy Tryd.prog GT ovD GL 41 (q_char_IsDigit A41)) : FnOK sy Tryd.prog GT ovD GL 71 (q_char_IsOfName (F_char_IsOfName A49 A41)) := (fn_ok (rc := [none]) (f := 71) (fn := Tryd.f71) (c := bodyOf Tryd.f71) (nt := Tryd.f71.ntmps) (res := Tryd.f71.results.toList) (C := C_char_IsOfName A49 A41) (L := noL) (fun _ => rfl) Tryd.func71 (by kernel_rfl) rfl rfl (Cok_char_IsOfName A49 A41 h49 h41) (lp_of (l := []) (by kernel_rfl) lp_nil)).weak (by
  intro us k h
  unfold q_char_IsOfName at h
  split at h
  · skip
    rename_i a0
    rw [raw_char_IsOfName A49 A41 a0 k]
    exact h
  · exact h.elim)

abbrev T_token_nameGoesOn := List UInt8 → Int → (Bool → Prop) → Prop
def q_token_nameGoesOn (A : T_token_nameGoesOn) (us : List W) (k : W → Prop) : Prop := match us with
  | [.s a0, .i .i64 a1] => A a0 a1 (fun r0 => k (.b r0))
  | _ => False
theorem q_token_nameGoesOn_weak {A A2 : T_token_nameGoesOn} (h : FnOK sy Tryd.prog GT ovD GL 51 (q_token_nameGoesOn A)) (hA : ∀ a0 a1 K, A2 a0 a1 K → A a0 a1 K) : FnOK sy Tryd.prog GT ovD GL 51 (q_token_nameGoesOn A2) := h.weak (by
  intro us k h
  unfold q_token_nameGoesOn at h ⊢
  split at h
  · exact hA _ _ _ h
  · exact h.elim)

def F_token_nameGoesOn (A40 : T_token_byteAt) (A71 : T_char_IsOfName) (A50 : T_token_escapeStarts) (a0 : List UInt8) (a1 : Int) (K : Bool → Prop) : Prop :=
  (A40 a0 a1 (fun y1 => (A71 y1 (fun y2 => ((y2 = false → (A50 a0 a1 (fun y3 => K y3))) ∧ (y2 = true → K true))))))

def C_token_nameGoesOn (A40 : T_token_byteAt) (A71 : T_char_IsOfName) (A50 : T_token_escapeStarts) : CallT sg := tab [(40, con [none, none] (q_token_byteAt A40)), (71, con [none] (q_char_IsOfName A71)), (50, con [none, none] (q_token_escapeStarts A50))]
theorem Cok_token_nameGoesOn (A40 : T_token_byteAt) (A71 : T_char_IsOfName) (A50 : T_token_escapeStarts) (h40 : FnOK sy Tryd.prog GT ovD GL 40 (q_token_byteAt A40)) (h71 : FnOK sy Tryd.prog GT ovD GL 71 (q_char_IsOfName A71)) (h50 : FnOK sy Tryd.prog GT ovD GL 50 (q_token_escapeStarts A50)) (o0 : Nat → Prop) : CalOK sy Tryd.prog GT ovD o0 GL (C_token_nameGoesOn A40 A71 A50) := (tab_cons (con_ok h40) (tab_cons (con_ok h71) (tab_cons (con_ok h50) tab_nil))) o0

theorem raw_token_nameGoesOn (A40 : T_token_byteAt) (A71 : T_char_IsOfName) (A50 : T_token_escapeStarts) (a0 : List UInt8) (a1 : Int) (k : W → Prop) : fnT sy Tryd.prog GT (C_token_nameGoesOn A40 A71 A50) noL Tryd.f51.ntmps (bodyOf Tryd.f51) [none] Tryd.f51.results.toList [.s a0, .i .i64 a1] k = F_token_nameGoesOn A40 A71 A50 a0 a1 (fun r0 => k (.b r0)) := by kernel_rfl

theorem ok_token_nameGoesOn (A40 : T_token_byteAt) (A71 : T_char_IsOfName) (A50 : T_token_escapeStarts) (h40 : FnOK sy Tryd.prog GT ovD GL 40 (q_token_byteAt A40)) (h71 : FnOK sy Tryd.prog GT ovD GL 71 (q_char_IsOfName A71)) (h50 : FnOK sy Tryd.prog GT ovD GL 50 (q_token_escapeStarts A50)) : FnOK sy Tryd.prog GT ovD GL 51 (q_token_nameGoesOn (F_token_nameGoesOn A40 A71 A50)) := (fn_ok (rc := [none]) (f := 51) (fn := Tryd.f51) (c := bodyOf Tryd.f51) (nt := Tryd.f51.ntmps) (res := Tryd.f51.results.toList) (C := C_token_nameGoesOn A40 A71 A50) (L := noL) (fun _ => rfl) Tryd.func51 (by kernel_rfl) rfl rfl (Cok_token_nameGoesOn A40 A71 A50 h40 h71 h50) (lp_of (l := []) (by kernel_rfl) lp_nil)).weak (by
  intro us k h
  unfold q_token_nameGoesOn at h
  split at h
  · skip
    rename_i a0 a1
    rw [raw_token_nameGoesOn A40 A71 A50 a0 a1 k]
    exact h
  · exact h.elim)

abbrev T_char_IsSpace := Int → (Bool → Prop) → Prop
def q_char_IsSpace (A : T_char_IsSpace) (us : List W) (k : W → Prop) : Prop := match us with
  | [.i .u8 a0] => A a0 (fun r0 => k (.b r0))
  | _ => False
theorem q_char_IsSpace_weak {A A2 : T_char_IsSpace} (h : FnOK sy Tryd.prog GT ovD GL 62 (q_char_IsSpace A)) (hA : ∀ a0 K, A2 a0 K → A a0 K) : FnOK sy Tryd.prog GT ovD GL 62 (q_char_IsSpace A2) := h.weak (by
  intro us k h
  unfold q_char_IsSpace at h ⊢
  split at h
  · exact hA _ _ h
  · exact h.elim)

def F_char_IsSpace (a0 : Int) (K : Bool → Prop) : Prop :=
  (((decide (a0 = (10 : Int))) = false → (((decide (a0 = (9 : Int))) = false → K (decide (a0 = (32 : Int)))) ∧ ((decide (a0 = (9 : Int))) = true → K true))) ∧ ((decide (a0 = (10 : Int))) = true → K true))

def C_char_IsSpace : CallT sg := tab []
theorem Cok_char_IsSpace (o0 : Nat → Prop) : CalOK sy Tryd.prog GT ovD o0 GL (C_char_IsSpace) := tab_nil o0

theorem raw_char_IsSpace (a0 : Int) (k : W → Prop) : fnT sy Tryd.prog GT (C_char_IsSpace) noL Tryd.f62.ntmps (bodyOf Tryd.f62) [none] Tryd.f62.results.toList [.i .u8 a0] k = F_char_IsSpace a0 (fun r0 => k (.b r0)) := by kernel_rfl

theorem ok_char_IsSpace : FnOK sy Tryd.prog GT ovD GL 62 (q_char_IsSpace (F_char_IsSpace)) := (fn_ok (rc := [none]) (f := 62) (fn := Tryd.f62) (c := bodyOf Tryd.f62) (nt := Tryd.f62.ntmps) (res := Tryd.f62.results.toList) (C := C_char_IsSpace) (L := noL) (fun _ => rfl) Tryd.func62 (by kernel_rfl) rfl rfl (Cok_char_IsSpace) (lp_of (l := []) (by kernel_rfl) lp_nil)).weak (by
  intro us k h
  unfold q_char_IsSpace at h
  split at h
  · skip
    rename_i a0
    rw [raw_char_IsSpace a0 k]
    exact h
  · exact h.elim)

abbrev T_char_IsQuote := Int → (Bool → Prop) → Prop
def q_char_IsQuote (A : T_char_IsQuote) (us : List W) (k : W → Prop) : Prop := match us with
  | [.i .u8 a0] => A a0 (fun r0 => k (.b r0))
  | _ => False
theorem q_char_IsQuote_weak {A A2 : T_char_IsQuote} (h : FnOK sy Tryd.prog GT ovD GL 64 (q_char_IsQuote A)) (hA : ∀ a0 K, A2 a0 K → A a0 K) : FnOK sy Tryd.prog GT ovD GL 64 (q_char_IsQuote A2) := h.weak (by
  intro us k h
  unfold q_char_IsQuote at h ⊢
  split at h
  · exact hA _ _ h
  · exact h.elim)

def F_char_IsQuote (a0 : Int) (K : Bool → Prop) : Prop :=
  (((decide (a0 = (34 : Int))) = false → K (decide (a0 = (39 : Int)))) ∧ ((decide (a0 = (34 : Int))) = true → K true))

def C_char_IsQuote : CallT sg := tab []
theorem Cok_char_IsQuote (o0 : Nat → Prop) : CalOK sy Tryd.prog GT ovD o0 GL (C_char_IsQuote) := tab_nil o0

theorem raw_char_IsQuote (a0 : Int) (k : W → Prop) : fnT sy Tryd.prog GT (C_char_IsQuote) noL Tryd.f64.ntmps (bodyOf Tryd.f64) [none] Tryd.f64.results.toList [.i .u8 a0] k = F_char_IsQuote a0 (fun r0 => k (.b r0)) := by kernel_rfl

theorem ok_char_IsQuote : FnOK sy Tryd.prog GT ovD GL 64 (q_char_IsQuote (F_char_IsQuote)) := (fn_ok (rc := [none]) (f := 64) (fn := Tryd.f64) (c := bodyOf Tryd.f64) (nt := Tryd.f64.ntmps) (res := Tryd.f64.results.toList) (C := C_char_IsQuote) (L := noL) (fun _ => rfl) Tryd.func64 (by kernel_rfl) rfl rfl (Cok_char_IsQuote) (lp_of (l := []) (by kernel_rfl) lp_nil)).weak (by
  intro us k h
  unfold q_char_IsQuote at h
  split at h
  · skip
    rename_i a0
    rw [raw_char_IsQuote a0 k]
    exact h
  · exact h.elim)

abbrev T_token_behindSpaces := List UInt8 → Int → (Int → Prop) → Prop
def q_token_behindSpaces (A : T_token_behindSpaces) (us : List W) (k : W → Prop) : Prop := match us with
  | [.s a0, .i .i64 a1] => A a0 a1 (fun r0 => k (.i .i64 r0))
  | _ => False
theorem q_token_behindSpaces_weak {A A2 : T_token_behindSpaces} (h : FnOK sy Tryd.prog GT ovD GL 63 (q_token_behindSpaces A)) (hA : ∀ a0 a1 K, A2 a0 a1 K → A a0 a1 K) : FnOK sy Tryd.prog GT ovD GL 63 (q_token_behindSpaces A2) := h.weak (by
  intro us k h
  unfold q_token_behindSpaces at h ⊢
  split at h
  · exact hA _ _ _ h
  · exact h.elim)

def F_token_behindSpaces_l1 (A40 : T_token_byteAt) (A62 : T_char_IsSpace) : Nat → List UInt8 → Int → (Int → Prop) → Prop
  | 0, _, _, _ => False
  | n + 1, x0, x1, Ke => (A40 x0 x1 (fun y1 => (A62 y1 (fun y2 => ((y2 = true → (I64 (x1 + (1 : Int)) ∧ F_token_behindSpaces_l1 A40 A62 n x0 (x1 + (1 : Int)) Ke)) ∧ (y2 = false → Ke x1))))))

def F_token_behindSpaces (A40 : T_token_byteAt) (A62 : T_char_IsSpace) (a0 : List UInt8) (a1 : Int) (K : Int → Prop) : Prop :=
  (∃ m, F_token_behindSpaces_l1 A40 A62 m a0 a1 (fun y1 => K y1))

def C_token_behindSpaces (A40 : T_token_byteAt) (A62 : T_char_IsSpace) : CallT sg := tab [(40, con [none, none] (q_token_byteAt A40)), (62, con [none] (q_char_IsSpace A62))]
theorem Cok_token_behindSpaces (A40 : T_token_byteAt) (A62 : T_char_IsSpace) (h40 : FnOK sy Tryd.prog GT ovD GL 40 (q_token_byteAt A40)) (h62 : FnOK sy Tryd.prog GT ovD GL 62 (q_char_IsSpace A62)) (o0 : Nat → Prop) : CalOK sy Tryd.prog GT ovD o0 GL (C_token_behindSpaces A40 A62) := (tab_cons (con_ok h40) (tab_cons (con_ok h62) tab_nil)) o0

def ls_token_behindSpaces_1 : LS sy ((List UInt8) × Int × Unit) Unit := ⟨[], fCons 0 (vStr sy) (fCons 1 (vInt sy .i64) (fNil sy)), hNil sy, 0, []⟩
def le_token_behindSpaces_1 : LS sy (Int × Unit) Unit := ⟨[], fCons 1 (vInt sy .i64) (fNil sy), hNil sy, 0, []⟩
def lr_token_behindSpaces_1 : LS sy Unit Unit := ⟨[], fNil sy, hNil sy, 0, []⟩
def FF_token_behindSpaces_1 (A40 : T_token_byteAt) (A62 : T_char_IsSpace) (n : Nat) (x : ((List UInt8) × Int × Unit) × Unit) (K : Ex → Z sg → Prop) : Prop := F_token_behindSpaces_l1 A40 A62 n x.1.1 x.1.2.1 (fun y0 => K (.exit 0) (le_token_behindSpaces_1.put ((y0, ()), ())))
def h_token_behindSpaces_1 (A40 : T_token_byteAt) (A62 : T_char_IsSpace) (z : Z sg) (K : Ex → Z sg → Prop) : Prop := ls_token_behindSpaces_1.get z (fun x => ∃ n, FF_token_behindSpaces_1 A40 A62 n x K)
def L_token_behindSpaces (A40 : T_token_byteAt) (A62 : T_char_IsSpace) : LoopT sg := tabL [(1, h_token_behindSpaces_1 A40 A62)]
theorem hs_token_behindSpaces_1 (A40 : T_token_byteAt) (A62 : T_char_IsSpace) (n : Nat) (x : ((List UInt8) × Int × Unit) × Unit) (K : Ex → Z sg → Prop) : forceZ (ls_token_behindSpaces_1.put x) (fun z => sC sy Tryd.prog GT (C_token_behindSpaces A40 A62) (L_token_behindSpaces A40 A62) Tryd.f63.ntmps (nthLoop (bodyOf Tryd.f63) 0) z (rnd ls_token_behindSpaces_1 (czT 0 le_token_behindSpaces_1 lr_token_behindSpaces_1) (fun x => FF_token_behindSpaces_1 A40 A62 n x K) K)) = FF_token_behindSpaces_1 A40 A62 (n + 1) x K := by kernel_rfl
theorem hl_token_behindSpaces_1 (A40 : T_token_byteAt) (A62 : T_char_IsSpace) (z : Z sg) (K : Ex → Z sg → Prop) : (L_token_behindSpaces A40 A62) (nthLoop (bodyOf Tryd.f63) 0) z K = ls_token_behindSpaces_1.get z (fun x => ∃ n, FF_token_behindSpaces_1 A40 A62 n x K) := by kernel_rfl
theorem lo_token_behindSpaces_1 (A40 : T_token_byteAt) (A62 : T_char_IsSpace) (h40 : FnOK sy Tryd.prog GT ovD GL 40 (q_token_byteAt A40)) (h62 : FnOK sy Tryd.prog GT ovD GL 62 (q_char_IsSpace A62)) : ∀ (o0 : Nat → Prop) (B : Bs sg), B.E.length ≤ 0 → ∀ z K, (L_token_behindSpaces A40 A62) (nthLoop (bodyOf Tryd.f63) 0) z K → Sx.Sem sy Tryd.prog GT ovD o0 GL Tryd.f63.ntmps B (.loop (nthLoop (bodyOf Tryd.f63) 0)) z K :=
  loop_ok (Cok_token_behindSpaces A40 A62 h40 h62) (lp_of (l := []) (by kernel_rfl) lp_nil) ls_token_behindSpaces_1 (by decide) (czT 0 le_token_behindSpaces_1 lr_token_behindSpaces_1) (fun _ _ hB => czT_ok 0 le_token_behindSpaces_1 lr_token_behindSpaces_1 (Nat.le_trans hB (by decide)) (Nat.le_trans hB (by decide))) (fun _ _ h => h) (hs_token_behindSpaces_1 A40 A62) (hl_token_behindSpaces_1 A40 A62)
theorem Lp_token_behindSpaces (A40 : T_token_byteAt) (A62 : T_char_IsSpace) (h40 : FnOK sy Tryd.prog GT ovD GL 40 (q_token_byteAt A40)) (h62 : FnOK sy Tryd.prog GT ovD GL 62 (q_char_IsSpace A62)) : LpOK sy Tryd.prog GT ovD GL (L_token_behindSpaces A40 A62) 0 Tryd.f63.ntmps (bodyOf Tryd.f63) := lp_of (l := [(nthLoop (bodyOf Tryd.f63) 0)]) (by kernel_rfl) (lp_cons (lo_token_behindSpaces_1 A40 A62 h40 h62) lp_nil)


theorem raw_token_behindSpaces (A40 : T_token_byteAt) (A62 : T_char_IsSpace) (a0 : List UInt8) (a1 : Int) (k : W → Prop) : fnT sy Tryd.prog GT (C_token_behindSpaces A40 A62) (L_token_behindSpaces A40 A62) Tryd.f63.ntmps (bodyOf Tryd.f63) [none] Tryd.f63.results.toList [.s a0, .i .i64 a1] k = F_token_behindSpaces A40 A62 a0 a1 (fun r0 => k (.i .i64 r0)) := by kernel_rfl

theorem ok_token_behindSpaces (A40 : T_token_byteAt) (A62 : T_char_IsSpace) (h40 : FnOK sy Tryd.prog GT ovD GL 40 (q_token_byteAt A40)) (h62 : FnOK sy Tryd.prog GT ovD GL 62 (q_char_IsSpace A62)) : FnOK sy Tryd.prog GT ovD GL 63 (q_token_behindSpaces (F_token_behindSpaces A40 A62)) := (fn_ok (rc := [none]) (f := 63) (fn := Tryd.f63) (c := bodyOf Tryd.f63) (nt := Tryd.f63.ntmps) (res := Tryd.f63.results.toList) (C := C_token_behindSpaces A40 A62) (L := (L_token_behindSpaces A40 A62)) (fun _ => rfl) Tryd.func63 (by kernel_rfl) rfl rfl (Cok_token_behindSpaces A40 A62 h40 h62) (Lp_token_behindSpaces A40 A62 h40 h62)).weak (by
  intro us k h
  unfold q_token_behindSpaces at h
  split at h
  · skip
    rename_i a0 a1
    rw [raw_token_behindSpaces A40 A62 a0 a1 k]
    exact h
  · exact h.elim)

abbrev T_token_readNumeric := List UInt8 → Int → (Tok → Int → Prop) → Prop
def q_token_readNumeric (A : T_token_readNumeric) (us : List W) (k : W → Prop) : Prop := match us with
  | [.s a0, .i .i64 a1] => A a0 a1 (fun r0 r1 => k (.t [.a [.i .u8 r0.kind, .s r0.text, .i .i64 r0.num, .s r0.unit, .b r0.flag], .i .i64 r1]))
  | _ => False
theorem q_token_readNumeric_weak {A A2 : T_token_readNumeric} (h : FnOK sy Tryd.prog GT ovD GL 66 (q_token_readNumeric A)) (hA : ∀ a0 a1 K, A2 a0 a1 K → A a0 a1 K) : FnOK sy Tryd.prog GT ovD GL 66 (q_token_readNumeric A2) := h.weak (by
  intro us k h
  unfold q_token_readNumeric at h ⊢
  split at h
  · exact hA _ _ _ h
  · exact h.elim)

def F_token_readNumeric (A27 : T_token_readNumber) (A28 : T_token_nameStarts) (A40 : T_token_byteAt) (a0 : List UInt8) (a1 : Int) (K : Tok → Int → Prop) : Prop :=
  (A27 a0 a1 (fun y1 y2 y3 => (A28 a0 y3 (fun y4 => ((y4 = true → False) ∧ (y4 = false → (A40 a0 y3 (fun y5 => (((decide (y5 = (37 : Int))) = true → (I64 (y3 + (1 : Int)) ∧ K (Tok.mk (11 : Int) ([] : List UInt8) y1 ([] : List UInt8) false) (y3 + (1 : Int)))) ∧ ((decide (y5 = (37 : Int))) = false → K (Tok.mk (10 : Int) ([] : List UInt8) y1 ([] : List UInt8) y2) y3))))))))))

def C_token_readNumeric (A27 : T_token_readNumber) (A28 : T_token_nameStarts) (A40 : T_token_byteAt) : CallT sg := tab [(27, con [none, none] (q_token_readNumber A27)), (28, con [none, none] (q_token_nameStarts A28)), (29, con [] noT), (40, con [none, none] (q_token_byteAt A40))]
theorem Cok_token_readNumeric (A27 : T_token_readNumber) (A28 : T_token_nameStarts) (A40 : T_token_byteAt) (h27 : FnOK sy Tryd.prog GT ovD GL 27 (q_token_readNumber A27)) (h28 : FnOK sy Tryd.prog GT ovD GL 28 (q_token_nameStarts A28)) (h40 : FnOK sy Tryd.prog GT ovD GL 40 (q_token_byteAt A40)) (o0 : Nat → Prop) : CalOK sy Tryd.prog GT ovD o0 GL (C_token_readNumeric A27 A28 A40) := (tab_cons (con_ok h27) (tab_cons (con_ok h28) (tab_cons (con_ok (noT_ok 29)) (tab_cons (con_ok h40) tab_nil)))) o0

theorem raw_token_readNumeric (A27 : T_token_readNumber) (A28 : T_token_nameStarts) (A40 : T_token_byteAt) (a0 : List UInt8) (a1 : Int) (k : W → Prop) : fnT sy Tryd.prog GT (C_token_readNumeric A27 A28 A40) noL Tryd.f66.ntmps (bodyOf Tryd.f66) [none, none] Tryd.f66.results.toList [.s a0, .i .i64 a1] k = F_token_readNumeric A27 A28 A40 a0 a1 (fun r0 r1 => k (.t [.a [.i .u8 r0.kind, .s r0.text, .i .i64 r0.num, .s r0.unit, .b r0.flag], .i .i64 r1])) := by kernel_rfl

theorem ok_token_readNumeric (A27 : T_token_readNumber) (A28 : T_token_nameStarts) (A40 : T_token_byteAt) (h27 : FnOK sy Tryd.prog GT ovD GL 27 (q_token_readNumber A27)) (h28 : FnOK sy Tryd.prog GT ovD GL 28 (q_token_nameStarts A28)) (h40 : FnOK sy Tryd.prog GT ovD GL 40 (q_token_byteAt A40)) : FnOK sy Tryd.prog GT ovD GL 66 (q_token_readNumeric (F_token_readNumeric A27 A28 A40)) := (fn_ok (rc := [none, none]) (f := 66) (fn := Tryd.f66) (c := bodyOf Tryd.f66) (nt := Tryd.f66.ntmps) (res := Tryd.f66.results.toList) (C := C_token_readNumeric A27 A28 A40) (L := noL) (fun _ => rfl) Tryd.func66 (by kernel_rfl) rfl rfl (Cok_token_readNumeric A27 A28 A40 h27 h28 h40) (lp_of (l := []) (by kernel_rfl) lp_nil)).weak (by
  intro us k h
  unfold q_token_readNumeric at h
  split at h
  · skip
    rename_i a0 a1
    rw [raw_token_readNumeric A27 A28 A40 a0 a1 k]
    exact h
  · exact h.elim)

abbrev T_stringslite_HasPrefix := List UInt8 → List UInt8 → (Bool → Prop) → Prop
def q_stringslite_HasPrefix (A : T_stringslite_HasPrefix) (us : List W) (k : W → Prop) : Prop := match us with
  | [.s a0, .s a1] => A a0 a1 (fun r0 => k (.b r0))
  | _ => False
theorem q_stringslite_HasPrefix_weak {A A2 : T_stringslite_HasPrefix} (h : FnOK sy Tryd.prog GT ovD GL 79 (q_stringslite_HasPrefix A)) (hA : ∀ a0 a1 K, A2 a0 a1 K → A a0 a1 K) : FnOK sy Tryd.prog GT ovD GL 79 (q_stringslite_HasPrefix A2) := h.weak (by
  intro us k h
  unfold q_stringslite_HasPrefix at h ⊢
  split at h
  · exact hA _ _ _ h
  · exact h.elim)

def F_stringslite_HasPrefix (a0 : List UInt8) (a1 : List UInt8) (K : Bool → Prop) : Prop :=
  (((decide ((a1.length : Int) ≤ (a0.length : Int))) = true → ((0 ≤ (a1.length : Int) ∧ (a1.length : Int) ≤ (a0.length : Int)) ∧ K ((a0.take (a1.length : Int).toNat) == a1))) ∧ ((decide ((a1.length : Int) ≤ (a0.length : Int))) = false → K false))

def C_stringslite_HasPrefix : CallT sg := tab []
theorem Cok_stringslite_HasPrefix (o0 : Nat → Prop) : CalOK sy Tryd.prog GT ovD o0 GL (C_stringslite_HasPrefix) := tab_nil o0

theorem raw_stringslite_HasPrefix (a0 : List UInt8) (a1 : List UInt8) (k : W → Prop) : fnT sy Tryd.prog GT (C_stringslite_HasPrefix) noL Tryd.f79.ntmps (bodyOf Tryd.f79) [none] Tryd.f79.results.toList [.s a0, .s a1] k = F_stringslite_HasPrefix a0 a1 (fun r0 => k (.b r0)) := by kernel_rfl

theorem ok_stringslite_HasPrefix : FnOK sy Tryd.prog GT ovD GL 79 (q_stringslite_HasPrefix (F_stringslite_HasPrefix)) := (fn_ok (rc := [none]) (f := 79) (fn := Tryd.f79) (c := bodyOf Tryd.f79) (nt := Tryd.f79.ntmps) (res := Tryd.f79.results.toList) (C := C_stringslite_HasPrefix) (L := noL) (fun _ => rfl) Tryd.func79 (by kernel_rfl) rfl rfl (Cok_stringslite_HasPrefix) (lp_of (l := []) (by kernel_rfl) lp_nil)).weak (by
  intro us k h
  unfold q_stringslite_HasPrefix at h
  split at h
  · skip
    rename_i a0 a1
    rw [raw_stringslite_HasPrefix a0 a1 k]
    exact h
  · exact h.elim)

abbrev T_strings_HasPrefix := List UInt8 → List UInt8 → (Bool → Prop) → Prop
def q_strings_HasPrefix (A : T_strings_HasPrefix) (us : List W) (k : W → Prop) : Prop := match us with
  | [.s a0, .s a1] => A a0 a1 (fun r0 => k (.b r0))
  | _ => False
theorem q_strings_HasPrefix_weak {A A2 : T_strings_HasPrefix} (h : FnOK sy Tryd.prog GT ovD GL 60 (q_strings_HasPrefix A)) (hA : ∀ a0 a1 K, A2 a0 a1 K → A a0 a1 K) : FnOK sy Tryd.prog GT ovD GL 60 (q_strings_HasPrefix A2) := h.weak (by
  intro us k h
  unfold q_strings_HasPrefix at h ⊢
  split at h
  · exact hA _ _ _ h
  · exact h.elim)

def F_strings_HasPrefix (A79 : T_stringslite_HasPrefix) (a0 : List UInt8) (a1 : List UInt8) (K : Bool → Prop) : Prop :=
  (A79 a0 a1 (fun y1 => K y1))

def C_strings_HasPrefix (A79 : T_stringslite_HasPrefix) : CallT sg := tab [(79, con [none, none] (q_stringslite_HasPrefix A79))]
theorem Cok_strings_HasPrefix (A79 : T_stringslite_HasPrefix) (h79 : FnOK sy Tryd.prog GT ovD GL 79 (q_stringslite_HasPrefix A79)) (o0 : Nat → Prop) : CalOK sy Tryd.prog GT ovD o0 GL (C_strings_HasPrefix A79) := (tab_cons (con_ok h79) tab_nil) o0

theorem raw_strings_HasPrefix (A79 : T_stringslite_HasPrefix) (a0 : List UInt8) (a1 : List UInt8) (k : W → Prop) : fnT sy Tryd.prog GT (C_strings_HasPrefix A79) noL Tryd.f60.ntmps (bodyOf Tryd.f60) [none] Tryd.f60.results.toList [.s a0, .s a1] k = F_strings_HasPrefix A79 a0 a1 (fun r0 => k (.b r0)) := by kernel_rfl

theorem ok_strings_HasPrefix (A79 : T_stringslite_HasPrefix) (h79 : FnOK sy Tryd.prog GT ovD GL 79 (q_stringslite_HasPrefix A79)) : FnOK sy Tryd.prog GT ovD GL 60 (q_strings_HasPrefix (F_strings_HasPrefix A79)) := (fn_ok (rc := [none]) (f := 60) (fn := Tryd.f60) (c := bodyOf Tryd.f60) (nt := Tryd.f60.ntmps) (res := Tryd.f60.results.toList) (C := C_strings_HasPrefix A79) (L := noL) (fun _ => rfl) Tryd.func60 (by kernel_rfl) rfl rfl (Cok_strings_HasPrefix A79 h79) (lp_of (l := []) (by kernel_rfl) lp_nil)).weak (by
  intro us k h
  unfold q_strings_HasPrefix at h
  split at h
  · skip
    rename_i a0 a1
    rw [raw_strings_HasPrefix A79 a0 a1 k]
    exact h
  · exact h.elim)

abbrev T_token_behindComments := List UInt8 → Int → (Int → Prop) → Prop
def q_token_behindComments (A : T_token_behindComments) (us : List W) (k : W → Prop) : Prop := match us with
  | [.s a0, .i .i64 a1] => A a0 a1 (fun r0 => k (.i .i64 r0))
  | _ => False
theorem q_token_behindComments_weak {A A2 : T_token_behindComments} (h : FnOK sy Tryd.prog GT ovD GL 37 (q_token_behindComments A)) (hA : ∀ a0 a1 K, A2 a0 a1 K → A a0 a1 K) : FnOK sy Tryd.prog GT ovD GL 37 (q_token_behindComments A2) := h.weak (by
  intro us k h
  unfold q_token_behindComments at h ⊢
  split at h
  · exact hA _ _ _ h
  · exact h.elim)

def F_token_behindComments_l1 (A60 : T_strings_HasPrefix) : Nat → List UInt8 → Int → (Int → Prop) → Prop
  | 0, _, _, _ => False
  | n + 1, x0, x1, Ke => ((0 ≤ x1 ∧ x1 ≤ (x0.length : Int)) ∧ (A60 (x0.drop x1.toNat) ([47, 42] : List UInt8) (fun y1 => ((y1 = true → (I64 (x1 + (2 : Int)) ∧ ((0 ≤ (x1 + (2 : Int)) ∧ (x1 + (2 : Int)) ≤ (x0.length : Int)) ∧ False))) ∧ (y1 = false → Ke x1)))))

def F_token_behindComments (A60 : T_strings_HasPrefix) (a0 : List UInt8) (a1 : Int) (K : Int → Prop) : Prop :=
  (∃ m, F_token_behindComments_l1 A60 m a0 a1 (fun y1 => K y1))

def C_token_behindComments (A60 : T_strings_HasPrefix) : CallT sg := tab [(60, con [none, none] (q_strings_HasPrefix A60)), (61, con [] noT)]
theorem Cok_token_behindComments (A60 : T_strings_HasPrefix) (h60 : FnOK sy Tryd.prog GT ovD GL 60 (q_strings_HasPrefix A60)) (o0 : Nat → Prop) : CalOK sy Tryd.prog GT ovD o0 GL (C_token_behindComments A60) := (tab_cons (con_ok h60) (tab_cons (con_ok (noT_ok 61)) tab_nil)) o0

def ls_token_behindComments_1 : LS sy ((List UInt8) × Int × Unit) Unit := ⟨[], fCons 0 (vStr sy) (fCons 1 (vInt sy .i64) (fNil sy)), hNil sy, 0, []⟩
def le_token_behindComments_1 : LS sy (Int × Unit) Unit := ⟨[], fCons 1 (vInt sy .i64) (fNil sy), hNil sy, 0, []⟩
def lr_token_behindComments_1 : LS sy Unit Unit := ⟨[], fNil sy, hNil sy, 0, []⟩
def FF_token_behindComments_1 (A60 : T_strings_HasPrefix) (n : Nat) (x : ((List UInt8) × Int × Unit) × Unit) (K : Ex → Z sg → Prop) : Prop := F_token_behindComments_l1 A60 n x.1.1 x.1.2.1 (fun y0 => K (.exit 0) (le_token_behindComments_1.put ((y0, ()), ())))
def h_token_behindComments_1 (A60 : T_strings_HasPrefix) (z : Z sg) (K : Ex → Z sg → Prop) : Prop := ls_token_behindComments_1.get z (fun x => ∃ n, FF_token_behindComments_1 A60 n x K)
def L_token_behindComments (A60 : T_strings_HasPrefix) : LoopT sg := tabL [(1, h_token_behindComments_1 A60)]
theorem hs_token_behindComments_1 (A60 : T_strings_HasPrefix) (n : Nat) (x : ((List UInt8) × Int × Unit) × Unit) (K : Ex → Z sg → Prop) : forceZ (ls_token_behindComments_1.put x) (fun z => sC sy Tryd.prog GT (C_token_behindComments A60) (L_token_behindComments A60) Tryd.f37.ntmps (nthLoop (bodyOf Tryd.f37) 0) z (rnd ls_token_behindComments_1 (czT 0 le_token_behindComments_1 lr_token_behindComments_1) (fun x => FF_token_behindComments_1 A60 n x K) K)) = FF_token_behindComments_1 A60 (n + 1) x K := by kernel_rfl
theorem hl_token_behindComments_1 (A60 : T_strings_HasPrefix) (z : Z sg) (K : Ex → Z sg → Prop) : (L_token_behindComments A60) (nthLoop (bodyOf Tryd.f37) 0) z K = ls_token_behindComments_1.get z (fun x => ∃ n, FF_token_behindComments_1 A60 n x K) := by kernel_rfl
theorem lo_token_behindComments_1 (A60 : T_strings_HasPrefix) (h60 : FnOK sy Tryd.prog GT ovD GL 60 (q_strings_HasPrefix A60)) : ∀ (o0 : Nat → Prop) (B : Bs sg), B.E.length ≤ 0 → ∀ z K, (L_token_behindComments A60) (nthLoop (bodyOf Tryd.f37) 0) z K → Sx.Sem sy Tryd.prog GT ovD o0 GL Tryd.f37.ntmps B (.loop (nthLoop (bodyOf Tryd.f37) 0)) z K :=
  loop_ok (Cok_token_behindComments A60 h60) (lp_of (l := []) (by kernel_rfl) lp_nil) ls_token_behindComments_1 (by decide) (czT 0 le_token_behindComments_1 lr_token_behindComments_1) (fun _ _ hB => czT_ok 0 le_token_behindComments_1 lr_token_behindComments_1 (Nat.le_trans hB (by decide)) (Nat.le_trans hB (by decide))) (fun _ _ h => h) (hs_token_behindComments_1 A60) (hl_token_behindComments_1 A60)
theorem Lp_token_behindComments (A60 : T_strings_HasPrefix) (h60 : FnOK sy Tryd.prog GT ovD GL 60 (q_strings_HasPrefix A60)) : LpOK sy Tryd.prog GT ovD GL (L_token_behindComments A60) 0 Tryd.f37.ntmps (bodyOf Tryd.f37) := lp_of (l := [(nthLoop (bodyOf Tryd.f37) 0)]) (by kernel_rfl) (lp_cons (lo_token_behindComments_1 A60 h60) lp_nil)


theorem raw_token_behindComments (A60 : T_strings_HasPrefix) (a0 : List UInt8) (a1 : Int) (k : W → Prop) : fnT sy Tryd.prog GT (C_token_behindComments A60) (L_token_behindComments A60) Tryd.f37.ntmps (bodyOf Tryd.f37) [none] Tryd.f37.results.toList [.s a0, .i .i64 a1] k = F_token_behindComments A60 a0 a1 (fun r0 => k (.i .i64 r0)) := by kernel_rfl

theorem ok_token_behindComments (A60 : T_strings_HasPrefix) (h60 : FnOK sy Tryd.prog GT ovD GL 60 (q_strings_HasPrefix A60)) : FnOK sy Tryd.prog GT ovD GL 37 (q_token_behindComments (F_token_behindComments A60)) := (fn_ok (rc := [none]) (f := 37) (fn := Tryd.f37) (c := bodyOf Tryd.f37) (nt := Tryd.f37.ntmps) (res := Tryd.f37.results.toList) (C := C_token_behindComments A60) (L := (L_token_behindComments A60)) (fun _ => rfl) Tryd.func37 (by kernel_rfl) rfl rfl (Cok_token_behindComments A60 h60) (Lp_token_behindComments A60 h60)).weak (by
  intro us k h
  unfold q_token_behindComments at h
  split at h
  · skip
    rename_i a0 a1
    rw [raw_token_behindComments A60 a0 a1 k]
    exact h
  · exact h.elim)

abbrev T_token_readToken := List UInt8 → Int → (Tok → Int → Prop) → Prop
def q_token_readToken (A : T_token_readToken) (us : List W) (k : W → Prop) : Prop := match us with
  | [.s a0, .i .i64 a1] => A a0 a1 (fun r0 r1 => k (.t [.a [.i .u8 r0.kind, .s r0.text, .i .i64 r0.num, .s r0.unit, .b r0.flag], .i .i64 r1]))
  | _ => False
theorem q_token_readToken_weak {A A2 : T_token_readToken} (h : FnOK sy Tryd.prog GT ovD GL 38 (q_token_readToken A)) (hA : ∀ a0 a1 K, A2 a0 a1 K → A a0 a1 K) : FnOK sy Tryd.prog GT ovD GL 38 (q_token_readToken A2) := h.weak (by
  intro us k h
  unfold q_token_readToken at h ⊢
  split at h
  · exact hA _ _ _ h
  · exact h.elim)

def F_token_readToken (A62 : T_char_IsSpace) (A63 : T_token_behindSpaces) (A64 : T_char_IsQuote) (A51 : T_token_nameGoesOn) (A28 : T_token_nameStarts) (A26 : T_token_numberStarts) (A66 : T_token_readNumeric) (A60 : T_strings_HasPrefix) (a0 : List UInt8) (a1 : Int) (K : Tok → Int → Prop) : Prop :=
  ((0 ≤ a1 ∧ a1 < (a0.length : Int)) ∧ (A62 ((a0.getD a1.toNat 0).toNat : Int) (fun y1 => ((y1 = true → (A63 a0 a1 (fun y2 => K (Tok.mk (13 : Int) ([] : List UInt8) (0 : Int) ([] : List UInt8) false) y2))) ∧ (y1 = false → ((0 ≤ a1 ∧ a1 < (a0.length : Int)) ∧ (A64 ((a0.getD a1.toNat 0).toNat : Int) (fun y3 => ((y3 = true → False) ∧ (y3 = false → ((0 ≤ a1 ∧ a1 < (a0.length : Int)) ∧ (((decide (((a0.getD a1.toNat 0).toNat : Int) = (35 : Int))) = true → (I64 (a1 + (1 : Int)) ∧ (A51 a0 (a1 + (1 : Int)) (fun y4 => ((y4 = true → (I64 (a1 + (1 : Int)) ∧ (A28 a0 (a1 + (1 : Int)) (fun y5 => (I64 (a1 + (1 : Int)) ∧ False))))) ∧ (y4 = false → (A26 a0 a1 (fun y6 => ((y6 = true → (A66 a0 a1 (fun y7 y8 => K (Tok.mk y7.kind y7.text y7.num y7.unit y7.flag) y8))) ∧ (y6 = false → ((0 ≤ a1 ∧ a1 ≤ (a0.length : Int)) ∧ (A60 (a0.drop a1.toNat) ([45, 45, 62] : List UInt8) (fun y9 => ((y9 = true → (I64 (a1 + (3 : Int)) ∧ K (Tok.mk (15 : Int) ([] : List UInt8) (0 : Int) ([] : List UInt8) false) (a1 + (3 : Int)))) ∧ (y9 = false → ((0 ≤ a1 ∧ a1 ≤ (a0.length : Int)) ∧ (A60 (a0.drop a1.toNat) ([60, 33, 45, 45] : List UInt8) (fun y10 => ((y10 = true → (I64 (a1 + (4 : Int)) ∧ K (Tok.mk (14 : Int) ([] : List UInt8) (0 : Int) ([] : List UInt8) false) (a1 + (4 : Int)))) ∧ (y10 = false → ((0 ≤ a1 ∧ a1 < (a0.length : Int)) ∧ (((decide (((a0.getD a1.toNat 0).toNat : Int) = (64 : Int))) = true → (I64 (a1 + (1 : Int)) ∧ (A28 a0 (a1 + (1 : Int)) (fun y11 => ((y11 = true → (I64 (a1 + (1 : Int)) ∧ False)) ∧ (y11 = false → (A28 a0 a1 (fun y12 => ((y12 = true → False) ∧ (y12 = false → ((0 ≤ a1 ∧ a1 < (a0.length : Int)) ∧ False))))))))))) ∧ ((decide (((a0.getD a1.toNat 0).toNat : Int) = (64 : Int))) = false → (A28 a0 a1 (fun y13 => ((y13 = true → False) ∧ (y13 = false → ((0 ≤ a1 ∧ a1 < (a0.length : Int)) ∧ False)))))))))))))))))))))))))))) ∧ ((decide (((a0.getD a1.toNat 0).toNat : Int) = (35 : Int))) = false → (A26 a0 a1 (fun y14 => ((y14 = true → (A66 a0 a1 (fun y15 y16 => K (Tok.mk y15.kind y15.text y15.num y15.unit y15.flag) y16))) ∧ (y14 = false → ((0 ≤ a1 ∧ a1 ≤ (a0.length : Int)) ∧ (A60 (a0.drop a1.toNat) ([45, 45, 62] : List UInt8) (fun y17 => ((y17 = true → (I64 (a1 + (3 : Int)) ∧ K (Tok.mk (15 : Int) ([] : List UInt8) (0 : Int) ([] : List UInt8) false) (a1 + (3 : Int)))) ∧ (y17 = false → ((0 ≤ a1 ∧ a1 ≤ (a0.length : Int)) ∧ (A60 (a0.drop a1.toNat) ([60, 33, 45, 45] : List UInt8) (fun y18 => ((y18 = true → (I64 (a1 + (4 : Int)) ∧ K (Tok.mk (14 : Int) ([] : List UInt8) (0 : Int) ([] : List UInt8) false) (a1 + (4 : Int)))) ∧ (y18 = false → ((0 ≤ a1 ∧ a1 < (a0.length : Int)) ∧ (((decide (((a0.getD a1.toNat 0).toNat : Int) = (64 : Int))) = true → (I64 (a1 + (1 : Int)) ∧ (A28 a0 (a1 + (1 : Int)) (fun y19 => ((y19 = true → (I64 (a1 + (1 : Int)) ∧ False)) ∧ (y19 = false → (A28 a0 a1 (fun y20 => ((y20 = true → False) ∧ (y20 = false → ((0 ≤ a1 ∧ a1 < (a0.length : Int)) ∧ False))))))))))) ∧ ((decide (((a0.getD a1.toNat 0).toNat : Int) = (64 : Int))) = false → (A28 a0 a1 (fun y21 => ((y21 = true → False) ∧ (y21 = false → ((0 ≤ a1 ∧ a1 < (a0.length : Int)) ∧ False)))))))))))))))))))))))))))))))))))

def C_token_readToken (A62 : T_char_IsSpace) (A63 : T_token_behindSpaces) (A64 : T_char_IsQuote) (A51 : T_token_nameGoesOn) (A28 : T_token_nameStarts) (A26 : T_token_numberStarts) (A66 : T_token_readNumeric) (A60 : T_strings_HasPrefix) : CallT sg := tab [(62, con [none] (q_char_IsSpace A62)), (63, con [none, none] (q_token_behindSpaces A63)), (64, con [none] (q_char_IsQuote A64)), (65, con [] noT), (51, con [none, none] (q_token_nameGoesOn A51)), (28, con [none, none] (q_token_nameStarts A28)), (29, con [] noT), (26, con [none, none] (q_token_numberStarts A26)), (66, con [none, none] (q_token_readNumeric A66)), (60, con [none, none] (q_strings_HasPrefix A60)), (67, con [] noT), (68, con [] noT)]
theorem Cok_token_readToken (A62 : T_char_IsSpace) (A63 : T_token_behindSpaces) (A64 : T_char_IsQuote) (A51 : T_token_nameGoesOn) (A28 : T_token_nameStarts) (A26 : T_token_numberStarts) (A66 : T_token_readNumeric) (A60 : T_strings_HasPrefix) (h62 : FnOK sy Tryd.prog GT ovD GL 62 (q_char_IsSpace A62)) (h63 : FnOK sy Tryd.prog GT ovD GL 63 (q_token_behindSpaces A63)) (h64 : FnOK sy Tryd.prog GT ovD GL 64 (q_char_IsQuote A64)) (h51 : FnOK sy Tryd.prog GT ovD GL 51 (q_token_nameGoesOn A51)) (h28 : FnOK sy Tryd.prog GT ovD GL 28 (q_token_nameStarts A28)) (h26 : FnOK sy Tryd.prog GT ovD GL 26 (q_token_numberStarts A26)) (h66 : FnOK sy Tryd.prog GT ovD GL 66 (q_token_readNumeric A66)) (h60 : FnOK sy Tryd.prog GT ovD GL 60 (q_strings_HasPrefix A60)) (o0 : Nat → Prop) : CalOK sy Tryd.prog GT ovD o0 GL (C_token_readToken A62 A63 A64 A51 A28 A26 A66 A60) := (tab_cons (con_ok h62) (tab_cons (con_ok h63) (tab_cons (con_ok h64) (tab_cons (con_ok (noT_ok 65)) (tab_cons (con_ok h51) (tab_cons (con_ok h28) (tab_cons (con_ok (noT_ok 29)) (tab_cons (con_ok h26) (tab_cons (con_ok h66) (tab_cons (con_ok h60) (tab_cons (con_ok (noT_ok 67)) (tab_cons (con_ok (noT_ok 68)) tab_nil)))))))))))) o0

theorem raw_token_readToken (A62 : T_char_IsSpace) (A63 : T_token_behindSpaces) (A64 : T_char_IsQuote) (A51 : T_token_nameGoesOn) (A28 : T_token_nameStarts) (A26 : T_token_numberStarts) (A66 : T_token_readNumeric) (A60 : T_strings_HasPrefix) (a0 : List UInt8) (a1 : Int) (k : W → Prop) : fnT sy Tryd.prog GT (C_token_readToken A62 A63 A64 A51 A28 A26 A66 A60) noL Tryd.f38.ntmps (bodyOf Tryd.f38) [none, none] Tryd.f38.results.toList [.s a0, .i .i64 a1] k = F_token_readToken A62 A63 A64 A51 A28 A26 A66 A60 a0 a1 (fun r0 r1 => k (.t [.a [.i .u8 r0.kind, .s r0.text, .i .i64 r0.num, .s r0.unit, .b r0.flag], .i .i64 r1])) := by kernel_rfl

theorem ok_token_readToken (A62 : T_char_IsSpace) (A63 : T_token_behindSpaces) (A64 : T_char_IsQuote) (A51 : T_token_nameGoesOn) (A28 : T_token_nameStarts) (A26 : T_token_numberStarts) (A66 : T_token_readNumeric) (A60 : T_strings_HasPrefix) (h62 : FnOK sy Tryd.prog GT ovD GL 62 (q_char_IsSpace A62)) (h63 : FnOK sy Tryd.prog GT ovD GL 63 (q_token_behindSpaces A63)) (h64 : FnOK sy Tryd.prog GT ovD GL 64 (q_char_IsQuote A64)) (h51 : FnOK sy Tryd.prog GT ovD GL 51 (q_token_nameGoesOn A51)) (h28 : FnOK sy Tryd.prog GT ovD GL 28 (q_token_nameStarts A28)) (h26 : FnOK sy Tryd.prog GT ovD GL 26 (q_token_numberStarts A26)) (h66 : FnOK sy Tryd.prog GT ovD GL 66 (q_token_readNumeric A66)) (h60 : FnOK sy Tryd.prog GT ovD GL 60 (q_strings_HasPrefix A60)) : FnOK sy Tryd.prog GT ovD GL 38 (q_token_readToken (F_token_readToken A62 A63 A64 A51 A28 A26 A66 A60)) := (fn_ok (rc := [none, none]) (f := 38) (fn := Tryd.f38) (c := bodyOf Tryd.f38) (nt := Tryd.f38.ntmps) (res := Tryd.f38.results.toList) (C := C_token_readToken A62 A63 A64 A51 A28 A26 A66 A60) (L := noL) (fun _ => rfl) Tryd.func38 (by kernel_rfl) rfl rfl (Cok_token_readToken A62 A63 A64 A51 A28 A26 A66 A60 h62 h63 h64 h51 h28 h26 h66 h60) (lp_of (l := []) (by kernel_rfl) lp_nil)).weak (by
  intro us k h
  unfold q_token_readToken at h
  split at h
  · skip
    rename_i a0 a1
    rw [raw_token_readToken A62 A63 A64 A51 A28 A26 A66 A60 a0 a1 k]
    exact h
  · exact h.elim)

abbrev T_input_startsWithLineEnd := List UInt8 → (Bool → Prop) → Prop
def q_input_startsWithLineEnd (A : T_input_startsWithLineEnd) (us : List W) (k : W → Prop) : Prop := match us with
  | [.s a0] => A a0 (fun r0 => k (.b r0))
  | _ => False
theorem q_input_startsWithLineEnd_weak {A A2 : T_input_startsWithLineEnd} (h : FnOK sy Tryd.prog GT ovD GL 35 (q_input_startsWithLineEnd A)) (hA : ∀ a0 K, A2 a0 K → A a0 K) : FnOK sy Tryd.prog GT ovD GL 35 (q_input_startsWithLineEnd A2) := h.weak (by
  intro us k h
  unfold q_input_startsWithLineEnd at h ⊢
  split at h
  · exact hA _ _ h
  · exact h.elim)

def F_input_startsWithLineEnd (a0 : List UInt8) (K : Bool → Prop) : Prop :=
  (((decide ((0 : Int) < (a0.length : Int))) = true → ((0 ≤ (0 : Int) ∧ (0 : Int) < (a0.length : Int)) ∧ K (decide (((a0.getD 0 0).toNat : Int) = (10 : Int))))) ∧ ((decide ((0 : Int) < (a0.length : Int))) = false → K false))

def C_input_startsWithLineEnd : CallT sg := tab []
theorem Cok_input_startsWithLineEnd (o0 : Nat → Prop) : CalOK sy Tryd.prog GT ovD o0 GL (C_input_startsWithLineEnd) := tab_nil o0

theorem raw_input_startsWithLineEnd (a0 : List UInt8) (k : W → Prop) : fnT sy Tryd.prog GT (C_input_startsWithLineEnd) noL Tryd.f35.ntmps (bodyOf Tryd.f35) [none] Tryd.f35.results.toList [.s a0] k = F_input_startsWithLineEnd a0 (fun r0 => k (.b r0)) := by kernel_rfl

theorem ok_input_startsWithLineEnd : FnOK sy Tryd.prog GT ovD GL 35 (q_input_startsWithLineEnd (F_input_startsWithLineEnd)) := (fn_ok (rc := [none]) (f := 35) (fn := Tryd.f35) (c := bodyOf Tryd.f35) (nt := Tryd.f35.ntmps) (res := Tryd.f35.results.toList) (C := C_input_startsWithLineEnd) (L := noL) (fun _ => rfl) Tryd.func35 (by kernel_rfl) rfl rfl (Cok_input_startsWithLineEnd) (lp_of (l := []) (by kernel_rfl) lp_nil)).weak (by
  intro us k h
  unfold q_input_startsWithLineEnd at h
  split at h
  · skip
    rename_i a0
    rw [raw_input_startsWithLineEnd a0 k]
    exact h
  · exact h.elim)

abbrev T_input_Clean := List UInt8 → (List UInt8 → Int → Prop) → Prop
def q_input_Clean (A : T_input_Clean) (us : List W) (k : W → Prop) : Prop := match us with
  | [.s a0] => A a0 (fun r0 r1 => k (.t [.s r0, .i .i64 r1]))
  | _ => False
theorem q_input_Clean_weak {A A2 : T_input_Clean} (h : FnOK sy Tryd.prog GT ovD GL 18 (q_input_Clean A)) (hA : ∀ a0 K, A2 a0 K → A a0 K) : FnOK sy Tryd.prog GT ovD GL 18 (q_input_Clean A2) := h.weak (by
  intro us k h
  unfold q_input_Clean at h ⊢
  split at h
  · exact hA _ _ h
  · exact h.elim)

def F_input_Clean_l5 (A35 : T_input_startsWithLineEnd) : Nat → List UInt8 → Int → List UInt8 → (List UInt8 → Prop) → Prop
  | 0, _, _, _, _ => False
  | n + 1, x0, x5, b0, Ke => (((decide (x5 < (x0.length : Int))) = true → ((0 ≤ x5 ∧ x5 < (x0.length : Int)) ∧ (((decide (((x0.getD x5.toNat 0).toNat : Int) = (0 : Int))) = true → ((b0.length + ([239, 191, 189] : List UInt8).length) * 1 ≤ 1099511627776 ∧ (I64 (x5 + (1 : Int)) ∧ F_input_Clean_l5 A35 n x0 (x5 + (1 : Int)) (b0 ++ ([239, 191, 189] : List UInt8)) Ke))) ∧ ((decide (((x0.getD x5.toNat 0).toNat : Int) = (0 : Int))) = false → (((decide (((x0.getD x5.toNat 0).toNat : Int) = (12 : Int))) = true → ((0 ≤ (10 : Int) ∧ (10 : Int) ≤ 255) ∧ ((b0.length + [UInt8.ofNat 10].length) * 1 ≤ 1099511627776 ∧ (I64 (x5 + (1 : Int)) ∧ F_input_Clean_l5 A35 n x0 (x5 + (1 : Int)) (b0 ++ [UInt8.ofNat 10]) Ke)))) ∧ ((decide (((x0.getD x5.toNat 0).toNat : Int) = (12 : Int))) = false → (((decide (((x0.getD x5.toNat 0).toNat : Int) = (13 : Int))) = true → (I64 (x5 + (1 : Int)) ∧ ((0 ≤ (x5 + (1 : Int)) ∧ (x5 + (1 : Int)) ≤ (x0.length : Int)) ∧ (A35 (x0.drop (x5 + (1 : Int)).toNat) (fun y1 => (((!y1) = true → ((0 ≤ (10 : Int) ∧ (10 : Int) ≤ 255) ∧ ((b0.length + [UInt8.ofNat 10].length) * 1 ≤ 1099511627776 ∧ (I64 (x5 + (1 : Int)) ∧ F_input_Clean_l5 A35 n x0 (x5 + (1 : Int)) (b0 ++ [UInt8.ofNat 10]) Ke)))) ∧ ((!y1) = false → (I64 (x5 + (1 : Int)) ∧ F_input_Clean_l5 A35 n x0 (x5 + (1 : Int)) b0 Ke)))))))) ∧ ((decide (((x0.getD x5.toNat 0).toNat : Int) = (13 : Int))) = false → ((0 ≤ x5 ∧ x5 < (x0.length : Int)) ∧ ((0 ≤ ((x0.getD x5.toNat 0).toNat : Int) ∧ ((x0.getD x5.toNat 0).toNat : Int) ≤ 255) ∧ ((b0.length + [UInt8.ofNat (((x0.getD x5.toNat 0).toNat : Int).toNat)].length) * 1 ≤ 1099511627776 ∧ (I64 (x5 + (1 : Int)) ∧ F_input_Clean_l5 A35 n x0 (x5 + (1 : Int)) (b0 ++ [UInt8.ofNat (((x0.getD x5.toNat 0).toNat : Int).toNat)]) Ke)))))))))))) ∧ ((decide (x5 < (x0.length : Int))) = false → Ke b0))

def F_input_Clean (A35 : T_input_startsWithLineEnd) (a0 : List UInt8) (K : List UInt8 → Int → Prop) : Prop :=
  (((decide ((4000 : Int) < (a0.length : Int))) = true → K ([] : List UInt8) (28 : Int)) ∧ ((decide ((4000 : Int) < (a0.length : Int))) = false → ((0 ≤ (0 : Int) ∧ (0 : Int) ≤ (a0.length : Int) ∧ 1 * (a0.length : Int) ≤ 1099511627776 ∧ (a0.length : Int) ≤ 1099511627776) ∧ ((0 ≤ (0 : Int) ∧ (0 : Int) ≤ 255) ∧ (∃ m, F_input_Clean_l5 A35 m a0 (0 : Int) (List.replicate 0 (UInt8.ofNat 0)) (fun y1 => K y1 (0 : Int)))))))

def C_input_Clean (A35 : T_input_startsWithLineEnd) : CallT sg := tab [(35, con [none] (q_input_startsWithLineEnd A35))]
theorem Cok_input_Clean (A35 : T_input_startsWithLineEnd) (h35 : FnOK sy Tryd.prog GT ovD GL 35 (q_input_startsWithLineEnd A35)) (o0 : Nat → Prop) : CalOK sy Tryd.prog GT ovD o0 GL (C_input_Clean A35) := (tab_cons (con_ok h35) tab_nil) o0

def ls_input_Clean_5 : LS sy ((List UInt8) × Unit × Int × Unit) (List (sg.Den Cd.u8) × Unit) := ⟨[], fCons 0 (vStr sy) (fCons 4 (vLit sy (.o 0)) (fCons 5 (vInt sy .i64) (fNil sy))), hBuf 0 Cd.u8 (hNil sy), 1, [0]⟩
def le_input_Clean_5 : LS sy (Unit × Unit) (List (sg.Den Cd.u8) × Unit) := ⟨[], fCons 4 (vLit sy (.o 0)) (fNil sy), hBuf 0 Cd.u8 (hNil sy), 1, [0]⟩
def lr_input_Clean_5 : LS sy Unit Unit := ⟨[], fNil sy, hNil sy, 0, []⟩
def FF_input_Clean_5 (A35 : T_input_startsWithLineEnd) (n : Nat) (x : ((List UInt8) × Unit × Int × Unit) × (List (sg.Den Cd.u8) × Unit)) (K : Ex → Z sg → Prop) : Prop := F_input_Clean_l5 A35 n x.1.1 x.1.2.2.1 x.2.1 (fun y0 => K (.exit 0) (le_input_Clean_5.put (((), ()), (y0, ()))))
def h_input_Clean_5 (A35 : T_input_startsWithLineEnd) (z : Z sg) (K : Ex → Z sg → Prop) : Prop := ls_input_Clean_5.get z (fun x => ∃ n, FF_input_Clean_5 A35 n x K)
def L_input_Clean (A35 : T_input_startsWithLineEnd) : LoopT sg := tabL [(5, h_input_Clean_5 A35)]
theorem hs_input_Clean_5 (A35 : T_input_startsWithLineEnd) (n : Nat) (x : ((List UInt8) × Unit × Int × Unit) × (List (sg.Den Cd.u8) × Unit)) (K : Ex → Z sg → Prop) : forceZ (ls_input_Clean_5.put x) (fun z => sC sy Tryd.prog GT (C_input_Clean A35) (L_input_Clean A35) Tryd.f18.ntmps (nthLoop (bodyOf Tryd.f18) 0) z (rnd ls_input_Clean_5 (czT 0 le_input_Clean_5 lr_input_Clean_5) (fun x => FF_input_Clean_5 A35 n x K) K)) = FF_input_Clean_5 A35 (n + 1) x K := by kernel_rfl
theorem hl_input_Clean_5 (A35 : T_input_startsWithLineEnd) (z : Z sg) (K : Ex → Z sg → Prop) : (L_input_Clean A35) (nthLoop (bodyOf Tryd.f18) 0) z K = ls_input_Clean_5.get z (fun x => ∃ n, FF_input_Clean_5 A35 n x K) := by kernel_rfl
theorem lo_input_Clean_5 (A35 : T_input_startsWithLineEnd) (h35 : FnOK sy Tryd.prog GT ovD GL 35 (q_input_startsWithLineEnd A35)) : ∀ (o0 : Nat → Prop) (B : Bs sg), B.E.length ≤ 0 → ∀ z K, (L_input_Clean A35) (nthLoop (bodyOf Tryd.f18) 0) z K → Sx.Sem sy Tryd.prog GT ovD o0 GL Tryd.f18.ntmps B (.loop (nthLoop (bodyOf Tryd.f18) 0)) z K :=
  loop_ok (Cok_input_Clean A35 h35) (lp_of (l := []) (by kernel_rfl) lp_nil) ls_input_Clean_5 (by decide) (czT 0 le_input_Clean_5 lr_input_Clean_5) (fun _ _ hB => czT_ok 0 le_input_Clean_5 lr_input_Clean_5 (Nat.le_trans hB (by decide)) (Nat.le_trans hB (by decide))) (fun _ _ h => h) (hs_input_Clean_5 A35) (hl_input_Clean_5 A35)
theorem Lp_input_Clean (A35 : T_input_startsWithLineEnd) (h35 : FnOK sy Tryd.prog GT ovD GL 35 (q_input_startsWithLineEnd A35)) : LpOK sy Tryd.prog GT ovD GL (L_input_Clean A35) 0 Tryd.f18.ntmps (bodyOf Tryd.f18) := lp_of (l := [(nthLoop (bodyOf Tryd.f18) 0)]) (by kernel_rfl) (lp_cons (lo_input_Clean_5 A35 h35) lp_nil)


theorem raw_input_Clean (A35 : T_input_startsWithLineEnd) (a0 : List UInt8) (k : W → Prop) : fnT sy Tryd.prog GT (C_input_Clean A35) (L_input_Clean A35) Tryd.f18.ntmps (bodyOf Tryd.f18) [none, none] Tryd.f18.results.toList [.s a0] k = F_input_Clean A35 a0 (fun r0 r1 => k (.t [.s r0, .i .i64 r1])) := by kernel_rfl

theorem ok_input_Clean (A35 : T_input_startsWithLineEnd) (h35 : FnOK sy Tryd.prog GT ovD GL 35 (q_input_startsWithLineEnd A35)) : FnOK sy Tryd.prog GT ovD GL 18 (q_input_Clean (F_input_Clean A35)) := (fn_ok (rc := [none, none]) (f := 18) (fn := Tryd.f18) (c := bodyOf Tryd.f18) (nt := Tryd.f18.ntmps) (res := Tryd.f18.results.toList) (C := C_input_Clean A35) (L := (L_input_Clean A35)) (fun _ => rfl) Tryd.func18 (by kernel_rfl) rfl rfl (Cok_input_Clean A35 h35) (Lp_input_Clean A35 h35)).weak (by
  intro us k h
  unfold q_input_Clean at h
  split at h
  · skip
    rename_i a0
    rw [raw_input_Clean A35 a0 k]
    exact h
  · exact h.elim)

end Go.Proofs.YtcjoehlflbegpaaDoor
