/-
  Numbers of the tokenizer, followed. Nothing is claimed here.
-/
import Derived.Test.YthjnkibldhfhmaaDoorTa
import Derived.Test.YthjnkibldhfhmaaDoorOb
namespace Go.Proofs.YthjnkibldhfhmaaDoor
open Go.Vm Go.Sx Go.RowKit
variable {ro : Nat}

def GT : Gl := fun _ => none
noncomputable def ovD (ro : Nat) : Ov := ovA ro
def noT (_ : List W) (_ : W → Prop) : Prop := False
theorem noT_ok {ro : Nat} (f : FuncId) : FnOK sy Tryd.prog GT (ovD ro) ro f noT := fun _ _ _ h => h.elim

abbrev T_token_byteAt := List UInt8 → Int → (Int → Prop) → Prop
def q_token_byteAt (A : T_token_byteAt) (us : List W) (k : W → Prop) : Prop := match us with
  | [.s a0, .i .i64 a1] => A a0 a1 (fun r0 => k (.i .u8 r0))
  | _ => False
theorem q_token_byteAt_weak {A A2 : T_token_byteAt} (h : FnOK sy Tryd.prog GT (ovD ro) ro 47 (q_token_byteAt A)) (hA : ∀ a0 a1 K, A2 a0 a1 K → A a0 a1 K) : FnOK sy Tryd.prog GT (ovD ro) ro 47 (q_token_byteAt A2) := h.weak (by
  intro us k h
  unfold q_token_byteAt at h ⊢
  split at h
  · exact hA _ _ _ h
  · exact h.elim)

def F_token_byteAt (a0 : List UInt8) (a1 : Int) (K : Int → Prop) : Prop :=
  (((decide (a1 < (a0.length : Int))) = true → ((0 ≤ a1 ∧ a1 < (a0.length : Int)) ∧ K ((a0.getD a1.toNat 0).toNat : Int))) ∧ ((decide (a1 < (a0.length : Int))) = false → K (0 : Int)))

def C_token_byteAt : CallT sg := tab []
theorem Cok_token_byteAt (o0 : Nat → Prop) : CalOK sy Tryd.prog GT (ovD ro) o0 ro (C_token_byteAt) := tab_nil o0

theorem raw_token_byteAt (a0 : List UInt8) (a1 : Int) (k : W → Prop) : fnT sy Tryd.prog GT (C_token_byteAt) noL Tryd.f47.ntmps (bodyOf Tryd.f47) [none] Tryd.f47.results.toList [.s a0, .i .i64 a1] k = F_token_byteAt a0 a1 (fun r0 => k (.i .u8 r0)) := by kernel_rfl

theorem ok_token_byteAt : FnOK sy Tryd.prog GT (ovD ro) ro 47 (q_token_byteAt (F_token_byteAt)) := (fn_ok (rc := [none]) (f := 47) (fn := Tryd.f47) (c := bodyOf Tryd.f47) (nt := Tryd.f47.ntmps) (res := Tryd.f47.results.toList) (C := C_token_byteAt) (L := noL) (fun _ _ => rfl) Tryd.func47 (by kernel_rfl) rfl rfl (Cok_token_byteAt) (lp_of (l := []) (by kernel_rfl) lp_nil)).weak (by
  intro us k h
  unfold q_token_byteAt at h
  split at h
  · skip
    rename_i a0 a1
    rw [raw_token_byteAt a0 a1 k]
    exact h
  · exact h.elim)

abbrev T_char_IsDigit := Int → (Bool → Prop) → Prop
def q_char_IsDigit (A : T_char_IsDigit) (us : List W) (k : W → Prop) : Prop := match us with
  | [.i .u8 a0] => A a0 (fun r0 => k (.b r0))
  | _ => False
theorem q_char_IsDigit_weak {A A2 : T_char_IsDigit} (h : FnOK sy Tryd.prog GT (ovD ro) ro 48 (q_char_IsDigit A)) (hA : ∀ a0 K, A2 a0 K → A a0 K) : FnOK sy Tryd.prog GT (ovD ro) ro 48 (q_char_IsDigit A2) := h.weak (by
  intro us k h
  unfold q_char_IsDigit at h ⊢
  split at h
  · exact hA _ _ h
  · exact h.elim)

def F_char_IsDigit (a0 : Int) (K : Bool → Prop) : Prop :=
  (((decide ((48 : Int) ≤ a0)) = true → K (decide (a0 ≤ (57 : Int)))) ∧ ((decide ((48 : Int) ≤ a0)) = false → K false))

def C_char_IsDigit : CallT sg := tab []
theorem Cok_char_IsDigit (o0 : Nat → Prop) : CalOK sy Tryd.prog GT (ovD ro) o0 ro (C_char_IsDigit) := tab_nil o0

theorem raw_char_IsDigit (a0 : Int) (k : W → Prop) : fnT sy Tryd.prog GT (C_char_IsDigit) noL Tryd.f48.ntmps (bodyOf Tryd.f48) [none] Tryd.f48.results.toList [.i .u8 a0] k = F_char_IsDigit a0 (fun r0 => k (.b r0)) := by kernel_rfl

theorem ok_char_IsDigit : FnOK sy Tryd.prog GT (ovD ro) ro 48 (q_char_IsDigit (F_char_IsDigit)) := (fn_ok (rc := [none]) (f := 48) (fn := Tryd.f48) (c := bodyOf Tryd.f48) (nt := Tryd.f48.ntmps) (res := Tryd.f48.results.toList) (C := C_char_IsDigit) (L := noL) (fun _ _ => rfl) Tryd.func48 (by kernel_rfl) rfl rfl (Cok_char_IsDigit) (lp_of (l := []) (by kernel_rfl) lp_nil)).weak (by
  intro us k h
  unfold q_char_IsDigit at h
  split at h
  · skip
    rename_i a0
    rw [raw_char_IsDigit a0 k]
    exact h
  · exact h.elim)

abbrev T_token_isSign := Int → (Bool → Prop) → Prop
def q_token_isSign (A : T_token_isSign) (us : List W) (k : W → Prop) : Prop := match us with
  | [.i .u8 a0] => A a0 (fun r0 => k (.b r0))
  | _ => False
theorem q_token_isSign_weak {A A2 : T_token_isSign} (h : FnOK sy Tryd.prog GT (ovD ro) ro 46 (q_token_isSign A)) (hA : ∀ a0 K, A2 a0 K → A a0 K) : FnOK sy Tryd.prog GT (ovD ro) ro 46 (q_token_isSign A2) := h.weak (by
  intro us k h
  unfold q_token_isSign at h ⊢
  split at h
  · exact hA _ _ h
  · exact h.elim)

def F_token_isSign (a0 : Int) (K : Bool → Prop) : Prop :=
  (((decide (a0 = (43 : Int))) = false → K (decide (a0 = (45 : Int)))) ∧ ((decide (a0 = (43 : Int))) = true → K true))

def C_token_isSign : CallT sg := tab []
theorem Cok_token_isSign (o0 : Nat → Prop) : CalOK sy Tryd.prog GT (ovD ro) o0 ro (C_token_isSign) := tab_nil o0

theorem raw_token_isSign (a0 : Int) (k : W → Prop) : fnT sy Tryd.prog GT (C_token_isSign) noL Tryd.f46.ntmps (bodyOf Tryd.f46) [none] Tryd.f46.results.toList [.i .u8 a0] k = F_token_isSign a0 (fun r0 => k (.b r0)) := by kernel_rfl

theorem ok_token_isSign : FnOK sy Tryd.prog GT (ovD ro) ro 46 (q_token_isSign (F_token_isSign)) := (fn_ok (rc := [none]) (f := 46) (fn := Tryd.f46) (c := bodyOf Tryd.f46) (nt := Tryd.f46.ntmps) (res := Tryd.f46.results.toList) (C := C_token_isSign) (L := noL) (fun _ _ => rfl) Tryd.func46 (by kernel_rfl) rfl rfl (Cok_token_isSign) (lp_of (l := []) (by kernel_rfl) lp_nil)).weak (by
  intro us k h
  unfold q_token_isSign at h
  split at h
  · skip
    rename_i a0
    rw [raw_token_isSign a0 k]
    exact h
  · exact h.elim)

abbrev T_token_fractionStarts := List UInt8 → Int → (Bool → Prop) → Prop
def q_token_fractionStarts (A : T_token_fractionStarts) (us : List W) (k : W → Prop) : Prop := match us with
  | [.s a0, .i .i64 a1] => A a0 a1 (fun r0 => k (.b r0))
  | _ => False
theorem q_token_fractionStarts_weak {A A2 : T_token_fractionStarts} (h : FnOK sy Tryd.prog GT (ovD ro) ro 49 (q_token_fractionStarts A)) (hA : ∀ a0 a1 K, A2 a0 a1 K → A a0 a1 K) : FnOK sy Tryd.prog GT (ovD ro) ro 49 (q_token_fractionStarts A2) := h.weak (by
  intro us k h
  unfold q_token_fractionStarts at h ⊢
  split at h
  · exact hA _ _ _ h
  · exact h.elim)

def F_token_fractionStarts (A47 : T_token_byteAt) (A48 : T_char_IsDigit) (a0 : List UInt8) (a1 : Int) (K : Bool → Prop) : Prop :=
  (A47 a0 a1 (fun y1 => (((decide (y1 = (46 : Int))) = true → (I64 (a1 + (1 : Int)) ∧ (A47 a0 (a1 + (1 : Int)) (fun y2 => (A48 y2 (fun y3 => K y3)))))) ∧ ((decide (y1 = (46 : Int))) = false → K false))))

def C_token_fractionStarts (A47 : T_token_byteAt) (A48 : T_char_IsDigit) : CallT sg := tab [(47, con [none, none] (q_token_byteAt A47)), (48, con [none] (q_char_IsDigit A48))]
theorem Cok_token_fractionStarts (A47 : T_token_byteAt) (A48 : T_char_IsDigit) (h47 : FnOK sy Tryd.prog GT (ovD ro) ro 47 (q_token_byteAt A47)) (h48 : FnOK sy Tryd.prog GT (ovD ro) ro 48 (q_char_IsDigit A48)) (o0 : Nat → Prop) : CalOK sy Tryd.prog GT (ovD ro) o0 ro (C_token_fractionStarts A47 A48) := (tab_cons (con_ok h47) (tab_cons (con_ok h48) tab_nil)) o0

theorem raw_token_fractionStarts (A47 : T_token_byteAt) (A48 : T_char_IsDigit) (a0 : List UInt8) (a1 : Int) (k : W → Prop) : fnT sy Tryd.prog GT (C_token_fractionStarts A47 A48) noL Tryd.f49.ntmps (bodyOf Tryd.f49) [none] Tryd.f49.results.toList [.s a0, .i .i64 a1] k = F_token_fractionStarts A47 A48 a0 a1 (fun r0 => k (.b r0)) := by kernel_rfl

theorem ok_token_fractionStarts (A47 : T_token_byteAt) (A48 : T_char_IsDigit) (h47 : FnOK sy Tryd.prog GT (ovD ro) ro 47 (q_token_byteAt A47)) (h48 : FnOK sy Tryd.prog GT (ovD ro) ro 48 (q_char_IsDigit A48)) : FnOK sy Tryd.prog GT (ovD ro) ro 49 (q_token_fractionStarts (F_token_fractionStarts A47 A48)) := (fn_ok (rc := [none]) (f := 49) (fn := Tryd.f49) (c := bodyOf Tryd.f49) (nt := Tryd.f49.ntmps) (res := Tryd.f49.results.toList) (C := C_token_fractionStarts A47 A48) (L := noL) (fun _ _ => rfl) Tryd.func49 (by kernel_rfl) rfl rfl (Cok_token_fractionStarts A47 A48 h47 h48) (lp_of (l := []) (by kernel_rfl) lp_nil)).weak (by
  intro us k h
  unfold q_token_fractionStarts at h
  split at h
  · skip
    rename_i a0 a1
    rw [raw_token_fractionStarts A47 A48 a0 a1 k]
    exact h
  · exact h.elim)

abbrev T_token_numberStarts := List UInt8 → Int → (Bool → Prop) → Prop
def q_token_numberStarts (A : T_token_numberStarts) (us : List W) (k : W → Prop) : Prop := match us with
  | [.s a0, .i .i64 a1] => A a0 a1 (fun r0 => k (.b r0))
  | _ => False
theorem q_token_numberStarts_weak {A A2 : T_token_numberStarts} (h : FnOK sy Tryd.prog GT (ovD ro) ro 35 (q_token_numberStarts A)) (hA : ∀ a0 a1 K, A2 a0 a1 K → A a0 a1 K) : FnOK sy Tryd.prog GT (ovD ro) ro 35 (q_token_numberStarts A2) := h.weak (by
  intro us k h
  unfold q_token_numberStarts at h ⊢
  split at h
  · exact hA _ _ _ h
  · exact h.elim)

def F_token_numberStarts (A47 : T_token_byteAt) (A46 : T_token_isSign) (A48 : T_char_IsDigit) (A49 : T_token_fractionStarts) (a0 : List UInt8) (a1 : Int) (K : Bool → Prop) : Prop :=
  (A47 a0 a1 (fun y1 => (A46 y1 (fun y2 => ((y2 = true → (I64 (a1 + (1 : Int)) ∧ (A47 a0 (a1 + (1 : Int)) (fun y3 => (A48 y3 (fun y4 => ((y4 = false → (A49 a0 (a1 + (1 : Int)) (fun y5 => K y5))) ∧ (y4 = true → K true)))))))) ∧ (y2 = false → (A47 a0 a1 (fun y6 => (A48 y6 (fun y7 => ((y7 = false → (A49 a0 a1 (fun y8 => K y8))) ∧ (y7 = true → K true))))))))))))

def C_token_numberStarts (A47 : T_token_byteAt) (A46 : T_token_isSign) (A48 : T_char_IsDigit) (A49 : T_token_fractionStarts) : CallT sg := tab [(47, con [none, none] (q_token_byteAt A47)), (46, con [none] (q_token_isSign A46)), (48, con [none] (q_char_IsDigit A48)), (49, con [none, none] (q_token_fractionStarts A49))]
theorem Cok_token_numberStarts (A47 : T_token_byteAt) (A46 : T_token_isSign) (A48 : T_char_IsDigit) (A49 : T_token_fractionStarts) (h47 : FnOK sy Tryd.prog GT (ovD ro) ro 47 (q_token_byteAt A47)) (h46 : FnOK sy Tryd.prog GT (ovD ro) ro 46 (q_token_isSign A46)) (h48 : FnOK sy Tryd.prog GT (ovD ro) ro 48 (q_char_IsDigit A48)) (h49 : FnOK sy Tryd.prog GT (ovD ro) ro 49 (q_token_fractionStarts A49)) (o0 : Nat → Prop) : CalOK sy Tryd.prog GT (ovD ro) o0 ro (C_token_numberStarts A47 A46 A48 A49) := (tab_cons (con_ok h47) (tab_cons (con_ok h46) (tab_cons (con_ok h48) (tab_cons (con_ok h49) tab_nil)))) o0

theorem raw_token_numberStarts (A47 : T_token_byteAt) (A46 : T_token_isSign) (A48 : T_char_IsDigit) (A49 : T_token_fractionStarts) (a0 : List UInt8) (a1 : Int) (k : W → Prop) : fnT sy Tryd.prog GT (C_token_numberStarts A47 A46 A48 A49) noL Tryd.f35.ntmps (bodyOf Tryd.f35) [none] Tryd.f35.results.toList [.s a0, .i .i64 a1] k = F_token_numberStarts A47 A46 A48 A49 a0 a1 (fun r0 => k (.b r0)) := by kernel_rfl

theorem ok_token_numberStarts (A47 : T_token_byteAt) (A46 : T_token_isSign) (A48 : T_char_IsDigit) (A49 : T_token_fractionStarts) (h47 : FnOK sy Tryd.prog GT (ovD ro) ro 47 (q_token_byteAt A47)) (h46 : FnOK sy Tryd.prog GT (ovD ro) ro 46 (q_token_isSign A46)) (h48 : FnOK sy Tryd.prog GT (ovD ro) ro 48 (q_char_IsDigit A48)) (h49 : FnOK sy Tryd.prog GT (ovD ro) ro 49 (q_token_fractionStarts A49)) : FnOK sy Tryd.prog GT (ovD ro) ro 35 (q_token_numberStarts (F_token_numberStarts A47 A46 A48 A49)) := (fn_ok (rc := [none]) (f := 35) (fn := Tryd.f35) (c := bodyOf Tryd.f35) (nt := Tryd.f35.ntmps) (res := Tryd.f35.results.toList) (C := C_token_numberStarts A47 A46 A48 A49) (L := noL) (fun _ _ => rfl) Tryd.func35 (by kernel_rfl) rfl rfl (Cok_token_numberStarts A47 A46 A48 A49 h47 h46 h48 h49) (lp_of (l := []) (by kernel_rfl) lp_nil)).weak (by
  intro us k h
  unfold q_token_numberStarts at h
  split at h
  · skip
    rename_i a0 a1
    rw [raw_token_numberStarts A47 A46 A48 A49 a0 a1 k]
    exact h
  · exact h.elim)

abbrev T_token_isExponentMark := Int → (Bool → Prop) → Prop
def q_token_isExponentMark (A : T_token_isExponentMark) (us : List W) (k : W → Prop) : Prop := match us with
  | [.i .u8 a0] => A a0 (fun r0 => k (.b r0))
  | _ => False
theorem q_token_isExponentMark_weak {A A2 : T_token_isExponentMark} (h : FnOK sy Tryd.prog GT (ovD ro) ro 52 (q_token_isExponentMark A)) (hA : ∀ a0 K, A2 a0 K → A a0 K) : FnOK sy Tryd.prog GT (ovD ro) ro 52 (q_token_isExponentMark A2) := h.weak (by
  intro us k h
  unfold q_token_isExponentMark at h ⊢
  split at h
  · exact hA _ _ h
  · exact h.elim)

def F_token_isExponentMark (a0 : Int) (K : Bool → Prop) : Prop :=
  (((decide (a0 = (101 : Int))) = false → K (decide (a0 = (69 : Int)))) ∧ ((decide (a0 = (101 : Int))) = true → K true))

def C_token_isExponentMark : CallT sg := tab []
theorem Cok_token_isExponentMark (o0 : Nat → Prop) : CalOK sy Tryd.prog GT (ovD ro) o0 ro (C_token_isExponentMark) := tab_nil o0

theorem raw_token_isExponentMark (a0 : Int) (k : W → Prop) : fnT sy Tryd.prog GT (C_token_isExponentMark) noL Tryd.f52.ntmps (bodyOf Tryd.f52) [none] Tryd.f52.results.toList [.i .u8 a0] k = F_token_isExponentMark a0 (fun r0 => k (.b r0)) := by kernel_rfl

theorem ok_token_isExponentMark : FnOK sy Tryd.prog GT (ovD ro) ro 52 (q_token_isExponentMark (F_token_isExponentMark)) := (fn_ok (rc := [none]) (f := 52) (fn := Tryd.f52) (c := bodyOf Tryd.f52) (nt := Tryd.f52.ntmps) (res := Tryd.f52.results.toList) (C := C_token_isExponentMark) (L := noL) (fun _ _ => rfl) Tryd.func52 (by kernel_rfl) rfl rfl (Cok_token_isExponentMark) (lp_of (l := []) (by kernel_rfl) lp_nil)).weak (by
  intro us k h
  unfold q_token_isExponentMark at h
  split at h
  · skip
    rename_i a0
    rw [raw_token_isExponentMark a0 k]
    exact h
  · exact h.elim)

abbrev T_token_digitStarts := List UInt8 → Int → (Bool → Prop) → Prop
def q_token_digitStarts (A : T_token_digitStarts) (us : List W) (k : W → Prop) : Prop := match us with
  | [.s a0, .i .i64 a1] => A a0 a1 (fun r0 => k (.b r0))
  | _ => False
theorem q_token_digitStarts_weak {A A2 : T_token_digitStarts} (h : FnOK sy Tryd.prog GT (ovD ro) ro 53 (q_token_digitStarts A)) (hA : ∀ a0 a1 K, A2 a0 a1 K → A a0 a1 K) : FnOK sy Tryd.prog GT (ovD ro) ro 53 (q_token_digitStarts A2) := h.weak (by
  intro us k h
  unfold q_token_digitStarts at h ⊢
  split at h
  · exact hA _ _ _ h
  · exact h.elim)

def F_token_digitStarts (A47 : T_token_byteAt) (A46 : T_token_isSign) (A48 : T_char_IsDigit) (a0 : List UInt8) (a1 : Int) (K : Bool → Prop) : Prop :=
  (A47 a0 a1 (fun y1 => (A46 y1 (fun y2 => ((y2 = true → (I64 (a1 + (1 : Int)) ∧ (A47 a0 (a1 + (1 : Int)) (fun y3 => (A48 y3 (fun y4 => K y4)))))) ∧ (y2 = false → (A47 a0 a1 (fun y5 => (A48 y5 (fun y6 => K y6))))))))))

def C_token_digitStarts (A47 : T_token_byteAt) (A46 : T_token_isSign) (A48 : T_char_IsDigit) : CallT sg := tab [(47, con [none, none] (q_token_byteAt A47)), (46, con [none] (q_token_isSign A46)), (48, con [none] (q_char_IsDigit A48))]
theorem Cok_token_digitStarts (A47 : T_token_byteAt) (A46 : T_token_isSign) (A48 : T_char_IsDigit) (h47 : FnOK sy Tryd.prog GT (ovD ro) ro 47 (q_token_byteAt A47)) (h46 : FnOK sy Tryd.prog GT (ovD ro) ro 46 (q_token_isSign A46)) (h48 : FnOK sy Tryd.prog GT (ovD ro) ro 48 (q_char_IsDigit A48)) (o0 : Nat → Prop) : CalOK sy Tryd.prog GT (ovD ro) o0 ro (C_token_digitStarts A47 A46 A48) := (tab_cons (con_ok h47) (tab_cons (con_ok h46) (tab_cons (con_ok h48) tab_nil))) o0

theorem raw_token_digitStarts (A47 : T_token_byteAt) (A46 : T_token_isSign) (A48 : T_char_IsDigit) (a0 : List UInt8) (a1 : Int) (k : W → Prop) : fnT sy Tryd.prog GT (C_token_digitStarts A47 A46 A48) noL Tryd.f53.ntmps (bodyOf Tryd.f53) [none] Tryd.f53.results.toList [.s a0, .i .i64 a1] k = F_token_digitStarts A47 A46 A48 a0 a1 (fun r0 => k (.b r0)) := by kernel_rfl

theorem ok_token_digitStarts (A47 : T_token_byteAt) (A46 : T_token_isSign) (A48 : T_char_IsDigit) (h47 : FnOK sy Tryd.prog GT (ovD ro) ro 47 (q_token_byteAt A47)) (h46 : FnOK sy Tryd.prog GT (ovD ro) ro 46 (q_token_isSign A46)) (h48 : FnOK sy Tryd.prog GT (ovD ro) ro 48 (q_char_IsDigit A48)) : FnOK sy Tryd.prog GT (ovD ro) ro 53 (q_token_digitStarts (F_token_digitStarts A47 A46 A48)) := (fn_ok (rc := [none]) (f := 53) (fn := Tryd.f53) (c := bodyOf Tryd.f53) (nt := Tryd.f53.ntmps) (res := Tryd.f53.results.toList) (C := C_token_digitStarts A47 A46 A48) (L := noL) (fun _ _ => rfl) Tryd.func53 (by kernel_rfl) rfl rfl (Cok_token_digitStarts A47 A46 A48 h47 h46 h48) (lp_of (l := []) (by kernel_rfl) lp_nil)).weak (by
  intro us k h
  unfold q_token_digitStarts at h
  split at h
  · skip
    rename_i a0 a1
    rw [raw_token_digitStarts A47 A46 A48 a0 a1 k]
    exact h
  · exact h.elim)

abbrev T_token_wholeNumber := List UInt8 → (Int → Prop) → Prop
def q_token_wholeNumber (A : T_token_wholeNumber) (us : List W) (k : W → Prop) : Prop := match us with
  | [.s a0] => A a0 (fun r0 => k (.i .i64 r0))
  | _ => False
theorem q_token_wholeNumber_weak {A A2 : T_token_wholeNumber} (h : FnOK sy Tryd.prog GT (ovD ro) ro 54 (q_token_wholeNumber A)) (hA : ∀ a0 K, A2 a0 K → A a0 K) : FnOK sy Tryd.prog GT (ovD ro) ro 54 (q_token_wholeNumber A2) := h.weak (by
  intro us k h
  unfold q_token_wholeNumber at h ⊢
  split at h
  · exact hA _ _ h
  · exact h.elim)

def F_token_wholeNumber_l3 : Nat → List UInt8 → Int → Int → Int → (Int → Prop) → Prop
  | 0, _, _, _, _, _ => False
  | n + 1, x0, x3, x6, x7, Ke => (((decide (x7 < x6)) = true → (I64 ((10 : Int) * x3) ∧ ((0 ≤ x7 ∧ x7 < (x0.length : Int)) ∧ (I64 (IntKind.u8.wrap (((x0.getD x7.toNat 0).toNat : Int) - (48 : Int))) ∧ (I64 (((10 : Int) * x3) + (IntKind.u8.wrap (((x0.getD x7.toNat 0).toNat : Int) - (48 : Int)))) ∧ (I64 (x7 + (1 : Int)) ∧ F_token_wholeNumber_l3 n x0 (if (8000 : Int) < (((10 : Int) * x3) + (IntKind.u8.wrap (((x0.getD x7.toNat 0).toNat : Int) - (48 : Int)))) then (8000 : Int) else (((10 : Int) * x3) + (IntKind.u8.wrap (((x0.getD x7.toNat 0).toNat : Int) - (48 : Int))))) x6 (x7 + (1 : Int)) Ke)))))) ∧ ((decide (x7 < x6)) = false → Ke x3))

def F_token_wholeNumber (a0 : List UInt8) (K : Int → Prop) : Prop :=
  (∃ m, F_token_wholeNumber_l3 m a0 (0 : Int) (a0.length : Int) (0 : Int) (fun y1 => K y1))

def C_token_wholeNumber : CallT sg := tab []
theorem Cok_token_wholeNumber (o0 : Nat → Prop) : CalOK sy Tryd.prog GT (ovD ro) o0 ro (C_token_wholeNumber) := tab_nil o0

def ls_token_wholeNumber_3 : LS sy ((List UInt8) × Int × Int × Int × Unit) Unit := ⟨[], fCons 0 (vStr sy) (fCons 3 (vInt sy .i64) (fCons 6 (vInt sy .i64) (fCons 7 (vInt sy .i64) (fNil sy)))), hNil sy, 0, []⟩
def le_token_wholeNumber_3 : LS sy (Int × Unit) Unit := ⟨[], fCons 3 (vInt sy .i64) (fNil sy), hNil sy, 0, []⟩
def lr_token_wholeNumber_3 : LS sy Unit Unit := ⟨[], fNil sy, hNil sy, 0, []⟩
def FF_token_wholeNumber_3 (n : Nat) (x : ((List UInt8) × Int × Int × Int × Unit) × Unit) (K : Ex → Z sg → Prop) : Prop := F_token_wholeNumber_l3 n x.1.1 x.1.2.1 x.1.2.2.1 x.1.2.2.2.1 (fun y0 => K (.exit 0) (le_token_wholeNumber_3.put ((y0, ()), ())))
def h_token_wholeNumber_3 (z : Z sg) (K : Ex → Z sg → Prop) : Prop := ls_token_wholeNumber_3.get z (fun x => ∃ n, FF_token_wholeNumber_3 n x K)
def L_token_wholeNumber : LoopT sg := tabL [(3, h_token_wholeNumber_3)]
theorem hs_token_wholeNumber_3 (n : Nat) (x : ((List UInt8) × Int × Int × Int × Unit) × Unit) (K : Ex → Z sg → Prop) : forceZ (ls_token_wholeNumber_3.put x) (fun z => sC sy Tryd.prog GT (C_token_wholeNumber) (L_token_wholeNumber) Tryd.f54.ntmps (nthLoop (bodyOf Tryd.f54) 0) z (rnd ls_token_wholeNumber_3 (czT 0 le_token_wholeNumber_3 lr_token_wholeNumber_3) (fun x => FF_token_wholeNumber_3 n x K) K)) = FF_token_wholeNumber_3 (n + 1) x K := by kernel_rfl
theorem hl_token_wholeNumber_3 (z : Z sg) (K : Ex → Z sg → Prop) : (L_token_wholeNumber) (nthLoop (bodyOf Tryd.f54) 0) z K = ls_token_wholeNumber_3.get z (fun x => ∃ n, FF_token_wholeNumber_3 n x K) := by kernel_rfl
theorem lo_token_wholeNumber_3 : ∀ (o0 : Nat → Prop) (B : Bs sg), B.E.length ≤ 0 → ∀ z K, (L_token_wholeNumber) (nthLoop (bodyOf Tryd.f54) 0) z K → Sx.Sem sy Tryd.prog GT (ovD ro) o0 ro Tryd.f54.ntmps B (.loop (nthLoop (bodyOf Tryd.f54) 0)) z K :=
  loop_ok (Cok_token_wholeNumber) (lp_of (l := []) (by kernel_rfl) lp_nil) ls_token_wholeNumber_3 (by decide) (czT 0 le_token_wholeNumber_3 lr_token_wholeNumber_3) (fun _ _ hB => czT_ok 0 le_token_wholeNumber_3 lr_token_wholeNumber_3 (Nat.le_trans hB (by decide)) (Nat.le_trans hB (by decide))) (fun _ _ h => h) (hs_token_wholeNumber_3) (hl_token_wholeNumber_3)
theorem Lp_token_wholeNumber : LpOK sy Tryd.prog GT (ovD ro) ro (L_token_wholeNumber) 0 Tryd.f54.ntmps (bodyOf Tryd.f54) := lp_of (l := [(nthLoop (bodyOf Tryd.f54) 0)]) (by kernel_rfl) (lp_cons (lo_token_wholeNumber_3) lp_nil)


theorem raw_token_wholeNumber (a0 : List UInt8) (k : W → Prop) : fnT sy Tryd.prog GT (C_token_wholeNumber) (L_token_wholeNumber) Tryd.f54.ntmps (bodyOf Tryd.f54) [none] Tryd.f54.results.toList [.s a0] k = F_token_wholeNumber a0 (fun r0 => k (.i .i64 r0)) := by kernel_rfl

theorem ok_token_wholeNumber : FnOK sy Tryd.prog GT (ovD ro) ro 54 (q_token_wholeNumber (F_token_wholeNumber)) := (fn_ok (rc := [none]) (f := 54) (fn := Tryd.f54) (c := bodyOf Tryd.f54) (nt := Tryd.f54.ntmps) (res := Tryd.f54.results.toList) (C := C_token_wholeNumber) (L := (L_token_wholeNumber)) (fun _ _ => rfl) Tryd.func54 (by kernel_rfl) rfl rfl (Cok_token_wholeNumber) (Lp_token_wholeNumber)).weak (by
  intro us k h
  unfold q_token_wholeNumber at h
  split at h
  · skip
    rename_i a0
    rw [raw_token_wholeNumber a0 k]
    exact h
  · exact h.elim)

abbrev T_strings_trimLeftByte := List UInt8 → Int → (List UInt8 → Prop) → Prop
def q_strings_trimLeftByte (A : T_strings_trimLeftByte) (us : List W) (k : W → Prop) : Prop := match us with
  | [.s a0, .i .u8 a1] => A a0 a1 (fun r0 => k (.s r0))
  | _ => False
theorem q_strings_trimLeftByte_weak {A A2 : T_strings_trimLeftByte} (h : FnOK sy Tryd.prog GT (ovD ro) ro 67 (q_strings_trimLeftByte A)) (hA : ∀ a0 a1 K, A2 a0 a1 K → A a0 a1 K) : FnOK sy Tryd.prog GT (ovD ro) ro 67 (q_strings_trimLeftByte A2) := h.weak (by
  intro us k h
  unfold q_strings_trimLeftByte at h ⊢
  split at h
  · exact hA _ _ _ h
  · exact h.elim)

def F_strings_trimLeftByte_l1 : Nat → List UInt8 → Int → (List UInt8 → Prop) → Prop
  | 0, _, _, _ => False
  | n + 1, x0, x1, Ke => (((decide ((0 : Int) < (x0.length : Int))) = true → ((0 ≤ (0 : Int) ∧ (0 : Int) < (x0.length : Int)) ∧ (((decide (((x0.getD 0 0).toNat : Int) = x1)) = true → ((0 ≤ (1 : Int) ∧ (1 : Int) ≤ (x0.length : Int)) ∧ F_strings_trimLeftByte_l1 n (x0.drop 1) x1 Ke)) ∧ ((decide (((x0.getD 0 0).toNat : Int) = x1)) = false → Ke x0)))) ∧ ((decide ((0 : Int) < (x0.length : Int))) = false → Ke x0))

def F_strings_trimLeftByte (a0 : List UInt8) (a1 : Int) (K : List UInt8 → Prop) : Prop :=
  (∃ m, F_strings_trimLeftByte_l1 m a0 a1 (fun y1 => K y1))

def C_strings_trimLeftByte : CallT sg := tab []
theorem Cok_strings_trimLeftByte (o0 : Nat → Prop) : CalOK sy Tryd.prog GT (ovD ro) o0 ro (C_strings_trimLeftByte) := tab_nil o0

def ls_strings_trimLeftByte_1 : LS sy ((List UInt8) × Int × Unit) Unit := ⟨[], fCons 0 (vStr sy) (fCons 1 (vInt sy .u8) (fNil sy)), hNil sy, 0, []⟩
def le_strings_trimLeftByte_1 : LS sy ((List UInt8) × Unit) Unit := ⟨[], fCons 0 (vStr sy) (fNil sy), hNil sy, 0, []⟩
def lr_strings_trimLeftByte_1 : LS sy Unit Unit := ⟨[], fNil sy, hNil sy, 0, []⟩
def FF_strings_trimLeftByte_1 (n : Nat) (x : ((List UInt8) × Int × Unit) × Unit) (K : Ex → Z sg → Prop) : Prop := F_strings_trimLeftByte_l1 n x.1.1 x.1.2.1 (fun y0 => K (.exit 0) (le_strings_trimLeftByte_1.put ((y0, ()), ())))
def h_strings_trimLeftByte_1 (z : Z sg) (K : Ex → Z sg → Prop) : Prop := ls_strings_trimLeftByte_1.get z (fun x => ∃ n, FF_strings_trimLeftByte_1 n x K)
def L_strings_trimLeftByte : LoopT sg := tabL [(1, h_strings_trimLeftByte_1)]
theorem hs_strings_trimLeftByte_1 (n : Nat) (x : ((List UInt8) × Int × Unit) × Unit) (K : Ex → Z sg → Prop) : forceZ (ls_strings_trimLeftByte_1.put x) (fun z => sC sy Tryd.prog GT (C_strings_trimLeftByte) (L_strings_trimLeftByte) Tryd.f67.ntmps (nthLoop (bodyOf Tryd.f67) 0) z (rnd ls_strings_trimLeftByte_1 (czT 0 le_strings_trimLeftByte_1 lr_strings_trimLeftByte_1) (fun x => FF_strings_trimLeftByte_1 n x K) K)) = FF_strings_trimLeftByte_1 (n + 1) x K := by kernel_rfl
theorem hl_strings_trimLeftByte_1 (z : Z sg) (K : Ex → Z sg → Prop) : (L_strings_trimLeftByte) (nthLoop (bodyOf Tryd.f67) 0) z K = ls_strings_trimLeftByte_1.get z (fun x => ∃ n, FF_strings_trimLeftByte_1 n x K) := by kernel_rfl
theorem lo_strings_trimLeftByte_1 : ∀ (o0 : Nat → Prop) (B : Bs sg), B.E.length ≤ 0 → ∀ z K, (L_strings_trimLeftByte) (nthLoop (bodyOf Tryd.f67) 0) z K → Sx.Sem sy Tryd.prog GT (ovD ro) o0 ro Tryd.f67.ntmps B (.loop (nthLoop (bodyOf Tryd.f67) 0)) z K :=
  loop_ok (Cok_strings_trimLeftByte) (lp_of (l := []) (by kernel_rfl) lp_nil) ls_strings_trimLeftByte_1 (by decide) (czT 0 le_strings_trimLeftByte_1 lr_strings_trimLeftByte_1) (fun _ _ hB => czT_ok 0 le_strings_trimLeftByte_1 lr_strings_trimLeftByte_1 (Nat.le_trans hB (by decide)) (Nat.le_trans hB (by decide))) (fun _ _ h => h) (hs_strings_trimLeftByte_1) (hl_strings_trimLeftByte_1)
theorem Lp_strings_trimLeftByte : LpOK sy Tryd.prog GT (ovD ro) ro (L_strings_trimLeftByte) 0 Tryd.f67.ntmps (bodyOf Tryd.f67) := lp_of (l := [(nthLoop (bodyOf Tryd.f67) 0)]) (by kernel_rfl) (lp_cons (lo_strings_trimLeftByte_1) lp_nil)


theorem raw_strings_trimLeftByte (a0 : List UInt8) (a1 : Int) (k : W → Prop) : fnT sy Tryd.prog GT (C_strings_trimLeftByte) (L_strings_trimLeftByte) Tryd.f67.ntmps (bodyOf Tryd.f67) [none] Tryd.f67.results.toList [.s a0, .i .u8 a1] k = F_strings_trimLeftByte a0 a1 (fun r0 => k (.s r0)) := by kernel_rfl

theorem ok_strings_trimLeftByte : FnOK sy Tryd.prog GT (ovD ro) ro 67 (q_strings_trimLeftByte (F_strings_trimLeftByte)) := (fn_ok (rc := [none]) (f := 67) (fn := Tryd.f67) (c := bodyOf Tryd.f67) (nt := Tryd.f67.ntmps) (res := Tryd.f67.results.toList) (C := C_strings_trimLeftByte) (L := (L_strings_trimLeftByte)) (fun _ _ => rfl) Tryd.func67 (by kernel_rfl) rfl rfl (Cok_strings_trimLeftByte) (Lp_strings_trimLeftByte)).weak (by
  intro us k h
  unfold q_strings_trimLeftByte at h
  split at h
  · skip
    rename_i a0 a1
    rw [raw_strings_trimLeftByte a0 a1 k]
    exact h
  · exact h.elim)

abbrev T_strings_TrimLeft := List UInt8 → List UInt8 → (List UInt8 → Prop) → Prop
def q_strings_TrimLeft (A : T_strings_TrimLeft) (us : List W) (k : W → Prop) : Prop := match us with
  | [.s a0, .s a1] => A a0 a1 (fun r0 => k (.s r0))
  | _ => False
theorem q_strings_TrimLeft_weak {A A2 : T_strings_TrimLeft} (h : FnOK sy Tryd.prog GT (ovD ro) ro 64 (q_strings_TrimLeft A)) (hA : ∀ a0 a1 K, A2 a0 a1 K → A a0 a1 K) : FnOK sy Tryd.prog GT (ovD ro) ro 64 (q_strings_TrimLeft A2) := h.weak (by
  intro us k h
  unfold q_strings_TrimLeft at h ⊢
  split at h
  · exact hA _ _ _ h
  · exact h.elim)

def F_strings_TrimLeft (A67 : T_strings_trimLeftByte) (a0 : List UInt8) (a1 : List UInt8) (K : List UInt8 → Prop) : Prop :=
  (((a0 == ([] : List UInt8)) = false → (((a1 == ([] : List UInt8)) = true → K a0) ∧ ((a1 == ([] : List UInt8)) = false → (((decide ((a1.length : Int) = (1 : Int))) = true → ((0 ≤ (0 : Int) ∧ (0 : Int) < (a1.length : Int)) ∧ (((decide (((a1.getD 0 0).toNat : Int) < (128 : Int))) = true → ((0 ≤ (0 : Int) ∧ (0 : Int) < (a1.length : Int)) ∧ (A67 a0 ((a1.getD 0 0).toNat : Int) (fun y1 => K y1)))) ∧ ((decide (((a1.getD 0 0).toNat : Int) < (128 : Int))) = false → False)))) ∧ ((decide ((a1.length : Int) = (1 : Int))) = false → False))))) ∧ ((a0 == ([] : List UInt8)) = true → K a0))

def C_strings_TrimLeft (A67 : T_strings_trimLeftByte) : CallT sg := tab [(67, con [none, none] (q_strings_trimLeftByte A67)), (68, con [] noT), (69, con [] noT), (70, con [] noT)]
theorem Cok_strings_TrimLeft (A67 : T_strings_trimLeftByte) (h67 : FnOK sy Tryd.prog GT (ovD ro) ro 67 (q_strings_trimLeftByte A67)) (o0 : Nat → Prop) : CalOK sy Tryd.prog GT (ovD ro) o0 ro (C_strings_TrimLeft A67) := (tab_cons (con_ok h67) (tab_cons (con_ok (noT_ok 68)) (tab_cons (con_ok (noT_ok 69)) (tab_cons (con_ok (noT_ok 70)) tab_nil)))) o0

theorem raw_strings_TrimLeft (A67 : T_strings_trimLeftByte) (a0 : List UInt8) (a1 : List UInt8) (k : W → Prop) : fnT sy Tryd.prog GT (C_strings_TrimLeft A67) noL Tryd.f64.ntmps (bodyOf Tryd.f64) [none] Tryd.f64.results.toList [.s a0, .s a1] k = F_strings_TrimLeft A67 a0 a1 (fun r0 => k (.s r0)) := by kernel_rfl

theorem ok_strings_TrimLeft (A67 : T_strings_trimLeftByte) (h67 : FnOK sy Tryd.prog GT (ovD ro) ro 67 (q_strings_trimLeftByte A67)) : FnOK sy Tryd.prog GT (ovD ro) ro 64 (q_strings_TrimLeft (F_strings_TrimLeft A67)) := (fn_ok (rc := [none]) (f := 64) (fn := Tryd.f64) (c := bodyOf Tryd.f64) (nt := Tryd.f64.ntmps) (res := Tryd.f64.results.toList) (C := C_strings_TrimLeft A67) (L := noL) (fun _ _ => rfl) Tryd.func64 (by kernel_rfl) rfl rfl (Cok_strings_TrimLeft A67 h67) (lp_of (l := []) (by kernel_rfl) lp_nil)).weak (by
  intro us k h
  unfold q_strings_TrimLeft at h
  split at h
  · skip
    rename_i a0 a1
    rw [raw_strings_TrimLeft A67 a0 a1 k]
    exact h
  · exact h.elim)

abbrev T_token_cutNumber := List UInt8 → Int → (Int → Prop) → Prop
def q_token_cutNumber (A : T_token_cutNumber) (us : List W) (k : W → Prop) : Prop := match us with
  | [.s a0, .i .i64 a1] => A a0 a1 (fun r0 => k (.i .i64 r0))
  | _ => False
theorem q_token_cutNumber_weak {A A2 : T_token_cutNumber} (h : FnOK sy Tryd.prog GT (ovD ro) ro 55 (q_token_cutNumber A)) (hA : ∀ a0 a1 K, A2 a0 a1 K → A a0 a1 K) : FnOK sy Tryd.prog GT (ovD ro) ro 55 (q_token_cutNumber A2) := h.weak (by
  intro us k h
  unfold q_token_cutNumber at h ⊢
  split at h
  · exact hA _ _ _ h
  · exact h.elim)

def F_token_cutNumber_l9 (A64 : T_strings_TrimLeft) : Nat → List UInt8 → Int → Int → Int → (Int → Prop) → Prop
  | 0, _, _, _, _, _ => False
  | n + 1, x5, x6, x25, x26, Ke => (((decide (x26 < x25)) = true → (I64 (x6 * (10 : Int)) ∧ (((decide (x26 < (x5.length : Int))) = true → ((0 ≤ x26 ∧ x26 < (x5.length : Int)) ∧ (I64 (IntKind.u8.wrap (((x5.getD x26.toNat 0).toNat : Int) - (48 : Int))) ∧ (I64 ((x6 * (10 : Int)) + (IntKind.u8.wrap (((x5.getD x26.toNat 0).toNat : Int) - (48 : Int)))) ∧ (I64 (x26 + (1 : Int)) ∧ F_token_cutNumber_l9 A64 n x5 ((x6 * (10 : Int)) + (IntKind.u8.wrap (((x5.getD x26.toNat 0).toNat : Int) - (48 : Int)))) x25 (x26 + (1 : Int)) Ke))))) ∧ ((decide (x26 < (x5.length : Int))) = false → (I64 (x26 + (1 : Int)) ∧ F_token_cutNumber_l9 A64 n x5 (x6 * (10 : Int)) x25 (x26 + (1 : Int)) Ke))))) ∧ ((decide (x26 < x25)) = false → Ke x6))

def F_token_cutNumber (A64 : T_strings_TrimLeft) (a0 : List UInt8) (a1 : Int) (K : Int → Prop) : Prop :=
  (A64 a0 ([48] : List UInt8) (fun y1 => (I64 ((a0.length : Int) - (y1.length : Int)) ∧ (I64 (a1 - ((a0.length : Int) - (y1.length : Int))) ∧ (((y1 == ([] : List UInt8)) = false → (((decide ((a1 - ((a0.length : Int) - (y1.length : Int))) ≤ (0 : Int))) = true → K (0 : Int)) ∧ ((decide ((a1 - ((a0.length : Int) - (y1.length : Int))) ≤ (0 : Int))) = false → (((decide ((13 : Int) < (a1 - ((a0.length : Int) - (y1.length : Int))))) = true → K (1000000000000 : Int)) ∧ ((decide ((13 : Int) < (a1 - ((a0.length : Int) - (y1.length : Int))))) = false → (∃ m, F_token_cutNumber_l9 A64 m y1 (0 : Int) (a1 - ((a0.length : Int) - (y1.length : Int))) (0 : Int) (fun y2 => K (if (1000000000000 : Int) < y2 then (1000000000000 : Int) else y2)))))))) ∧ ((y1 == ([] : List UInt8)) = true → K (0 : Int)))))))

def C_token_cutNumber (A64 : T_strings_TrimLeft) : CallT sg := tab [(64, con [none, none] (q_strings_TrimLeft A64))]
theorem Cok_token_cutNumber (A64 : T_strings_TrimLeft) (h64 : FnOK sy Tryd.prog GT (ovD ro) ro 64 (q_strings_TrimLeft A64)) (o0 : Nat → Prop) : CalOK sy Tryd.prog GT (ovD ro) o0 ro (C_token_cutNumber A64) := (tab_cons (con_ok h64) tab_nil) o0

def ls_token_cutNumber_9 : LS sy ((List UInt8) × Int × Int × Int × Unit) Unit := ⟨[], fCons 5 (vStr sy) (fCons 6 (vInt sy .i64) (fCons 25 (vInt sy .i64) (fCons 26 (vInt sy .i64) (fNil sy)))), hNil sy, 0, []⟩
def le_token_cutNumber_9 : LS sy (Int × Unit) Unit := ⟨[], fCons 6 (vInt sy .i64) (fNil sy), hNil sy, 0, []⟩
def lr_token_cutNumber_9 : LS sy Unit Unit := ⟨[], fNil sy, hNil sy, 0, []⟩
def FF_token_cutNumber_9 (A64 : T_strings_TrimLeft) (n : Nat) (x : ((List UInt8) × Int × Int × Int × Unit) × Unit) (K : Ex → Z sg → Prop) : Prop := F_token_cutNumber_l9 A64 n x.1.1 x.1.2.1 x.1.2.2.1 x.1.2.2.2.1 (fun y0 => K (.exit 0) (le_token_cutNumber_9.put ((y0, ()), ())))
def h_token_cutNumber_9 (A64 : T_strings_TrimLeft) (z : Z sg) (K : Ex → Z sg → Prop) : Prop := ls_token_cutNumber_9.get z (fun x => ∃ n, FF_token_cutNumber_9 A64 n x K)
def L_token_cutNumber (A64 : T_strings_TrimLeft) : LoopT sg := tabL [(9, h_token_cutNumber_9 A64)]
theorem hs_token_cutNumber_9 (A64 : T_strings_TrimLeft) (n : Nat) (x : ((List UInt8) × Int × Int × Int × Unit) × Unit) (K : Ex → Z sg → Prop) : forceZ (ls_token_cutNumber_9.put x) (fun z => sC sy Tryd.prog GT (C_token_cutNumber A64) (L_token_cutNumber A64) Tryd.f55.ntmps (nthLoop (bodyOf Tryd.f55) 0) z (rnd ls_token_cutNumber_9 (czT 0 le_token_cutNumber_9 lr_token_cutNumber_9) (fun x => FF_token_cutNumber_9 A64 n x K) K)) = FF_token_cutNumber_9 A64 (n + 1) x K := by kernel_rfl
theorem hl_token_cutNumber_9 (A64 : T_strings_TrimLeft) (z : Z sg) (K : Ex → Z sg → Prop) : (L_token_cutNumber A64) (nthLoop (bodyOf Tryd.f55) 0) z K = ls_token_cutNumber_9.get z (fun x => ∃ n, FF_token_cutNumber_9 A64 n x K) := by kernel_rfl
theorem lo_token_cutNumber_9 (A64 : T_strings_TrimLeft) (h64 : FnOK sy Tryd.prog GT (ovD ro) ro 64 (q_strings_TrimLeft A64)) : ∀ (o0 : Nat → Prop) (B : Bs sg), B.E.length ≤ 0 → ∀ z K, (L_token_cutNumber A64) (nthLoop (bodyOf Tryd.f55) 0) z K → Sx.Sem sy Tryd.prog GT (ovD ro) o0 ro Tryd.f55.ntmps B (.loop (nthLoop (bodyOf Tryd.f55) 0)) z K :=
  loop_ok (Cok_token_cutNumber A64 h64) (lp_of (l := []) (by kernel_rfl) lp_nil) ls_token_cutNumber_9 (by decide) (czT 0 le_token_cutNumber_9 lr_token_cutNumber_9) (fun _ _ hB => czT_ok 0 le_token_cutNumber_9 lr_token_cutNumber_9 (Nat.le_trans hB (by decide)) (Nat.le_trans hB (by decide))) (fun _ _ h => h) (hs_token_cutNumber_9 A64) (hl_token_cutNumber_9 A64)
theorem Lp_token_cutNumber (A64 : T_strings_TrimLeft) (h64 : FnOK sy Tryd.prog GT (ovD ro) ro 64 (q_strings_TrimLeft A64)) : LpOK sy Tryd.prog GT (ovD ro) ro (L_token_cutNumber A64) 0 Tryd.f55.ntmps (bodyOf Tryd.f55) := lp_of (l := [(nthLoop (bodyOf Tryd.f55) 0)]) (by kernel_rfl) (lp_cons (lo_token_cutNumber_9 A64 h64) lp_nil)


theorem raw_token_cutNumber (A64 : T_strings_TrimLeft) (a0 : List UInt8) (a1 : Int) (k : W → Prop) : fnT sy Tryd.prog GT (C_token_cutNumber A64) (L_token_cutNumber A64) Tryd.f55.ntmps (bodyOf Tryd.f55) [none] Tryd.f55.results.toList [.s a0, .i .i64 a1] k = F_token_cutNumber A64 a0 a1 (fun r0 => k (.i .i64 r0)) := by kernel_rfl

theorem ok_token_cutNumber (A64 : T_strings_TrimLeft) (h64 : FnOK sy Tryd.prog GT (ovD ro) ro 64 (q_strings_TrimLeft A64)) : FnOK sy Tryd.prog GT (ovD ro) ro 55 (q_token_cutNumber (F_token_cutNumber A64)) := (fn_ok (rc := [none]) (f := 55) (fn := Tryd.f55) (c := bodyOf Tryd.f55) (nt := Tryd.f55.ntmps) (res := Tryd.f55.results.toList) (C := C_token_cutNumber A64) (L := (L_token_cutNumber A64)) (fun _ _ => rfl) Tryd.func55 (by kernel_rfl) rfl rfl (Cok_token_cutNumber A64 h64) (Lp_token_cutNumber A64 h64)).weak (by
  intro us k h
  unfold q_token_cutNumber at h
  split at h
  · skip
    rename_i a0 a1
    rw [raw_token_cutNumber A64 a0 a1 k]
    exact h
  · exact h.elim)

def C_token_readNumber_1 (A47 : T_token_byteAt) (A46 : T_token_isSign) : CallT sg := tab [(47, con [none, none] (q_token_byteAt A47)), (46, con [none] (q_token_isSign A46))]
theorem Cok_token_readNumber_1 (A47 : T_token_byteAt) (A46 : T_token_isSign) (h47 : FnOK sy Tryd.prog GT (ovD ro) ro 47 (q_token_byteAt A47)) (h46 : FnOK sy Tryd.prog GT (ovD ro) ro 46 (q_token_isSign A46)) (o0 : Nat → Prop) : CalOK sy Tryd.prog GT (ovD ro) o0 ro (C_token_readNumber_1 A47 A46) := (tab_cons (con_ok h47) (tab_cons (con_ok h46) tab_nil)) o0

def F_token_readNumber_2_l2 (A47 : T_token_byteAt) (A48 : T_char_IsDigit) : Nat → Int → List UInt8 → Int → (Int → List UInt8 → Int → Prop) → Prop
  | 0, _, _, _, _ => False
  | n + 1, x3, c0_0, c1_0, Ke => (A47 c0_0 c1_0 (fun y1 => (A48 y1 (fun y2 => ((y2 = true → (I64 (c1_0 + (1 : Int)) ∧ F_token_readNumber_2_l2 A47 A48 n x3 c0_0 (c1_0 + (1 : Int)) Ke)) ∧ (y2 = false → Ke x3 c0_0 c1_0))))))

def C_token_readNumber_2 (A47 : T_token_byteAt) (A48 : T_char_IsDigit) : CallT sg := tab [(47, con [none, none] (q_token_byteAt A47)), (48, con [none] (q_char_IsDigit A48))]
theorem Cok_token_readNumber_2 (A47 : T_token_byteAt) (A48 : T_char_IsDigit) (h47 : FnOK sy Tryd.prog GT (ovD ro) ro 47 (q_token_byteAt A47)) (h48 : FnOK sy Tryd.prog GT (ovD ro) ro 48 (q_char_IsDigit A48)) (o0 : Nat → Prop) : CalOK sy Tryd.prog GT (ovD ro) o0 ro (C_token_readNumber_2 A47 A48) := (tab_cons (con_ok h47) (tab_cons (con_ok h48) tab_nil)) o0

def ls_token_readNumber_2_2 : LS sy (Unit × Unit × Int × Unit) (((List UInt8) × Unit) × (Int × Unit) × Unit) := ⟨[], fCons 0 (vLit sy (.p 1 0)) (fCons 1 (vLit sy (.p 0 0)) (fCons 3 (vInt sy .i64) (fNil sy))), hCells 0 (lCons (vStr sy) (lNil sy)) (hCells 1 (lCons (vInt sy .i64) (lNil sy)) (hNil sy)), 2, []⟩
def le_token_readNumber_2_2 : LS sy (Unit × Unit × Int × Unit) (((List UInt8) × Unit) × (Int × Unit) × Unit) := ⟨[], fCons 0 (vLit sy (.p 1 0)) (fCons 1 (vLit sy (.p 0 0)) (fCons 3 (vInt sy .i64) (fNil sy))), hCells 0 (lCons (vStr sy) (lNil sy)) (hCells 1 (lCons (vInt sy .i64) (lNil sy)) (hNil sy)), 2, []⟩
def lr_token_readNumber_2_2 : LS sy Unit Unit := ⟨[], fNil sy, hNil sy, 2, []⟩
def FF_token_readNumber_2_2 (A47 : T_token_byteAt) (A48 : T_char_IsDigit) (n : Nat) (x : (Unit × Unit × Int × Unit) × (((List UInt8) × Unit) × (Int × Unit) × Unit)) (K : Ex → Z sg → Prop) : Prop := F_token_readNumber_2_l2 A47 A48 n x.1.2.2.1 x.2.1.1 x.2.2.1.1 (fun y0 y1 y2 => K (.exit 0) (le_token_readNumber_2_2.put (((), (), y0, ()), ((y1, ()), (y2, ()), ()))))
def h_token_readNumber_2_2 (A47 : T_token_byteAt) (A48 : T_char_IsDigit) (z : Z sg) (K : Ex → Z sg → Prop) : Prop := ls_token_readNumber_2_2.get z (fun x => ∃ n, FF_token_readNumber_2_2 A47 A48 n x K)
def L_token_readNumber_2 (A47 : T_token_byteAt) (A48 : T_char_IsDigit) : LoopT sg := tabL [(2, h_token_readNumber_2_2 A47 A48)]
theorem hs_token_readNumber_2_2 (A47 : T_token_byteAt) (A48 : T_char_IsDigit) (n : Nat) (x : (Unit × Unit × Int × Unit) × (((List UInt8) × Unit) × (Int × Unit) × Unit)) (K : Ex → Z sg → Prop) : forceZ (ls_token_readNumber_2_2.put x) (fun z => sC sy Tryd.prog GT (C_token_readNumber_2 A47 A48) (L_token_readNumber_2 A47 A48) Tryd.f51.ntmps (nthLoop (bodyOf Tryd.f51) 0) z (rnd ls_token_readNumber_2_2 (czT 0 le_token_readNumber_2_2 lr_token_readNumber_2_2) (fun x => FF_token_readNumber_2_2 A47 A48 n x K) K)) = FF_token_readNumber_2_2 A47 A48 (n + 1) x K := by kernel_rfl
theorem hl_token_readNumber_2_2 (A47 : T_token_byteAt) (A48 : T_char_IsDigit) (z : Z sg) (K : Ex → Z sg → Prop) : (L_token_readNumber_2 A47 A48) (nthLoop (bodyOf Tryd.f51) 0) z K = ls_token_readNumber_2_2.get z (fun x => ∃ n, FF_token_readNumber_2_2 A47 A48 n x K) := by kernel_rfl
theorem lo_token_readNumber_2_2 (A47 : T_token_byteAt) (A48 : T_char_IsDigit) (h47 : FnOK sy Tryd.prog GT (ovD ro) ro 47 (q_token_byteAt A47)) (h48 : FnOK sy Tryd.prog GT (ovD ro) ro 48 (q_char_IsDigit A48)) : ∀ (o0 : Nat → Prop) (B : Bs sg), B.E.length ≤ 2 → ∀ z K, (L_token_readNumber_2 A47 A48) (nthLoop (bodyOf Tryd.f51) 0) z K → Sx.Sem sy Tryd.prog GT (ovD ro) o0 ro Tryd.f51.ntmps B (.loop (nthLoop (bodyOf Tryd.f51) 0)) z K :=
  loop_ok (Cok_token_readNumber_2 A47 A48 h47 h48) (lp_of (l := []) (by kernel_rfl) lp_nil) ls_token_readNumber_2_2 (by decide) (czT 0 le_token_readNumber_2_2 lr_token_readNumber_2_2) (fun _ _ hB => czT_ok 0 le_token_readNumber_2_2 lr_token_readNumber_2_2 (Nat.le_trans hB (by decide)) (Nat.le_trans hB (by decide))) (fun _ _ h => h) (hs_token_readNumber_2_2 A47 A48) (hl_token_readNumber_2_2 A47 A48)
theorem Lp_token_readNumber_2 (A47 : T_token_byteAt) (A48 : T_char_IsDigit) (h47 : FnOK sy Tryd.prog GT (ovD ro) ro 47 (q_token_byteAt A47)) (h48 : FnOK sy Tryd.prog GT (ovD ro) ro 48 (q_char_IsDigit A48)) : LpOK sy Tryd.prog GT (ovD ro) ro (L_token_readNumber_2 A47 A48) 2 Tryd.f51.ntmps (bodyOf Tryd.f51) := lp_of (l := [(nthLoop (bodyOf Tryd.f51) 0)]) (by kernel_rfl) (lp_cons (lo_token_readNumber_2_2 A47 A48 h47 h48) lp_nil)


abbrev T_token_readNumber := List UInt8 → Int → (Int → Bool → Int → Prop) → Prop
def q_token_readNumber (A : T_token_readNumber) (us : List W) (k : W → Prop) : Prop := match us with
  | [.s a0, .i .i64 a1] => A a0 a1 (fun r0 r1 r2 => k (.t [.i .i64 r0, .b r1, .i .i64 r2]))
  | _ => False
theorem q_token_readNumber_weak {A A2 : T_token_readNumber} (h : FnOK sy Tryd.prog GT (ovD ro) ro 36 (q_token_readNumber A)) (hA : ∀ a0 a1 K, A2 a0 a1 K → A a0 a1 K) : FnOK sy Tryd.prog GT (ovD ro) ro 36 (q_token_readNumber A2) := h.weak (by
  intro us k h
  unfold q_token_readNumber at h ⊢
  split at h
  · exact hA _ _ _ h
  · exact h.elim)

def F_token_readNumber (A49 : T_token_fractionStarts) (A47 : T_token_byteAt) (A52 : T_token_isExponentMark) (A53 : T_token_digitStarts) (A54 : T_token_wholeNumber) (A55 : T_token_cutNumber) (A46 : T_token_isSign) (A48 : T_char_IsDigit) (a0 : List UInt8) (a1 : Int) (K : Int → Bool → Int → Prop) : Prop :=
  (A47 a0 a1 (fun y1 => (A47 a0 a1 (fun y2 => (A46 y2 (fun y3 => ((y3 = true → (I64 (a1 + (1 : Int)) ∧ (∃ m, F_token_readNumber_2_l2 A47 A48 m (a1 + (1 : Int)) a0 (a1 + (1 : Int)) (fun y4 y5 y6 => ((0 ≤ y4 ∧ y4 ≤ y6 ∧ y6 ≤ (y5.length : Int)) ∧ (A49 y5 y6 (fun y7 => ((y7 = true → (I64 (y6 + (1 : Int)) ∧ (∃ m, F_token_readNumber_2_l2 A47 A48 m (y6 + (1 : Int)) y5 (y6 + (1 : Int)) (fun y8 y9 y10 => ((0 ≤ y8 ∧ y8 ≤ y10 ∧ y10 ≤ (y9.length : Int)) ∧ (A47 y9 y10 (fun y11 => (A52 y11 (fun y12 => ((y12 = true → (I64 (y10 + (1 : Int)) ∧ (A53 y9 (y10 + (1 : Int)) (fun y13 => ((y13 = true → (I64 (y10 + (1 : Int)) ∧ (A47 y9 (y10 + (1 : Int)) (fun y14 => (A47 y9 (y10 + (1 : Int)) (fun y15 => (A46 y15 (fun y16 => ((y16 = true → (I64 ((y10 + (1 : Int)) + (1 : Int)) ∧ (∃ m, F_token_readNumber_2_l2 A47 A48 m ((y10 + (1 : Int)) + (1 : Int)) y9 ((y10 + (1 : Int)) + (1 : Int)) (fun y17 y18 y19 => ((0 ≤ y17 ∧ y17 ≤ y19 ∧ y19 ≤ (y18.length : Int)) ∧ (A54 ((y18.drop y17.toNat).take (y19.toNat - y17.toNat)) (fun y20 => (((decide (y14 = (45 : Int))) = true → (I64 (0 - y20) ∧ (((y5.drop y4.toNat).take (y6.toNat - y4.toNat)).length + ((y9.drop y8.toNat).take (y10.toNat - y8.toNat)).length ≤ 1099511627776 ∧ (I64 ((((y5.drop y4.toNat).take (y6.toNat - y4.toNat)).length : Int) + (0 - y20)) ∧ (I64 (((((y5.drop y4.toNat).take (y6.toNat - y4.toNat)).length : Int) + (0 - y20)) + (3 : Int)) ∧ (A55 (((y5.drop y4.toNat).take (y6.toNat - y4.toNat)) ++ ((y9.drop y8.toNat).take (y10.toNat - y8.toNat))) (((((y5.drop y4.toNat).take (y6.toNat - y4.toNat)).length : Int) + (0 - y20)) + (3 : Int)) (fun y21 => (((decide (y1 = (45 : Int))) = true → (I64 (0 - y21) ∧ K (0 - y21) false y19)) ∧ ((decide (y1 = (45 : Int))) = false → K y21 false y19))))))))) ∧ ((decide (y14 = (45 : Int))) = false → (((y5.drop y4.toNat).take (y6.toNat - y4.toNat)).length + ((y9.drop y8.toNat).take (y10.toNat - y8.toNat)).length ≤ 1099511627776 ∧ (I64 ((((y5.drop y4.toNat).take (y6.toNat - y4.toNat)).length : Int) + y20) ∧ (I64 (((((y5.drop y4.toNat).take (y6.toNat - y4.toNat)).length : Int) + y20) + (3 : Int)) ∧ (A55 (((y5.drop y4.toNat).take (y6.toNat - y4.toNat)) ++ ((y9.drop y8.toNat).take (y10.toNat - y8.toNat))) (((((y5.drop y4.toNat).take (y6.toNat - y4.toNat)).length : Int) + y20) + (3 : Int)) (fun y22 => (((decide (y1 = (45 : Int))) = true → (I64 (0 - y22) ∧ K (0 - y22) false y19)) ∧ ((decide (y1 = (45 : Int))) = false → K y22 false y19)))))))))))))))) ∧ (y16 = false → (∃ m, F_token_readNumber_2_l2 A47 A48 m (y10 + (1 : Int)) y9 (y10 + (1 : Int)) (fun y23 y24 y25 => ((0 ≤ y23 ∧ y23 ≤ y25 ∧ y25 ≤ (y24.length : Int)) ∧ (A54 ((y24.drop y23.toNat).take (y25.toNat - y23.toNat)) (fun y26 => (((decide (y14 = (45 : Int))) = true → (I64 (0 - y26) ∧ (((y5.drop y4.toNat).take (y6.toNat - y4.toNat)).length + ((y9.drop y8.toNat).take (y10.toNat - y8.toNat)).length ≤ 1099511627776 ∧ (I64 ((((y5.drop y4.toNat).take (y6.toNat - y4.toNat)).length : Int) + (0 - y26)) ∧ (I64 (((((y5.drop y4.toNat).take (y6.toNat - y4.toNat)).length : Int) + (0 - y26)) + (3 : Int)) ∧ (A55 (((y5.drop y4.toNat).take (y6.toNat - y4.toNat)) ++ ((y9.drop y8.toNat).take (y10.toNat - y8.toNat))) (((((y5.drop y4.toNat).take (y6.toNat - y4.toNat)).length : Int) + (0 - y26)) + (3 : Int)) (fun y27 => (((decide (y1 = (45 : Int))) = true → (I64 (0 - y27) ∧ K (0 - y27) false y25)) ∧ ((decide (y1 = (45 : Int))) = false → K y27 false y25))))))))) ∧ ((decide (y14 = (45 : Int))) = false → (((y5.drop y4.toNat).take (y6.toNat - y4.toNat)).length + ((y9.drop y8.toNat).take (y10.toNat - y8.toNat)).length ≤ 1099511627776 ∧ (I64 ((((y5.drop y4.toNat).take (y6.toNat - y4.toNat)).length : Int) + y26) ∧ (I64 (((((y5.drop y4.toNat).take (y6.toNat - y4.toNat)).length : Int) + y26) + (3 : Int)) ∧ (A55 (((y5.drop y4.toNat).take (y6.toNat - y4.toNat)) ++ ((y9.drop y8.toNat).take (y10.toNat - y8.toNat))) (((((y5.drop y4.toNat).take (y6.toNat - y4.toNat)).length : Int) + y26) + (3 : Int)) (fun y28 => (((decide (y1 = (45 : Int))) = true → (I64 (0 - y28) ∧ K (0 - y28) false y25)) ∧ ((decide (y1 = (45 : Int))) = false → K y28 false y25)))))))))))))))))))))))) ∧ (y13 = false → (((y5.drop y4.toNat).take (y6.toNat - y4.toNat)).length + ((y9.drop y8.toNat).take (y10.toNat - y8.toNat)).length ≤ 1099511627776 ∧ (I64 ((((y5.drop y4.toNat).take (y6.toNat - y4.toNat)).length : Int) + (0 : Int)) ∧ (I64 (((((y5.drop y4.toNat).take (y6.toNat - y4.toNat)).length : Int) + (0 : Int)) + (3 : Int)) ∧ (A55 (((y5.drop y4.toNat).take (y6.toNat - y4.toNat)) ++ ((y9.drop y8.toNat).take (y10.toNat - y8.toNat))) (((((y5.drop y4.toNat).take (y6.toNat - y4.toNat)).length : Int) + (0 : Int)) + (3 : Int)) (fun y29 => (((decide (y1 = (45 : Int))) = true → (I64 (0 - y29) ∧ K (0 - y29) false y10)) ∧ ((decide (y1 = (45 : Int))) = false → K y29 false y10))))))))))))) ∧ (y12 = false → (((y5.drop y4.toNat).take (y6.toNat - y4.toNat)).length + ((y9.drop y8.toNat).take (y10.toNat - y8.toNat)).length ≤ 1099511627776 ∧ (I64 ((((y5.drop y4.toNat).take (y6.toNat - y4.toNat)).length : Int) + (0 : Int)) ∧ (I64 (((((y5.drop y4.toNat).take (y6.toNat - y4.toNat)).length : Int) + (0 : Int)) + (3 : Int)) ∧ (A55 (((y5.drop y4.toNat).take (y6.toNat - y4.toNat)) ++ ((y9.drop y8.toNat).take (y10.toNat - y8.toNat))) (((((y5.drop y4.toNat).take (y6.toNat - y4.toNat)).length : Int) + (0 : Int)) + (3 : Int)) (fun y30 => (((decide (y1 = (45 : Int))) = true → (I64 (0 - y30) ∧ K (0 - y30) false y10)) ∧ ((decide (y1 = (45 : Int))) = false → K y30 false y10)))))))))))))))))) ∧ (y7 = false → (A47 y5 y6 (fun y31 => (A52 y31 (fun y32 => ((y32 = true → (I64 (y6 + (1 : Int)) ∧ (A53 y5 (y6 + (1 : Int)) (fun y33 => ((y33 = true → (I64 (y6 + (1 : Int)) ∧ (A47 y5 (y6 + (1 : Int)) (fun y34 => (A47 y5 (y6 + (1 : Int)) (fun y35 => (A46 y35 (fun y36 => ((y36 = true → (I64 ((y6 + (1 : Int)) + (1 : Int)) ∧ (∃ m, F_token_readNumber_2_l2 A47 A48 m ((y6 + (1 : Int)) + (1 : Int)) y5 ((y6 + (1 : Int)) + (1 : Int)) (fun y37 y38 y39 => ((0 ≤ y37 ∧ y37 ≤ y39 ∧ y39 ≤ (y38.length : Int)) ∧ (A54 ((y38.drop y37.toNat).take (y39.toNat - y37.toNat)) (fun y40 => (((decide (y34 = (45 : Int))) = true → (I64 (0 - y40) ∧ (((y5.drop y4.toNat).take (y6.toNat - y4.toNat)).length + ([] : List UInt8).length ≤ 1099511627776 ∧ (I64 ((((y5.drop y4.toNat).take (y6.toNat - y4.toNat)).length : Int) + (0 - y40)) ∧ (I64 (((((y5.drop y4.toNat).take (y6.toNat - y4.toNat)).length : Int) + (0 - y40)) + (3 : Int)) ∧ (A55 (((y5.drop y4.toNat).take (y6.toNat - y4.toNat)) ++ ([] : List UInt8)) (((((y5.drop y4.toNat).take (y6.toNat - y4.toNat)).length : Int) + (0 - y40)) + (3 : Int)) (fun y41 => (((decide (y1 = (45 : Int))) = true → (I64 (0 - y41) ∧ K (0 - y41) false y39)) ∧ ((decide (y1 = (45 : Int))) = false → K y41 false y39))))))))) ∧ ((decide (y34 = (45 : Int))) = false → (((y5.drop y4.toNat).take (y6.toNat - y4.toNat)).length + ([] : List UInt8).length ≤ 1099511627776 ∧ (I64 ((((y5.drop y4.toNat).take (y6.toNat - y4.toNat)).length : Int) + y40) ∧ (I64 (((((y5.drop y4.toNat).take (y6.toNat - y4.toNat)).length : Int) + y40) + (3 : Int)) ∧ (A55 (((y5.drop y4.toNat).take (y6.toNat - y4.toNat)) ++ ([] : List UInt8)) (((((y5.drop y4.toNat).take (y6.toNat - y4.toNat)).length : Int) + y40) + (3 : Int)) (fun y42 => (((decide (y1 = (45 : Int))) = true → (I64 (0 - y42) ∧ K (0 - y42) false y39)) ∧ ((decide (y1 = (45 : Int))) = false → K y42 false y39)))))))))))))))) ∧ (y36 = false → (∃ m, F_token_readNumber_2_l2 A47 A48 m (y6 + (1 : Int)) y5 (y6 + (1 : Int)) (fun y43 y44 y45 => ((0 ≤ y43 ∧ y43 ≤ y45 ∧ y45 ≤ (y44.length : Int)) ∧ (A54 ((y44.drop y43.toNat).take (y45.toNat - y43.toNat)) (fun y46 => (((decide (y34 = (45 : Int))) = true → (I64 (0 - y46) ∧ (((y5.drop y4.toNat).take (y6.toNat - y4.toNat)).length + ([] : List UInt8).length ≤ 1099511627776 ∧ (I64 ((((y5.drop y4.toNat).take (y6.toNat - y4.toNat)).length : Int) + (0 - y46)) ∧ (I64 (((((y5.drop y4.toNat).take (y6.toNat - y4.toNat)).length : Int) + (0 - y46)) + (3 : Int)) ∧ (A55 (((y5.drop y4.toNat).take (y6.toNat - y4.toNat)) ++ ([] : List UInt8)) (((((y5.drop y4.toNat).take (y6.toNat - y4.toNat)).length : Int) + (0 - y46)) + (3 : Int)) (fun y47 => (((decide (y1 = (45 : Int))) = true → (I64 (0 - y47) ∧ K (0 - y47) false y45)) ∧ ((decide (y1 = (45 : Int))) = false → K y47 false y45))))))))) ∧ ((decide (y34 = (45 : Int))) = false → (((y5.drop y4.toNat).take (y6.toNat - y4.toNat)).length + ([] : List UInt8).length ≤ 1099511627776 ∧ (I64 ((((y5.drop y4.toNat).take (y6.toNat - y4.toNat)).length : Int) + y46) ∧ (I64 (((((y5.drop y4.toNat).take (y6.toNat - y4.toNat)).length : Int) + y46) + (3 : Int)) ∧ (A55 (((y5.drop y4.toNat).take (y6.toNat - y4.toNat)) ++ ([] : List UInt8)) (((((y5.drop y4.toNat).take (y6.toNat - y4.toNat)).length : Int) + y46) + (3 : Int)) (fun y48 => (((decide (y1 = (45 : Int))) = true → (I64 (0 - y48) ∧ K (0 - y48) false y45)) ∧ ((decide (y1 = (45 : Int))) = false → K y48 false y45)))))))))))))))))))))))) ∧ (y33 = false → (((y5.drop y4.toNat).take (y6.toNat - y4.toNat)).length + ([] : List UInt8).length ≤ 1099511627776 ∧ (I64 ((((y5.drop y4.toNat).take (y6.toNat - y4.toNat)).length : Int) + (0 : Int)) ∧ (I64 (((((y5.drop y4.toNat).take (y6.toNat - y4.toNat)).length : Int) + (0 : Int)) + (3 : Int)) ∧ (A55 (((y5.drop y4.toNat).take (y6.toNat - y4.toNat)) ++ ([] : List UInt8)) (((((y5.drop y4.toNat).take (y6.toNat - y4.toNat)).length : Int) + (0 : Int)) + (3 : Int)) (fun y49 => (((decide (y1 = (45 : Int))) = true → (I64 (0 - y49) ∧ K (0 - y49) true y6)) ∧ ((decide (y1 = (45 : Int))) = false → K y49 true y6))))))))))))) ∧ (y32 = false → (((y5.drop y4.toNat).take (y6.toNat - y4.toNat)).length + ([] : List UInt8).length ≤ 1099511627776 ∧ (I64 ((((y5.drop y4.toNat).take (y6.toNat - y4.toNat)).length : Int) + (0 : Int)) ∧ (I64 (((((y5.drop y4.toNat).take (y6.toNat - y4.toNat)).length : Int) + (0 : Int)) + (3 : Int)) ∧ (A55 (((y5.drop y4.toNat).take (y6.toNat - y4.toNat)) ++ ([] : List UInt8)) (((((y5.drop y4.toNat).take (y6.toNat - y4.toNat)).length : Int) + (0 : Int)) + (3 : Int)) (fun y50 => (((decide (y1 = (45 : Int))) = true → (I64 (0 - y50) ∧ K (0 - y50) true y6)) ∧ ((decide (y1 = (45 : Int))) = false → K y50 true y6)))))))))))))))))))))) ∧ (y3 = false → (∃ m, F_token_readNumber_2_l2 A47 A48 m a1 a0 a1 (fun y51 y52 y53 => ((0 ≤ y51 ∧ y51 ≤ y53 ∧ y53 ≤ (y52.length : Int)) ∧ (A49 y52 y53 (fun y54 => ((y54 = true → (I64 (y53 + (1 : Int)) ∧ (∃ m, F_token_readNumber_2_l2 A47 A48 m (y53 + (1 : Int)) y52 (y53 + (1 : Int)) (fun y55 y56 y57 => ((0 ≤ y55 ∧ y55 ≤ y57 ∧ y57 ≤ (y56.length : Int)) ∧ (A47 y56 y57 (fun y58 => (A52 y58 (fun y59 => ((y59 = true → (I64 (y57 + (1 : Int)) ∧ (A53 y56 (y57 + (1 : Int)) (fun y60 => ((y60 = true → (I64 (y57 + (1 : Int)) ∧ (A47 y56 (y57 + (1 : Int)) (fun y61 => (A47 y56 (y57 + (1 : Int)) (fun y62 => (A46 y62 (fun y63 => ((y63 = true → (I64 ((y57 + (1 : Int)) + (1 : Int)) ∧ (∃ m, F_token_readNumber_2_l2 A47 A48 m ((y57 + (1 : Int)) + (1 : Int)) y56 ((y57 + (1 : Int)) + (1 : Int)) (fun y64 y65 y66 => ((0 ≤ y64 ∧ y64 ≤ y66 ∧ y66 ≤ (y65.length : Int)) ∧ (A54 ((y65.drop y64.toNat).take (y66.toNat - y64.toNat)) (fun y67 => (((decide (y61 = (45 : Int))) = true → (I64 (0 - y67) ∧ (((y52.drop y51.toNat).take (y53.toNat - y51.toNat)).length + ((y56.drop y55.toNat).take (y57.toNat - y55.toNat)).length ≤ 1099511627776 ∧ (I64 ((((y52.drop y51.toNat).take (y53.toNat - y51.toNat)).length : Int) + (0 - y67)) ∧ (I64 (((((y52.drop y51.toNat).take (y53.toNat - y51.toNat)).length : Int) + (0 - y67)) + (3 : Int)) ∧ (A55 (((y52.drop y51.toNat).take (y53.toNat - y51.toNat)) ++ ((y56.drop y55.toNat).take (y57.toNat - y55.toNat))) (((((y52.drop y51.toNat).take (y53.toNat - y51.toNat)).length : Int) + (0 - y67)) + (3 : Int)) (fun y68 => (((decide (y1 = (45 : Int))) = true → (I64 (0 - y68) ∧ K (0 - y68) false y66)) ∧ ((decide (y1 = (45 : Int))) = false → K y68 false y66))))))))) ∧ ((decide (y61 = (45 : Int))) = false → (((y52.drop y51.toNat).take (y53.toNat - y51.toNat)).length + ((y56.drop y55.toNat).take (y57.toNat - y55.toNat)).length ≤ 1099511627776 ∧ (I64 ((((y52.drop y51.toNat).take (y53.toNat - y51.toNat)).length : Int) + y67) ∧ (I64 (((((y52.drop y51.toNat).take (y53.toNat - y51.toNat)).length : Int) + y67) + (3 : Int)) ∧ (A55 (((y52.drop y51.toNat).take (y53.toNat - y51.toNat)) ++ ((y56.drop y55.toNat).take (y57.toNat - y55.toNat))) (((((y52.drop y51.toNat).take (y53.toNat - y51.toNat)).length : Int) + y67) + (3 : Int)) (fun y69 => (((decide (y1 = (45 : Int))) = true → (I64 (0 - y69) ∧ K (0 - y69) false y66)) ∧ ((decide (y1 = (45 : Int))) = false → K y69 false y66)))))))))))))))) ∧ (y63 = false → (∃ m, F_token_readNumber_2_l2 A47 A48 m (y57 + (1 : Int)) y56 (y57 + (1 : Int)) (fun y70 y71 y72 => ((0 ≤ y70 ∧ y70 ≤ y72 ∧ y72 ≤ (y71.length : Int)) ∧ (A54 ((y71.drop y70.toNat).take (y72.toNat - y70.toNat)) (fun y73 => (((decide (y61 = (45 : Int))) = true → (I64 (0 - y73) ∧ (((y52.drop y51.toNat).take (y53.toNat - y51.toNat)).length + ((y56.drop y55.toNat).take (y57.toNat - y55.toNat)).length ≤ 1099511627776 ∧ (I64 ((((y52.drop y51.toNat).take (y53.toNat - y51.toNat)).length : Int) + (0 - y73)) ∧ (I64 (((((y52.drop y51.toNat).take (y53.toNat - y51.toNat)).length : Int) + (0 - y73)) + (3 : Int)) ∧ (A55 (((y52.drop y51.toNat).take (y53.toNat - y51.toNat)) ++ ((y56.drop y55.toNat).take (y57.toNat - y55.toNat))) (((((y52.drop y51.toNat).take (y53.toNat - y51.toNat)).length : Int) + (0 - y73)) + (3 : Int)) (fun y74 => (((decide (y1 = (45 : Int))) = true → (I64 (0 - y74) ∧ K (0 - y74) false y72)) ∧ ((decide (y1 = (45 : Int))) = false → K y74 false y72))))))))) ∧ ((decide (y61 = (45 : Int))) = false → (((y52.drop y51.toNat).take (y53.toNat - y51.toNat)).length + ((y56.drop y55.toNat).take (y57.toNat - y55.toNat)).length ≤ 1099511627776 ∧ (I64 ((((y52.drop y51.toNat).take (y53.toNat - y51.toNat)).length : Int) + y73) ∧ (I64 (((((y52.drop y51.toNat).take (y53.toNat - y51.toNat)).length : Int) + y73) + (3 : Int)) ∧ (A55 (((y52.drop y51.toNat).take (y53.toNat - y51.toNat)) ++ ((y56.drop y55.toNat).take (y57.toNat - y55.toNat))) (((((y52.drop y51.toNat).take (y53.toNat - y51.toNat)).length : Int) + y73) + (3 : Int)) (fun y75 => (((decide (y1 = (45 : Int))) = true → (I64 (0 - y75) ∧ K (0 - y75) false y72)) ∧ ((decide (y1 = (45 : Int))) = false → K y75 false y72)))))))))))))))))))))))) ∧ (y60 = false → (((y52.drop y51.toNat).take (y53.toNat - y51.toNat)).length + ((y56.drop y55.toNat).take (y57.toNat - y55.toNat)).length ≤ 1099511627776 ∧ (I64 ((((y52.drop y51.toNat).take (y53.toNat - y51.toNat)).length : Int) + (0 : Int)) ∧ (I64 (((((y52.drop y51.toNat).take (y53.toNat - y51.toNat)).length : Int) + (0 : Int)) + (3 : Int)) ∧ (A55 (((y52.drop y51.toNat).take (y53.toNat - y51.toNat)) ++ ((y56.drop y55.toNat).take (y57.toNat - y55.toNat))) (((((y52.drop y51.toNat).take (y53.toNat - y51.toNat)).length : Int) + (0 : Int)) + (3 : Int)) (fun y76 => (((decide (y1 = (45 : Int))) = true → (I64 (0 - y76) ∧ K (0 - y76) false y57)) ∧ ((decide (y1 = (45 : Int))) = false → K y76 false y57))))))))))))) ∧ (y59 = false → (((y52.drop y51.toNat).take (y53.toNat - y51.toNat)).length + ((y56.drop y55.toNat).take (y57.toNat - y55.toNat)).length ≤ 1099511627776 ∧ (I64 ((((y52.drop y51.toNat).take (y53.toNat - y51.toNat)).length : Int) + (0 : Int)) ∧ (I64 (((((y52.drop y51.toNat).take (y53.toNat - y51.toNat)).length : Int) + (0 : Int)) + (3 : Int)) ∧ (A55 (((y52.drop y51.toNat).take (y53.toNat - y51.toNat)) ++ ((y56.drop y55.toNat).take (y57.toNat - y55.toNat))) (((((y52.drop y51.toNat).take (y53.toNat - y51.toNat)).length : Int) + (0 : Int)) + (3 : Int)) (fun y77 => (((decide (y1 = (45 : Int))) = true → (I64 (0 - y77) ∧ K (0 - y77) false y57)) ∧ ((decide (y1 = (45 : Int))) = false → K y77 false y57)))))))))))))))))) ∧ (y54 = false → (A47 y52 y53 (fun y78 => (A52 y78 (fun y79 => ((y79 = true → (I64 (y53 + (1 : Int)) ∧ (A53 y52 (y53 + (1 : Int)) (fun y80 => ((y80 = true → (I64 (y53 + (1 : Int)) ∧ (A47 y52 (y53 + (1 : Int)) (fun y81 => (A47 y52 (y53 + (1 : Int)) (fun y82 => (A46 y82 (fun y83 => ((y83 = true → (I64 ((y53 + (1 : Int)) + (1 : Int)) ∧ (∃ m, F_token_readNumber_2_l2 A47 A48 m ((y53 + (1 : Int)) + (1 : Int)) y52 ((y53 + (1 : Int)) + (1 : Int)) (fun y84 y85 y86 => ((0 ≤ y84 ∧ y84 ≤ y86 ∧ y86 ≤ (y85.length : Int)) ∧ (A54 ((y85.drop y84.toNat).take (y86.toNat - y84.toNat)) (fun y87 => (((decide (y81 = (45 : Int))) = true → (I64 (0 - y87) ∧ (((y52.drop y51.toNat).take (y53.toNat - y51.toNat)).length + ([] : List UInt8).length ≤ 1099511627776 ∧ (I64 ((((y52.drop y51.toNat).take (y53.toNat - y51.toNat)).length : Int) + (0 - y87)) ∧ (I64 (((((y52.drop y51.toNat).take (y53.toNat - y51.toNat)).length : Int) + (0 - y87)) + (3 : Int)) ∧ (A55 (((y52.drop y51.toNat).take (y53.toNat - y51.toNat)) ++ ([] : List UInt8)) (((((y52.drop y51.toNat).take (y53.toNat - y51.toNat)).length : Int) + (0 - y87)) + (3 : Int)) (fun y88 => (((decide (y1 = (45 : Int))) = true → (I64 (0 - y88) ∧ K (0 - y88) false y86)) ∧ ((decide (y1 = (45 : Int))) = false → K y88 false y86))))))))) ∧ ((decide (y81 = (45 : Int))) = false → (((y52.drop y51.toNat).take (y53.toNat - y51.toNat)).length + ([] : List UInt8).length ≤ 1099511627776 ∧ (I64 ((((y52.drop y51.toNat).take (y53.toNat - y51.toNat)).length : Int) + y87) ∧ (I64 (((((y52.drop y51.toNat).take (y53.toNat - y51.toNat)).length : Int) + y87) + (3 : Int)) ∧ (A55 (((y52.drop y51.toNat).take (y53.toNat - y51.toNat)) ++ ([] : List UInt8)) (((((y52.drop y51.toNat).take (y53.toNat - y51.toNat)).length : Int) + y87) + (3 : Int)) (fun y89 => (((decide (y1 = (45 : Int))) = true → (I64 (0 - y89) ∧ K (0 - y89) false y86)) ∧ ((decide (y1 = (45 : Int))) = false → K y89 false y86)))))))))))))))) ∧ (y83 = false → (∃ m, F_token_readNumber_2_l2 A47 A48 m (y53 + (1 : Int)) y52 (y53 + (1 : Int)) (fun y90 y91 y92 => ((0 ≤ y90 ∧ y90 ≤ y92 ∧ y92 ≤ (y91.length : Int)) ∧ (A54 ((y91.drop y90.toNat).take (y92.toNat - y90.toNat)) (fun y93 => (((decide (y81 = (45 : Int))) = true → (I64 (0 - y93) ∧ (((y52.drop y51.toNat).take (y53.toNat - y51.toNat)).length + ([] : List UInt8).length ≤ 1099511627776 ∧ (I64 ((((y52.drop y51.toNat).take (y53.toNat - y51.toNat)).length : Int) + (0 - y93)) ∧ (I64 (((((y52.drop y51.toNat).take (y53.toNat - y51.toNat)).length : Int) + (0 - y93)) + (3 : Int)) ∧ (A55 (((y52.drop y51.toNat).take (y53.toNat - y51.toNat)) ++ ([] : List UInt8)) (((((y52.drop y51.toNat).take (y53.toNat - y51.toNat)).length : Int) + (0 - y93)) + (3 : Int)) (fun y94 => (((decide (y1 = (45 : Int))) = true → (I64 (0 - y94) ∧ K (0 - y94) false y92)) ∧ ((decide (y1 = (45 : Int))) = false → K y94 false y92))))))))) ∧ ((decide (y81 = (45 : Int))) = false → (((y52.drop y51.toNat).take (y53.toNat - y51.toNat)).length + ([] : List UInt8).length ≤ 1099511627776 ∧ (I64 ((((y52.drop y51.toNat).take (y53.toNat - y51.toNat)).length : Int) + y93) ∧ (I64 (((((y52.drop y51.toNat).take (y53.toNat - y51.toNat)).length : Int) + y93) + (3 : Int)) ∧ (A55 (((y52.drop y51.toNat).take (y53.toNat - y51.toNat)) ++ ([] : List UInt8)) (((((y52.drop y51.toNat).take (y53.toNat - y51.toNat)).length : Int) + y93) + (3 : Int)) (fun y95 => (((decide (y1 = (45 : Int))) = true → (I64 (0 - y95) ∧ K (0 - y95) false y92)) ∧ ((decide (y1 = (45 : Int))) = false → K y95 false y92)))))))))))))))))))))))) ∧ (y80 = false → (((y52.drop y51.toNat).take (y53.toNat - y51.toNat)).length + ([] : List UInt8).length ≤ 1099511627776 ∧ (I64 ((((y52.drop y51.toNat).take (y53.toNat - y51.toNat)).length : Int) + (0 : Int)) ∧ (I64 (((((y52.drop y51.toNat).take (y53.toNat - y51.toNat)).length : Int) + (0 : Int)) + (3 : Int)) ∧ (A55 (((y52.drop y51.toNat).take (y53.toNat - y51.toNat)) ++ ([] : List UInt8)) (((((y52.drop y51.toNat).take (y53.toNat - y51.toNat)).length : Int) + (0 : Int)) + (3 : Int)) (fun y96 => (((decide (y1 = (45 : Int))) = true → (I64 (0 - y96) ∧ K (0 - y96) true y53)) ∧ ((decide (y1 = (45 : Int))) = false → K y96 true y53))))))))))))) ∧ (y79 = false → (((y52.drop y51.toNat).take (y53.toNat - y51.toNat)).length + ([] : List UInt8).length ≤ 1099511627776 ∧ (I64 ((((y52.drop y51.toNat).take (y53.toNat - y51.toNat)).length : Int) + (0 : Int)) ∧ (I64 (((((y52.drop y51.toNat).take (y53.toNat - y51.toNat)).length : Int) + (0 : Int)) + (3 : Int)) ∧ (A55 (((y52.drop y51.toNat).take (y53.toNat - y51.toNat)) ++ ([] : List UInt8)) (((((y52.drop y51.toNat).take (y53.toNat - y51.toNat)).length : Int) + (0 : Int)) + (3 : Int)) (fun y97 => (((decide (y1 = (45 : Int))) = true → (I64 (0 - y97) ∧ K (0 - y97) true y53)) ∧ ((decide (y1 = (45 : Int))) = false → K y97 true y53))))))))))))))))))))))))))))

def C_token_readNumber (A49 : T_token_fractionStarts) (A47 : T_token_byteAt) (A52 : T_token_isExponentMark) (A53 : T_token_digitStarts) (A54 : T_token_wholeNumber) (A55 : T_token_cutNumber) (A46 : T_token_isSign) (A48 : T_char_IsDigit) : CallT sg := tab [(49, con [none, none] (q_token_fractionStarts A49)), (47, con [none, none] (q_token_byteAt A47)), (52, con [none] (q_token_isExponentMark A52)), (53, con [none, none] (q_token_digitStarts A53)), (54, con [none] (q_token_wholeNumber A54)), (55, con [none, none] (q_token_cutNumber A55)), (50, inl sy Tryd.prog GT (C_token_readNumber_1 A47 A46) noL 1000 Tryd.f50.ntmps (bodyOf Tryd.f50) Tryd.f50.results.toList), (51, inl sy Tryd.prog GT (C_token_readNumber_2 A47 A48) (L_token_readNumber_2 A47 A48) 2 Tryd.f51.ntmps (bodyOf Tryd.f51) Tryd.f51.results.toList)]
theorem Cok_token_readNumber (A49 : T_token_fractionStarts) (A47 : T_token_byteAt) (A52 : T_token_isExponentMark) (A53 : T_token_digitStarts) (A54 : T_token_wholeNumber) (A55 : T_token_cutNumber) (A46 : T_token_isSign) (A48 : T_char_IsDigit) (h49 : FnOK sy Tryd.prog GT (ovD ro) ro 49 (q_token_fractionStarts A49)) (h47 : FnOK sy Tryd.prog GT (ovD ro) ro 47 (q_token_byteAt A47)) (h52 : FnOK sy Tryd.prog GT (ovD ro) ro 52 (q_token_isExponentMark A52)) (h53 : FnOK sy Tryd.prog GT (ovD ro) ro 53 (q_token_digitStarts A53)) (h54 : FnOK sy Tryd.prog GT (ovD ro) ro 54 (q_token_wholeNumber A54)) (h55 : FnOK sy Tryd.prog GT (ovD ro) ro 55 (q_token_cutNumber A55)) (h46 : FnOK sy Tryd.prog GT (ovD ro) ro 46 (q_token_isSign A46)) (h48 : FnOK sy Tryd.prog GT (ovD ro) ro 48 (q_char_IsDigit A48)) (o0 : Nat → Prop) : CalOK sy Tryd.prog GT (ovD ro) o0 ro (C_token_readNumber A49 A47 A52 A53 A54 A55 A46 A48) := (tab_cons (con_ok h49) (tab_cons (con_ok h47) (tab_cons (con_ok h52) (tab_cons (con_ok h53) (tab_cons (con_ok h54) (tab_cons (con_ok h55) (tab_cons (inl_ok (f := 50) (fn := Tryd.f50) (fun _ _ => rfl) Tryd.func50 (by kernel_rfl) rfl rfl (Cok_token_readNumber_1 A47 A46 h47 h46) (lp_of (l := []) (by kernel_rfl) lp_nil)) (tab_cons (inl_ok (f := 51) (fn := Tryd.f51) (fun _ _ => rfl) Tryd.func51 (by kernel_rfl) rfl rfl (Cok_token_readNumber_2 A47 A48 h47 h48) (Lp_token_readNumber_2 A47 A48 h47 h48)) tab_nil)))))))) o0

theorem raw_token_readNumber (A49 : T_token_fractionStarts) (A47 : T_token_byteAt) (A52 : T_token_isExponentMark) (A53 : T_token_digitStarts) (A54 : T_token_wholeNumber) (A55 : T_token_cutNumber) (A46 : T_token_isSign) (A48 : T_char_IsDigit) (a0 : List UInt8) (a1 : Int) (k : W → Prop) : fnT sy Tryd.prog GT (C_token_readNumber A49 A47 A52 A53 A54 A55 A46 A48) noL Tryd.f36.ntmps (bodyOf Tryd.f36) [none, none, none] Tryd.f36.results.toList [.s a0, .i .i64 a1] k = F_token_readNumber A49 A47 A52 A53 A54 A55 A46 A48 a0 a1 (fun r0 r1 r2 => k (.t [.i .i64 r0, .b r1, .i .i64 r2])) := by kernel_rfl

theorem ok_token_readNumber (A49 : T_token_fractionStarts) (A47 : T_token_byteAt) (A52 : T_token_isExponentMark) (A53 : T_token_digitStarts) (A54 : T_token_wholeNumber) (A55 : T_token_cutNumber) (A46 : T_token_isSign) (A48 : T_char_IsDigit) (h49 : FnOK sy Tryd.prog GT (ovD ro) ro 49 (q_token_fractionStarts A49)) (h47 : FnOK sy Tryd.prog GT (ovD ro) ro 47 (q_token_byteAt A47)) (h52 : FnOK sy Tryd.prog GT (ovD ro) ro 52 (q_token_isExponentMark A52)) (h53 : FnOK sy Tryd.prog GT (ovD ro) ro 53 (q_token_digitStarts A53)) (h54 : FnOK sy Tryd.prog GT (ovD ro) ro 54 (q_token_wholeNumber A54)) (h55 : FnOK sy Tryd.prog GT (ovD ro) ro 55 (q_token_cutNumber A55)) (h46 : FnOK sy Tryd.prog GT (ovD ro) ro 46 (q_token_isSign A46)) (h48 : FnOK sy Tryd.prog GT (ovD ro) ro 48 (q_char_IsDigit A48)) : FnOK sy Tryd.prog GT (ovD ro) ro 36 (q_token_readNumber (F_token_readNumber A49 A47 A52 A53 A54 A55 A46 A48)) := (fn_ok (rc := [none, none, none]) (f := 36) (fn := Tryd.f36) (c := bodyOf Tryd.f36) (nt := Tryd.f36.ntmps) (res := Tryd.f36.results.toList) (C := C_token_readNumber A49 A47 A52 A53 A54 A55 A46 A48) (L := noL) (fun _ _ => rfl) Tryd.func36 (by kernel_rfl) rfl rfl (Cok_token_readNumber A49 A47 A52 A53 A54 A55 A46 A48 h49 h47 h52 h53 h54 h55 h46 h48) (lp_of (l := []) (by kernel_rfl) lp_nil)).weak (by
  intro us k h
  unfold q_token_readNumber at h
  split at h
  · skip
    rename_i a0 a1
    rw [raw_token_readNumber A49 A47 A52 A53 A54 A55 A46 A48 a0 a1 k]
    exact h
  · exact h.elim)

abbrev T_token_Value := List UInt8 → (Int → Bool → Int → Prop) → Prop
def q_token_Value (A : T_token_Value) (us : List W) (k : W → Prop) : Prop := match us with
  | [.s a0] => A a0 (fun r0 r1 r2 => k (.t [.i .i64 r0, .b r1, .i .i64 r2]))
  | _ => False
theorem q_token_Value_weak {A A2 : T_token_Value} (h : FnOK sy Tryd.prog GT (ovD ro) ro 29 (q_token_Value A)) (hA : ∀ a0 K, A2 a0 K → A a0 K) : FnOK sy Tryd.prog GT (ovD ro) ro 29 (q_token_Value A2) := h.weak (by
  intro us k h
  unfold q_token_Value at h ⊢
  split at h
  · exact hA _ _ h
  · exact h.elim)

def F_token_Value (A35 : T_token_numberStarts) (A36 : T_token_readNumber) (a0 : List UInt8) (K : Int → Bool → Int → Prop) : Prop :=
  (((decide ((4000 : Int) < (a0.length : Int))) = true → K (0 : Int) false (28 : Int)) ∧ ((decide ((4000 : Int) < (a0.length : Int))) = false → (A35 a0 (0 : Int) (fun y1 => (((!y1) = true → K (0 : Int) false (12 : Int)) ∧ ((!y1) = false → (A36 a0 (0 : Int) (fun y2 y3 y4 => (((decide (y4 ≠ (a0.length : Int))) = true → K (0 : Int) false (12 : Int)) ∧ ((decide (y4 ≠ (a0.length : Int))) = false → K y2 y3 (0 : Int)))))))))))

def C_token_Value (A35 : T_token_numberStarts) (A36 : T_token_readNumber) : CallT sg := tab [(35, con [none, none] (q_token_numberStarts A35)), (36, con [none, none] (q_token_readNumber A36))]
theorem Cok_token_Value (A35 : T_token_numberStarts) (A36 : T_token_readNumber) (h35 : FnOK sy Tryd.prog GT (ovD ro) ro 35 (q_token_numberStarts A35)) (h36 : FnOK sy Tryd.prog GT (ovD ro) ro 36 (q_token_readNumber A36)) (o0 : Nat → Prop) : CalOK sy Tryd.prog GT (ovD ro) o0 ro (C_token_Value A35 A36) := (tab_cons (con_ok h35) (tab_cons (con_ok h36) tab_nil)) o0

theorem raw_token_Value (A35 : T_token_numberStarts) (A36 : T_token_readNumber) (a0 : List UInt8) (k : W → Prop) : fnT sy Tryd.prog GT (C_token_Value A35 A36) noL Tryd.f29.ntmps (bodyOf Tryd.f29) [none, none, none] Tryd.f29.results.toList [.s a0] k = F_token_Value A35 A36 a0 (fun r0 r1 r2 => k (.t [.i .i64 r0, .b r1, .i .i64 r2])) := by kernel_rfl

theorem ok_token_Value (A35 : T_token_numberStarts) (A36 : T_token_readNumber) (h35 : FnOK sy Tryd.prog GT (ovD ro) ro 35 (q_token_numberStarts A35)) (h36 : FnOK sy Tryd.prog GT (ovD ro) ro 36 (q_token_readNumber A36)) : FnOK sy Tryd.prog GT (ovD ro) ro 29 (q_token_Value (F_token_Value A35 A36)) := (fn_ok (rc := [none, none, none]) (f := 29) (fn := Tryd.f29) (c := bodyOf Tryd.f29) (nt := Tryd.f29.ntmps) (res := Tryd.f29.results.toList) (C := C_token_Value A35 A36) (L := noL) (fun _ _ => rfl) Tryd.func29 (by kernel_rfl) rfl rfl (Cok_token_Value A35 A36 h35 h36) (lp_of (l := []) (by kernel_rfl) lp_nil)).weak (by
  intro us k h
  unfold q_token_Value at h
  split at h
  · skip
    rename_i a0
    rw [raw_token_Value A35 A36 a0 k]
    exact h
  · exact h.elim)

end Go.Proofs.YthjnkibldhfhmaaDoor
