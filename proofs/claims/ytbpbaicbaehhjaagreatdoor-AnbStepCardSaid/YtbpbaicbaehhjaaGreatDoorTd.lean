/-
  Functions of the tokenizer, followed. Nothing is claimed here.
-/
import Derived.Test.YtbpbaicbaehhjaaGreatDoorTa
import Derived.Test.YtbpbaicbaehhjaaGreatDoorOb
namespace Go.Proofs.YtbpbaicbaehhjaaGreatDoor
open Go.Vm Go.Sx Go.RowKit
variable {ro : Nat}

def marksL : List Int := [0, 0, 0, 0, 0, 0, 0, 0, 0, 0, 0, 0, 0, 0, 0, 0, 0, 0, 0, 0, 0, 0, 0, 0, 0, 0, 0, 0, 0, 0, 0, 0, 0, 0, 0, 0, 0, 0, 0, 0, 21, 22, 0, 0, 18, 0, 0, 0, 0, 0, 0, 0, 0, 0, 0, 0, 0, 0, 16, 17, 0, 0, 0, 0, 0, 0, 0, 0, 0, 0, 0, 0, 0, 0, 0, 0, 0, 0, 0, 0, 0, 0, 0, 0, 0, 0, 0, 0, 0, 0, 0, 19, 0, 20, 0, 0, 0, 0, 0, 0, 0, 0, 0, 0, 0, 0, 0, 0, 0, 0, 0, 0, 0, 0, 0, 0, 0, 0, 0, 0, 0, 0, 0, 23, 0, 24]
def GT : Gl
  | 0 => some (.u8, marksL)
  | _ => none
def ovD (ro : Nat) : Ov := ovA ro
def noT (_ : List W) (_ : W → Prop) : Prop := False
theorem noT_ok {ro : Nat} (f : FuncId) : FnOK sy Tryz.prog GT (ovD ro) ro f noT := fun _ _ _ h => h.elim

abbrev T_token_byteAt := List UInt8 → Int → (Int → Prop) → Prop
def q_token_byteAt (A : T_token_byteAt) (us : List W) (k : W → Prop) : Prop := match us with
  | [.s a0, .i .i64 a1] => A a0 a1 (fun r0 => k (.i .u8 r0))
  | _ => False
theorem q_token_byteAt_weak {A A2 : T_token_byteAt} (h : FnOK sy Tryz.prog GT (ovD ro) ro 68 (q_token_byteAt A)) (hA : ∀ a0 a1 K, A2 a0 a1 K → A a0 a1 K) : FnOK sy Tryz.prog GT (ovD ro) ro 68 (q_token_byteAt A2) := h.weak (by
  intro us k h
  unfold q_token_byteAt at h ⊢
  split at h
  · exact hA _ _ _ h
  · exact h.elim)

def F_token_byteAt (a0 : List UInt8) (a1 : Int) (K : Int → Prop) : Prop :=
  (((decide (a1 < (a0.length : Int))) = true → ((0 ≤ a1 ∧ a1 < (a0.length : Int)) ∧ K ((a0.getD a1.toNat 0).toNat : Int))) ∧ ((decide (a1 < (a0.length : Int))) = false → K (0 : Int)))

def C_token_byteAt : CallT sg := tab []
theorem Cok_token_byteAt (o0 : Nat → Prop) : CalOK sy Tryz.prog GT (ovD ro) o0 ro (C_token_byteAt) := tab_nil o0

theorem raw_token_byteAt (a0 : List UInt8) (a1 : Int) (k : W → Prop) : fnT sy Tryz.prog GT (C_token_byteAt) noL Tryz.f68.ntmps (bodyOf Tryz.f68) [none] Tryz.f68.results.toList [.s a0, .i .i64 a1] k = F_token_byteAt a0 a1 (fun r0 => k (.i .u8 r0)) := by kernel_rfl

theorem ok_token_byteAt : FnOK sy Tryz.prog GT (ovD ro) ro 68 (q_token_byteAt (F_token_byteAt)) := (fn_ok (rc := [none]) (f := 68) (fn := Tryz.f68) (c := bodyOf Tryz.f68) (nt := Tryz.f68.ntmps) (res := Tryz.f68.results.toList) (C := C_token_byteAt) (L := noL) (fun _ _ => rfl) Tryz.func68 (by kernel_rfl) rfl rfl (Cok_token_byteAt) (lp_of (l := []) (by kernel_rfl) lp_nil)).weak (by
  intro us k h
  unfold q_token_byteAt at h
  split at h
  · skip
    rename_i a0 a1
    rw [raw_token_byteAt a0 a1 k]
    exact h
  · exact h.elim)

abbrev T_char_IsDigit := Int → (Bool → Prop) → Prop
def q_char_IsDigit (A : T_char_IsDigit) (us : List W) (k : W → Prop) : Prop := match us with
  | [.i .u8 a0] => A a0 (fun r0 => k (.b r0))
  | _ => False
theorem q_char_IsDigit_weak {A A2 : T_char_IsDigit} (h : FnOK sy Tryz.prog GT (ovD ro) ro 62 (q_char_IsDigit A)) (hA : ∀ a0 K, A2 a0 K → A a0 K) : FnOK sy Tryz.prog GT (ovD ro) ro 62 (q_char_IsDigit A2) := h.weak (by
  intro us k h
  unfold q_char_IsDigit at h ⊢
  split at h
  · exact hA _ _ h
  · exact h.elim)

def F_char_IsDigit (a0 : Int) (K : Bool → Prop) : Prop :=
  (((decide ((48 : Int) ≤ a0)) = true → K (decide (a0 ≤ (57 : Int)))) ∧ ((decide ((48 : Int) ≤ a0)) = false → K false))

def C_char_IsDigit : CallT sg := tab []
theorem Cok_char_IsDigit (o0 : Nat → Prop) : CalOK sy Tryz.prog GT (ovD ro) o0 ro (C_char_IsDigit) := tab_nil o0

theorem raw_char_IsDigit (a0 : Int) (k : W → Prop) : fnT sy Tryz.prog GT (C_char_IsDigit) noL Tryz.f62.ntmps (bodyOf Tryz.f62) [none] Tryz.f62.results.toList [.i .u8 a0] k = F_char_IsDigit a0 (fun r0 => k (.b r0)) := by kernel_rfl

theorem ok_char_IsDigit : FnOK sy Tryz.prog GT (ovD ro) ro 62 (q_char_IsDigit (F_char_IsDigit)) := (fn_ok (rc := [none]) (f := 62) (fn := Tryz.f62) (c := bodyOf Tryz.f62) (nt := Tryz.f62.ntmps) (res := Tryz.f62.results.toList) (C := C_char_IsDigit) (L := noL) (fun _ _ => rfl) Tryz.func62 (by kernel_rfl) rfl rfl (Cok_char_IsDigit) (lp_of (l := []) (by kernel_rfl) lp_nil)).weak (by
  intro us k h
  unfold q_char_IsDigit at h
  split at h
  · skip
    rename_i a0
    rw [raw_char_IsDigit a0 k]
    exact h
  · exact h.elim)

abbrev T_token_isSign := Int → (Bool → Prop) → Prop
def q_token_isSign (A : T_token_isSign) (us : List W) (k : W → Prop) : Prop := match us with
  | [.i .u8 a0] => A a0 (fun r0 => k (.b r0))
  | _ => False
theorem q_token_isSign_weak {A A2 : T_token_isSign} (h : FnOK sy Tryz.prog GT (ovD ro) ro 73 (q_token_isSign A)) (hA : ∀ a0 K, A2 a0 K → A a0 K) : FnOK sy Tryz.prog GT (ovD ro) ro 73 (q_token_isSign A2) := h.weak (by
  intro us k h
  unfold q_token_isSign at h ⊢
  split at h
  · exact hA _ _ h
  · exact h.elim)

def F_token_isSign (a0 : Int) (K : Bool → Prop) : Prop :=
  (((decide (a0 = (43 : Int))) = false → K (decide (a0 = (45 : Int)))) ∧ ((decide (a0 = (43 : Int))) = true → K true))

def C_token_isSign : CallT sg := tab []
theorem Cok_token_isSign (o0 : Nat → Prop) : CalOK sy Tryz.prog GT (ovD ro) o0 ro (C_token_isSign) := tab_nil o0

theorem raw_token_isSign (a0 : Int) (k : W → Prop) : fnT sy Tryz.prog GT (C_token_isSign) noL Tryz.f73.ntmps (bodyOf Tryz.f73) [none] Tryz.f73.results.toList [.i .u8 a0] k = F_token_isSign a0 (fun r0 => k (.b r0)) := by kernel_rfl

theorem ok_token_isSign : FnOK sy Tryz.prog GT (ovD ro) ro 73 (q_token_isSign (F_token_isSign)) := (fn_ok (rc := [none]) (f := 73) (fn := Tryz.f73) (c := bodyOf Tryz.f73) (nt := Tryz.f73.ntmps) (res := Tryz.f73.results.toList) (C := C_token_isSign) (L := noL) (fun _ _ => rfl) Tryz.func73 (by kernel_rfl) rfl rfl (Cok_token_isSign) (lp_of (l := []) (by kernel_rfl) lp_nil)).weak (by
  intro us k h
  unfold q_token_isSign at h
  split at h
  · skip
    rename_i a0
    rw [raw_token_isSign a0 k]
    exact h
  · exact h.elim)

abbrev T_token_fractionStarts := List UInt8 → Int → (Bool → Prop) → Prop
def q_token_fractionStarts (A : T_token_fractionStarts) (us : List W) (k : W → Prop) : Prop := match us with
  | [.s a0, .i .i64 a1] => A a0 a1 (fun r0 => k (.b r0))
  | _ => False
theorem q_token_fractionStarts_weak {A A2 : T_token_fractionStarts} (h : FnOK sy Tryz.prog GT (ovD ro) ro 74 (q_token_fractionStarts A)) (hA : ∀ a0 a1 K, A2 a0 a1 K → A a0 a1 K) : FnOK sy Tryz.prog GT (ovD ro) ro 74 (q_token_fractionStarts A2) := h.weak (by
  intro us k h
  unfold q_token_fractionStarts at h ⊢
  split at h
  · exact hA _ _ _ h
  · exact h.elim)

def F_token_fractionStarts (A68 : T_token_byteAt) (A62 : T_char_IsDigit) (a0 : List UInt8) (a1 : Int) (K : Bool → Prop) : Prop :=
  (A68 a0 a1 (fun y1 => (((decide (y1 = (46 : Int))) = true → (I64 (a1 + (1 : Int)) ∧ (A68 a0 (a1 + (1 : Int)) (fun y2 => (A62 y2 (fun y3 => K y3)))))) ∧ ((decide (y1 = (46 : Int))) = false → K false))))

def C_token_fractionStarts (A68 : T_token_byteAt) (A62 : T_char_IsDigit) : CallT sg := tab [(68, con [none, none] (q_token_byteAt A68)), (62, con [none] (q_char_IsDigit A62))]
theorem Cok_token_fractionStarts (A68 : T_token_byteAt) (A62 : T_char_IsDigit) (h68 : FnOK sy Tryz.prog GT (ovD ro) ro 68 (q_token_byteAt A68)) (h62 : FnOK sy Tryz.prog GT (ovD ro) ro 62 (q_char_IsDigit A62)) (o0 : Nat → Prop) : CalOK sy Tryz.prog GT (ovD ro) o0 ro (C_token_fractionStarts A68 A62) := (tab_cons (con_ok h68) (tab_cons (con_ok h62) tab_nil)) o0

theorem raw_token_fractionStarts (A68 : T_token_byteAt) (A62 : T_char_IsDigit) (a0 : List UInt8) (a1 : Int) (k : W → Prop) : fnT sy Tryz.prog GT (C_token_fractionStarts A68 A62) noL Tryz.f74.ntmps (bodyOf Tryz.f74) [none] Tryz.f74.results.toList [.s a0, .i .i64 a1] k = F_token_fractionStarts A68 A62 a0 a1 (fun r0 => k (.b r0)) := by kernel_rfl

theorem ok_token_fractionStarts (A68 : T_token_byteAt) (A62 : T_char_IsDigit) (h68 : FnOK sy Tryz.prog GT (ovD ro) ro 68 (q_token_byteAt A68)) (h62 : FnOK sy Tryz.prog GT (ovD ro) ro 62 (q_char_IsDigit A62)) : FnOK sy Tryz.prog GT (ovD ro) ro 74 (q_token_fractionStarts (F_token_fractionStarts A68 A62)) := (fn_ok (rc := [none]) (f := 74) (fn := Tryz.f74) (c := bodyOf Tryz.f74) (nt := Tryz.f74.ntmps) (res := Tryz.f74.results.toList) (C := C_token_fractionStarts A68 A62) (L := noL) (fun _ _ => rfl) Tryz.func74 (by kernel_rfl) rfl rfl (Cok_token_fractionStarts A68 A62 h68 h62) (lp_of (l := []) (by kernel_rfl) lp_nil)).weak (by
  intro us k h
  unfold q_token_fractionStarts at h
  split at h
  · skip
    rename_i a0 a1
    rw [raw_token_fractionStarts A68 A62 a0 a1 k]
    exact h
  · exact h.elim)

abbrev T_token_numberStarts := List UInt8 → Int → (Bool → Prop) → Prop
def q_token_numberStarts (A : T_token_numberStarts) (us : List W) (k : W → Prop) : Prop := match us with
  | [.s a0, .i .i64 a1] => A a0 a1 (fun r0 => k (.b r0))
  | _ => False
theorem q_token_numberStarts_weak {A A2 : T_token_numberStarts} (h : FnOK sy Tryz.prog GT (ovD ro) ro 56 (q_token_numberStarts A)) (hA : ∀ a0 a1 K, A2 a0 a1 K → A a0 a1 K) : FnOK sy Tryz.prog GT (ovD ro) ro 56 (q_token_numberStarts A2) := h.weak (by
  intro us k h
  unfold q_token_numberStarts at h ⊢
  split at h
  · exact hA _ _ _ h
  · exact h.elim)

def F_token_numberStarts (A68 : T_token_byteAt) (A73 : T_token_isSign) (A62 : T_char_IsDigit) (A74 : T_token_fractionStarts) (a0 : List UInt8) (a1 : Int) (K : Bool → Prop) : Prop :=
  (A68 a0 a1 (fun y1 => (A73 y1 (fun y2 => ((y2 = true → (I64 (a1 + (1 : Int)) ∧ (A68 a0 (a1 + (1 : Int)) (fun y3 => (A62 y3 (fun y4 => ((y4 = false → (A74 a0 (a1 + (1 : Int)) (fun y5 => K y5))) ∧ (y4 = true → K true)))))))) ∧ (y2 = false → (A68 a0 a1 (fun y6 => (A62 y6 (fun y7 => ((y7 = false → (A74 a0 a1 (fun y8 => K y8))) ∧ (y7 = true → K true))))))))))))

def C_token_numberStarts (A68 : T_token_byteAt) (A73 : T_token_isSign) (A62 : T_char_IsDigit) (A74 : T_token_fractionStarts) : CallT sg := tab [(68, con [none, none] (q_token_byteAt A68)), (73, con [none] (q_token_isSign A73)), (62, con [none] (q_char_IsDigit A62)), (74, con [none, none] (q_token_fractionStarts A74))]
theorem Cok_token_numberStarts (A68 : T_token_byteAt) (A73 : T_token_isSign) (A62 : T_char_IsDigit) (A74 : T_token_fractionStarts) (h68 : FnOK sy Tryz.prog GT (ovD ro) ro 68 (q_token_byteAt A68)) (h73 : FnOK sy Tryz.prog GT (ovD ro) ro 73 (q_token_isSign A73)) (h62 : FnOK sy Tryz.prog GT (ovD ro) ro 62 (q_char_IsDigit A62)) (h74 : FnOK sy Tryz.prog GT (ovD ro) ro 74 (q_token_fractionStarts A74)) (o0 : Nat → Prop) : CalOK sy Tryz.prog GT (ovD ro) o0 ro (C_token_numberStarts A68 A73 A62 A74) := (tab_cons (con_ok h68) (tab_cons (con_ok h73) (tab_cons (con_ok h62) (tab_cons (con_ok h74) tab_nil)))) o0

theorem raw_token_numberStarts (A68 : T_token_byteAt) (A73 : T_token_isSign) (A62 : T_char_IsDigit) (A74 : T_token_fractionStarts) (a0 : List UInt8) (a1 : Int) (k : W → Prop) : fnT sy Tryz.prog GT (C_token_numberStarts A68 A73 A62 A74) noL Tryz.f56.ntmps (bodyOf Tryz.f56) [none] Tryz.f56.results.toList [.s a0, .i .i64 a1] k = F_token_numberStarts A68 A73 A62 A74 a0 a1 (fun r0 => k (.b r0)) := by kernel_rfl

theorem ok_token_numberStarts (A68 : T_token_byteAt) (A73 : T_token_isSign) (A62 : T_char_IsDigit) (A74 : T_token_fractionStarts) (h68 : FnOK sy Tryz.prog GT (ovD ro) ro 68 (q_token_byteAt A68)) (h73 : FnOK sy Tryz.prog GT (ovD ro) ro 73 (q_token_isSign A73)) (h62 : FnOK sy Tryz.prog GT (ovD ro) ro 62 (q_char_IsDigit A62)) (h74 : FnOK sy Tryz.prog GT (ovD ro) ro 74 (q_token_fractionStarts A74)) : FnOK sy Tryz.prog GT (ovD ro) ro 56 (q_token_numberStarts (F_token_numberStarts A68 A73 A62 A74)) := (fn_ok (rc := [none]) (f := 56) (fn := Tryz.f56) (c := bodyOf Tryz.f56) (nt := Tryz.f56.ntmps) (res := Tryz.f56.results.toList) (C := C_token_numberStarts A68 A73 A62 A74) (L := noL) (fun _ _ => rfl) Tryz.func56 (by kernel_rfl) rfl rfl (Cok_token_numberStarts A68 A73 A62 A74 h68 h73 h62 h74) (lp_of (l := []) (by kernel_rfl) lp_nil)).weak (by
  intro us k h
  unfold q_token_numberStarts at h
  split at h
  · skip
    rename_i a0 a1
    rw [raw_token_numberStarts A68 A73 A62 A74 a0 a1 k]
    exact h
  · exact h.elim)

abbrev T_token_isExponentMark := Int → (Bool → Prop) → Prop
def q_token_isExponentMark (A : T_token_isExponentMark) (us : List W) (k : W → Prop) : Prop := match us with
  | [.i .u8 a0] => A a0 (fun r0 => k (.b r0))
  | _ => False
theorem q_token_isExponentMark_weak {A A2 : T_token_isExponentMark} (h : FnOK sy Tryz.prog GT (ovD ro) ro 92 (q_token_isExponentMark A)) (hA : ∀ a0 K, A2 a0 K → A a0 K) : FnOK sy Tryz.prog GT (ovD ro) ro 92 (q_token_isExponentMark A2) := h.weak (by
  intro us k h
  unfold q_token_isExponentMark at h ⊢
  split at h
  · exact hA _ _ h
  · exact h.elim)

def F_token_isExponentMark (a0 : Int) (K : Bool → Prop) : Prop :=
  (((decide (a0 = (101 : Int))) = false → K (decide (a0 = (69 : Int)))) ∧ ((decide (a0 = (101 : Int))) = true → K true))

def C_token_isExponentMark : CallT sg := tab []
theorem Cok_token_isExponentMark (o0 : Nat → Prop) : CalOK sy Tryz.prog GT (ovD ro) o0 ro (C_token_isExponentMark) := tab_nil o0

theorem raw_token_isExponentMark (a0 : Int) (k : W → Prop) : fnT sy Tryz.prog GT (C_token_isExponentMark) noL Tryz.f92.ntmps (bodyOf Tryz.f92) [none] Tryz.f92.results.toList [.i .u8 a0] k = F_token_isExponentMark a0 (fun r0 => k (.b r0)) := by kernel_rfl

theorem ok_token_isExponentMark : FnOK sy Tryz.prog GT (ovD ro) ro 92 (q_token_isExponentMark (F_token_isExponentMark)) := (fn_ok (rc := [none]) (f := 92) (fn := Tryz.f92) (c := bodyOf Tryz.f92) (nt := Tryz.f92.ntmps) (res := Tryz.f92.results.toList) (C := C_token_isExponentMark) (L := noL) (fun _ _ => rfl) Tryz.func92 (by kernel_rfl) rfl rfl (Cok_token_isExponentMark) (lp_of (l := []) (by kernel_rfl) lp_nil)).weak (by
  intro us k h
  unfold q_token_isExponentMark at h
  split at h
  · skip
    rename_i a0
    rw [raw_token_isExponentMark a0 k]
    exact h
  · exact h.elim)

abbrev T_token_digitStarts := List UInt8 → Int → (Bool → Prop) → Prop
def q_token_digitStarts (A : T_token_digitStarts) (us : List W) (k : W → Prop) : Prop := match us with
  | [.s a0, .i .i64 a1] => A a0 a1 (fun r0 => k (.b r0))
  | _ => False
theorem q_token_digitStarts_weak {A A2 : T_token_digitStarts} (h : FnOK sy Tryz.prog GT (ovD ro) ro 93 (q_token_digitStarts A)) (hA : ∀ a0 a1 K, A2 a0 a1 K → A a0 a1 K) : FnOK sy Tryz.prog GT (ovD ro) ro 93 (q_token_digitStarts A2) := h.weak (by
  intro us k h
  unfold q_token_digitStarts at h ⊢
  split at h
  · exact hA _ _ _ h
  · exact h.elim)

def F_token_digitStarts (A68 : T_token_byteAt) (A73 : T_token_isSign) (A62 : T_char_IsDigit) (a0 : List UInt8) (a1 : Int) (K : Bool → Prop) : Prop :=
  (A68 a0 a1 (fun y1 => (A73 y1 (fun y2 => ((y2 = true → (I64 (a1 + (1 : Int)) ∧ (A68 a0 (a1 + (1 : Int)) (fun y3 => (A62 y3 (fun y4 => K y4)))))) ∧ (y2 = false → (A68 a0 a1 (fun y5 => (A62 y5 (fun y6 => K y6))))))))))

def C_token_digitStarts (A68 : T_token_byteAt) (A73 : T_token_isSign) (A62 : T_char_IsDigit) : CallT sg := tab [(68, con [none, none] (q_token_byteAt A68)), (73, con [none] (q_token_isSign A73)), (62, con [none] (q_char_IsDigit A62))]
theorem Cok_token_digitStarts (A68 : T_token_byteAt) (A73 : T_token_isSign) (A62 : T_char_IsDigit) (h68 : FnOK sy Tryz.prog GT (ovD ro) ro 68 (q_token_byteAt A68)) (h73 : FnOK sy Tryz.prog GT (ovD ro) ro 73 (q_token_isSign A73)) (h62 : FnOK sy Tryz.prog GT (ovD ro) ro 62 (q_char_IsDigit A62)) (o0 : Nat → Prop) : CalOK sy Tryz.prog GT (ovD ro) o0 ro (C_token_digitStarts A68 A73 A62) := (tab_cons (con_ok h68) (tab_cons (con_ok h73) (tab_cons (con_ok h62) tab_nil))) o0

theorem raw_token_digitStarts (A68 : T_token_byteAt) (A73 : T_token_isSign) (A62 : T_char_IsDigit) (a0 : List UInt8) (a1 : Int) (k : W → Prop) : fnT sy Tryz.prog GT (C_token_digitStarts A68 A73 A62) noL Tryz.f93.ntmps (bodyOf Tryz.f93) [none] Tryz.f93.results.toList [.s a0, .i .i64 a1] k = F_token_digitStarts A68 A73 A62 a0 a1 (fun r0 => k (.b r0)) := by kernel_rfl

theorem ok_token_digitStarts (A68 : T_token_byteAt) (A73 : T_token_isSign) (A62 : T_char_IsDigit) (h68 : FnOK sy Tryz.prog GT (ovD ro) ro 68 (q_token_byteAt A68)) (h73 : FnOK sy Tryz.prog GT (ovD ro) ro 73 (q_token_isSign A73)) (h62 : FnOK sy Tryz.prog GT (ovD ro) ro 62 (q_char_IsDigit A62)) : FnOK sy Tryz.prog GT (ovD ro) ro 93 (q_token_digitStarts (F_token_digitStarts A68 A73 A62)) := (fn_ok (rc := [none]) (f := 93) (fn := Tryz.f93) (c := bodyOf Tryz.f93) (nt := Tryz.f93.ntmps) (res := Tryz.f93.results.toList) (C := C_token_digitStarts A68 A73 A62) (L := noL) (fun _ _ => rfl) Tryz.func93 (by kernel_rfl) rfl rfl (Cok_token_digitStarts A68 A73 A62 h68 h73 h62) (lp_of (l := []) (by kernel_rfl) lp_nil)).weak (by
  intro us k h
  unfold q_token_digitStarts at h
  split at h
  · skip
    rename_i a0 a1
    rw [raw_token_digitStarts A68 A73 A62 a0 a1 k]
    exact h
  · exact h.elim)

abbrev T_token_wholeNumber := List UInt8 → (Int → Prop) → Prop
def q_token_wholeNumber (A : T_token_wholeNumber) (us : List W) (k : W → Prop) : Prop := match us with
  | [.s a0] => A a0 (fun r0 => k (.i .i64 r0))
  | _ => False
theorem q_token_wholeNumber_weak {A A2 : T_token_wholeNumber} (h : FnOK sy Tryz.prog GT (ovD ro) ro 94 (q_token_wholeNumber A)) (hA : ∀ a0 K, A2 a0 K → A a0 K) : FnOK sy Tryz.prog GT (ovD ro) ro 94 (q_token_wholeNumber A2) := h.weak (by
  intro us k h
  unfold q_token_wholeNumber at h ⊢
  split at h
  · exact hA _ _ h
  · exact h.elim)

def F_token_wholeNumber_l3 : Nat → List UInt8 → Int → Int → Int → (Int → Prop) → Prop
  | 0, _, _, _, _, _ => False
  | n + 1, x0, x3, x6, x7, Ke => (((decide (x7 < x6)) = true → (I64 ((10 : Int) * x3) ∧ ((0 ≤ x7 ∧ x7 < (x0.length : Int)) ∧ (I64 (IntKind.u8.wrap (((x0.getD x7.toNat 0).toNat : Int) - (48 : Int))) ∧ (I64 (((10 : Int) * x3) + (IntKind.u8.wrap (((x0.getD x7.toNat 0).toNat : Int) - (48 : Int)))) ∧ (I64 (x7 + (1 : Int)) ∧ F_token_wholeNumber_l3 n x0 (if (8000 : Int) < (((10 : Int) * x3) + (IntKind.u8.wrap (((x0.getD x7.toNat 0).toNat : Int) - (48 : Int)))) then (8000 : Int) else (((10 : Int) * x3) + (IntKind.u8.wrap (((x0.getD x7.toNat 0).toNat : Int) - (48 : Int))))) x6 (x7 + (1 : Int)) Ke)))))) ∧ ((decide (x7 < x6)) = false → Ke x3))

def F_token_wholeNumber (a0 : List UInt8) (K : Int → Prop) : Prop :=
  (∃ m, F_token_wholeNumber_l3 m a0 (0 : Int) (a0.length : Int) (0 : Int) (fun y1 => K y1))

def C_token_wholeNumber : CallT sg := tab []
theorem Cok_token_wholeNumber (o0 : Nat → Prop) : CalOK sy Tryz.prog GT (ovD ro) o0 ro (C_token_wholeNumber) := tab_nil o0

def ls_token_wholeNumber_3 : LS sy ((List UInt8) × Int × Int × Int × Unit) Unit := ⟨[], fCons 0 (vStr sy) (fCons 3 (vInt sy .i64) (fCons 6 (vInt sy .i64) (fCons 7 (vInt sy .i64) (fNil sy)))), hNil sy, 0, []⟩
def le_token_wholeNumber_3 : LS sy (Int × Unit) Unit := ⟨[], fCons 3 (vInt sy .i64) (fNil sy), hNil sy, 0, []⟩
def lr_token_wholeNumber_3 : LS sy Unit Unit := ⟨[], fNil sy, hNil sy, 0, []⟩
def FF_token_wholeNumber_3 (n : Nat) (x : ((List UInt8) × Int × Int × Int × Unit) × Unit) (K : Ex → Z sg → Prop) : Prop := F_token_wholeNumber_l3 n x.1.1 x.1.2.1 x.1.2.2.1 x.1.2.2.2.1 (fun y0 => K (.exit 0) (le_token_wholeNumber_3.put ((y0, ()), ())))
def h_token_wholeNumber_3 (z : Z sg) (K : Ex → Z sg → Prop) : Prop := ls_token_wholeNumber_3.get z (fun x => ∃ n, FF_token_wholeNumber_3 n x K)
def L_token_wholeNumber : LoopT sg := tabL [(3, h_token_wholeNumber_3)]
theorem hs_token_wholeNumber_3 (n : Nat) (x : ((List UInt8) × Int × Int × Int × Unit) × Unit) (K : Ex → Z sg → Prop) : forceZ (ls_token_wholeNumber_3.put x) (fun z => sC sy Tryz.prog GT (C_token_wholeNumber) (L_token_wholeNumber) Tryz.f94.ntmps (nthLoop (bodyOf Tryz.f94) 0) z (rnd ls_token_wholeNumber_3 (czT 0 le_token_wholeNumber_3 lr_token_wholeNumber_3) (fun x => FF_token_wholeNumber_3 n x K) K)) = FF_token_wholeNumber_3 (n + 1) x K := by kernel_rfl
theorem hl_token_wholeNumber_3 (z : Z sg) (K : Ex → Z sg → Prop) : (L_token_wholeNumber) (nthLoop (bodyOf Tryz.f94) 0) z K = ls_token_wholeNumber_3.get z (fun x => ∃ n, FF_token_wholeNumber_3 n x K) := by kernel_rfl
theorem lo_token_wholeNumber_3 : ∀ (o0 : Nat → Prop) (B : Bs sg), B.E.length ≤ 0 → ∀ z K, (L_token_wholeNumber) (nthLoop (bodyOf Tryz.f94) 0) z K → Sx.Sem sy Tryz.prog GT (ovD ro) o0 ro Tryz.f94.ntmps B (.loop (nthLoop (bodyOf Tryz.f94) 0)) z K :=
  loop_ok (Cok_token_wholeNumber) (lp_of (l := []) (by kernel_rfl) lp_nil) ls_token_wholeNumber_3 (by decide) (czT 0 le_token_wholeNumber_3 lr_token_wholeNumber_3) (fun _ _ hB => czT_ok 0 le_token_wholeNumber_3 lr_token_wholeNumber_3 (Nat.le_trans hB (by decide)) (Nat.le_trans hB (by decide))) (fun _ _ h => h) (hs_token_wholeNumber_3) (hl_token_wholeNumber_3)
theorem Lp_token_wholeNumber : LpOK sy Tryz.prog GT (ovD ro) ro (L_token_wholeNumber) 0 Tryz.f94.ntmps (bodyOf Tryz.f94) := lp_of (l := [(nthLoop (bodyOf Tryz.f94) 0)]) (by kernel_rfl) (lp_cons (lo_token_wholeNumber_3) lp_nil)


theorem raw_token_wholeNumber (a0 : List UInt8) (k : W → Prop) : fnT sy Tryz.prog GT (C_token_wholeNumber) (L_token_wholeNumber) Tryz.f94.ntmps (bodyOf Tryz.f94) [none] Tryz.f94.results.toList [.s a0] k = F_token_wholeNumber a0 (fun r0 => k (.i .i64 r0)) := by kernel_rfl

theorem ok_token_wholeNumber : FnOK sy Tryz.prog GT (ovD ro) ro 94 (q_token_wholeNumber (F_token_wholeNumber)) := (fn_ok (rc := [none]) (f := 94) (fn := Tryz.f94) (c := bodyOf Tryz.f94) (nt := Tryz.f94.ntmps) (res := Tryz.f94.results.toList) (C := C_token_wholeNumber) (L := (L_token_wholeNumber)) (fun _ _ => rfl) Tryz.func94 (by kernel_rfl) rfl rfl (Cok_token_wholeNumber) (Lp_token_wholeNumber)).weak (by
  intro us k h
  unfold q_token_wholeNumber at h
  split at h
  · skip
    rename_i a0
    rw [raw_token_wholeNumber a0 k]
    exact h
  · exact h.elim)

abbrev T_strings_trimLeftByte := List UInt8 → Int → (List UInt8 → Prop) → Prop
def q_strings_trimLeftByte (A : T_strings_trimLeftByte) (us : List W) (k : W → Prop) : Prop := match us with
  | [.s a0, .i .u8 a1] => A a0 a1 (fun r0 => k (.s r0))
  | _ => False
theorem q_strings_trimLeftByte_weak {A A2 : T_strings_trimLeftByte} (h : FnOK sy Tryz.prog GT (ovD ro) ro 104 (q_strings_trimLeftByte A)) (hA : ∀ a0 a1 K, A2 a0 a1 K → A a0 a1 K) : FnOK sy Tryz.prog GT (ovD ro) ro 104 (q_strings_trimLeftByte A2) := h.weak (by
  intro us k h
  unfold q_strings_trimLeftByte at h ⊢
  split at h
  · exact hA _ _ _ h
  · exact h.elim)

def F_strings_trimLeftByte_l1 : Nat → List UInt8 → Int → (List UInt8 → Prop) → Prop
  | 0, _, _, _ => False
  | n + 1, x0, x1, Ke => (((decide ((0 : Int) < (x0.length : Int))) = true → ((0 ≤ (0 : Int) ∧ (0 : Int) < (x0.length : Int)) ∧ (((decide (((x0.getD 0 0).toNat : Int) = x1)) = true → ((0 ≤ (1 : Int) ∧ (1 : Int) ≤ (x0.length : Int)) ∧ F_strings_trimLeftByte_l1 n (x0.drop 1) x1 Ke)) ∧ ((decide (((x0.getD 0 0).toNat : Int) = x1)) = false → Ke x0)))) ∧ ((decide ((0 : Int) < (x0.length : Int))) = false → Ke x0))

def F_strings_trimLeftByte (a0 : List UInt8) (a1 : Int) (K : List UInt8 → Prop) : Prop :=
  (∃ m, F_strings_trimLeftByte_l1 m a0 a1 (fun y1 => K y1))

def C_strings_trimLeftByte : CallT sg := tab []
theorem Cok_strings_trimLeftByte (o0 : Nat → Prop) : CalOK sy Tryz.prog GT (ovD ro) o0 ro (C_strings_trimLeftByte) := tab_nil o0

def ls_strings_trimLeftByte_1 : LS sy ((List UInt8) × Int × Unit) Unit := ⟨[], fCons 0 (vStr sy) (fCons 1 (vInt sy .u8) (fNil sy)), hNil sy, 0, []⟩
def le_strings_trimLeftByte_1 : LS sy ((List UInt8) × Unit) Unit := ⟨[], fCons 0 (vStr sy) (fNil sy), hNil sy, 0, []⟩
def lr_strings_trimLeftByte_1 : LS sy Unit Unit := ⟨[], fNil sy, hNil sy, 0, []⟩
def FF_strings_trimLeftByte_1 (n : Nat) (x : ((List UInt8) × Int × Unit) × Unit) (K : Ex → Z sg → Prop) : Prop := F_strings_trimLeftByte_l1 n x.1.1 x.1.2.1 (fun y0 => K (.exit 0) (le_strings_trimLeftByte_1.put ((y0, ()), ())))
def h_strings_trimLeftByte_1 (z : Z sg) (K : Ex → Z sg → Prop) : Prop := ls_strings_trimLeftByte_1.get z (fun x => ∃ n, FF_strings_trimLeftByte_1 n x K)
def L_strings_trimLeftByte : LoopT sg := tabL [(1, h_strings_trimLeftByte_1)]
theorem hs_strings_trimLeftByte_1 (n : Nat) (x : ((List UInt8) × Int × Unit) × Unit) (K : Ex → Z sg → Prop) : forceZ (ls_strings_trimLeftByte_1.put x) (fun z => sC sy Tryz.prog GT (C_strings_trimLeftByte) (L_strings_trimLeftByte) Tryz.f104.ntmps (nthLoop (bodyOf Tryz.f104) 0) z (rnd ls_strings_trimLeftByte_1 (czT 0 le_strings_trimLeftByte_1 lr_strings_trimLeftByte_1) (fun x => FF_strings_trimLeftByte_1 n x K) K)) = FF_strings_trimLeftByte_1 (n + 1) x K := by kernel_rfl
theorem hl_strings_trimLeftByte_1 (z : Z sg) (K : Ex → Z sg → Prop) : (L_strings_trimLeftByte) (nthLoop (bodyOf Tryz.f104) 0) z K = ls_strings_trimLeftByte_1.get z (fun x => ∃ n, FF_strings_trimLeftByte_1 n x K) := by kernel_rfl
theorem lo_strings_trimLeftByte_1 : ∀ (o0 : Nat → Prop) (B : Bs sg), B.E.length ≤ 0 → ∀ z K, (L_strings_trimLeftByte) (nthLoop (bodyOf Tryz.f104) 0) z K → Sx.Sem sy Tryz.prog GT (ovD ro) o0 ro Tryz.f104.ntmps B (.loop (nthLoop (bodyOf Tryz.f104) 0)) z K :=
  loop_ok (Cok_strings_trimLeftByte) (lp_of (l := []) (by kernel_rfl) lp_nil) ls_strings_trimLeftByte_1 (by decide) (czT 0 le_strings_trimLeftByte_1 lr_strings_trimLeftByte_1) (fun _ _ hB => czT_ok 0 le_strings_trimLeftByte_1 lr_strings_trimLeftByte_1 (Nat.le_trans hB (by decide)) (Nat.le_trans hB (by decide))) (fun _ _ h => h) (hs_strings_trimLeftByte_1) (hl_strings_trimLeftByte_1)
theorem Lp_strings_trimLeftByte : LpOK sy Tryz.prog GT (ovD ro) ro (L_strings_trimLeftByte) 0 Tryz.f104.ntmps (bodyOf Tryz.f104) := lp_of (l := [(nthLoop (bodyOf Tryz.f104) 0)]) (by kernel_rfl) (lp_cons (lo_strings_trimLeftByte_1) lp_nil)


theorem raw_strings_trimLeftByte (a0 : List UInt8) (a1 : Int) (k : W → Prop) : fnT sy Tryz.prog GT (C_strings_trimLeftByte) (L_strings_trimLeftByte) Tryz.f104.ntmps (bodyOf Tryz.f104) [none] Tryz.f104.results.toList [.s a0, .i .u8 a1] k = F_strings_trimLeftByte a0 a1 (fun r0 => k (.s r0)) := by kernel_rfl

theorem ok_strings_trimLeftByte : FnOK sy Tryz.prog GT (ovD ro) ro 104 (q_strings_trimLeftByte (F_strings_trimLeftByte)) := (fn_ok (rc := [none]) (f := 104) (fn := Tryz.f104) (c := bodyOf Tryz.f104) (nt := Tryz.f104.ntmps) (res := Tryz.f104.results.toList) (C := C_strings_trimLeftByte) (L := (L_strings_trimLeftByte)) (fun _ _ => rfl) Tryz.func104 (by kernel_rfl) rfl rfl (Cok_strings_trimLeftByte) (Lp_strings_trimLeftByte)).weak (by
  intro us k h
  unfold q_strings_trimLeftByte at h
  split at h
  · skip
    rename_i a0 a1
    rw [raw_strings_trimLeftByte a0 a1 k]
    exact h
  · exact h.elim)

abbrev T_strings_TrimLeft := List UInt8 → List UInt8 → (List UInt8 → Prop) → Prop
def q_strings_TrimLeft (A : T_strings_TrimLeft) (us : List W) (k : W → Prop) : Prop := match us with
  | [.s a0, .s a1] => A a0 a1 (fun r0 => k (.s r0))
  | _ => False
theorem q_strings_TrimLeft_weak {A A2 : T_strings_TrimLeft} (h : FnOK sy Tryz.prog GT (ovD ro) ro 103 (q_strings_TrimLeft A)) (hA : ∀ a0 a1 K, A2 a0 a1 K → A a0 a1 K) : FnOK sy Tryz.prog GT (ovD ro) ro 103 (q_strings_TrimLeft A2) := h.weak (by
  intro us k h
  unfold q_strings_TrimLeft at h ⊢
  split at h
  · exact hA _ _ _ h
  · exact h.elim)

def F_strings_TrimLeft (A104 : T_strings_trimLeftByte) (a0 : List UInt8) (a1 : List UInt8) (K : List UInt8 → Prop) : Prop :=
  (((a0 == ([] : List UInt8)) = false → (((a1 == ([] : List UInt8)) = true → K a0) ∧ ((a1 == ([] : List UInt8)) = false → (((decide ((a1.length : Int) = (1 : Int))) = true → ((0 ≤ (0 : Int) ∧ (0 : Int) < (a1.length : Int)) ∧ (((decide (((a1.getD 0 0).toNat : Int) < (128 : Int))) = true → ((0 ≤ (0 : Int) ∧ (0 : Int) < (a1.length : Int)) ∧ (A104 a0 ((a1.getD 0 0).toNat : Int) (fun y1 => K y1)))) ∧ ((decide (((a1.getD 0 0).toNat : Int) < (128 : Int))) = false → False)))) ∧ ((decide ((a1.length : Int) = (1 : Int))) = false → False))))) ∧ ((a0 == ([] : List UInt8)) = true → K a0))

def C_strings_TrimLeft (A104 : T_strings_trimLeftByte) : CallT sg := tab [(104, con [none, none] (q_strings_trimLeftByte A104)), (105, con [] noT), (106, con [] noT), (107, con [] noT)]
theorem Cok_strings_TrimLeft (A104 : T_strings_trimLeftByte) (h104 : FnOK sy Tryz.prog GT (ovD ro) ro 104 (q_strings_trimLeftByte A104)) (o0 : Nat → Prop) : CalOK sy Tryz.prog GT (ovD ro) o0 ro (C_strings_TrimLeft A104) := (tab_cons (con_ok h104) (tab_cons (con_ok (noT_ok 105)) (tab_cons (con_ok (noT_ok 106)) (tab_cons (con_ok (noT_ok 107)) tab_nil)))) o0

theorem raw_strings_TrimLeft (A104 : T_strings_trimLeftByte) (a0 : List UInt8) (a1 : List UInt8) (k : W → Prop) : fnT sy Tryz.prog GT (C_strings_TrimLeft A104) noL Tryz.f103.ntmps (bodyOf Tryz.f103) [none] Tryz.f103.results.toList [.s a0, .s a1] k = F_strings_TrimLeft A104 a0 a1 (fun r0 => k (.s r0)) := by kernel_rfl

theorem ok_strings_TrimLeft (A104 : T_strings_trimLeftByte) (h104 : FnOK sy Tryz.prog GT (ovD ro) ro 104 (q_strings_trimLeftByte A104)) : FnOK sy Tryz.prog GT (ovD ro) ro 103 (q_strings_TrimLeft (F_strings_TrimLeft A104)) := (fn_ok (rc := [none]) (f := 103) (fn := Tryz.f103) (c := bodyOf Tryz.f103) (nt := Tryz.f103.ntmps) (res := Tryz.f103.results.toList) (C := C_strings_TrimLeft A104) (L := noL) (fun _ _ => rfl) Tryz.func103 (by kernel_rfl) rfl rfl (Cok_strings_TrimLeft A104 h104) (lp_of (l := []) (by kernel_rfl) lp_nil)).weak (by
  intro us k h
  unfold q_strings_TrimLeft at h
  split at h
  · skip
    rename_i a0 a1
    rw [raw_strings_TrimLeft A104 a0 a1 k]
    exact h
  · exact h.elim)

abbrev T_token_cutNumber := List UInt8 → Int → (Int → Prop) → Prop
def q_token_cutNumber (A : T_token_cutNumber) (us : List W) (k : W → Prop) : Prop := match us with
  | [.s a0, .i .i64 a1] => A a0 a1 (fun r0 => k (.i .i64 r0))
  | _ => False
theorem q_token_cutNumber_weak {A A2 : T_token_cutNumber} (h : FnOK sy Tryz.prog GT (ovD ro) ro 95 (q_token_cutNumber A)) (hA : ∀ a0 a1 K, A2 a0 a1 K → A a0 a1 K) : FnOK sy Tryz.prog GT (ovD ro) ro 95 (q_token_cutNumber A2) := h.weak (by
  intro us k h
  unfold q_token_cutNumber at h ⊢
  split at h
  · exact hA _ _ _ h
  · exact h.elim)

def F_token_cutNumber_l9 (A103 : T_strings_TrimLeft) : Nat → List UInt8 → Int → Int → Int → (Int → Prop) → Prop
  | 0, _, _, _, _, _ => False
  | n + 1, x5, x6, x25, x26, Ke => (((decide (x26 < x25)) = true → (I64 (x6 * (10 : Int)) ∧ (((decide (x26 < (x5.length : Int))) = true → ((0 ≤ x26 ∧ x26 < (x5.length : Int)) ∧ (I64 (IntKind.u8.wrap (((x5.getD x26.toNat 0).toNat : Int) - (48 : Int))) ∧ (I64 ((x6 * (10 : Int)) + (IntKind.u8.wrap (((x5.getD x26.toNat 0).toNat : Int) - (48 : Int)))) ∧ (I64 (x26 + (1 : Int)) ∧ F_token_cutNumber_l9 A103 n x5 ((x6 * (10 : Int)) + (IntKind.u8.wrap (((x5.getD x26.toNat 0).toNat : Int) - (48 : Int)))) x25 (x26 + (1 : Int)) Ke))))) ∧ ((decide (x26 < (x5.length : Int))) = false → (I64 (x26 + (1 : Int)) ∧ F_token_cutNumber_l9 A103 n x5 (x6 * (10 : Int)) x25 (x26 + (1 : Int)) Ke))))) ∧ ((decide (x26 < x25)) = false → Ke x6))

def F_token_cutNumber (A103 : T_strings_TrimLeft) (a0 : List UInt8) (a1 : Int) (K : Int → Prop) : Prop :=
  (A103 a0 ([48] : List UInt8) (fun y1 => (I64 ((a0.length : Int) - (y1.length : Int)) ∧ (I64 (a1 - ((a0.length : Int) - (y1.length : Int))) ∧ (((y1 == ([] : List UInt8)) = false → (((decide ((a1 - ((a0.length : Int) - (y1.length : Int))) ≤ (0 : Int))) = true → K (0 : Int)) ∧ ((decide ((a1 - ((a0.length : Int) - (y1.length : Int))) ≤ (0 : Int))) = false → (((decide ((13 : Int) < (a1 - ((a0.length : Int) - (y1.length : Int))))) = true → K (1000000000000 : Int)) ∧ ((decide ((13 : Int) < (a1 - ((a0.length : Int) - (y1.length : Int))))) = false → (∃ m, F_token_cutNumber_l9 A103 m y1 (0 : Int) (a1 - ((a0.length : Int) - (y1.length : Int))) (0 : Int) (fun y2 => K (if (1000000000000 : Int) < y2 then (1000000000000 : Int) else y2)))))))) ∧ ((y1 == ([] : List UInt8)) = true → K (0 : Int)))))))

def C_token_cutNumber (A103 : T_strings_TrimLeft) : CallT sg := tab [(103, con [none, none] (q_strings_TrimLeft A103))]
theorem Cok_token_cutNumber (A103 : T_strings_TrimLeft) (h103 : FnOK sy Tryz.prog GT (ovD ro) ro 103 (q_strings_TrimLeft A103)) (o0 : Nat → Prop) : CalOK sy Tryz.prog GT (ovD ro) o0 ro (C_token_cutNumber A103) := (tab_cons (con_ok h103) tab_nil) o0

def ls_token_cutNumber_9 : LS sy ((List UInt8) × Int × Int × Int × Unit) Unit := ⟨[], fCons 5 (vStr sy) (fCons 6 (vInt sy .i64) (fCons 25 (vInt sy .i64) (fCons 26 (vInt sy .i64) (fNil sy)))), hNil sy, 0, []⟩
def le_token_cutNumber_9 : LS sy (Int × Unit) Unit := ⟨[], fCons 6 (vInt sy .i64) (fNil sy), hNil sy, 0, []⟩
def lr_token_cutNumber_9 : LS sy Unit Unit := ⟨[], fNil sy, hNil sy, 0, []⟩
def FF_token_cutNumber_9 (A103 : T_strings_TrimLeft) (n : Nat) (x : ((List UInt8) × Int × Int × Int × Unit) × Unit) (K : Ex → Z sg → Prop) : Prop := F_token_cutNumber_l9 A103 n x.1.1 x.1.2.1 x.1.2.2.1 x.1.2.2.2.1 (fun y0 => K (.exit 0) (le_token_cutNumber_9.put ((y0, ()), ())))
def h_token_cutNumber_9 (A103 : T_strings_TrimLeft) (z : Z sg) (K : Ex → Z sg → Prop) : Prop := ls_token_cutNumber_9.get z (fun x => ∃ n, FF_token_cutNumber_9 A103 n x K)
def L_token_cutNumber (A103 : T_strings_TrimLeft) : LoopT sg := tabL [(9, h_token_cutNumber_9 A103)]
theorem hs_token_cutNumber_9 (A103 : T_strings_TrimLeft) (n : Nat) (x : ((List UInt8) × Int × Int × Int × Unit) × Unit) (K : Ex → Z sg → Prop) : forceZ (ls_token_cutNumber_9.put x) (fun z => sC sy Tryz.prog GT (C_token_cutNumber A103) (L_token_cutNumber A103) Tryz.f95.ntmps (nthLoop (bodyOf Tryz.f95) 0) z (rnd ls_token_cutNumber_9 (czT 0 le_token_cutNumber_9 lr_token_cutNumber_9) (fun x => FF_token_cutNumber_9 A103 n x K) K)) = FF_token_cutNumber_9 A103 (n + 1) x K := by kernel_rfl
theorem hl_token_cutNumber_9 (A103 : T_strings_TrimLeft) (z : Z sg) (K : Ex → Z sg → Prop) : (L_token_cutNumber A103) (nthLoop (bodyOf Tryz.f95) 0) z K = ls_token_cutNumber_9.get z (fun x => ∃ n, FF_token_cutNumber_9 A103 n x K) := by kernel_rfl
theorem lo_token_cutNumber_9 (A103 : T_strings_TrimLeft) (h103 : FnOK sy Tryz.prog GT (ovD ro) ro 103 (q_strings_TrimLeft A103)) : ∀ (o0 : Nat → Prop) (B : Bs sg), B.E.length ≤ 0 → ∀ z K, (L_token_cutNumber A103) (nthLoop (bodyOf Tryz.f95) 0) z K → Sx.Sem sy Tryz.prog GT (ovD ro) o0 ro Tryz.f95.ntmps B (.loop (nthLoop (bodyOf Tryz.f95) 0)) z K :=
  loop_ok (Cok_token_cutNumber A103 h103) (lp_of (l := []) (by kernel_rfl) lp_nil) ls_token_cutNumber_9 (by decide) (czT 0 le_token_cutNumber_9 lr_token_cutNumber_9) (fun _ _ hB => czT_ok 0 le_token_cutNumber_9 lr_token_cutNumber_9 (Nat.le_trans hB (by decide)) (Nat.le_trans hB (by decide))) (fun _ _ h => h) (hs_token_cutNumber_9 A103) (hl_token_cutNumber_9 A103)
theorem Lp_token_cutNumber (A103 : T_strings_TrimLeft) (h103 : FnOK sy Tryz.prog GT (ovD ro) ro 103 (q_strings_TrimLeft A103)) : LpOK sy Tryz.prog GT (ovD ro) ro (L_token_cutNumber A103) 0 Tryz.f95.ntmps (bodyOf Tryz.f95) := lp_of (l := [(nthLoop (bodyOf Tryz.f95) 0)]) (by kernel_rfl) (lp_cons (lo_token_cutNumber_9 A103 h103) lp_nil)


theorem raw_token_cutNumber (A103 : T_strings_TrimLeft) (a0 : List UInt8) (a1 : Int) (k : W → Prop) : fnT sy Tryz.prog GT (C_token_cutNumber A103) (L_token_cutNumber A103) Tryz.f95.ntmps (bodyOf Tryz.f95) [none] Tryz.f95.results.toList [.s a0, .i .i64 a1] k = F_token_cutNumber A103 a0 a1 (fun r0 => k (.i .i64 r0)) := by kernel_rfl

theorem ok_token_cutNumber (A103 : T_strings_TrimLeft) (h103 : FnOK sy Tryz.prog GT (ovD ro) ro 103 (q_strings_TrimLeft A103)) : FnOK sy Tryz.prog GT (ovD ro) ro 95 (q_token_cutNumber (F_token_cutNumber A103)) := (fn_ok (rc := [none]) (f := 95) (fn := Tryz.f95) (c := bodyOf Tryz.f95) (nt := Tryz.f95.ntmps) (res := Tryz.f95.results.toList) (C := C_token_cutNumber A103) (L := (L_token_cutNumber A103)) (fun _ _ => rfl) Tryz.func95 (by kernel_rfl) rfl rfl (Cok_token_cutNumber A103 h103) (Lp_token_cutNumber A103 h103)).weak (by
  intro us k h
  unfold q_token_cutNumber at h
  split at h
  · skip
    rename_i a0 a1
    rw [raw_token_cutNumber A103 a0 a1 k]
    exact h
  · exact h.elim)

def C_token_readNumber_1 (A68 : T_token_byteAt) (A73 : T_token_isSign) : CallT sg := tab [(68, con [none, none] (q_token_byteAt A68)), (73, con [none] (q_token_isSign A73))]
theorem Cok_token_readNumber_1 (A68 : T_token_byteAt) (A73 : T_token_isSign) (h68 : FnOK sy Tryz.prog GT (ovD ro) ro 68 (q_token_byteAt A68)) (h73 : FnOK sy Tryz.prog GT (ovD ro) ro 73 (q_token_isSign A73)) (o0 : Nat → Prop) : CalOK sy Tryz.prog GT (ovD ro) o0 ro (C_token_readNumber_1 A68 A73) := (tab_cons (con_ok h68) (tab_cons (con_ok h73) tab_nil)) o0

def F_token_readNumber_2_l2 (A68 : T_token_byteAt) (A62 : T_char_IsDigit) : Nat → Int → List UInt8 → Int → (Int → List UInt8 → Int → Prop) → Prop
  | 0, _, _, _, _ => False
  | n + 1, x3, c0_0, c1_0, Ke => (A68 c0_0 c1_0 (fun y1 => (A62 y1 (fun y2 => ((y2 = true → (I64 (c1_0 + (1 : Int)) ∧ F_token_readNumber_2_l2 A68 A62 n x3 c0_0 (c1_0 + (1 : Int)) Ke)) ∧ (y2 = false → Ke x3 c0_0 c1_0))))))

def C_token_readNumber_2 (A68 : T_token_byteAt) (A62 : T_char_IsDigit) : CallT sg := tab [(68, con [none, none] (q_token_byteAt A68)), (62, con [none] (q_char_IsDigit A62))]
theorem Cok_token_readNumber_2 (A68 : T_token_byteAt) (A62 : T_char_IsDigit) (h68 : FnOK sy Tryz.prog GT (ovD ro) ro 68 (q_token_byteAt A68)) (h62 : FnOK sy Tryz.prog GT (ovD ro) ro 62 (q_char_IsDigit A62)) (o0 : Nat → Prop) : CalOK sy Tryz.prog GT (ovD ro) o0 ro (C_token_readNumber_2 A68 A62) := (tab_cons (con_ok h68) (tab_cons (con_ok h62) tab_nil)) o0

def ls_token_readNumber_2_2 : LS sy (Unit × Unit × Int × Unit) (((List UInt8) × Unit) × (Int × Unit) × Unit) := ⟨[], fCons 0 (vLit sy (.p 1 0)) (fCons 1 (vLit sy (.p 0 0)) (fCons 3 (vInt sy .i64) (fNil sy))), hCells 0 (lCons (vStr sy) (lNil sy)) (hCells 1 (lCons (vInt sy .i64) (lNil sy)) (hNil sy)), 2, []⟩
def le_token_readNumber_2_2 : LS sy (Unit × Unit × Int × Unit) (((List UInt8) × Unit) × (Int × Unit) × Unit) := ⟨[], fCons 0 (vLit sy (.p 1 0)) (fCons 1 (vLit sy (.p 0 0)) (fCons 3 (vInt sy .i64) (fNil sy))), hCells 0 (lCons (vStr sy) (lNil sy)) (hCells 1 (lCons (vInt sy .i64) (lNil sy)) (hNil sy)), 2, []⟩
def lr_token_readNumber_2_2 : LS sy Unit Unit := ⟨[], fNil sy, hNil sy, 2, []⟩
def FF_token_readNumber_2_2 (A68 : T_token_byteAt) (A62 : T_char_IsDigit) (n : Nat) (x : (Unit × Unit × Int × Unit) × (((List UInt8) × Unit) × (Int × Unit) × Unit)) (K : Ex → Z sg → Prop) : Prop := F_token_readNumber_2_l2 A68 A62 n x.1.2.2.1 x.2.1.1 x.2.2.1.1 (fun y0 y1 y2 => K (.exit 0) (le_token_readNumber_2_2.put (((), (), y0, ()), ((y1, ()), (y2, ()), ()))))
def h_token_readNumber_2_2 (A68 : T_token_byteAt) (A62 : T_char_IsDigit) (z : Z sg) (K : Ex → Z sg → Prop) : Prop := ls_token_readNumber_2_2.get z (fun x => ∃ n, FF_token_readNumber_2_2 A68 A62 n x K)
def L_token_readNumber_2 (A68 : T_token_byteAt) (A62 : T_char_IsDigit) : LoopT sg := tabL [(2, h_token_readNumber_2_2 A68 A62)]
theorem hs_token_readNumber_2_2 (A68 : T_token_byteAt) (A62 : T_char_IsDigit) (n : Nat) (x : (Unit × Unit × Int × Unit) × (((List UInt8) × Unit) × (Int × Unit) × Unit)) (K : Ex → Z sg → Prop) : forceZ (ls_token_readNumber_2_2.put x) (fun z => sC sy Tryz.prog GT (C_token_readNumber_2 A68 A62) (L_token_readNumber_2 A68 A62) Tryz.f91.ntmps (nthLoop (bodyOf Tryz.f91) 0) z (rnd ls_token_readNumber_2_2 (czT 0 le_token_readNumber_2_2 lr_token_readNumber_2_2) (fun x => FF_token_readNumber_2_2 A68 A62 n x K) K)) = FF_token_readNumber_2_2 A68 A62 (n + 1) x K := by kernel_rfl
theorem hl_token_readNumber_2_2 (A68 : T_token_byteAt) (A62 : T_char_IsDigit) (z : Z sg) (K : Ex → Z sg → Prop) : (L_token_readNumber_2 A68 A62) (nthLoop (bodyOf Tryz.f91) 0) z K = ls_token_readNumber_2_2.get z (fun x => ∃ n, FF_token_readNumber_2_2 A68 A62 n x K) := by kernel_rfl
theorem lo_token_readNumber_2_2 (A68 : T_token_byteAt) (A62 : T_char_IsDigit) (h68 : FnOK sy Tryz.prog GT (ovD ro) ro 68 (q_token_byteAt A68)) (h62 : FnOK sy Tryz.prog GT (ovD ro) ro 62 (q_char_IsDigit A62)) : ∀ (o0 : Nat → Prop) (B : Bs sg), B.E.length ≤ 2 → ∀ z K, (L_token_readNumber_2 A68 A62) (nthLoop (bodyOf Tryz.f91) 0) z K → Sx.Sem sy Tryz.prog GT (ovD ro) o0 ro Tryz.f91.ntmps B (.loop (nthLoop (bodyOf Tryz.f91) 0)) z K :=
  loop_ok (Cok_token_readNumber_2 A68 A62 h68 h62) (lp_of (l := []) (by kernel_rfl) lp_nil) ls_token_readNumber_2_2 (by decide) (czT 0 le_token_readNumber_2_2 lr_token_readNumber_2_2) (fun _ _ hB => czT_ok 0 le_token_readNumber_2_2 lr_token_readNumber_2_2 (Nat.le_trans hB (by decide)) (Nat.le_trans hB (by decide))) (fun _ _ h => h) (hs_token_readNumber_2_2 A68 A62) (hl_token_readNumber_2_2 A68 A62)
theorem Lp_token_readNumber_2 (A68 : T_token_byteAt) (A62 : T_char_IsDigit) (h68 : FnOK sy Tryz.prog GT (ovD ro) ro 68 (q_token_byteAt A68)) (h62 : FnOK sy Tryz.prog GT (ovD ro) ro 62 (q_char_IsDigit A62)) : LpOK sy Tryz.prog GT (ovD ro) ro (L_token_readNumber_2 A68 A62) 2 Tryz.f91.ntmps (bodyOf Tryz.f91) := lp_of (l := [(nthLoop (bodyOf Tryz.f91) 0)]) (by kernel_rfl) (lp_cons (lo_token_readNumber_2_2 A68 A62 h68 h62) lp_nil)


abbrev T_token_readNumber := List UInt8 → Int → (Int → Bool → Int → Prop) → Prop
def q_token_readNumber (A : T_token_readNumber) (us : List W) (k : W → Prop) : Prop := match us with
  | [.s a0, .i .i64 a1] => A a0 a1 (fun r0 r1 r2 => k (.t [.i .i64 r0, .b r1, .i .i64 r2]))
  | _ => False
theorem q_token_readNumber_weak {A A2 : T_token_readNumber} (h : FnOK sy Tryz.prog GT (ovD ro) ro 75 (q_token_readNumber A)) (hA : ∀ a0 a1 K, A2 a0 a1 K → A a0 a1 K) : FnOK sy Tryz.prog GT (ovD ro) ro 75 (q_token_readNumber A2) := h.weak (by
  intro us k h
  unfold q_token_readNumber at h ⊢
  split at h
  · exact hA _ _ _ h
  · exact h.elim)

def F_token_readNumber (A74 : T_token_fractionStarts) (A68 : T_token_byteAt) (A92 : T_token_isExponentMark) (A93 : T_token_digitStarts) (A94 : T_token_wholeNumber) (A95 : T_token_cutNumber) (A73 : T_token_isSign) (A62 : T_char_IsDigit) (a0 : List UInt8) (a1 : Int) (K : Int → Bool → Int → Prop) : Prop :=
  (A68 a0 a1 (fun y1 => (A68 a0 a1 (fun y2 => (A73 y2 (fun y3 => ((y3 = true → (I64 (a1 + (1 : Int)) ∧ (∃ m, F_token_readNumber_2_l2 A68 A62 m (a1 + (1 : Int)) a0 (a1 + (1 : Int)) (fun y4 y5 y6 => ((0 ≤ y4 ∧ y4 ≤ y6 ∧ y6 ≤ (y5.length : Int)) ∧ (A74 y5 y6 (fun y7 => ((y7 = true → (I64 (y6 + (1 : Int)) ∧ (∃ m, F_token_readNumber_2_l2 A68 A62 m (y6 + (1 : Int)) y5 (y6 + (1 : Int)) (fun y8 y9 y10 => ((0 ≤ y8 ∧ y8 ≤ y10 ∧ y10 ≤ (y9.length : Int)) ∧ (A68 y9 y10 (fun y11 => (A92 y11 (fun y12 => ((y12 = true → (I64 (y10 + (1 : Int)) ∧ (A93 y9 (y10 + (1 : Int)) (fun y13 => ((y13 = true → (I64 (y10 + (1 : Int)) ∧ (A68 y9 (y10 + (1 : Int)) (fun y14 => (A68 y9 (y10 + (1 : Int)) (fun y15 => (A73 y15 (fun y16 => ((y16 = true → (I64 ((y10 + (1 : Int)) + (1 : Int)) ∧ (∃ m, F_token_readNumber_2_l2 A68 A62 m ((y10 + (1 : Int)) + (1 : Int)) y9 ((y10 + (1 : Int)) + (1 : Int)) (fun y17 y18 y19 => ((0 ≤ y17 ∧ y17 ≤ y19 ∧ y19 ≤ (y18.length : Int)) ∧ (A94 ((y18.drop y17.toNat).take (y19.toNat - y17.toNat)) (fun y20 => (((decide (y14 = (45 : Int))) = true → (I64 (0 - y20) ∧ (((y5.drop y4.toNat).take (y6.toNat - y4.toNat)).length + ((y9.drop y8.toNat).take (y10.toNat - y8.toNat)).length ≤ 1099511627776 ∧ (I64 ((((y5.drop y4.toNat).take (y6.toNat - y4.toNat)).length : Int) + (0 - y20)) ∧ (I64 (((((y5.drop y4.toNat).take (y6.toNat - y4.toNat)).length : Int) + (0 - y20)) + (3 : Int)) ∧ (A95 (((y5.drop y4.toNat).take (y6.toNat - y4.toNat)) ++ ((y9.drop y8.toNat).take (y10.toNat - y8.toNat))) (((((y5.drop y4.toNat).take (y6.toNat - y4.toNat)).length : Int) + (0 - y20)) + (3 : Int)) (fun y21 => (((decide (y1 = (45 : Int))) = true → (I64 (0 - y21) ∧ K (0 - y21) false y19)) ∧ ((decide (y1 = (45 : Int))) = false → K y21 false y19))))))))) ∧ ((decide (y14 = (45 : Int))) = false → (((y5.drop y4.toNat).take (y6.toNat - y4.toNat)).length + ((y9.drop y8.toNat).take (y10.toNat - y8.toNat)).length ≤ 1099511627776 ∧ (I64 ((((y5.drop y4.toNat).take (y6.toNat - y4.toNat)).length : Int) + y20) ∧ (I64 (((((y5.drop y4.toNat).take (y6.toNat - y4.toNat)).length : Int) + y20) + (3 : Int)) ∧ (A95 (((y5.drop y4.toNat).take (y6.toNat - y4.toNat)) ++ ((y9.drop y8.toNat).take (y10.toNat - y8.toNat))) (((((y5.drop y4.toNat).take (y6.toNat - y4.toNat)).length : Int) + y20) + (3 : Int)) (fun y22 => (((decide (y1 = (45 : Int))) = true → (I64 (0 - y22) ∧ K (0 - y22) false y19)) ∧ ((decide (y1 = (45 : Int))) = false → K y22 false y19)))))))))))))))) ∧ (y16 = false → (∃ m, F_token_readNumber_2_l2 A68 A62 m (y10 + (1 : Int)) y9 (y10 + (1 : Int)) (fun y23 y24 y25 => ((0 ≤ y23 ∧ y23 ≤ y25 ∧ y25 ≤ (y24.length : Int)) ∧ (A94 ((y24.drop y23.toNat).take (y25.toNat - y23.toNat)) (fun y26 => (((decide (y14 = (45 : Int))) = true → (I64 (0 - y26) ∧ (((y5.drop y4.toNat).take (y6.toNat - y4.toNat)).length + ((y9.drop y8.toNat).take (y10.toNat - y8.toNat)).length ≤ 1099511627776 ∧ (I64 ((((y5.drop y4.toNat).take (y6.toNat - y4.toNat)).length : Int) + (0 - y26)) ∧ (I64 (((((y5.drop y4.toNat).take (y6.toNat - y4.toNat)).length : Int) + (0 - y26)) + (3 : Int)) ∧ (A95 (((y5.drop y4.toNat).take (y6.toNat - y4.toNat)) ++ ((y9.drop y8.toNat).take (y10.toNat - y8.toNat))) (((((y5.drop y4.toNat).take (y6.toNat - y4.toNat)).length : Int) + (0 - y26)) + (3 : Int)) (fun y27 => (((decide (y1 = (45 : Int))) = true → (I64 (0 - y27) ∧ K (0 - y27) false y25)) ∧ ((decide (y1 = (45 : Int))) = false → K y27 false y25))))))))) ∧ ((decide (y14 = (45 : Int))) = false → (((y5.drop y4.toNat).take (y6.toNat - y4.toNat)).length + ((y9.drop y8.toNat).take (y10.toNat - y8.toNat)).length ≤ 1099511627776 ∧ (I64 ((((y5.drop y4.toNat).take (y6.toNat - y4.toNat)).length : Int) + y26) ∧ (I64 (((((y5.drop y4.toNat).take (y6.toNat - y4.toNat)).length : Int) + y26) + (3 : Int)) ∧ (A95 (((y5.drop y4.toNat).take (y6.toNat - y4.toNat)) ++ ((y9.drop y8.toNat).take (y10.toNat - y8.toNat))) (((((y5.drop y4.toNat).take (y6.toNat - y4.toNat)).length : Int) + y26) + (3 : Int)) (fun y28 => (((decide (y1 = (45 : Int))) = true → (I64 (0 - y28) ∧ K (0 - y28) false y25)) ∧ ((decide (y1 = (45 : Int))) = false → K y28 false y25)))))))))))))))))))))))) ∧ (y13 = false → (((y5.drop y4.toNat).take (y6.toNat - y4.toNat)).length + ((y9.drop y8.toNat).take (y10.toNat - y8.toNat)).length ≤ 1099511627776 ∧ (I64 ((((y5.drop y4.toNat).take (y6.toNat - y4.toNat)).length : Int) + (0 : Int)) ∧ (I64 (((((y5.drop y4.toNat).take (y6.toNat - y4.toNat)).length : Int) + (0 : Int)) + (3 : Int)) ∧ (A95 (((y5.drop y4.toNat).take (y6.toNat - y4.toNat)) ++ ((y9.drop y8.toNat).take (y10.toNat - y8.toNat))) (((((y5.drop y4.toNat).take (y6.toNat - y4.toNat)).length : Int) + (0 : Int)) + (3 : Int)) (fun y29 => (((decide (y1 = (45 : Int))) = true → (I64 (0 - y29) ∧ K (0 - y29) false y10)) ∧ ((decide (y1 = (45 : Int))) = false → K y29 false y10))))))))))))) ∧ (y12 = false → (((y5.drop y4.toNat).take (y6.toNat - y4.toNat)).length + ((y9.drop y8.toNat).take (y10.toNat - y8.toNat)).length ≤ 1099511627776 ∧ (I64 ((((y5.drop y4.toNat).take (y6.toNat - y4.toNat)).length : Int) + (0 : Int)) ∧ (I64 (((((y5.drop y4.toNat).take (y6.toNat - y4.toNat)).length : Int) + (0 : Int)) + (3 : Int)) ∧ (A95 (((y5.drop y4.toNat).take (y6.toNat - y4.toNat)) ++ ((y9.drop y8.toNat).take (y10.toNat - y8.toNat))) (((((y5.drop y4.toNat).take (y6.toNat - y4.toNat)).length : Int) + (0 : Int)) + (3 : Int)) (fun y30 => (((decide (y1 = (45 : Int))) = true → (I64 (0 - y30) ∧ K (0 - y30) false y10)) ∧ ((decide (y1 = (45 : Int))) = false → K y30 false y10)))))))))))))))))) ∧ (y7 = false → (A68 y5 y6 (fun y31 => (A92 y31 (fun y32 => ((y32 = true → (I64 (y6 + (1 : Int)) ∧ (A93 y5 (y6 + (1 : Int)) (fun y33 => ((y33 = true → (I64 (y6 + (1 : Int)) ∧ (A68 y5 (y6 + (1 : Int)) (fun y34 => (A68 y5 (y6 + (1 : Int)) (fun y35 => (A73 y35 (fun y36 => ((y36 = true → (I64 ((y6 + (1 : Int)) + (1 : Int)) ∧ (∃ m, F_token_readNumber_2_l2 A68 A62 m ((y6 + (1 : Int)) + (1 : Int)) y5 ((y6 + (1 : Int)) + (1 : Int)) (fun y37 y38 y39 => ((0 ≤ y37 ∧ y37 ≤ y39 ∧ y39 ≤ (y38.length : Int)) ∧ (A94 ((y38.drop y37.toNat).take (y39.toNat - y37.toNat)) (fun y40 => (((decide (y34 = (45 : Int))) = true → (I64 (0 - y40) ∧ (((y5.drop y4.toNat).take (y6.toNat - y4.toNat)).length + ([] : List UInt8).length ≤ 1099511627776 ∧ (I64 ((((y5.drop y4.toNat).take (y6.toNat - y4.toNat)).length : Int) + (0 - y40)) ∧ (I64 (((((y5.drop y4.toNat).take (y6.toNat - y4.toNat)).length : Int) + (0 - y40)) + (3 : Int)) ∧ (A95 (((y5.drop y4.toNat).take (y6.toNat - y4.toNat)) ++ ([] : List UInt8)) (((((y5.drop y4.toNat).take (y6.toNat - y4.toNat)).length : Int) + (0 - y40)) + (3 : Int)) (fun y41 => (((decide (y1 = (45 : Int))) = true → (I64 (0 - y41) ∧ K (0 - y41) false y39)) ∧ ((decide (y1 = (45 : Int))) = false → K y41 false y39))))))))) ∧ ((decide (y34 = (45 : Int))) = false → (((y5.drop y4.toNat).take (y6.toNat - y4.toNat)).length + ([] : List UInt8).length ≤ 1099511627776 ∧ (I64 ((((y5.drop y4.toNat).take (y6.toNat - y4.toNat)).length : Int) + y40) ∧ (I64 (((((y5.drop y4.toNat).take (y6.toNat - y4.toNat)).length : Int) + y40) + (3 : Int)) ∧ (A95 (((y5.drop y4.toNat).take (y6.toNat - y4.toNat)) ++ ([] : List UInt8)) (((((y5.drop y4.toNat).take (y6.toNat - y4.toNat)).length : Int) + y40) + (3 : Int)) (fun y42 => (((decide (y1 = (45 : Int))) = true → (I64 (0 - y42) ∧ K (0 - y42) false y39)) ∧ ((decide (y1 = (45 : Int))) = false → K y42 false y39)))))))))))))))) ∧ (y36 = false → (∃ m, F_token_readNumber_2_l2 A68 A62 m (y6 + (1 : Int)) y5 (y6 + (1 : Int)) (fun y43 y44 y45 => ((0 ≤ y43 ∧ y43 ≤ y45 ∧ y45 ≤ (y44.length : Int)) ∧ (A94 ((y44.drop y43.toNat).take (y45.toNat - y43.toNat)) (fun y46 => (((decide (y34 = (45 : Int))) = true → (I64 (0 - y46) ∧ (((y5.drop y4.toNat).take (y6.toNat - y4.toNat)).length + ([] : List UInt8).length ≤ 1099511627776 ∧ (I64 ((((y5.drop y4.toNat).take (y6.toNat - y4.toNat)).length : Int) + (0 - y46)) ∧ (I64 (((((y5.drop y4.toNat).take (y6.toNat - y4.toNat)).length : Int) + (0 - y46)) + (3 : Int)) ∧ (A95 (((y5.drop y4.toNat).take (y6.toNat - y4.toNat)) ++ ([] : List UInt8)) (((((y5.drop y4.toNat).take (y6.toNat - y4.toNat)).length : Int) + (0 - y46)) + (3 : Int)) (fun y47 => (((decide (y1 = (45 : Int))) = true → (I64 (0 - y47) ∧ K (0 - y47) false y45)) ∧ ((decide (y1 = (45 : Int))) = false → K y47 false y45))))))))) ∧ ((decide (y34 = (45 : Int))) = false → (((y5.drop y4.toNat).take (y6.toNat - y4.toNat)).length + ([] : List UInt8).length ≤ 1099511627776 ∧ (I64 ((((y5.drop y4.toNat).take (y6.toNat - y4.toNat)).length : Int) + y46) ∧ (I64 (((((y5.drop y4.toNat).take (y6.toNat - y4.toNat)).length : Int) + y46) + (3 : Int)) ∧ (A95 (((y5.drop y4.toNat).take (y6.toNat - y4.toNat)) ++ ([] : List UInt8)) (((((y5.drop y4.toNat).take (y6.toNat - y4.toNat)).length : Int) + y46) + (3 : Int)) (fun y48 => (((decide (y1 = (45 : Int))) = true → (I64 (0 - y48) ∧ K (0 - y48) false y45)) ∧ ((decide (y1 = (45 : Int))) = false → K y48 false y45)))))))))))))))))))))))) ∧ (y33 = false → (((y5.drop y4.toNat).take (y6.toNat - y4.toNat)).length + ([] : List UInt8).length ≤ 1099511627776 ∧ (I64 ((((y5.drop y4.toNat).take (y6.toNat - y4.toNat)).length : Int) + (0 : Int)) ∧ (I64 (((((y5.drop y4.toNat).take (y6.toNat - y4.toNat)).length : Int) + (0 : Int)) + (3 : Int)) ∧ (A95 (((y5.drop y4.toNat).take (y6.toNat - y4.toNat)) ++ ([] : List UInt8)) (((((y5.drop y4.toNat).take (y6.toNat - y4.toNat)).length : Int) + (0 : Int)) + (3 : Int)) (fun y49 => (((decide (y1 = (45 : Int))) = true → (I64 (0 - y49) ∧ K (0 - y49) true y6)) ∧ ((decide (y1 = (45 : Int))) = false → K y49 true y6))))))))))))) ∧ (y32 = false → (((y5.drop y4.toNat).take (y6.toNat - y4.toNat)).length + ([] : List UInt8).length ≤ 1099511627776 ∧ (I64 ((((y5.drop y4.toNat).take (y6.toNat - y4.toNat)).length : Int) + (0 : Int)) ∧ (I64 (((((y5.drop y4.toNat).take (y6.toNat - y4.toNat)).length : Int) + (0 : Int)) + (3 : Int)) ∧ (A95 (((y5.drop y4.toNat).take (y6.toNat - y4.toNat)) ++ ([] : List UInt8)) (((((y5.drop y4.toNat).take (y6.toNat - y4.toNat)).length : Int) + (0 : Int)) + (3 : Int)) (fun y50 => (((decide (y1 = (45 : Int))) = true → (I64 (0 - y50) ∧ K (0 - y50) true y6)) ∧ ((decide (y1 = (45 : Int))) = false → K y50 true y6)))))))))))))))))))))) ∧ (y3 = false → (∃ m, F_token_readNumber_2_l2 A68 A62 m a1 a0 a1 (fun y51 y52 y53 => ((0 ≤ y51 ∧ y51 ≤ y53 ∧ y53 ≤ (y52.length : Int)) ∧ (A74 y52 y53 (fun y54 => ((y54 = true → (I64 (y53 + (1 : Int)) ∧ (∃ m, F_token_readNumber_2_l2 A68 A62 m (y53 + (1 : Int)) y52 (y53 + (1 : Int)) (fun y55 y56 y57 => ((0 ≤ y55 ∧ y55 ≤ y57 ∧ y57 ≤ (y56.length : Int)) ∧ (A68 y56 y57 (fun y58 => (A92 y58 (fun y59 => ((y59 = true → (I64 (y57 + (1 : Int)) ∧ (A93 y56 (y57 + (1 : Int)) (fun y60 => ((y60 = true → (I64 (y57 + (1 : Int)) ∧ (A68 y56 (y57 + (1 : Int)) (fun y61 => (A68 y56 (y57 + (1 : Int)) (fun y62 => (A73 y62 (fun y63 => ((y63 = true → (I64 ((y57 + (1 : Int)) + (1 : Int)) ∧ (∃ m, F_token_readNumber_2_l2 A68 A62 m ((y57 + (1 : Int)) + (1 : Int)) y56 ((y57 + (1 : Int)) + (1 : Int)) (fun y64 y65 y66 => ((0 ≤ y64 ∧ y64 ≤ y66 ∧ y66 ≤ (y65.length : Int)) ∧ (A94 ((y65.drop y64.toNat).take (y66.toNat - y64.toNat)) (fun y67 => (((decide (y61 = (45 : Int))) = true → (I64 (0 - y67) ∧ (((y52.drop y51.toNat).take (y53.toNat - y51.toNat)).length + ((y56.drop y55.toNat).take (y57.toNat - y55.toNat)).length ≤ 1099511627776 ∧ (I64 ((((y52.drop y51.toNat).take (y53.toNat - y51.toNat)).length : Int) + (0 - y67)) ∧ (I64 (((((y52.drop y51.toNat).take (y53.toNat - y51.toNat)).length : Int) + (0 - y67)) + (3 : Int)) ∧ (A95 (((y52.drop y51.toNat).take (y53.toNat - y51.toNat)) ++ ((y56.drop y55.toNat).take (y57.toNat - y55.toNat))) (((((y52.drop y51.toNat).take (y53.toNat - y51.toNat)).length : Int) + (0 - y67)) + (3 : Int)) (fun y68 => (((decide (y1 = (45 : Int))) = true → (I64 (0 - y68) ∧ K (0 - y68) false y66)) ∧ ((decide (y1 = (45 : Int))) = false → K y68 false y66))))))))) ∧ ((decide (y61 = (45 : Int))) = false → (((y52.drop y51.toNat).take (y53.toNat - y51.toNat)).length + ((y56.drop y55.toNat).take (y57.toNat - y55.toNat)).length ≤ 1099511627776 ∧ (I64 ((((y52.drop y51.toNat).take (y53.toNat - y51.toNat)).length : Int) + y67) ∧ (I64 (((((y52.drop y51.toNat).take (y53.toNat - y51.toNat)).length : Int) + y67) + (3 : Int)) ∧ (A95 (((y52.drop y51.toNat).take (y53.toNat - y51.toNat)) ++ ((y56.drop y55.toNat).take (y57.toNat - y55.toNat))) (((((y52.drop y51.toNat).take (y53.toNat - y51.toNat)).length : Int) + y67) + (3 : Int)) (fun y69 => (((decide (y1 = (45 : Int))) = true → (I64 (0 - y69) ∧ K (0 - y69) false y66)) ∧ ((decide (y1 = (45 : Int))) = false → K y69 false y66)))))))))))))))) ∧ (y63 = false → (∃ m, F_token_readNumber_2_l2 A68 A62 m (y57 + (1 : Int)) y56 (y57 + (1 : Int)) (fun y70 y71 y72 => ((0 ≤ y70 ∧ y70 ≤ y72 ∧ y72 ≤ (y71.length : Int)) ∧ (A94 ((y71.drop y70.toNat).take (y72.toNat - y70.toNat)) (fun y73 => (((decide (y61 = (45 : Int))) = true → (I64 (0 - y73) ∧ (((y52.drop y51.toNat).take (y53.toNat - y51.toNat)).length + ((y56.drop y55.toNat).take (y57.toNat - y55.toNat)).length ≤ 1099511627776 ∧ (I64 ((((y52.drop y51.toNat).take (y53.toNat - y51.toNat)).length : Int) + (0 - y73)) ∧ (I64 (((((y52.drop y51.toNat).take (y53.toNat - y51.toNat)).length : Int) + (0 - y73)) + (3 : Int)) ∧ (A95 (((y52.drop y51.toNat).take (y53.toNat - y51.toNat)) ++ ((y56.drop y55.toNat).take (y57.toNat - y55.toNat))) (((((y52.drop y51.toNat).take (y53.toNat - y51.toNat)).length : Int) + (0 - y73)) + (3 : Int)) (fun y74 => (((decide (y1 = (45 : Int))) = true → (I64 (0 - y74) ∧ K (0 - y74) false y72)) ∧ ((decide (y1 = (45 : Int))) = false → K y74 false y72))))))))) ∧ ((decide (y61 = (45 : Int))) = false → (((y52.drop y51.toNat).take (y53.toNat - y51.toNat)).length + ((y56.drop y55.toNat).take (y57.toNat - y55.toNat)).length ≤ 1099511627776 ∧ (I64 ((((y52.drop y51.toNat).take (y53.toNat - y51.toNat)).length : Int) + y73) ∧ (I64 (((((y52.drop y51.toNat).take (y53.toNat - y51.toNat)).length : Int) + y73) + (3 : Int)) ∧ (A95 (((y52.drop y51.toNat).take (y53.toNat - y51.toNat)) ++ ((y56.drop y55.toNat).take (y57.toNat - y55.toNat))) (((((y52.drop y51.toNat).take (y53.toNat - y51.toNat)).length : Int) + y73) + (3 : Int)) (fun y75 => (((decide (y1 = (45 : Int))) = true → (I64 (0 - y75) ∧ K (0 - y75) false y72)) ∧ ((decide (y1 = (45 : Int))) = false → K y75 false y72)))))))))))))))))))))))) ∧ (y60 = false → (((y52.drop y51.toNat).take (y53.toNat - y51.toNat)).length + ((y56.drop y55.toNat).take (y57.toNat - y55.toNat)).length ≤ 1099511627776 ∧ (I64 ((((y52.drop y51.toNat).take (y53.toNat - y51.toNat)).length : Int) + (0 : Int)) ∧ (I64 (((((y52.drop y51.toNat).take (y53.toNat - y51.toNat)).length : Int) + (0 : Int)) + (3 : Int)) ∧ (A95 (((y52.drop y51.toNat).take (y53.toNat - y51.toNat)) ++ ((y56.drop y55.toNat).take (y57.toNat - y55.toNat))) (((((y52.drop y51.toNat).take (y53.toNat - y51.toNat)).length : Int) + (0 : Int)) + (3 : Int)) (fun y76 => (((decide (y1 = (45 : Int))) = true → (I64 (0 - y76) ∧ K (0 - y76) false y57)) ∧ ((decide (y1 = (45 : Int))) = false → K y76 false y57))))))))))))) ∧ (y59 = false → (((y52.drop y51.toNat).take (y53.toNat - y51.toNat)).length + ((y56.drop y55.toNat).take (y57.toNat - y55.toNat)).length ≤ 1099511627776 ∧ (I64 ((((y52.drop y51.toNat).take (y53.toNat - y51.toNat)).length : Int) + (0 : Int)) ∧ (I64 (((((y52.drop y51.toNat).take (y53.toNat - y51.toNat)).length : Int) + (0 : Int)) + (3 : Int)) ∧ (A95 (((y52.drop y51.toNat).take (y53.toNat - y51.toNat)) ++ ((y56.drop y55.toNat).take (y57.toNat - y55.toNat))) (((((y52.drop y51.toNat).take (y53.toNat - y51.toNat)).length : Int) + (0 : Int)) + (3 : Int)) (fun y77 => (((decide (y1 = (45 : Int))) = true → (I64 (0 - y77) ∧ K (0 - y77) false y57)) ∧ ((decide (y1 = (45 : Int))) = false → K y77 false y57)))))))))))))))))) ∧ (y54 = false → (A68 y52 y53 (fun y78 => (A92 y78 (fun y79 => ((y79 = true → (I64 (y53 + (1 : Int)) ∧ (A93 y52 (y53 + (1 : Int)) (fun y80 => ((y80 = true → (I64 (y53 + (1 : Int)) ∧ (A68 y52 (y53 + (1 : Int)) (fun y81 => (A68 y52 (y53 + (1 : Int)) (fun y82 => (A73 y82 (fun y83 => ((y83 = true → (I64 ((y53 + (1 : Int)) + (1 : Int)) ∧ (∃ m, F_token_readNumber_2_l2 A68 A62 m ((y53 + (1 : Int)) + (1 : Int)) y52 ((y53 + (1 : Int)) + (1 : Int)) (fun y84 y85 y86 => ((0 ≤ y84 ∧ y84 ≤ y86 ∧ y86 ≤ (y85.length : Int)) ∧ (A94 ((y85.drop y84.toNat).take (y86.toNat - y84.toNat)) (fun y87 => (((decide (y81 = (45 : Int))) = true → (I64 (0 - y87) ∧ (((y52.drop y51.toNat).take (y53.toNat - y51.toNat)).length + ([] : List UInt8).length ≤ 1099511627776 ∧ (I64 ((((y52.drop y51.toNat).take (y53.toNat - y51.toNat)).length : Int) + (0 - y87)) ∧ (I64 (((((y52.drop y51.toNat).take (y53.toNat - y51.toNat)).length : Int) + (0 - y87)) + (3 : Int)) ∧ (A95 (((y52.drop y51.toNat).take (y53.toNat - y51.toNat)) ++ ([] : List UInt8)) (((((y52.drop y51.toNat).take (y53.toNat - y51.toNat)).length : Int) + (0 - y87)) + (3 : Int)) (fun y88 => (((decide (y1 = (45 : Int))) = true → (I64 (0 - y88) ∧ K (0 - y88) false y86)) ∧ ((decide (y1 = (45 : Int))) = false → K y88 false y86))))))))) ∧ ((decide (y81 = (45 : Int))) = false → (((y52.drop y51.toNat).take (y53.toNat - y51.toNat)).length + ([] : List UInt8).length ≤ 1099511627776 ∧ (I64 ((((y52.drop y51.toNat).take (y53.toNat - y51.toNat)).length : Int) + y87) ∧ (I64 (((((y52.drop y51.toNat).take (y53.toNat - y51.toNat)).length : Int) + y87) + (3 : Int)) ∧ (A95 (((y52.drop y51.toNat).take (y53.toNat - y51.toNat)) ++ ([] : List UInt8)) (((((y52.drop y51.toNat).take (y53.toNat - y51.toNat)).length : Int) + y87) + (3 : Int)) (fun y89 => (((decide (y1 = (45 : Int))) = true → (I64 (0 - y89) ∧ K (0 - y89) false y86)) ∧ ((decide (y1 = (45 : Int))) = false → K y89 false y86)))))))))))))))) ∧ (y83 = false → (∃ m, F_token_readNumber_2_l2 A68 A62 m (y53 + (1 : Int)) y52 (y53 + (1 : Int)) (fun y90 y91 y92 => ((0 ≤ y90 ∧ y90 ≤ y92 ∧ y92 ≤ (y91.length : Int)) ∧ (A94 ((y91.drop y90.toNat).take (y92.toNat - y90.toNat)) (fun y93 => (((decide (y81 = (45 : Int))) = true → (I64 (0 - y93) ∧ (((y52.drop y51.toNat).take (y53.toNat - y51.toNat)).length + ([] : List UInt8).length ≤ 1099511627776 ∧ (I64 ((((y52.drop y51.toNat).take (y53.toNat - y51.toNat)).length : Int) + (0 - y93)) ∧ (I64 (((((y52.drop y51.toNat).take (y53.toNat - y51.toNat)).length : Int) + (0 - y93)) + (3 : Int)) ∧ (A95 (((y52.drop y51.toNat).take (y53.toNat - y51.toNat)) ++ ([] : List UInt8)) (((((y52.drop y51.toNat).take (y53.toNat - y51.toNat)).length : Int) + (0 - y93)) + (3 : Int)) (fun y94 => (((decide (y1 = (45 : Int))) = true → (I64 (0 - y94) ∧ K (0 - y94) false y92)) ∧ ((decide (y1 = (45 : Int))) = false → K y94 false y92))))))))) ∧ ((decide (y81 = (45 : Int))) = false → (((y52.drop y51.toNat).take (y53.toNat - y51.toNat)).length + ([] : List UInt8).length ≤ 1099511627776 ∧ (I64 ((((y52.drop y51.toNat).take (y53.toNat - y51.toNat)).length : Int) + y93) ∧ (I64 (((((y52.drop y51.toNat).take (y53.toNat - y51.toNat)).length : Int) + y93) + (3 : Int)) ∧ (A95 (((y52.drop y51.toNat).take (y53.toNat - y51.toNat)) ++ ([] : List UInt8)) (((((y52.drop y51.toNat).take (y53.toNat - y51.toNat)).length : Int) + y93) + (3 : Int)) (fun y95 => (((decide (y1 = (45 : Int))) = true → (I64 (0 - y95) ∧ K (0 - y95) false y92)) ∧ ((decide (y1 = (45 : Int))) = false → K y95 false y92)))))))))))))))))))))))) ∧ (y80 = false → (((y52.drop y51.toNat).take (y53.toNat - y51.toNat)).length + ([] : List UInt8).length ≤ 1099511627776 ∧ (I64 ((((y52.drop y51.toNat).take (y53.toNat - y51.toNat)).length : Int) + (0 : Int)) ∧ (I64 (((((y52.drop y51.toNat).take (y53.toNat - y51.toNat)).length : Int) + (0 : Int)) + (3 : Int)) ∧ (A95 (((y52.drop y51.toNat).take (y53.toNat - y51.toNat)) ++ ([] : List UInt8)) (((((y52.drop y51.toNat).take (y53.toNat - y51.toNat)).length : Int) + (0 : Int)) + (3 : Int)) (fun y96 => (((decide (y1 = (45 : Int))) = true → (I64 (0 - y96) ∧ K (0 - y96) true y53)) ∧ ((decide (y1 = (45 : Int))) = false → K y96 true y53))))))))))))) ∧ (y79 = false → (((y52.drop y51.toNat).take (y53.toNat - y51.toNat)).length + ([] : List UInt8).length ≤ 1099511627776 ∧ (I64 ((((y52.drop y51.toNat).take (y53.toNat - y51.toNat)).length : Int) + (0 : Int)) ∧ (I64 (((((y52.drop y51.toNat).take (y53.toNat - y51.toNat)).length : Int) + (0 : Int)) + (3 : Int)) ∧ (A95 (((y52.drop y51.toNat).take (y53.toNat - y51.toNat)) ++ ([] : List UInt8)) (((((y52.drop y51.toNat).take (y53.toNat - y51.toNat)).length : Int) + (0 : Int)) + (3 : Int)) (fun y97 => (((decide (y1 = (45 : Int))) = true → (I64 (0 - y97) ∧ K (0 - y97) true y53)) ∧ ((decide (y1 = (45 : Int))) = false → K y97 true y53))))))))))))))))))))))))))))

def C_token_readNumber (A74 : T_token_fractionStarts) (A68 : T_token_byteAt) (A92 : T_token_isExponentMark) (A93 : T_token_digitStarts) (A94 : T_token_wholeNumber) (A95 : T_token_cutNumber) (A73 : T_token_isSign) (A62 : T_char_IsDigit) : CallT sg := tab [(74, con [none, none] (q_token_fractionStarts A74)), (68, con [none, none] (q_token_byteAt A68)), (92, con [none] (q_token_isExponentMark A92)), (93, con [none, none] (q_token_digitStarts A93)), (94, con [none] (q_token_wholeNumber A94)), (95, con [none, none] (q_token_cutNumber A95)), (90, inl sy Tryz.prog GT (C_token_readNumber_1 A68 A73) noL 1000 Tryz.f90.ntmps (bodyOf Tryz.f90) Tryz.f90.results.toList), (91, inl sy Tryz.prog GT (C_token_readNumber_2 A68 A62) (L_token_readNumber_2 A68 A62) 2 Tryz.f91.ntmps (bodyOf Tryz.f91) Tryz.f91.results.toList)]
theorem Cok_token_readNumber (A74 : T_token_fractionStarts) (A68 : T_token_byteAt) (A92 : T_token_isExponentMark) (A93 : T_token_digitStarts) (A94 : T_token_wholeNumber) (A95 : T_token_cutNumber) (A73 : T_token_isSign) (A62 : T_char_IsDigit) (h74 : FnOK sy Tryz.prog GT (ovD ro) ro 74 (q_token_fractionStarts A74)) (h68 : FnOK sy Tryz.prog GT (ovD ro) ro 68 (q_token_byteAt A68)) (h92 : FnOK sy Tryz.prog GT (ovD ro) ro 92 (q_token_isExponentMark A92)) (h93 : FnOK sy Tryz.prog GT (ovD ro) ro 93 (q_token_digitStarts A93)) (h94 : FnOK sy Tryz.prog GT (ovD ro) ro 94 (q_token_wholeNumber A94)) (h95 : FnOK sy Tryz.prog GT (ovD ro) ro 95 (q_token_cutNumber A95)) (h73 : FnOK sy Tryz.prog GT (ovD ro) ro 73 (q_token_isSign A73)) (h62 : FnOK sy Tryz.prog GT (ovD ro) ro 62 (q_char_IsDigit A62)) (o0 : Nat → Prop) : CalOK sy Tryz.prog GT (ovD ro) o0 ro (C_token_readNumber A74 A68 A92 A93 A94 A95 A73 A62) := (tab_cons (con_ok h74) (tab_cons (con_ok h68) (tab_cons (con_ok h92) (tab_cons (con_ok h93) (tab_cons (con_ok h94) (tab_cons (con_ok h95) (tab_cons (inl_ok (f := 90) (fn := Tryz.f90) (fun _ _ => rfl) Tryz.func90 (by kernel_rfl) rfl rfl (Cok_token_readNumber_1 A68 A73 h68 h73) (lp_of (l := []) (by kernel_rfl) lp_nil)) (tab_cons (inl_ok (f := 91) (fn := Tryz.f91) (fun _ _ => rfl) Tryz.func91 (by kernel_rfl) rfl rfl (Cok_token_readNumber_2 A68 A62 h68 h62) (Lp_token_readNumber_2 A68 A62 h68 h62)) tab_nil)))))))) o0

theorem raw_token_readNumber (A74 : T_token_fractionStarts) (A68 : T_token_byteAt) (A92 : T_token_isExponentMark) (A93 : T_token_digitStarts) (A94 : T_token_wholeNumber) (A95 : T_token_cutNumber) (A73 : T_token_isSign) (A62 : T_char_IsDigit) (a0 : List UInt8) (a1 : Int) (k : W → Prop) : fnT sy Tryz.prog GT (C_token_readNumber A74 A68 A92 A93 A94 A95 A73 A62) noL Tryz.f75.ntmps (bodyOf Tryz.f75) [none, none, none] Tryz.f75.results.toList [.s a0, .i .i64 a1] k = F_token_readNumber A74 A68 A92 A93 A94 A95 A73 A62 a0 a1 (fun r0 r1 r2 => k (.t [.i .i64 r0, .b r1, .i .i64 r2])) := by kernel_rfl

theorem ok_token_readNumber (A74 : T_token_fractionStarts) (A68 : T_token_byteAt) (A92 : T_token_isExponentMark) (A93 : T_token_digitStarts) (A94 : T_token_wholeNumber) (A95 : T_token_cutNumber) (A73 : T_token_isSign) (A62 : T_char_IsDigit) (h74 : FnOK sy Tryz.prog GT (ovD ro) ro 74 (q_token_fractionStarts A74)) (h68 : FnOK sy Tryz.prog GT (ovD ro) ro 68 (q_token_byteAt A68)) (h92 : FnOK sy Tryz.prog GT (ovD ro) ro 92 (q_token_isExponentMark A92)) (h93 : FnOK sy Tryz.prog GT (ovD ro) ro 93 (q_token_digitStarts A93)) (h94 : FnOK sy Tryz.prog GT (ovD ro) ro 94 (q_token_wholeNumber A94)) (h95 : FnOK sy Tryz.prog GT (ovD ro) ro 95 (q_token_cutNumber A95)) (h73 : FnOK sy Tryz.prog GT (ovD ro) ro 73 (q_token_isSign A73)) (h62 : FnOK sy Tryz.prog GT (ovD ro) ro 62 (q_char_IsDigit A62)) : FnOK sy Tryz.prog GT (ovD ro) ro 75 (q_token_readNumber (F_token_readNumber A74 A68 A92 A93 A94 A95 A73 A62)) := (fn_ok (rc := [none, none, none]) (f := 75) (fn := Tryz.f75) (c := bodyOf Tryz.f75) (nt := Tryz.f75.ntmps) (res := Tryz.f75.results.toList) (C := C_token_readNumber A74 A68 A92 A93 A94 A95 A73 A62) (L := noL) (fun _ _ => rfl) Tryz.func75 (by kernel_rfl) rfl rfl (Cok_token_readNumber A74 A68 A92 A93 A94 A95 A73 A62 h74 h68 h92 h93 h94 h95 h73 h62) (lp_of (l := []) (by kernel_rfl) lp_nil)).weak (by
  intro us k h
  unfold q_token_readNumber at h
  split at h
  · skip
    rename_i a0 a1
    rw [raw_token_readNumber A74 A68 A92 A93 A94 A95 A73 A62 a0 a1 k]
    exact h
  · exact h.elim)

abbrev T_char_IsLetter := Int → (Bool → Prop) → Prop
def q_char_IsLetter (A : T_char_IsLetter) (us : List W) (k : W → Prop) : Prop := match us with
  | [.i .u8 a0] => A a0 (fun r0 => k (.b r0))
  | _ => False
theorem q_char_IsLetter_weak {A A2 : T_char_IsLetter} (h : FnOK sy Tryz.prog GT (ovD ro) ro 89 (q_char_IsLetter A)) (hA : ∀ a0 K, A2 a0 K → A a0 K) : FnOK sy Tryz.prog GT (ovD ro) ro 89 (q_char_IsLetter A2) := h.weak (by
  intro us k h
  unfold q_char_IsLetter at h ⊢
  split at h
  · exact hA _ _ h
  · exact h.elim)

def F_char_IsLetter (a0 : Int) (K : Bool → Prop) : Prop :=
  (((decide ((97 : Int) ≤ a0)) = true → (((decide (a0 ≤ (122 : Int))) = false → (((decide ((65 : Int) ≤ a0)) = true → K (decide (a0 ≤ (90 : Int)))) ∧ ((decide ((65 : Int) ≤ a0)) = false → K false))) ∧ ((decide (a0 ≤ (122 : Int))) = true → K true))) ∧ ((decide ((97 : Int) ≤ a0)) = false → (((decide ((65 : Int) ≤ a0)) = true → K (decide (a0 ≤ (90 : Int)))) ∧ ((decide ((65 : Int) ≤ a0)) = false → K false))))

def C_char_IsLetter : CallT sg := tab []
theorem Cok_char_IsLetter (o0 : Nat → Prop) : CalOK sy Tryz.prog GT (ovD ro) o0 ro (C_char_IsLetter) := tab_nil o0

theorem raw_char_IsLetter (a0 : Int) (k : W → Prop) : fnT sy Tryz.prog GT (C_char_IsLetter) noL Tryz.f89.ntmps (bodyOf Tryz.f89) [none] Tryz.f89.results.toList [.i .u8 a0] k = F_char_IsLetter a0 (fun r0 => k (.b r0)) := by kernel_rfl

theorem ok_char_IsLetter : FnOK sy Tryz.prog GT (ovD ro) ro 89 (q_char_IsLetter (F_char_IsLetter)) := (fn_ok (rc := [none]) (f := 89) (fn := Tryz.f89) (c := bodyOf Tryz.f89) (nt := Tryz.f89.ntmps) (res := Tryz.f89.results.toList) (C := C_char_IsLetter) (L := noL) (fun _ _ => rfl) Tryz.func89 (by kernel_rfl) rfl rfl (Cok_char_IsLetter) (lp_of (l := []) (by kernel_rfl) lp_nil)).weak (by
  intro us k h
  unfold q_char_IsLetter at h
  split at h
  · skip
    rename_i a0
    rw [raw_char_IsLetter a0 k]
    exact h
  · exact h.elim)

abbrev T_char_StartsName := Int → (Bool → Prop) → Prop
def q_char_StartsName (A : T_char_StartsName) (us : List W) (k : W → Prop) : Prop := match us with
  | [.i .u8 a0] => A a0 (fun r0 => k (.b r0))
  | _ => False
theorem q_char_StartsName_weak {A A2 : T_char_StartsName} (h : FnOK sy Tryz.prog GT (ovD ro) ro 72 (q_char_StartsName A)) (hA : ∀ a0 K, A2 a0 K → A a0 K) : FnOK sy Tryz.prog GT (ovD ro) ro 72 (q_char_StartsName A2) := h.weak (by
  intro us k h
  unfold q_char_StartsName at h ⊢
  split at h
  · exact hA _ _ h
  · exact h.elim)

def F_char_StartsName (A89 : T_char_IsLetter) (a0 : Int) (K : Bool → Prop) : Prop :=
  (A89 a0 (fun y1 => ((y1 = false → (((decide (a0 = (95 : Int))) = false → K (decide ((128 : Int) ≤ a0))) ∧ ((decide (a0 = (95 : Int))) = true → K true))) ∧ (y1 = true → K true))))

def C_char_StartsName (A89 : T_char_IsLetter) : CallT sg := tab [(89, con [none] (q_char_IsLetter A89))]
theorem Cok_char_StartsName (A89 : T_char_IsLetter) (h89 : FnOK sy Tryz.prog GT (ovD ro) ro 89 (q_char_IsLetter A89)) (o0 : Nat → Prop) : CalOK sy Tryz.prog GT (ovD ro) o0 ro (C_char_StartsName A89) := (tab_cons (con_ok h89) tab_nil) o0

theorem raw_char_StartsName (A89 : T_char_IsLetter) (a0 : Int) (k : W → Prop) : fnT sy Tryz.prog GT (C_char_StartsName A89) noL Tryz.f72.ntmps (bodyOf Tryz.f72) [none] Tryz.f72.results.toList [.i .u8 a0] k = F_char_StartsName A89 a0 (fun r0 => k (.b r0)) := by kernel_rfl

theorem ok_char_StartsName (A89 : T_char_IsLetter) (h89 : FnOK sy Tryz.prog GT (ovD ro) ro 89 (q_char_IsLetter A89)) : FnOK sy Tryz.prog GT (ovD ro) ro 72 (q_char_StartsName (F_char_StartsName A89)) := (fn_ok (rc := [none]) (f := 72) (fn := Tryz.f72) (c := bodyOf Tryz.f72) (nt := Tryz.f72.ntmps) (res := Tryz.f72.results.toList) (C := C_char_StartsName A89) (L := noL) (fun _ _ => rfl) Tryz.func72 (by kernel_rfl) rfl rfl (Cok_char_StartsName A89 h89) (lp_of (l := []) (by kernel_rfl) lp_nil)).weak (by
  intro us k h
  unfold q_char_StartsName at h
  split at h
  · skip
    rename_i a0
    rw [raw_char_StartsName A89 a0 k]
    exact h
  · exact h.elim)

abbrev T_token_escapeStarts := List UInt8 → Int → (Bool → Prop) → Prop
def q_token_escapeStarts (A : T_token_escapeStarts) (us : List W) (k : W → Prop) : Prop := match us with
  | [.s a0, .i .i64 a1] => A a0 a1 (fun r0 => k (.b r0))
  | _ => False
theorem q_token_escapeStarts_weak {A A2 : T_token_escapeStarts} (h : FnOK sy Tryz.prog GT (ovD ro) ro 71 (q_token_escapeStarts A)) (hA : ∀ a0 a1 K, A2 a0 a1 K → A a0 a1 K) : FnOK sy Tryz.prog GT (ovD ro) ro 71 (q_token_escapeStarts A2) := h.weak (by
  intro us k h
  unfold q_token_escapeStarts at h ⊢
  split at h
  · exact hA _ _ _ h
  · exact h.elim)

def F_token_escapeStarts (A68 : T_token_byteAt) (a0 : List UInt8) (a1 : Int) (K : Bool → Prop) : Prop :=
  (A68 a0 a1 (fun y1 => (((decide (y1 = (92 : Int))) = true → (I64 (a1 + (1 : Int)) ∧ (A68 a0 (a1 + (1 : Int)) (fun y2 => K (decide (y2 ≠ (10 : Int))))))) ∧ ((decide (y1 = (92 : Int))) = false → K false))))

def C_token_escapeStarts (A68 : T_token_byteAt) : CallT sg := tab [(68, con [none, none] (q_token_byteAt A68))]
theorem Cok_token_escapeStarts (A68 : T_token_byteAt) (h68 : FnOK sy Tryz.prog GT (ovD ro) ro 68 (q_token_byteAt A68)) (o0 : Nat → Prop) : CalOK sy Tryz.prog GT (ovD ro) o0 ro (C_token_escapeStarts A68) := (tab_cons (con_ok h68) tab_nil) o0

theorem raw_token_escapeStarts (A68 : T_token_byteAt) (a0 : List UInt8) (a1 : Int) (k : W → Prop) : fnT sy Tryz.prog GT (C_token_escapeStarts A68) noL Tryz.f71.ntmps (bodyOf Tryz.f71) [none] Tryz.f71.results.toList [.s a0, .i .i64 a1] k = F_token_escapeStarts A68 a0 a1 (fun r0 => k (.b r0)) := by kernel_rfl

theorem ok_token_escapeStarts (A68 : T_token_byteAt) (h68 : FnOK sy Tryz.prog GT (ovD ro) ro 68 (q_token_byteAt A68)) : FnOK sy Tryz.prog GT (ovD ro) ro 71 (q_token_escapeStarts (F_token_escapeStarts A68)) := (fn_ok (rc := [none]) (f := 71) (fn := Tryz.f71) (c := bodyOf Tryz.f71) (nt := Tryz.f71.ntmps) (res := Tryz.f71.results.toList) (C := C_token_escapeStarts A68) (L := noL) (fun _ _ => rfl) Tryz.func71 (by kernel_rfl) rfl rfl (Cok_token_escapeStarts A68 h68) (lp_of (l := []) (by kernel_rfl) lp_nil)).weak (by
  intro us k h
  unfold q_token_escapeStarts at h
  split at h
  · skip
    rename_i a0 a1
    rw [raw_token_escapeStarts A68 a0 a1 k]
    exact h
  · exact h.elim)

abbrev T_token_nameStarts := List UInt8 → Int → (Bool → Prop) → Prop
def q_token_nameStarts (A : T_token_nameStarts) (us : List W) (k : W → Prop) : Prop := match us with
  | [.s a0, .i .i64 a1] => A a0 a1 (fun r0 => k (.b r0))
  | _ => False
theorem q_token_nameStarts_weak {A A2 : T_token_nameStarts} (h : FnOK sy Tryz.prog GT (ovD ro) ro 54 (q_token_nameStarts A)) (hA : ∀ a0 a1 K, A2 a0 a1 K → A a0 a1 K) : FnOK sy Tryz.prog GT (ovD ro) ro 54 (q_token_nameStarts A2) := h.weak (by
  intro us k h
  unfold q_token_nameStarts at h ⊢
  split at h
  · exact hA _ _ _ h
  · exact h.elim)

def F_token_nameStarts (A68 : T_token_byteAt) (A72 : T_char_StartsName) (A71 : T_token_escapeStarts) (a0 : List UInt8) (a1 : Int) (K : Bool → Prop) : Prop :=
  (A68 a0 a1 (fun y1 => (((decide (y1 ≠ (45 : Int))) = true → (A68 a0 a1 (fun y2 => (A72 y2 (fun y3 => ((y3 = false → (A71 a0 a1 (fun y4 => K y4))) ∧ (y3 = true → K true))))))) ∧ ((decide (y1 ≠ (45 : Int))) = false → (I64 (a1 + (1 : Int)) ∧ (A68 a0 (a1 + (1 : Int)) (fun y5 => (A72 y5 (fun y6 => ((y6 = false → (((decide (y5 = (45 : Int))) = false → (I64 (a1 + (1 : Int)) ∧ (A71 a0 (a1 + (1 : Int)) (fun y7 => K y7)))) ∧ ((decide (y5 = (45 : Int))) = true → K true))) ∧ (y6 = true → K true)))))))))))

def C_token_nameStarts (A68 : T_token_byteAt) (A72 : T_char_StartsName) (A71 : T_token_escapeStarts) : CallT sg := tab [(68, con [none, none] (q_token_byteAt A68)), (72, con [none] (q_char_StartsName A72)), (71, con [none, none] (q_token_escapeStarts A71))]
theorem Cok_token_nameStarts (A68 : T_token_byteAt) (A72 : T_char_StartsName) (A71 : T_token_escapeStarts) (h68 : FnOK sy Tryz.prog GT (ovD ro) ro 68 (q_token_byteAt A68)) (h72 : FnOK sy Tryz.prog GT (ovD ro) ro 72 (q_char_StartsName A72)) (h71 : FnOK sy Tryz.prog GT (ovD ro) ro 71 (q_token_escapeStarts A71)) (o0 : Nat → Prop) : CalOK sy Tryz.prog GT (ovD ro) o0 ro (C_token_nameStarts A68 A72 A71) := (tab_cons (con_ok h68) (tab_cons (con_ok h72) (tab_cons (con_ok h71) tab_nil))) o0

theorem raw_token_nameStarts (A68 : T_token_byteAt) (A72 : T_char_StartsName) (A71 : T_token_escapeStarts) (a0 : List UInt8) (a1 : Int) (k : W → Prop) : fnT sy Tryz.prog GT (C_token_nameStarts A68 A72 A71) noL Tryz.f54.ntmps (bodyOf Tryz.f54) [none] Tryz.f54.results.toList [.s a0, .i .i64 a1] k = F_token_nameStarts A68 A72 A71 a0 a1 (fun r0 => k (.b r0)) := by kernel_rfl

theorem ok_token_nameStarts (A68 : T_token_byteAt) (A72 : T_char_StartsName) (A71 : T_token_escapeStarts) (h68 : FnOK sy Tryz.prog GT (ovD ro) ro 68 (q_token_byteAt A68)) (h72 : FnOK sy Tryz.prog GT (ovD ro) ro 72 (q_char_StartsName A72)) (h71 : FnOK sy Tryz.prog GT (ovD ro) ro 71 (q_token_escapeStarts A71)) : FnOK sy Tryz.prog GT (ovD ro) ro 54 (q_token_nameStarts (F_token_nameStarts A68 A72 A71)) := (fn_ok (rc := [none]) (f := 54) (fn := Tryz.f54) (c := bodyOf Tryz.f54) (nt := Tryz.f54.ntmps) (res := Tryz.f54.results.toList) (C := C_token_nameStarts A68 A72 A71) (L := noL) (fun _ _ => rfl) Tryz.func54 (by kernel_rfl) rfl rfl (Cok_token_nameStarts A68 A72 A71 h68 h72 h71) (lp_of (l := []) (by kernel_rfl) lp_nil)).weak (by
  intro us k h
  unfold q_token_nameStarts at h
  split at h
  · skip
    rename_i a0 a1
    rw [raw_token_nameStarts A68 A72 A71 a0 a1 k]
    exact h
  · exact h.elim)

abbrev T_char_IsOfName := Int → (Bool → Prop) → Prop
def q_char_IsOfName (A : T_char_IsOfName) (us : List W) (k : W → Prop) : Prop := match us with
  | [.i .u8 a0] => A a0 (fun r0 => k (.b r0))
  | _ => False
theorem q_char_IsOfName_weak {A A2 : T_char_IsOfName} (h : FnOK sy Tryz.prog GT (ovD ro) ro 70 (q_char_IsOfName A)) (hA : ∀ a0 K, A2 a0 K → A a0 K) : FnOK sy Tryz.prog GT (ovD ro) ro 70 (q_char_IsOfName A2) := h.weak (by
  intro us k h
  unfold q_char_IsOfName at h ⊢
  split at h
  · exact hA _ _ h
  · exact h.elim)

def F_char_IsOfName (A72 : T_char_StartsName) (A62 : T_char_IsDigit) (a0 : Int) (K : Bool → Prop) : Prop :=
  (A72 a0 (fun y1 => ((y1 = false → (A62 a0 (fun y2 => ((y2 = false → K (decide (a0 = (45 : Int)))) ∧ (y2 = true → K true))))) ∧ (y1 = true → K true))))

def C_char_IsOfName (A72 : T_char_StartsName) (A62 : T_char_IsDigit) : CallT sg := tab [(72, con [none] (q_char_StartsName A72)), (62, con [none] (q_char_IsDigit A62))]
theorem Cok_char_IsOfName (A72 : T_char_StartsName) (A62 : T_char_IsDigit) (h72 : FnOK sy Tryz.prog GT (ovD ro) ro 72 (q_char_StartsName A72)) (h62 : FnOK sy Tryz.prog GT (ovD ro) ro 62 (q_char_IsDigit A62)) (o0 : Nat → Prop) : CalOK sy Tryz.prog GT (ovD ro) o0 ro (C_char_IsOfName A72 A62) := (tab_cons (con_ok h72) (tab_cons (con_ok h62) tab_nil)) o0

theorem raw_char_IsOfName (A72 : T_char_StartsName) (A62 : T_char_IsDigit) (a0 : Int) (k : W → Prop) : fnT sy Tryz.prog GT (C_char_IsOfName A72 A62) noL Tryz.f70.ntmps (bodyOf Tryz.f70) [none] Tryz.f70.results.toList [.i .u8 a0] k = F_char_IsOfName A72 A62 a0 (fun r0 => k (.b r0)) := by kernel_rfl

theorem ok_char_IsOfName (A72 : T_char_StartsName) (A62 : T_char_IsDigit) (h72 : FnOK sy Tryz.prog GT (ovD ro) ro 72 (q_char_StartsName A72)) (h62 : FnOK sy Tryz.prog GT (ovD ro) ro 62 (q_char_IsDigit A62)) : FnOK sy Tryz.prog GT (ovD ro) ro 70 (q_char_IsOfName (F_char_IsOfName A72 A62)) := (fn_ok (rc := [none]) (f := 70) (fn := Tryz.f70) (c := bodyOf Tryz.f70) (nt := Tryz.f70.ntmps) (res := Tryz.f70.results.toList) (C := C_char_IsOfName A72 A62) (L := noL) (fun _ _ => rfl) Tryz.func70 (by kernel_rfl) rfl rfl (Cok_char_IsOfName A72 A62 h72 h62) (lp_of (l := []) (by kernel_rfl) lp_nil)).weak (by
  intro us k h
  unfold q_char_IsOfName at h
  split at h
  · skip
    rename_i a0
    rw [raw_char_IsOfName A72 A62 a0 k]
    exact h
  · exact h.elim)

abbrev T_token_nameGoesOn := List UInt8 → Int → (Bool → Prop) → Prop
def q_token_nameGoesOn (A : T_token_nameGoesOn) (us : List W) (k : W → Prop) : Prop := match us with
  | [.s a0, .i .i64 a1] => A a0 a1 (fun r0 => k (.b r0))
  | _ => False
theorem q_token_nameGoesOn_weak {A A2 : T_token_nameGoesOn} (h : FnOK sy Tryz.prog GT (ovD ro) ro 53 (q_token_nameGoesOn A)) (hA : ∀ a0 a1 K, A2 a0 a1 K → A a0 a1 K) : FnOK sy Tryz.prog GT (ovD ro) ro 53 (q_token_nameGoesOn A2) := h.weak (by
  intro us k h
  unfold q_token_nameGoesOn at h ⊢
  split at h
  · exact hA _ _ _ h
  · exact h.elim)

def F_token_nameGoesOn (A68 : T_token_byteAt) (A70 : T_char_IsOfName) (A71 : T_token_escapeStarts) (a0 : List UInt8) (a1 : Int) (K : Bool → Prop) : Prop :=
  (A68 a0 a1 (fun y1 => (A70 y1 (fun y2 => ((y2 = false → (A71 a0 a1 (fun y3 => K y3))) ∧ (y2 = true → K true))))))

def C_token_nameGoesOn (A68 : T_token_byteAt) (A70 : T_char_IsOfName) (A71 : T_token_escapeStarts) : CallT sg := tab [(68, con [none, none] (q_token_byteAt A68)), (70, con [none] (q_char_IsOfName A70)), (71, con [none, none] (q_token_escapeStarts A71))]
theorem Cok_token_nameGoesOn (A68 : T_token_byteAt) (A70 : T_char_IsOfName) (A71 : T_token_escapeStarts) (h68 : FnOK sy Tryz.prog GT (ovD ro) ro 68 (q_token_byteAt A68)) (h70 : FnOK sy Tryz.prog GT (ovD ro) ro 70 (q_char_IsOfName A70)) (h71 : FnOK sy Tryz.prog GT (ovD ro) ro 71 (q_token_escapeStarts A71)) (o0 : Nat → Prop) : CalOK sy Tryz.prog GT (ovD ro) o0 ro (C_token_nameGoesOn A68 A70 A71) := (tab_cons (con_ok h68) (tab_cons (con_ok h70) (tab_cons (con_ok h71) tab_nil))) o0

theorem raw_token_nameGoesOn (A68 : T_token_byteAt) (A70 : T_char_IsOfName) (A71 : T_token_escapeStarts) (a0 : List UInt8) (a1 : Int) (k : W → Prop) : fnT sy Tryz.prog GT (C_token_nameGoesOn A68 A70 A71) noL Tryz.f53.ntmps (bodyOf Tryz.f53) [none] Tryz.f53.results.toList [.s a0, .i .i64 a1] k = F_token_nameGoesOn A68 A70 A71 a0 a1 (fun r0 => k (.b r0)) := by kernel_rfl

theorem ok_token_nameGoesOn (A68 : T_token_byteAt) (A70 : T_char_IsOfName) (A71 : T_token_escapeStarts) (h68 : FnOK sy Tryz.prog GT (ovD ro) ro 68 (q_token_byteAt A68)) (h70 : FnOK sy Tryz.prog GT (ovD ro) ro 70 (q_char_IsOfName A70)) (h71 : FnOK sy Tryz.prog GT (ovD ro) ro 71 (q_token_escapeStarts A71)) : FnOK sy Tryz.prog GT (ovD ro) ro 53 (q_token_nameGoesOn (F_token_nameGoesOn A68 A70 A71)) := (fn_ok (rc := [none]) (f := 53) (fn := Tryz.f53) (c := bodyOf Tryz.f53) (nt := Tryz.f53.ntmps) (res := Tryz.f53.results.toList) (C := C_token_nameGoesOn A68 A70 A71) (L := noL) (fun _ _ => rfl) Tryz.func53 (by kernel_rfl) rfl rfl (Cok_token_nameGoesOn A68 A70 A71 h68 h70 h71) (lp_of (l := []) (by kernel_rfl) lp_nil)).weak (by
  intro us k h
  unfold q_token_nameGoesOn at h
  split at h
  · skip
    rename_i a0 a1
    rw [raw_token_nameGoesOn A68 A70 A71 a0 a1 k]
    exact h
  · exact h.elim)

abbrev T_char_IsSpace := Int → (Bool → Prop) → Prop
def q_char_IsSpace (A : T_char_IsSpace) (us : List W) (k : W → Prop) : Prop := match us with
  | [.i .u8 a0] => A a0 (fun r0 => k (.b r0))
  | _ => False
theorem q_char_IsSpace_weak {A A2 : T_char_IsSpace} (h : FnOK sy Tryz.prog GT (ovD ro) ro 49 (q_char_IsSpace A)) (hA : ∀ a0 K, A2 a0 K → A a0 K) : FnOK sy Tryz.prog GT (ovD ro) ro 49 (q_char_IsSpace A2) := h.weak (by
  intro us k h
  unfold q_char_IsSpace at h ⊢
  split at h
  · exact hA _ _ h
  · exact h.elim)

def F_char_IsSpace (a0 : Int) (K : Bool → Prop) : Prop :=
  (((decide (a0 = (10 : Int))) = false → (((decide (a0 = (9 : Int))) = false → K (decide (a0 = (32 : Int)))) ∧ ((decide (a0 = (9 : Int))) = true → K true))) ∧ ((decide (a0 = (10 : Int))) = true → K true))

def C_char_IsSpace : CallT sg := tab []
theorem Cok_char_IsSpace (o0 : Nat → Prop) : CalOK sy Tryz.prog GT (ovD ro) o0 ro (C_char_IsSpace) := tab_nil o0

theorem raw_char_IsSpace (a0 : Int) (k : W → Prop) : fnT sy Tryz.prog GT (C_char_IsSpace) noL Tryz.f49.ntmps (bodyOf Tryz.f49) [none] Tryz.f49.results.toList [.i .u8 a0] k = F_char_IsSpace a0 (fun r0 => k (.b r0)) := by kernel_rfl

theorem ok_char_IsSpace : FnOK sy Tryz.prog GT (ovD ro) ro 49 (q_char_IsSpace (F_char_IsSpace)) := (fn_ok (rc := [none]) (f := 49) (fn := Tryz.f49) (c := bodyOf Tryz.f49) (nt := Tryz.f49.ntmps) (res := Tryz.f49.results.toList) (C := C_char_IsSpace) (L := noL) (fun _ _ => rfl) Tryz.func49 (by kernel_rfl) rfl rfl (Cok_char_IsSpace) (lp_of (l := []) (by kernel_rfl) lp_nil)).weak (by
  intro us k h
  unfold q_char_IsSpace at h
  split at h
  · skip
    rename_i a0
    rw [raw_char_IsSpace a0 k]
    exact h
  · exact h.elim)

abbrev T_char_IsQuote := Int → (Bool → Prop) → Prop
def q_char_IsQuote (A : T_char_IsQuote) (us : List W) (k : W → Prop) : Prop := match us with
  | [.i .u8 a0] => A a0 (fun r0 => k (.b r0))
  | _ => False
theorem q_char_IsQuote_weak {A A2 : T_char_IsQuote} (h : FnOK sy Tryz.prog GT (ovD ro) ro 51 (q_char_IsQuote A)) (hA : ∀ a0 K, A2 a0 K → A a0 K) : FnOK sy Tryz.prog GT (ovD ro) ro 51 (q_char_IsQuote A2) := h.weak (by
  intro us k h
  unfold q_char_IsQuote at h ⊢
  split at h
  · exact hA _ _ h
  · exact h.elim)

def F_char_IsQuote (a0 : Int) (K : Bool → Prop) : Prop :=
  (((decide (a0 = (34 : Int))) = false → K (decide (a0 = (39 : Int)))) ∧ ((decide (a0 = (34 : Int))) = true → K true))

def C_char_IsQuote : CallT sg := tab []
theorem Cok_char_IsQuote (o0 : Nat → Prop) : CalOK sy Tryz.prog GT (ovD ro) o0 ro (C_char_IsQuote) := tab_nil o0

theorem raw_char_IsQuote (a0 : Int) (k : W → Prop) : fnT sy Tryz.prog GT (C_char_IsQuote) noL Tryz.f51.ntmps (bodyOf Tryz.f51) [none] Tryz.f51.results.toList [.i .u8 a0] k = F_char_IsQuote a0 (fun r0 => k (.b r0)) := by kernel_rfl

theorem ok_char_IsQuote : FnOK sy Tryz.prog GT (ovD ro) ro 51 (q_char_IsQuote (F_char_IsQuote)) := (fn_ok (rc := [none]) (f := 51) (fn := Tryz.f51) (c := bodyOf Tryz.f51) (nt := Tryz.f51.ntmps) (res := Tryz.f51.results.toList) (C := C_char_IsQuote) (L := noL) (fun _ _ => rfl) Tryz.func51 (by kernel_rfl) rfl rfl (Cok_char_IsQuote) (lp_of (l := []) (by kernel_rfl) lp_nil)).weak (by
  intro us k h
  unfold q_char_IsQuote at h
  split at h
  · skip
    rename_i a0
    rw [raw_char_IsQuote a0 k]
    exact h
  · exact h.elim)

abbrev T_token_behindSpaces := List UInt8 → Int → (Int → Prop) → Prop
def q_token_behindSpaces (A : T_token_behindSpaces) (us : List W) (k : W → Prop) : Prop := match us with
  | [.s a0, .i .i64 a1] => A a0 a1 (fun r0 => k (.i .i64 r0))
  | _ => False
theorem q_token_behindSpaces_weak {A A2 : T_token_behindSpaces} (h : FnOK sy Tryz.prog GT (ovD ro) ro 50 (q_token_behindSpaces A)) (hA : ∀ a0 a1 K, A2 a0 a1 K → A a0 a1 K) : FnOK sy Tryz.prog GT (ovD ro) ro 50 (q_token_behindSpaces A2) := h.weak (by
  intro us k h
  unfold q_token_behindSpaces at h ⊢
  split at h
  · exact hA _ _ _ h
  · exact h.elim)

def F_token_behindSpaces_l1 (A68 : T_token_byteAt) (A49 : T_char_IsSpace) : Nat → List UInt8 → Int → (Int → Prop) → Prop
  | 0, _, _, _ => False
  | n + 1, x0, x1, Ke => (A68 x0 x1 (fun y1 => (A49 y1 (fun y2 => ((y2 = true → (I64 (x1 + (1 : Int)) ∧ F_token_behindSpaces_l1 A68 A49 n x0 (x1 + (1 : Int)) Ke)) ∧ (y2 = false → Ke x1))))))

def F_token_behindSpaces (A68 : T_token_byteAt) (A49 : T_char_IsSpace) (a0 : List UInt8) (a1 : Int) (K : Int → Prop) : Prop :=
  (∃ m, F_token_behindSpaces_l1 A68 A49 m a0 a1 (fun y1 => K y1))

def C_token_behindSpaces (A68 : T_token_byteAt) (A49 : T_char_IsSpace) : CallT sg := tab [(68, con [none, none] (q_token_byteAt A68)), (49, con [none] (q_char_IsSpace A49))]
theorem Cok_token_behindSpaces (A68 : T_token_byteAt) (A49 : T_char_IsSpace) (h68 : FnOK sy Tryz.prog GT (ovD ro) ro 68 (q_token_byteAt A68)) (h49 : FnOK sy Tryz.prog GT (ovD ro) ro 49 (q_char_IsSpace A49)) (o0 : Nat → Prop) : CalOK sy Tryz.prog GT (ovD ro) o0 ro (C_token_behindSpaces A68 A49) := (tab_cons (con_ok h68) (tab_cons (con_ok h49) tab_nil)) o0

def ls_token_behindSpaces_1 : LS sy ((List UInt8) × Int × Unit) Unit := ⟨[], fCons 0 (vStr sy) (fCons 1 (vInt sy .i64) (fNil sy)), hNil sy, 0, []⟩
def le_token_behindSpaces_1 : LS sy (Int × Unit) Unit := ⟨[], fCons 1 (vInt sy .i64) (fNil sy), hNil sy, 0, []⟩
def lr_token_behindSpaces_1 : LS sy Unit Unit := ⟨[], fNil sy, hNil sy, 0, []⟩
def FF_token_behindSpaces_1 (A68 : T_token_byteAt) (A49 : T_char_IsSpace) (n : Nat) (x : ((List UInt8) × Int × Unit) × Unit) (K : Ex → Z sg → Prop) : Prop := F_token_behindSpaces_l1 A68 A49 n x.1.1 x.1.2.1 (fun y0 => K (.exit 0) (le_token_behindSpaces_1.put ((y0, ()), ())))
def h_token_behindSpaces_1 (A68 : T_token_byteAt) (A49 : T_char_IsSpace) (z : Z sg) (K : Ex → Z sg → Prop) : Prop := ls_token_behindSpaces_1.get z (fun x => ∃ n, FF_token_behindSpaces_1 A68 A49 n x K)
def L_token_behindSpaces (A68 : T_token_byteAt) (A49 : T_char_IsSpace) : LoopT sg := tabL [(1, h_token_behindSpaces_1 A68 A49)]
theorem hs_token_behindSpaces_1 (A68 : T_token_byteAt) (A49 : T_char_IsSpace) (n : Nat) (x : ((List UInt8) × Int × Unit) × Unit) (K : Ex → Z sg → Prop) : forceZ (ls_token_behindSpaces_1.put x) (fun z => sC sy Tryz.prog GT (C_token_behindSpaces A68 A49) (L_token_behindSpaces A68 A49) Tryz.f50.ntmps (nthLoop (bodyOf Tryz.f50) 0) z (rnd ls_token_behindSpaces_1 (czT 0 le_token_behindSpaces_1 lr_token_behindSpaces_1) (fun x => FF_token_behindSpaces_1 A68 A49 n x K) K)) = FF_token_behindSpaces_1 A68 A49 (n + 1) x K := by kernel_rfl
theorem hl_token_behindSpaces_1 (A68 : T_token_byteAt) (A49 : T_char_IsSpace) (z : Z sg) (K : Ex → Z sg → Prop) : (L_token_behindSpaces A68 A49) (nthLoop (bodyOf Tryz.f50) 0) z K = ls_token_behindSpaces_1.get z (fun x => ∃ n, FF_token_behindSpaces_1 A68 A49 n x K) := by kernel_rfl
theorem lo_token_behindSpaces_1 (A68 : T_token_byteAt) (A49 : T_char_IsSpace) (h68 : FnOK sy Tryz.prog GT (ovD ro) ro 68 (q_token_byteAt A68)) (h49 : FnOK sy Tryz.prog GT (ovD ro) ro 49 (q_char_IsSpace A49)) : ∀ (o0 : Nat → Prop) (B : Bs sg), B.E.length ≤ 0 → ∀ z K, (L_token_behindSpaces A68 A49) (nthLoop (bodyOf Tryz.f50) 0) z K → Sx.Sem sy Tryz.prog GT (ovD ro) o0 ro Tryz.f50.ntmps B (.loop (nthLoop (bodyOf Tryz.f50) 0)) z K :=
  loop_ok (Cok_token_behindSpaces A68 A49 h68 h49) (lp_of (l := []) (by kernel_rfl) lp_nil) ls_token_behindSpaces_1 (by decide) (czT 0 le_token_behindSpaces_1 lr_token_behindSpaces_1) (fun _ _ hB => czT_ok 0 le_token_behindSpaces_1 lr_token_behindSpaces_1 (Nat.le_trans hB (by decide)) (Nat.le_trans hB (by decide))) (fun _ _ h => h) (hs_token_behindSpaces_1 A68 A49) (hl_token_behindSpaces_1 A68 A49)
theorem Lp_token_behindSpaces (A68 : T_token_byteAt) (A49 : T_char_IsSpace) (h68 : FnOK sy Tryz.prog GT (ovD ro) ro 68 (q_token_byteAt A68)) (h49 : FnOK sy Tryz.prog GT (ovD ro) ro 49 (q_char_IsSpace A49)) : LpOK sy Tryz.prog GT (ovD ro) ro (L_token_behindSpaces A68 A49) 0 Tryz.f50.ntmps (bodyOf Tryz.f50) := lp_of (l := [(nthLoop (bodyOf Tryz.f50) 0)]) (by kernel_rfl) (lp_cons (lo_token_behindSpaces_1 A68 A49 h68 h49) lp_nil)


theorem raw_token_behindSpaces (A68 : T_token_byteAt) (A49 : T_char_IsSpace) (a0 : List UInt8) (a1 : Int) (k : W → Prop) : fnT sy Tryz.prog GT (C_token_behindSpaces A68 A49) (L_token_behindSpaces A68 A49) Tryz.f50.ntmps (bodyOf Tryz.f50) [none] Tryz.f50.results.toList [.s a0, .i .i64 a1] k = F_token_behindSpaces A68 A49 a0 a1 (fun r0 => k (.i .i64 r0)) := by kernel_rfl

theorem ok_token_behindSpaces (A68 : T_token_byteAt) (A49 : T_char_IsSpace) (h68 : FnOK sy Tryz.prog GT (ovD ro) ro 68 (q_token_byteAt A68)) (h49 : FnOK sy Tryz.prog GT (ovD ro) ro 49 (q_char_IsSpace A49)) : FnOK sy Tryz.prog GT (ovD ro) ro 50 (q_token_behindSpaces (F_token_behindSpaces A68 A49)) := (fn_ok (rc := [none]) (f := 50) (fn := Tryz.f50) (c := bodyOf Tryz.f50) (nt := Tryz.f50.ntmps) (res := Tryz.f50.results.toList) (C := C_token_behindSpaces A68 A49) (L := (L_token_behindSpaces A68 A49)) (fun _ _ => rfl) Tryz.func50 (by kernel_rfl) rfl rfl (Cok_token_behindSpaces A68 A49 h68 h49) (Lp_token_behindSpaces A68 A49 h68 h49)).weak (by
  intro us k h
  unfold q_token_behindSpaces at h
  split at h
  · skip
    rename_i a0 a1
    rw [raw_token_behindSpaces A68 A49 a0 a1 k]
    exact h
  · exact h.elim)

abbrev T_stringslite_HasPrefix := List UInt8 → List UInt8 → (Bool → Prop) → Prop
def q_stringslite_HasPrefix (A : T_stringslite_HasPrefix) (us : List W) (k : W → Prop) : Prop := match us with
  | [.s a0, .s a1] => A a0 a1 (fun r0 => k (.b r0))
  | _ => False
theorem q_stringslite_HasPrefix_weak {A A2 : T_stringslite_HasPrefix} (h : FnOK sy Tryz.prog GT (ovD ro) ro 61 (q_stringslite_HasPrefix A)) (hA : ∀ a0 a1 K, A2 a0 a1 K → A a0 a1 K) : FnOK sy Tryz.prog GT (ovD ro) ro 61 (q_stringslite_HasPrefix A2) := h.weak (by
  intro us k h
  unfold q_stringslite_HasPrefix at h ⊢
  split at h
  · exact hA _ _ _ h
  · exact h.elim)

def F_stringslite_HasPrefix (a0 : List UInt8) (a1 : List UInt8) (K : Bool → Prop) : Prop :=
  (((decide ((a1.length : Int) ≤ (a0.length : Int))) = true → ((0 ≤ (a1.length : Int) ∧ (a1.length : Int) ≤ (a0.length : Int)) ∧ K ((a0.take (a1.length : Int).toNat) == a1))) ∧ ((decide ((a1.length : Int) ≤ (a0.length : Int))) = false → K false))

def C_stringslite_HasPrefix : CallT sg := tab []
theorem Cok_stringslite_HasPrefix (o0 : Nat → Prop) : CalOK sy Tryz.prog GT (ovD ro) o0 ro (C_stringslite_HasPrefix) := tab_nil o0

theorem raw_stringslite_HasPrefix (a0 : List UInt8) (a1 : List UInt8) (k : W → Prop) : fnT sy Tryz.prog GT (C_stringslite_HasPrefix) noL Tryz.f61.ntmps (bodyOf Tryz.f61) [none] Tryz.f61.results.toList [.s a0, .s a1] k = F_stringslite_HasPrefix a0 a1 (fun r0 => k (.b r0)) := by kernel_rfl

theorem ok_stringslite_HasPrefix : FnOK sy Tryz.prog GT (ovD ro) ro 61 (q_stringslite_HasPrefix (F_stringslite_HasPrefix)) := (fn_ok (rc := [none]) (f := 61) (fn := Tryz.f61) (c := bodyOf Tryz.f61) (nt := Tryz.f61.ntmps) (res := Tryz.f61.results.toList) (C := C_stringslite_HasPrefix) (L := noL) (fun _ _ => rfl) Tryz.func61 (by kernel_rfl) rfl rfl (Cok_stringslite_HasPrefix) (lp_of (l := []) (by kernel_rfl) lp_nil)).weak (by
  intro us k h
  unfold q_stringslite_HasPrefix at h
  split at h
  · skip
    rename_i a0 a1
    rw [raw_stringslite_HasPrefix a0 a1 k]
    exact h
  · exact h.elim)

abbrev T_strings_HasPrefix := List UInt8 → List UInt8 → (Bool → Prop) → Prop
def q_strings_HasPrefix (A : T_strings_HasPrefix) (us : List W) (k : W → Prop) : Prop := match us with
  | [.s a0, .s a1] => A a0 a1 (fun r0 => k (.b r0))
  | _ => False
theorem q_strings_HasPrefix_weak {A A2 : T_strings_HasPrefix} (h : FnOK sy Tryz.prog GT (ovD ro) ro 47 (q_strings_HasPrefix A)) (hA : ∀ a0 a1 K, A2 a0 a1 K → A a0 a1 K) : FnOK sy Tryz.prog GT (ovD ro) ro 47 (q_strings_HasPrefix A2) := h.weak (by
  intro us k h
  unfold q_strings_HasPrefix at h ⊢
  split at h
  · exact hA _ _ _ h
  · exact h.elim)

def F_strings_HasPrefix (A61 : T_stringslite_HasPrefix) (a0 : List UInt8) (a1 : List UInt8) (K : Bool → Prop) : Prop :=
  (A61 a0 a1 (fun y1 => K y1))

def C_strings_HasPrefix (A61 : T_stringslite_HasPrefix) : CallT sg := tab [(61, con [none, none] (q_stringslite_HasPrefix A61))]
theorem Cok_strings_HasPrefix (A61 : T_stringslite_HasPrefix) (h61 : FnOK sy Tryz.prog GT (ovD ro) ro 61 (q_stringslite_HasPrefix A61)) (o0 : Nat → Prop) : CalOK sy Tryz.prog GT (ovD ro) o0 ro (C_strings_HasPrefix A61) := (tab_cons (con_ok h61) tab_nil) o0

theorem raw_strings_HasPrefix (A61 : T_stringslite_HasPrefix) (a0 : List UInt8) (a1 : List UInt8) (k : W → Prop) : fnT sy Tryz.prog GT (C_strings_HasPrefix A61) noL Tryz.f47.ntmps (bodyOf Tryz.f47) [none] Tryz.f47.results.toList [.s a0, .s a1] k = F_strings_HasPrefix A61 a0 a1 (fun r0 => k (.b r0)) := by kernel_rfl

theorem ok_strings_HasPrefix (A61 : T_stringslite_HasPrefix) (h61 : FnOK sy Tryz.prog GT (ovD ro) ro 61 (q_stringslite_HasPrefix A61)) : FnOK sy Tryz.prog GT (ovD ro) ro 47 (q_strings_HasPrefix (F_strings_HasPrefix A61)) := (fn_ok (rc := [none]) (f := 47) (fn := Tryz.f47) (c := bodyOf Tryz.f47) (nt := Tryz.f47.ntmps) (res := Tryz.f47.results.toList) (C := C_strings_HasPrefix A61) (L := noL) (fun _ _ => rfl) Tryz.func47 (by kernel_rfl) rfl rfl (Cok_strings_HasPrefix A61 h61) (lp_of (l := []) (by kernel_rfl) lp_nil)).weak (by
  intro us k h
  unfold q_strings_HasPrefix at h
  split at h
  · skip
    rename_i a0 a1
    rw [raw_strings_HasPrefix A61 a0 a1 k]
    exact h
  · exact h.elim)

abbrev T_input_startsWithLineEnd := List UInt8 → (Bool → Prop) → Prop
def q_input_startsWithLineEnd (A : T_input_startsWithLineEnd) (us : List W) (k : W → Prop) : Prop := match us with
  | [.s a0] => A a0 (fun r0 => k (.b r0))
  | _ => False
theorem q_input_startsWithLineEnd_weak {A A2 : T_input_startsWithLineEnd} (h : FnOK sy Tryz.prog GT (ovD ro) ro 46 (q_input_startsWithLineEnd A)) (hA : ∀ a0 K, A2 a0 K → A a0 K) : FnOK sy Tryz.prog GT (ovD ro) ro 46 (q_input_startsWithLineEnd A2) := h.weak (by
  intro us k h
  unfold q_input_startsWithLineEnd at h ⊢
  split at h
  · exact hA _ _ h
  · exact h.elim)

def F_input_startsWithLineEnd (a0 : List UInt8) (K : Bool → Prop) : Prop :=
  (((decide ((0 : Int) < (a0.length : Int))) = true → ((0 ≤ (0 : Int) ∧ (0 : Int) < (a0.length : Int)) ∧ K (decide (((a0.getD 0 0).toNat : Int) = (10 : Int))))) ∧ ((decide ((0 : Int) < (a0.length : Int))) = false → K false))

def C_input_startsWithLineEnd : CallT sg := tab []
theorem Cok_input_startsWithLineEnd (o0 : Nat → Prop) : CalOK sy Tryz.prog GT (ovD ro) o0 ro (C_input_startsWithLineEnd) := tab_nil o0

theorem raw_input_startsWithLineEnd (a0 : List UInt8) (k : W → Prop) : fnT sy Tryz.prog GT (C_input_startsWithLineEnd) noL Tryz.f46.ntmps (bodyOf Tryz.f46) [none] Tryz.f46.results.toList [.s a0] k = F_input_startsWithLineEnd a0 (fun r0 => k (.b r0)) := by kernel_rfl

theorem ok_input_startsWithLineEnd : FnOK sy Tryz.prog GT (ovD ro) ro 46 (q_input_startsWithLineEnd (F_input_startsWithLineEnd)) := (fn_ok (rc := [none]) (f := 46) (fn := Tryz.f46) (c := bodyOf Tryz.f46) (nt := Tryz.f46.ntmps) (res := Tryz.f46.results.toList) (C := C_input_startsWithLineEnd) (L := noL) (fun _ _ => rfl) Tryz.func46 (by kernel_rfl) rfl rfl (Cok_input_startsWithLineEnd) (lp_of (l := []) (by kernel_rfl) lp_nil)).weak (by
  intro us k h
  unfold q_input_startsWithLineEnd at h
  split at h
  · skip
    rename_i a0
    rw [raw_input_startsWithLineEnd a0 k]
    exact h
  · exact h.elim)

abbrev T_input_Clean := List UInt8 → (List UInt8 → Int → Prop) → Prop
def q_input_Clean (A : T_input_Clean) (us : List W) (k : W → Prop) : Prop := match us with
  | [.s a0] => A a0 (fun r0 r1 => k (.t [.s r0, .i .i64 r1]))
  | _ => False
theorem q_input_Clean_weak {A A2 : T_input_Clean} (h : FnOK sy Tryz.prog GT (ovD ro) ro 32 (q_input_Clean A)) (hA : ∀ a0 K, A2 a0 K → A a0 K) : FnOK sy Tryz.prog GT (ovD ro) ro 32 (q_input_Clean A2) := h.weak (by
  intro us k h
  unfold q_input_Clean at h ⊢
  split at h
  · exact hA _ _ h
  · exact h.elim)

def F_input_Clean_l5 (A46 : T_input_startsWithLineEnd) : Nat → List UInt8 → Int → List UInt8 → (List UInt8 → Prop) → Prop
  | 0, _, _, _, _ => False
  | n + 1, x0, x5, b0, Ke => (((decide (x5 < (x0.length : Int))) = true → ((0 ≤ x5 ∧ x5 < (x0.length : Int)) ∧ (((decide (((x0.getD x5.toNat 0).toNat : Int) = (0 : Int))) = true → ((b0.length + ([239, 191, 189] : List UInt8).length) * 1 ≤ 1099511627776 ∧ (I64 (x5 + (1 : Int)) ∧ F_input_Clean_l5 A46 n x0 (x5 + (1 : Int)) (b0 ++ ([239, 191, 189] : List UInt8)) Ke))) ∧ ((decide (((x0.getD x5.toNat 0).toNat : Int) = (0 : Int))) = false → (((decide (((x0.getD x5.toNat 0).toNat : Int) = (12 : Int))) = true → ((0 ≤ (10 : Int) ∧ (10 : Int) ≤ 255) ∧ ((b0.length + [UInt8.ofNat 10].length) * 1 ≤ 1099511627776 ∧ (I64 (x5 + (1 : Int)) ∧ F_input_Clean_l5 A46 n x0 (x5 + (1 : Int)) (b0 ++ [UInt8.ofNat 10]) Ke)))) ∧ ((decide (((x0.getD x5.toNat 0).toNat : Int) = (12 : Int))) = false → (((decide (((x0.getD x5.toNat 0).toNat : Int) = (13 : Int))) = true → (I64 (x5 + (1 : Int)) ∧ ((0 ≤ (x5 + (1 : Int)) ∧ (x5 + (1 : Int)) ≤ (x0.length : Int)) ∧ (A46 (x0.drop (x5 + (1 : Int)).toNat) (fun y1 => (((!y1) = true → ((0 ≤ (10 : Int) ∧ (10 : Int) ≤ 255) ∧ ((b0.length + [UInt8.ofNat 10].length) * 1 ≤ 1099511627776 ∧ (I64 (x5 + (1 : Int)) ∧ F_input_Clean_l5 A46 n x0 (x5 + (1 : Int)) (b0 ++ [UInt8.ofNat 10]) Ke)))) ∧ ((!y1) = false → (I64 (x5 + (1 : Int)) ∧ F_input_Clean_l5 A46 n x0 (x5 + (1 : Int)) b0 Ke)))))))) ∧ ((decide (((x0.getD x5.toNat 0).toNat : Int) = (13 : Int))) = false → ((0 ≤ x5 ∧ x5 < (x0.length : Int)) ∧ ((0 ≤ ((x0.getD x5.toNat 0).toNat : Int) ∧ ((x0.getD x5.toNat 0).toNat : Int) ≤ 255) ∧ ((b0.length + [UInt8.ofNat (((x0.getD x5.toNat 0).toNat : Int).toNat)].length) * 1 ≤ 1099511627776 ∧ (I64 (x5 + (1 : Int)) ∧ F_input_Clean_l5 A46 n x0 (x5 + (1 : Int)) (b0 ++ [UInt8.ofNat (((x0.getD x5.toNat 0).toNat : Int).toNat)]) Ke)))))))))))) ∧ ((decide (x5 < (x0.length : Int))) = false → Ke b0))

def F_input_Clean (A46 : T_input_startsWithLineEnd) (a0 : List UInt8) (K : List UInt8 → Int → Prop) : Prop :=
  (((decide ((4000 : Int) < (a0.length : Int))) = true → K ([] : List UInt8) (28 : Int)) ∧ ((decide ((4000 : Int) < (a0.length : Int))) = false → ((0 ≤ (0 : Int) ∧ (0 : Int) ≤ (a0.length : Int) ∧ 1 * (a0.length : Int) ≤ 1099511627776 ∧ (a0.length : Int) ≤ 1099511627776) ∧ ((0 ≤ (0 : Int) ∧ (0 : Int) ≤ 255) ∧ (∃ m, F_input_Clean_l5 A46 m a0 (0 : Int) (List.replicate 0 (UInt8.ofNat 0)) (fun y1 => K y1 (0 : Int)))))))

def C_input_Clean (A46 : T_input_startsWithLineEnd) : CallT sg := tab [(46, con [none] (q_input_startsWithLineEnd A46))]
theorem Cok_input_Clean (A46 : T_input_startsWithLineEnd) (h46 : FnOK sy Tryz.prog GT (ovD ro) ro 46 (q_input_startsWithLineEnd A46)) (o0 : Nat → Prop) : CalOK sy Tryz.prog GT (ovD ro) o0 ro (C_input_Clean A46) := (tab_cons (con_ok h46) tab_nil) o0

def ls_input_Clean_5 : LS sy ((List UInt8) × Unit × Int × Unit) (List (sg.Den Cd.u8) × Unit) := ⟨[], fCons 0 (vStr sy) (fCons 4 (vLit sy (.o 0)) (fCons 5 (vInt sy .i64) (fNil sy))), hBuf 0 Cd.u8 (hNil sy), 1, [0]⟩
def le_input_Clean_5 : LS sy (Unit × Unit) (List (sg.Den Cd.u8) × Unit) := ⟨[], fCons 4 (vLit sy (.o 0)) (fNil sy), hBuf 0 Cd.u8 (hNil sy), 1, [0]⟩
def lr_input_Clean_5 : LS sy Unit Unit := ⟨[], fNil sy, hNil sy, 0, []⟩
def FF_input_Clean_5 (A46 : T_input_startsWithLineEnd) (n : Nat) (x : ((List UInt8) × Unit × Int × Unit) × (List (sg.Den Cd.u8) × Unit)) (K : Ex → Z sg → Prop) : Prop := F_input_Clean_l5 A46 n x.1.1 x.1.2.2.1 x.2.1 (fun y0 => K (.exit 0) (le_input_Clean_5.put (((), ()), (y0, ()))))
def h_input_Clean_5 (A46 : T_input_startsWithLineEnd) (z : Z sg) (K : Ex → Z sg → Prop) : Prop := ls_input_Clean_5.get z (fun x => ∃ n, FF_input_Clean_5 A46 n x K)
def L_input_Clean (A46 : T_input_startsWithLineEnd) : LoopT sg := tabL [(5, h_input_Clean_5 A46)]
theorem hs_input_Clean_5 (A46 : T_input_startsWithLineEnd) (n : Nat) (x : ((List UInt8) × Unit × Int × Unit) × (List (sg.Den Cd.u8) × Unit)) (K : Ex → Z sg → Prop) : forceZ (ls_input_Clean_5.put x) (fun z => sC sy Tryz.prog GT (C_input_Clean A46) (L_input_Clean A46) Tryz.f32.ntmps (nthLoop (bodyOf Tryz.f32) 0) z (rnd ls_input_Clean_5 (czT 0 le_input_Clean_5 lr_input_Clean_5) (fun x => FF_input_Clean_5 A46 n x K) K)) = FF_input_Clean_5 A46 (n + 1) x K := by kernel_rfl
theorem hl_input_Clean_5 (A46 : T_input_startsWithLineEnd) (z : Z sg) (K : Ex → Z sg → Prop) : (L_input_Clean A46) (nthLoop (bodyOf Tryz.f32) 0) z K = ls_input_Clean_5.get z (fun x => ∃ n, FF_input_Clean_5 A46 n x K) := by kernel_rfl
theorem lo_input_Clean_5 (A46 : T_input_startsWithLineEnd) (h46 : FnOK sy Tryz.prog GT (ovD ro) ro 46 (q_input_startsWithLineEnd A46)) : ∀ (o0 : Nat → Prop) (B : Bs sg), B.E.length ≤ 0 → ∀ z K, (L_input_Clean A46) (nthLoop (bodyOf Tryz.f32) 0) z K → Sx.Sem sy Tryz.prog GT (ovD ro) o0 ro Tryz.f32.ntmps B (.loop (nthLoop (bodyOf Tryz.f32) 0)) z K :=
  loop_ok (Cok_input_Clean A46 h46) (lp_of (l := []) (by kernel_rfl) lp_nil) ls_input_Clean_5 (by decide) (czT 0 le_input_Clean_5 lr_input_Clean_5) (fun _ _ hB => czT_ok 0 le_input_Clean_5 lr_input_Clean_5 (Nat.le_trans hB (by decide)) (Nat.le_trans hB (by decide))) (fun _ _ h => h) (hs_input_Clean_5 A46) (hl_input_Clean_5 A46)
theorem Lp_input_Clean (A46 : T_input_startsWithLineEnd) (h46 : FnOK sy Tryz.prog GT (ovD ro) ro 46 (q_input_startsWithLineEnd A46)) : LpOK sy Tryz.prog GT (ovD ro) ro (L_input_Clean A46) 0 Tryz.f32.ntmps (bodyOf Tryz.f32) := lp_of (l := [(nthLoop (bodyOf Tryz.f32) 0)]) (by kernel_rfl) (lp_cons (lo_input_Clean_5 A46 h46) lp_nil)


theorem raw_input_Clean (A46 : T_input_startsWithLineEnd) (a0 : List UInt8) (k : W → Prop) : fnT sy Tryz.prog GT (C_input_Clean A46) (L_input_Clean A46) Tryz.f32.ntmps (bodyOf Tryz.f32) [none, none] Tryz.f32.results.toList [.s a0] k = F_input_Clean A46 a0 (fun r0 r1 => k (.t [.s r0, .i .i64 r1])) := by kernel_rfl

theorem ok_input_Clean (A46 : T_input_startsWithLineEnd) (h46 : FnOK sy Tryz.prog GT (ovD ro) ro 46 (q_input_startsWithLineEnd A46)) : FnOK sy Tryz.prog GT (ovD ro) ro 32 (q_input_Clean (F_input_Clean A46)) := (fn_ok (rc := [none, none]) (f := 32) (fn := Tryz.f32) (c := bodyOf Tryz.f32) (nt := Tryz.f32.ntmps) (res := Tryz.f32.results.toList) (C := C_input_Clean A46) (L := (L_input_Clean A46)) (fun _ _ => rfl) Tryz.func32 (by kernel_rfl) rfl rfl (Cok_input_Clean A46 h46) (Lp_input_Clean A46 h46)).weak (by
  intro us k h
  unfold q_input_Clean at h
  split at h
  · skip
    rename_i a0
    rw [raw_input_Clean A46 a0 k]
    exact h
  · exact h.elim)

end Go.Proofs.YtbpbaicbaehhjaaGreatDoor
