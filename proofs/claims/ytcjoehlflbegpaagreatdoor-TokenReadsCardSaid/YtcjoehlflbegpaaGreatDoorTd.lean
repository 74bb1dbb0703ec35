/-
  Functions of the tokenizer, followed. Nothing is claimed here.
-/
import Derived.Test.YtcjoehlflbegpaaGreatDoorTa
import Derived.Test.YtcjoehlflbegpaaGreatDoorOb
namespace Go.Proofs.YtcjoehlflbegpaaGreatDoor
open Go.Vm Go.Sx Go.RowKit

def marksL : List Int := [0, 0, 0, 0, 0, 0, 0, 0, 0, 0, 0, 0, 0, 0, 0, 0, 0, 0, 0, 0, 0, 0, 0, 0, 0, 0, 0, 0, 0, 0, 0, 0, 0, 0, 0, 0, 0, 0, 0, 0, 21, 22, 0, 0, 18, 0, 0, 0, 0, 0, 0, 0, 0, 0, 0, 0, 0, 0, 16, 17, 0, 0, 0, 0, 0, 0, 0, 0, 0, 0, 0, 0, 0, 0, 0, 0, 0, 0, 0, 0, 0, 0, 0, 0, 0, 0, 0, 0, 0, 0, 0, 19, 0, 20, 0, 0, 0, 0, 0, 0, 0, 0, 0, 0, 0, 0, 0, 0, 0, 0, 0, 0, 0, 0, 0, 0, 0, 0, 0, 0, 0, 0, 0, 23, 0, 24]
def GT : Gl
  | 0 => some (.u8, marksL)
  | _ => none
def ovD : Ov := ovA
abbrev FO (f : FuncId) (pt : List W → (W → Prop) → Prop) : Prop := FnOK sy Tryz.prog GT ovD GL f pt
def noT (_ : List W) (_ : W → Prop) : Prop := False
theorem noT_ok (f : FuncId) : FO f noT := fun _ _ _ h => h.elim

abbrev T_k_byteAt := Bt → Int → (Int → Prop) → Prop
def q_k_byteAt (A : T_k_byteAt) (us : List W) (k : W → Prop) : Prop := match us with
  | [.s a0, .i .i64 a1] => A a0 a1 (fun r0 => k (.i .u8 r0))
  | _ => False
theorem q_k_byteAt_weak {A A2 : T_k_byteAt} (h : FO 49 (q_k_byteAt A)) (hA : ∀ a0 a1 K, A2 a0 a1 K → A a0 a1 K) : FO 49 (q_k_byteAt A2) := h.weak (by
  intro us k h
  unfold q_k_byteAt at h ⊢
  split at h
  · exact hA _ _ _ h
  · exact h.elim)

def F_k_byteAt (a0 : Bt) (a1 : Int) (K : Int → Prop) : Prop :=
  (((decide (a1 < (a0.length : Int))) = true → ((0 ≤ a1 ∧ a1 < (a0.length : Int)) ∧ K ((a0.getD a1.toNat 0).toNat : Int))) ∧ ((decide (a1 < (a0.length : Int))) = false → K (0 : Int)))

def C_k_byteAt : CallT sg := tab []
theorem Cok_k_byteAt (o0 : Nat → Prop) : CalOK sy Tryz.prog GT ovD o0 GL (C_k_byteAt) := tab_nil o0

theorem raw_k_byteAt (a0 : Bt) (a1 : Int) (k : W → Prop) : fnT sy Tryz.prog GT (C_k_byteAt) noL Tryz.f49.ntmps (bodyOf Tryz.f49) [none] Tryz.f49.results.toList [.s a0, .i .i64 a1] k = F_k_byteAt a0 a1 (fun r0 => k (.i .u8 r0)) := by kernel_rfl

theorem ok_k_byteAt : FO 49 (q_k_byteAt (F_k_byteAt)) := (fn_ok (rc := [none]) (f := 49) (fn := Tryz.f49) (c := bodyOf Tryz.f49) (nt := Tryz.f49.ntmps) (res := Tryz.f49.results.toList) (C := C_k_byteAt) (L := noL) (fun _ => rfl) Tryz.func49 (by kernel_rfl) rfl rfl (Cok_k_byteAt) (lp_of (l := []) (by kernel_rfl) lp_nil)).weak (by
  intro us k h
  unfold q_k_byteAt at h
  split at h
  · skip
    rename_i a0 a1
    rw [raw_k_byteAt a0 a1 k]
    exact h
  · exact h.elim)

abbrev T_char_IsDigit := Int → (Bool → Prop) → Prop
def q_char_IsDigit (A : T_char_IsDigit) (us : List W) (k : W → Prop) : Prop := match us with
  | [.i .u8 a0] => A a0 (fun r0 => k (.b r0))
  | _ => False
theorem q_char_IsDigit_weak {A A2 : T_char_IsDigit} (h : FO 55 (q_char_IsDigit A)) (hA : ∀ a0 K, A2 a0 K → A a0 K) : FO 55 (q_char_IsDigit A2) := h.weak (by
  intro us k h
  unfold q_char_IsDigit at h ⊢
  split at h
  · exact hA _ _ h
  · exact h.elim)

def F_char_IsDigit (a0 : Int) (K : Bool → Prop) : Prop :=
  (((decide ((48 : Int) ≤ a0)) = true → K (decide (a0 ≤ 57))) ∧ ((decide ((48 : Int) ≤ a0)) = false → K false))

def C_char_IsDigit : CallT sg := tab []
theorem Cok_char_IsDigit (o0 : Nat → Prop) : CalOK sy Tryz.prog GT ovD o0 GL (C_char_IsDigit) := tab_nil o0

theorem raw_char_IsDigit (a0 : Int) (k : W → Prop) : fnT sy Tryz.prog GT (C_char_IsDigit) noL Tryz.f55.ntmps (bodyOf Tryz.f55) [none] Tryz.f55.results.toList [.i .u8 a0] k = F_char_IsDigit a0 (fun r0 => k (.b r0)) := by kernel_rfl

theorem ok_char_IsDigit : FO 55 (q_char_IsDigit (F_char_IsDigit)) := (fn_ok (rc := [none]) (f := 55) (fn := Tryz.f55) (c := bodyOf Tryz.f55) (nt := Tryz.f55.ntmps) (res := Tryz.f55.results.toList) (C := C_char_IsDigit) (L := noL) (fun _ => rfl) Tryz.func55 (by kernel_rfl) rfl rfl (Cok_char_IsDigit) (lp_of (l := []) (by kernel_rfl) lp_nil)).weak (by
  intro us k h
  unfold q_char_IsDigit at h
  split at h
  · skip
    rename_i a0
    rw [raw_char_IsDigit a0 k]
    exact h
  · exact h.elim)

abbrev T_k_isSign := Int → (Bool → Prop) → Prop
def q_k_isSign (A : T_k_isSign) (us : List W) (k : W → Prop) : Prop := match us with
  | [.i .u8 a0] => A a0 (fun r0 => k (.b r0))
  | _ => False
theorem q_k_isSign_weak {A A2 : T_k_isSign} (h : FO 54 (q_k_isSign A)) (hA : ∀ a0 K, A2 a0 K → A a0 K) : FO 54 (q_k_isSign A2) := h.weak (by
  intro us k h
  unfold q_k_isSign at h ⊢
  split at h
  · exact hA _ _ h
  · exact h.elim)

def F_k_isSign (a0 : Int) (K : Bool → Prop) : Prop :=
  (((decide (a0 = 43)) = false → K (decide (a0 = 45))) ∧ ((decide (a0 = 43)) = true → K true))

def C_k_isSign : CallT sg := tab []
theorem Cok_k_isSign (o0 : Nat → Prop) : CalOK sy Tryz.prog GT ovD o0 GL (C_k_isSign) := tab_nil o0

theorem raw_k_isSign (a0 : Int) (k : W → Prop) : fnT sy Tryz.prog GT (C_k_isSign) noL Tryz.f54.ntmps (bodyOf Tryz.f54) [none] Tryz.f54.results.toList [.i .u8 a0] k = F_k_isSign a0 (fun r0 => k (.b r0)) := by kernel_rfl

theorem ok_k_isSign : FO 54 (q_k_isSign (F_k_isSign)) := (fn_ok (rc := [none]) (f := 54) (fn := Tryz.f54) (c := bodyOf Tryz.f54) (nt := Tryz.f54.ntmps) (res := Tryz.f54.results.toList) (C := C_k_isSign) (L := noL) (fun _ => rfl) Tryz.func54 (by kernel_rfl) rfl rfl (Cok_k_isSign) (lp_of (l := []) (by kernel_rfl) lp_nil)).weak (by
  intro us k h
  unfold q_k_isSign at h
  split at h
  · skip
    rename_i a0
    rw [raw_k_isSign a0 k]
    exact h
  · exact h.elim)

abbrev T_k_fractionStarts := Bt → Int → (Bool → Prop) → Prop
def q_k_fractionStarts (A : T_k_fractionStarts) (us : List W) (k : W → Prop) : Prop := match us with
  | [.s a0, .i .i64 a1] => A a0 a1 (fun r0 => k (.b r0))
  | _ => False
theorem q_k_fractionStarts_weak {A A2 : T_k_fractionStarts} (h : FO 56 (q_k_fractionStarts A)) (hA : ∀ a0 a1 K, A2 a0 a1 K → A a0 a1 K) : FO 56 (q_k_fractionStarts A2) := h.weak (by
  intro us k h
  unfold q_k_fractionStarts at h ⊢
  split at h
  · exact hA _ _ _ h
  · exact h.elim)

def F_k_fractionStarts (A49 : T_k_byteAt) (A55 : T_char_IsDigit) (a0 : Bt) (a1 : Int) (K : Bool → Prop) : Prop :=
  (A49 a0 a1 (fun y1 => (((decide (y1 = 46)) = true → (I64 (a1 + 1) ∧ (A49 a0 (a1 + 1) (fun y2 => (A55 y2 (fun y3 => K y3)))))) ∧ ((decide (y1 = 46)) = false → K false))))

def C_k_fractionStarts (A49 : T_k_byteAt) (A55 : T_char_IsDigit) : CallT sg := tab [(49, con [none, none] (q_k_byteAt A49)), (55, con [none] (q_char_IsDigit A55))]
theorem Cok_k_fractionStarts (A49 : T_k_byteAt) (A55 : T_char_IsDigit) (h49 : FO 49 (q_k_byteAt A49)) (h55 : FO 55 (q_char_IsDigit A55)) (o0 : Nat → Prop) : CalOK sy Tryz.prog GT ovD o0 GL (C_k_fractionStarts A49 A55) := (tab_cons (con_ok h49) (tab_cons (con_ok h55) tab_nil)) o0

theorem raw_k_fractionStarts (A49 : T_k_byteAt) (A55 : T_char_IsDigit) (a0 : Bt) (a1 : Int) (k : W → Prop) : fnT sy Tryz.prog GT (C_k_fractionStarts A49 A55) noL Tryz.f56.ntmps (bodyOf Tryz.f56) [none] Tryz.f56.results.toList [.s a0, .i .i64 a1] k = F_k_fractionStarts A49 A55 a0 a1 (fun r0 => k (.b r0)) := by kernel_rfl

theorem ok_k_fractionStarts (A49 : T_k_byteAt) (A55 : T_char_IsDigit) (h49 : FO 49 (q_k_byteAt A49)) (h55 : FO 55 (q_char_IsDigit A55)) : FO 56 (q_k_fractionStarts (F_k_fractionStarts A49 A55)) := (fn_ok (rc := [none]) (f := 56) (fn := Tryz.f56) (c := bodyOf Tryz.f56) (nt := Tryz.f56.ntmps) (res := Tryz.f56.results.toList) (C := C_k_fractionStarts A49 A55) (L := noL) (fun _ => rfl) Tryz.func56 (by kernel_rfl) rfl rfl (Cok_k_fractionStarts A49 A55 h49 h55) (lp_of (l := []) (by kernel_rfl) lp_nil)).weak (by
  intro us k h
  unfold q_k_fractionStarts at h
  split at h
  · skip
    rename_i a0 a1
    rw [raw_k_fractionStarts A49 A55 a0 a1 k]
    exact h
  · exact h.elim)

abbrev T_k_nSt := Bt → Int → (Bool → Prop) → Prop
def q_k_nSt (A : T_k_nSt) (us : List W) (k : W → Prop) : Prop := match us with
  | [.s a0, .i .i64 a1] => A a0 a1 (fun r0 => k (.b r0))
  | _ => False
theorem q_k_nSt_weak {A A2 : T_k_nSt} (h : FO 31 (q_k_nSt A)) (hA : ∀ a0 a1 K, A2 a0 a1 K → A a0 a1 K) : FO 31 (q_k_nSt A2) := h.weak (by
  intro us k h
  unfold q_k_nSt at h ⊢
  split at h
  · exact hA _ _ _ h
  · exact h.elim)

def F_k_nSt (A49 : T_k_byteAt) (A54 : T_k_isSign) (A55 : T_char_IsDigit) (A56 : T_k_fractionStarts) (a0 : Bt) (a1 : Int) (K : Bool → Prop) : Prop :=
  (A49 a0 a1 (fun y1 => (A54 y1 (fun y2 => ((y2 = true → (I64 (a1 + 1) ∧ (A49 a0 (a1 + 1) (fun y3 => (A55 y3 (fun y4 => ((y4 = false → (A56 a0 (a1 + 1) (fun y5 => K y5))) ∧ (y4 = true → K true)))))))) ∧ (y2 = false → (A49 a0 a1 (fun y6 => (A55 y6 (fun y7 => ((y7 = false → (A56 a0 a1 (fun y8 => K y8))) ∧ (y7 = true → K true))))))))))))

def C_k_nSt (A49 : T_k_byteAt) (A54 : T_k_isSign) (A55 : T_char_IsDigit) (A56 : T_k_fractionStarts) : CallT sg := tab [(49, con [none, none] (q_k_byteAt A49)), (54, con [none] (q_k_isSign A54)), (55, con [none] (q_char_IsDigit A55)), (56, con [none, none] (q_k_fractionStarts A56))]
theorem Cok_k_nSt (A49 : T_k_byteAt) (A54 : T_k_isSign) (A55 : T_char_IsDigit) (A56 : T_k_fractionStarts) (h49 : FO 49 (q_k_byteAt A49)) (h54 : FO 54 (q_k_isSign A54)) (h55 : FO 55 (q_char_IsDigit A55)) (h56 : FO 56 (q_k_fractionStarts A56)) (o0 : Nat → Prop) : CalOK sy Tryz.prog GT ovD o0 GL (C_k_nSt A49 A54 A55 A56) := (tab_cons (con_ok h49) (tab_cons (con_ok h54) (tab_cons (con_ok h55) (tab_cons (con_ok h56) tab_nil)))) o0

theorem raw_k_nSt (A49 : T_k_byteAt) (A54 : T_k_isSign) (A55 : T_char_IsDigit) (A56 : T_k_fractionStarts) (a0 : Bt) (a1 : Int) (k : W → Prop) : fnT sy Tryz.prog GT (C_k_nSt A49 A54 A55 A56) noL Tryz.f31.ntmps (bodyOf Tryz.f31) [none] Tryz.f31.results.toList [.s a0, .i .i64 a1] k = F_k_nSt A49 A54 A55 A56 a0 a1 (fun r0 => k (.b r0)) := by kernel_rfl

theorem ok_k_nSt (A49 : T_k_byteAt) (A54 : T_k_isSign) (A55 : T_char_IsDigit) (A56 : T_k_fractionStarts) (h49 : FO 49 (q_k_byteAt A49)) (h54 : FO 54 (q_k_isSign A54)) (h55 : FO 55 (q_char_IsDigit A55)) (h56 : FO 56 (q_k_fractionStarts A56)) : FO 31 (q_k_nSt (F_k_nSt A49 A54 A55 A56)) := (fn_ok (rc := [none]) (f := 31) (fn := Tryz.f31) (c := bodyOf Tryz.f31) (nt := Tryz.f31.ntmps) (res := Tryz.f31.results.toList) (C := C_k_nSt A49 A54 A55 A56) (L := noL) (fun _ => rfl) Tryz.func31 (by kernel_rfl) rfl rfl (Cok_k_nSt A49 A54 A55 A56 h49 h54 h55 h56) (lp_of (l := []) (by kernel_rfl) lp_nil)).weak (by
  intro us k h
  unfold q_k_nSt at h
  split at h
  · skip
    rename_i a0 a1
    rw [raw_k_nSt A49 A54 A55 A56 a0 a1 k]
    exact h
  · exact h.elim)

abbrev T_k_isExponentMark := Int → (Bool → Prop) → Prop
def q_k_isExponentMark (A : T_k_isExponentMark) (us : List W) (k : W → Prop) : Prop := match us with
  | [.i .u8 a0] => A a0 (fun r0 => k (.b r0))
  | _ => False
theorem q_k_isExponentMark_weak {A A2 : T_k_isExponentMark} (h : FO 77 (q_k_isExponentMark A)) (hA : ∀ a0 K, A2 a0 K → A a0 K) : FO 77 (q_k_isExponentMark A2) := h.weak (by
  intro us k h
  unfold q_k_isExponentMark at h ⊢
  split at h
  · exact hA _ _ h
  · exact h.elim)

def F_k_isExponentMark (a0 : Int) (K : Bool → Prop) : Prop :=
  (((decide (a0 = 101)) = false → K (decide (a0 = 69))) ∧ ((decide (a0 = 101)) = true → K true))

def C_k_isExponentMark : CallT sg := tab []
theorem Cok_k_isExponentMark (o0 : Nat → Prop) : CalOK sy Tryz.prog GT ovD o0 GL (C_k_isExponentMark) := tab_nil o0

theorem raw_k_isExponentMark (a0 : Int) (k : W → Prop) : fnT sy Tryz.prog GT (C_k_isExponentMark) noL Tryz.f77.ntmps (bodyOf Tryz.f77) [none] Tryz.f77.results.toList [.i .u8 a0] k = F_k_isExponentMark a0 (fun r0 => k (.b r0)) := by kernel_rfl

theorem ok_k_isExponentMark : FO 77 (q_k_isExponentMark (F_k_isExponentMark)) := (fn_ok (rc := [none]) (f := 77) (fn := Tryz.f77) (c := bodyOf Tryz.f77) (nt := Tryz.f77.ntmps) (res := Tryz.f77.results.toList) (C := C_k_isExponentMark) (L := noL) (fun _ => rfl) Tryz.func77 (by kernel_rfl) rfl rfl (Cok_k_isExponentMark) (lp_of (l := []) (by kernel_rfl) lp_nil)).weak (by
  intro us k h
  unfold q_k_isExponentMark at h
  split at h
  · skip
    rename_i a0
    rw [raw_k_isExponentMark a0 k]
    exact h
  · exact h.elim)

abbrev T_k_digitStarts := Bt → Int → (Bool → Prop) → Prop
def q_k_digitStarts (A : T_k_digitStarts) (us : List W) (k : W → Prop) : Prop := match us with
  | [.s a0, .i .i64 a1] => A a0 a1 (fun r0 => k (.b r0))
  | _ => False
theorem q_k_digitStarts_weak {A A2 : T_k_digitStarts} (h : FO 78 (q_k_digitStarts A)) (hA : ∀ a0 a1 K, A2 a0 a1 K → A a0 a1 K) : FO 78 (q_k_digitStarts A2) := h.weak (by
  intro us k h
  unfold q_k_digitStarts at h ⊢
  split at h
  · exact hA _ _ _ h
  · exact h.elim)

def F_k_digitStarts (A49 : T_k_byteAt) (A54 : T_k_isSign) (A55 : T_char_IsDigit) (a0 : Bt) (a1 : Int) (K : Bool → Prop) : Prop :=
  (A49 a0 a1 (fun y1 => (A54 y1 (fun y2 => ((y2 = true → (I64 (a1 + 1) ∧ (A49 a0 (a1 + 1) (fun y3 => (A55 y3 (fun y4 => K y4)))))) ∧ (y2 = false → (A49 a0 a1 (fun y5 => (A55 y5 (fun y6 => K y6))))))))))

def C_k_digitStarts (A49 : T_k_byteAt) (A54 : T_k_isSign) (A55 : T_char_IsDigit) : CallT sg := tab [(49, con [none, none] (q_k_byteAt A49)), (54, con [none] (q_k_isSign A54)), (55, con [none] (q_char_IsDigit A55))]
theorem Cok_k_digitStarts (A49 : T_k_byteAt) (A54 : T_k_isSign) (A55 : T_char_IsDigit) (h49 : FO 49 (q_k_byteAt A49)) (h54 : FO 54 (q_k_isSign A54)) (h55 : FO 55 (q_char_IsDigit A55)) (o0 : Nat → Prop) : CalOK sy Tryz.prog GT ovD o0 GL (C_k_digitStarts A49 A54 A55) := (tab_cons (con_ok h49) (tab_cons (con_ok h54) (tab_cons (con_ok h55) tab_nil))) o0

theorem raw_k_digitStarts (A49 : T_k_byteAt) (A54 : T_k_isSign) (A55 : T_char_IsDigit) (a0 : Bt) (a1 : Int) (k : W → Prop) : fnT sy Tryz.prog GT (C_k_digitStarts A49 A54 A55) noL Tryz.f78.ntmps (bodyOf Tryz.f78) [none] Tryz.f78.results.toList [.s a0, .i .i64 a1] k = F_k_digitStarts A49 A54 A55 a0 a1 (fun r0 => k (.b r0)) := by kernel_rfl

theorem ok_k_digitStarts (A49 : T_k_byteAt) (A54 : T_k_isSign) (A55 : T_char_IsDigit) (h49 : FO 49 (q_k_byteAt A49)) (h54 : FO 54 (q_k_isSign A54)) (h55 : FO 55 (q_char_IsDigit A55)) : FO 78 (q_k_digitStarts (F_k_digitStarts A49 A54 A55)) := (fn_ok (rc := [none]) (f := 78) (fn := Tryz.f78) (c := bodyOf Tryz.f78) (nt := Tryz.f78.ntmps) (res := Tryz.f78.results.toList) (C := C_k_digitStarts A49 A54 A55) (L := noL) (fun _ => rfl) Tryz.func78 (by kernel_rfl) rfl rfl (Cok_k_digitStarts A49 A54 A55 h49 h54 h55) (lp_of (l := []) (by kernel_rfl) lp_nil)).weak (by
  intro us k h
  unfold q_k_digitStarts at h
  split at h
  · skip
    rename_i a0 a1
    rw [raw_k_digitStarts A49 A54 A55 a0 a1 k]
    exact h
  · exact h.elim)

abbrev T_k_wholeNumber := Bt → (Int → Prop) → Prop
def q_k_wholeNumber (A : T_k_wholeNumber) (us : List W) (k : W → Prop) : Prop := match us with
  | [.s a0] => A a0 (fun r0 => k (.i .i64 r0))
  | _ => False
theorem q_k_wholeNumber_weak {A A2 : T_k_wholeNumber} (h : FO 79 (q_k_wholeNumber A)) (hA : ∀ a0 K, A2 a0 K → A a0 K) : FO 79 (q_k_wholeNumber A2) := h.weak (by
  intro us k h
  unfold q_k_wholeNumber at h ⊢
  split at h
  · exact hA _ _ h
  · exact h.elim)

def F_k_wholeNumber_l3 : Nat → Bt → Int → Int → Int → (Int → Prop) → Prop
  | 0, _, _, _, _, _ => False
  | n + 1, x0, x3, x6, x7, Ke => (((decide (x7 < x6)) = true → (I64 ((10 : Int) * x3) ∧ ((0 ≤ x7 ∧ x7 < (x0.length : Int)) ∧ (I64 (IntKind.u8.wrap (((x0.getD x7.toNat 0).toNat : Int) - (48 : Int))) ∧ (I64 (((10 : Int) * x3) + (IntKind.u8.wrap (((x0.getD x7.toNat 0).toNat : Int) - (48 : Int)))) ∧ (I64 (x7 + 1) ∧ F_k_wholeNumber_l3 n x0 (if (8000 : Int) < (((10 : Int) * x3) + (IntKind.u8.wrap (((x0.getD x7.toNat 0).toNat : Int) - (48 : Int)))) then (8000 : Int) else (((10 : Int) * x3) + (IntKind.u8.wrap (((x0.getD x7.toNat 0).toNat : Int) - (48 : Int))))) x6 (x7 + 1) Ke)))))) ∧ ((decide (x7 < x6)) = false → Ke x3))

def F_k_wholeNumber (a0 : Bt) (K : Int → Prop) : Prop :=
  (∃ m, F_k_wholeNumber_l3 m a0 (0 : Int) (a0.length : Int) (0 : Int) (fun y1 => K y1))

def C_k_wholeNumber : CallT sg := tab []
theorem Cok_k_wholeNumber (o0 : Nat → Prop) : CalOK sy Tryz.prog GT ovD o0 GL (C_k_wholeNumber) := tab_nil o0

def ls_k_wholeNumber_3 : LS sy ((Bt) × Int × Int × Int × Unit) Unit := ⟨[], fCons 0 (vStr sy) (fCons 3 (vInt sy .i64) (fCons 6 (vInt sy .i64) (fCons 7 (vInt sy .i64) (fNil sy)))), hNil sy, 0, []⟩
def le_k_wholeNumber_3 : LS sy (Int × Unit) Unit := ⟨[], fCons 3 (vInt sy .i64) (fNil sy), hNil sy, 0, []⟩
def lr_k_wholeNumber_3 : LS sy Unit Unit := ⟨[], fNil sy, hNil sy, 0, []⟩
def FF_k_wholeNumber_3 (n : Nat) (x : ((Bt) × Int × Int × Int × Unit) × Unit) (K : Ex → Z sg → Prop) : Prop := F_k_wholeNumber_l3 n x.1.1 x.1.2.1 x.1.2.2.1 x.1.2.2.2.1 (fun y0 => K (.exit 0) (le_k_wholeNumber_3.put ((y0, ()), ())))
def h_k_wholeNumber_3 (z : Z sg) (K : Ex → Z sg → Prop) : Prop := ls_k_wholeNumber_3.get z (fun x => ∃ n, FF_k_wholeNumber_3 n x K)
def L_k_wholeNumber : LoopT sg := tabL [(3, h_k_wholeNumber_3)]
theorem hs_k_wholeNumber_3 (n : Nat) (x : ((Bt) × Int × Int × Int × Unit) × Unit) (K : Ex → Z sg → Prop) : forceZ (ls_k_wholeNumber_3.put x) (fun z => sC sy Tryz.prog GT (C_k_wholeNumber) (L_k_wholeNumber) Tryz.f79.ntmps (nthLoop (bodyOf Tryz.f79) 0) z (rnd ls_k_wholeNumber_3 (czT 0 le_k_wholeNumber_3 lr_k_wholeNumber_3) (fun x => FF_k_wholeNumber_3 n x K) K)) = FF_k_wholeNumber_3 (n + 1) x K := by kernel_rfl
theorem hl_k_wholeNumber_3 (z : Z sg) (K : Ex → Z sg → Prop) : (L_k_wholeNumber) (nthLoop (bodyOf Tryz.f79) 0) z K = ls_k_wholeNumber_3.get z (fun x => ∃ n, FF_k_wholeNumber_3 n x K) := by kernel_rfl
theorem lo_k_wholeNumber_3 : ∀ (o0 : Nat → Prop) (B : Bs sg), B.E.length ≤ 0 → ∀ z K, (L_k_wholeNumber) (nthLoop (bodyOf Tryz.f79) 0) z K → Sx.Sem sy Tryz.prog GT ovD o0 GL Tryz.f79.ntmps B (.loop (nthLoop (bodyOf Tryz.f79) 0)) z K :=
  loop_ok (Cok_k_wholeNumber) (lp_of (l := []) (by kernel_rfl) lp_nil) ls_k_wholeNumber_3 (by decide) (czT 0 le_k_wholeNumber_3 lr_k_wholeNumber_3) (fun _ _ hB => czT_ok 0 le_k_wholeNumber_3 lr_k_wholeNumber_3 (Nat.le_trans hB (by decide)) (Nat.le_trans hB (by decide))) (fun _ _ h => h) (hs_k_wholeNumber_3) (hl_k_wholeNumber_3)
theorem Lp_k_wholeNumber : LpOK sy Tryz.prog GT ovD GL (L_k_wholeNumber) 0 Tryz.f79.ntmps (bodyOf Tryz.f79) := lp_of (l := [(nthLoop (bodyOf Tryz.f79) 0)]) (by kernel_rfl) (lp_cons (lo_k_wholeNumber_3) lp_nil)


theorem raw_k_wholeNumber (a0 : Bt) (k : W → Prop) : fnT sy Tryz.prog GT (C_k_wholeNumber) (L_k_wholeNumber) Tryz.f79.ntmps (bodyOf Tryz.f79) [none] Tryz.f79.results.toList [.s a0] k = F_k_wholeNumber a0 (fun r0 => k (.i .i64 r0)) := by kernel_rfl

theorem ok_k_wholeNumber : FO 79 (q_k_wholeNumber (F_k_wholeNumber)) := (fn_ok (rc := [none]) (f := 79) (fn := Tryz.f79) (c := bodyOf Tryz.f79) (nt := Tryz.f79.ntmps) (res := Tryz.f79.results.toList) (C := C_k_wholeNumber) (L := (L_k_wholeNumber)) (fun _ => rfl) Tryz.func79 (by kernel_rfl) rfl rfl (Cok_k_wholeNumber) (Lp_k_wholeNumber)).weak (by
  intro us k h
  unfold q_k_wholeNumber at h
  split at h
  · skip
    rename_i a0
    rw [raw_k_wholeNumber a0 k]
    exact h
  · exact h.elim)

abbrev T_gs_trimLeftByte := Bt → Int → (Bt → Prop) → Prop
def q_gs_trimLeftByte (A : T_gs_trimLeftByte) (us : List W) (k : W → Prop) : Prop := match us with
  | [.s a0, .i .u8 a1] => A a0 a1 (fun r0 => k (.s r0))
  | _ => False
theorem q_gs_trimLeftByte_weak {A A2 : T_gs_trimLeftByte} (h : FO 96 (q_gs_trimLeftByte A)) (hA : ∀ a0 a1 K, A2 a0 a1 K → A a0 a1 K) : FO 96 (q_gs_trimLeftByte A2) := h.weak (by
  intro us k h
  unfold q_gs_trimLeftByte at h ⊢
  split at h
  · exact hA _ _ _ h
  · exact h.elim)

def F_gs_trimLeftByte_l1 : Nat → Bt → Int → (Bt → Prop) → Prop
  | 0, _, _, _ => False
  | n + 1, x0, x1, Ke => (((decide ((0 : Int) < (x0.length : Int))) = true → ((0 ≤ (0 : Int) ∧ (0 : Int) < (x0.length : Int)) ∧ (((decide (((x0.getD 0 0).toNat : Int) = x1)) = true → ((0 ≤ (1 : Int) ∧ (1 : Int) ≤ (x0.length : Int)) ∧ F_gs_trimLeftByte_l1 n (x0.drop 1) x1 Ke)) ∧ ((decide (((x0.getD 0 0).toNat : Int) = x1)) = false → Ke x0)))) ∧ ((decide ((0 : Int) < (x0.length : Int))) = false → Ke x0))

def F_gs_trimLeftByte (a0 : Bt) (a1 : Int) (K : Bt → Prop) : Prop :=
  (∃ m, F_gs_trimLeftByte_l1 m a0 a1 (fun y1 => K y1))

def C_gs_trimLeftByte : CallT sg := tab []
theorem Cok_gs_trimLeftByte (o0 : Nat → Prop) : CalOK sy Tryz.prog GT ovD o0 GL (C_gs_trimLeftByte) := tab_nil o0

def ls_gs_trimLeftByte_1 : LS sy ((Bt) × Int × Unit) Unit := ⟨[], fCons 0 (vStr sy) (fCons 1 (vInt sy .u8) (fNil sy)), hNil sy, 0, []⟩
def le_gs_trimLeftByte_1 : LS sy ((Bt) × Unit) Unit := ⟨[], fCons 0 (vStr sy) (fNil sy), hNil sy, 0, []⟩
def lr_gs_trimLeftByte_1 : LS sy Unit Unit := ⟨[], fNil sy, hNil sy, 0, []⟩
def FF_gs_trimLeftByte_1 (n : Nat) (x : ((Bt) × Int × Unit) × Unit) (K : Ex → Z sg → Prop) : Prop := F_gs_trimLeftByte_l1 n x.1.1 x.1.2.1 (fun y0 => K (.exit 0) (le_gs_trimLeftByte_1.put ((y0, ()), ())))
def h_gs_trimLeftByte_1 (z : Z sg) (K : Ex → Z sg → Prop) : Prop := ls_gs_trimLeftByte_1.get z (fun x => ∃ n, FF_gs_trimLeftByte_1 n x K)
def L_gs_trimLeftByte : LoopT sg := tabL [(1, h_gs_trimLeftByte_1)]
theorem hs_gs_trimLeftByte_1 (n : Nat) (x : ((Bt) × Int × Unit) × Unit) (K : Ex → Z sg → Prop) : forceZ (ls_gs_trimLeftByte_1.put x) (fun z => sC sy Tryz.prog GT (C_gs_trimLeftByte) (L_gs_trimLeftByte) Tryz.f96.ntmps (nthLoop (bodyOf Tryz.f96) 0) z (rnd ls_gs_trimLeftByte_1 (czT 0 le_gs_trimLeftByte_1 lr_gs_trimLeftByte_1) (fun x => FF_gs_trimLeftByte_1 n x K) K)) = FF_gs_trimLeftByte_1 (n + 1) x K := by kernel_rfl
theorem hl_gs_trimLeftByte_1 (z : Z sg) (K : Ex → Z sg → Prop) : (L_gs_trimLeftByte) (nthLoop (bodyOf Tryz.f96) 0) z K = ls_gs_trimLeftByte_1.get z (fun x => ∃ n, FF_gs_trimLeftByte_1 n x K) := by kernel_rfl
theorem lo_gs_trimLeftByte_1 : ∀ (o0 : Nat → Prop) (B : Bs sg), B.E.length ≤ 0 → ∀ z K, (L_gs_trimLeftByte) (nthLoop (bodyOf Tryz.f96) 0) z K → Sx.Sem sy Tryz.prog GT ovD o0 GL Tryz.f96.ntmps B (.loop (nthLoop (bodyOf Tryz.f96) 0)) z K :=
  loop_ok (Cok_gs_trimLeftByte) (lp_of (l := []) (by kernel_rfl) lp_nil) ls_gs_trimLeftByte_1 (by decide) (czT 0 le_gs_trimLeftByte_1 lr_gs_trimLeftByte_1) (fun _ _ hB => czT_ok 0 le_gs_trimLeftByte_1 lr_gs_trimLeftByte_1 (Nat.le_trans hB (by decide)) (Nat.le_trans hB (by decide))) (fun _ _ h => h) (hs_gs_trimLeftByte_1) (hl_gs_trimLeftByte_1)
theorem Lp_gs_trimLeftByte : LpOK sy Tryz.prog GT ovD GL (L_gs_trimLeftByte) 0 Tryz.f96.ntmps (bodyOf Tryz.f96) := lp_of (l := [(nthLoop (bodyOf Tryz.f96) 0)]) (by kernel_rfl) (lp_cons (lo_gs_trimLeftByte_1) lp_nil)


theorem raw_gs_trimLeftByte (a0 : Bt) (a1 : Int) (k : W → Prop) : fnT sy Tryz.prog GT (C_gs_trimLeftByte) (L_gs_trimLeftByte) Tryz.f96.ntmps (bodyOf Tryz.f96) [none] Tryz.f96.results.toList [.s a0, .i .u8 a1] k = F_gs_trimLeftByte a0 a1 (fun r0 => k (.s r0)) := by kernel_rfl

theorem ok_gs_trimLeftByte : FO 96 (q_gs_trimLeftByte (F_gs_trimLeftByte)) := (fn_ok (rc := [none]) (f := 96) (fn := Tryz.f96) (c := bodyOf Tryz.f96) (nt := Tryz.f96.ntmps) (res := Tryz.f96.results.toList) (C := C_gs_trimLeftByte) (L := (L_gs_trimLeftByte)) (fun _ => rfl) Tryz.func96 (by kernel_rfl) rfl rfl (Cok_gs_trimLeftByte) (Lp_gs_trimLeftByte)).weak (by
  intro us k h
  unfold q_gs_trimLeftByte at h
  split at h
  · skip
    rename_i a0 a1
    rw [raw_gs_trimLeftByte a0 a1 k]
    exact h
  · exact h.elim)

abbrev T_gs_TrimLeft := Bt → Bt → (Bt → Prop) → Prop
def q_gs_TrimLeft (A : T_gs_TrimLeft) (us : List W) (k : W → Prop) : Prop := match us with
  | [.s a0, .s a1] => A a0 a1 (fun r0 => k (.s r0))
  | _ => False
theorem q_gs_TrimLeft_weak {A A2 : T_gs_TrimLeft} (h : FO 95 (q_gs_TrimLeft A)) (hA : ∀ a0 a1 K, A2 a0 a1 K → A a0 a1 K) : FO 95 (q_gs_TrimLeft A2) := h.weak (by
  intro us k h
  unfold q_gs_TrimLeft at h ⊢
  split at h
  · exact hA _ _ _ h
  · exact h.elim)

def F_gs_TrimLeft (A96 : T_gs_trimLeftByte) (a0 : Bt) (a1 : Bt) (K : Bt → Prop) : Prop :=
  (((a0 == ([] : Bt)) = false → (((a1 == ([] : Bt)) = true → K a0) ∧ ((a1 == ([] : Bt)) = false → (((decide ((a1.length : Int) = (1 : Int))) = true → ((0 ≤ (0 : Int) ∧ (0 : Int) < (a1.length : Int)) ∧ (((decide (((a1.getD 0 0).toNat : Int) < (128 : Int))) = true → ((0 ≤ (0 : Int) ∧ (0 : Int) < (a1.length : Int)) ∧ (A96 a0 ((a1.getD 0 0).toNat : Int) (fun y1 => K y1)))) ∧ ((decide (((a1.getD 0 0).toNat : Int) < (128 : Int))) = false → False)))) ∧ ((decide ((a1.length : Int) = (1 : Int))) = false → False))))) ∧ ((a0 == ([] : Bt)) = true → K a0))

def C_gs_TrimLeft (A96 : T_gs_trimLeftByte) : CallT sg := tab [(96, con [none, none] (q_gs_trimLeftByte A96)), (97, con [] noT), (98, con [] noT), (99, con [] noT)]
theorem Cok_gs_TrimLeft (A96 : T_gs_trimLeftByte) (h96 : FO 96 (q_gs_trimLeftByte A96)) (o0 : Nat → Prop) : CalOK sy Tryz.prog GT ovD o0 GL (C_gs_TrimLeft A96) := (tab_cons (con_ok h96) (tab_cons (con_ok (noT_ok 97)) (tab_cons (con_ok (noT_ok 98)) (tab_cons (con_ok (noT_ok 99)) tab_nil)))) o0

theorem raw_gs_TrimLeft (A96 : T_gs_trimLeftByte) (a0 : Bt) (a1 : Bt) (k : W → Prop) : fnT sy Tryz.prog GT (C_gs_TrimLeft A96) noL Tryz.f95.ntmps (bodyOf Tryz.f95) [none] Tryz.f95.results.toList [.s a0, .s a1] k = F_gs_TrimLeft A96 a0 a1 (fun r0 => k (.s r0)) := by kernel_rfl

theorem ok_gs_TrimLeft (A96 : T_gs_trimLeftByte) (h96 : FO 96 (q_gs_trimLeftByte A96)) : FO 95 (q_gs_TrimLeft (F_gs_TrimLeft A96)) := (fn_ok (rc := [none]) (f := 95) (fn := Tryz.f95) (c := bodyOf Tryz.f95) (nt := Tryz.f95.ntmps) (res := Tryz.f95.results.toList) (C := C_gs_TrimLeft A96) (L := noL) (fun _ => rfl) Tryz.func95 (by kernel_rfl) rfl rfl (Cok_gs_TrimLeft A96 h96) (lp_of (l := []) (by kernel_rfl) lp_nil)).weak (by
  intro us k h
  unfold q_gs_TrimLeft at h
  split at h
  · skip
    rename_i a0 a1
    rw [raw_gs_TrimLeft A96 a0 a1 k]
    exact h
  · exact h.elim)

abbrev T_k_cutNumber := Bt → Int → (Int → Prop) → Prop
def q_k_cutNumber (A : T_k_cutNumber) (us : List W) (k : W → Prop) : Prop := match us with
  | [.s a0, .i .i64 a1] => A a0 a1 (fun r0 => k (.i .i64 r0))
  | _ => False
theorem q_k_cutNumber_weak {A A2 : T_k_cutNumber} (h : FO 80 (q_k_cutNumber A)) (hA : ∀ a0 a1 K, A2 a0 a1 K → A a0 a1 K) : FO 80 (q_k_cutNumber A2) := h.weak (by
  intro us k h
  unfold q_k_cutNumber at h ⊢
  split at h
  · exact hA _ _ _ h
  · exact h.elim)

def F_k_cutNumber_l9 (A95 : T_gs_TrimLeft) : Nat → Bt → Int → Int → Int → (Int → Prop) → Prop
  | 0, _, _, _, _, _ => False
  | n + 1, x5, x6, x25, x26, Ke => (((decide (x26 < x25)) = true → (I64 (x6 * 10) ∧ (((decide (x26 < (x5.length : Int))) = true → ((0 ≤ x26 ∧ x26 < (x5.length : Int)) ∧ (I64 (IntKind.u8.wrap (((x5.getD x26.toNat 0).toNat : Int) - (48 : Int))) ∧ (I64 ((x6 * 10) + (IntKind.u8.wrap (((x5.getD x26.toNat 0).toNat : Int) - (48 : Int)))) ∧ (I64 (x26 + 1) ∧ F_k_cutNumber_l9 A95 n x5 ((x6 * 10) + (IntKind.u8.wrap (((x5.getD x26.toNat 0).toNat : Int) - (48 : Int)))) x25 (x26 + 1) Ke))))) ∧ ((decide (x26 < (x5.length : Int))) = false → (I64 (x26 + 1) ∧ F_k_cutNumber_l9 A95 n x5 (x6 * 10) x25 (x26 + 1) Ke))))) ∧ ((decide (x26 < x25)) = false → Ke x6))

def F_k_cutNumber (A95 : T_gs_TrimLeft) (a0 : Bt) (a1 : Int) (K : Int → Prop) : Prop :=
  (A95 a0 ([48] : Bt) (fun y1 => (I64 ((a0.length : Int) - (y1.length : Int)) ∧ (I64 (a1 - ((a0.length : Int) - (y1.length : Int))) ∧ (((y1 == ([] : Bt)) = false → (((decide ((a1 - ((a0.length : Int) - (y1.length : Int))) ≤ 0)) = true → K (0 : Int)) ∧ ((decide ((a1 - ((a0.length : Int) - (y1.length : Int))) ≤ 0)) = false → (((decide ((13 : Int) < (a1 - ((a0.length : Int) - (y1.length : Int))))) = true → K (1000000000000 : Int)) ∧ ((decide ((13 : Int) < (a1 - ((a0.length : Int) - (y1.length : Int))))) = false → (∃ m, F_k_cutNumber_l9 A95 m y1 (0 : Int) (a1 - ((a0.length : Int) - (y1.length : Int))) (0 : Int) (fun y2 => K (if (1000000000000 : Int) < y2 then (1000000000000 : Int) else y2)))))))) ∧ ((y1 == ([] : Bt)) = true → K (0 : Int)))))))

def C_k_cutNumber (A95 : T_gs_TrimLeft) : CallT sg := tab [(95, con [none, none] (q_gs_TrimLeft A95))]
theorem Cok_k_cutNumber (A95 : T_gs_TrimLeft) (h95 : FO 95 (q_gs_TrimLeft A95)) (o0 : Nat → Prop) : CalOK sy Tryz.prog GT ovD o0 GL (C_k_cutNumber A95) := (tab_cons (con_ok h95) tab_nil) o0

def ls_k_cutNumber_9 : LS sy ((Bt) × Int × Int × Int × Unit) Unit := ⟨[], fCons 5 (vStr sy) (fCons 6 (vInt sy .i64) (fCons 25 (vInt sy .i64) (fCons 26 (vInt sy .i64) (fNil sy)))), hNil sy, 0, []⟩
def le_k_cutNumber_9 : LS sy (Int × Unit) Unit := ⟨[], fCons 6 (vInt sy .i64) (fNil sy), hNil sy, 0, []⟩
def lr_k_cutNumber_9 : LS sy Unit Unit := ⟨[], fNil sy, hNil sy, 0, []⟩
def FF_k_cutNumber_9 (A95 : T_gs_TrimLeft) (n : Nat) (x : ((Bt) × Int × Int × Int × Unit) × Unit) (K : Ex → Z sg → Prop) : Prop := F_k_cutNumber_l9 A95 n x.1.1 x.1.2.1 x.1.2.2.1 x.1.2.2.2.1 (fun y0 => K (.exit 0) (le_k_cutNumber_9.put ((y0, ()), ())))
def h_k_cutNumber_9 (A95 : T_gs_TrimLeft) (z : Z sg) (K : Ex → Z sg → Prop) : Prop := ls_k_cutNumber_9.get z (fun x => ∃ n, FF_k_cutNumber_9 A95 n x K)
def L_k_cutNumber (A95 : T_gs_TrimLeft) : LoopT sg := tabL [(9, h_k_cutNumber_9 A95)]
theorem hs_k_cutNumber_9 (A95 : T_gs_TrimLeft) (n : Nat) (x : ((Bt) × Int × Int × Int × Unit) × Unit) (K : Ex → Z sg → Prop) : forceZ (ls_k_cutNumber_9.put x) (fun z => sC sy Tryz.prog GT (C_k_cutNumber A95) (L_k_cutNumber A95) Tryz.f80.ntmps (nthLoop (bodyOf Tryz.f80) 0) z (rnd ls_k_cutNumber_9 (czT 0 le_k_cutNumber_9 lr_k_cutNumber_9) (fun x => FF_k_cutNumber_9 A95 n x K) K)) = FF_k_cutNumber_9 A95 (n + 1) x K := by kernel_rfl
theorem hl_k_cutNumber_9 (A95 : T_gs_TrimLeft) (z : Z sg) (K : Ex → Z sg → Prop) : (L_k_cutNumber A95) (nthLoop (bodyOf Tryz.f80) 0) z K = ls_k_cutNumber_9.get z (fun x => ∃ n, FF_k_cutNumber_9 A95 n x K) := by kernel_rfl
theorem lo_k_cutNumber_9 (A95 : T_gs_TrimLeft) (h95 : FO 95 (q_gs_TrimLeft A95)) : ∀ (o0 : Nat → Prop) (B : Bs sg), B.E.length ≤ 0 → ∀ z K, (L_k_cutNumber A95) (nthLoop (bodyOf Tryz.f80) 0) z K → Sx.Sem sy Tryz.prog GT ovD o0 GL Tryz.f80.ntmps B (.loop (nthLoop (bodyOf Tryz.f80) 0)) z K :=
  loop_ok (Cok_k_cutNumber A95 h95) (lp_of (l := []) (by kernel_rfl) lp_nil) ls_k_cutNumber_9 (by decide) (czT 0 le_k_cutNumber_9 lr_k_cutNumber_9) (fun _ _ hB => czT_ok 0 le_k_cutNumber_9 lr_k_cutNumber_9 (Nat.le_trans hB (by decide)) (Nat.le_trans hB (by decide))) (fun _ _ h => h) (hs_k_cutNumber_9 A95) (hl_k_cutNumber_9 A95)
theorem Lp_k_cutNumber (A95 : T_gs_TrimLeft) (h95 : FO 95 (q_gs_TrimLeft A95)) : LpOK sy Tryz.prog GT ovD GL (L_k_cutNumber A95) 0 Tryz.f80.ntmps (bodyOf Tryz.f80) := lp_of (l := [(nthLoop (bodyOf Tryz.f80) 0)]) (by kernel_rfl) (lp_cons (lo_k_cutNumber_9 A95 h95) lp_nil)


theorem raw_k_cutNumber (A95 : T_gs_TrimLeft) (a0 : Bt) (a1 : Int) (k : W → Prop) : fnT sy Tryz.prog GT (C_k_cutNumber A95) (L_k_cutNumber A95) Tryz.f80.ntmps (bodyOf Tryz.f80) [none] Tryz.f80.results.toList [.s a0, .i .i64 a1] k = F_k_cutNumber A95 a0 a1 (fun r0 => k (.i .i64 r0)) := by kernel_rfl

theorem ok_k_cutNumber (A95 : T_gs_TrimLeft) (h95 : FO 95 (q_gs_TrimLeft A95)) : FO 80 (q_k_cutNumber (F_k_cutNumber A95)) := (fn_ok (rc := [none]) (f := 80) (fn := Tryz.f80) (c := bodyOf Tryz.f80) (nt := Tryz.f80.ntmps) (res := Tryz.f80.results.toList) (C := C_k_cutNumber A95) (L := (L_k_cutNumber A95)) (fun _ => rfl) Tryz.func80 (by kernel_rfl) rfl rfl (Cok_k_cutNumber A95 h95) (Lp_k_cutNumber A95 h95)).weak (by
  intro us k h
  unfold q_k_cutNumber at h
  split at h
  · skip
    rename_i a0 a1
    rw [raw_k_cutNumber A95 a0 a1 k]
    exact h
  · exact h.elim)

def C_k_rNu_1 (A49 : T_k_byteAt) (A54 : T_k_isSign) : CallT sg := tab [(49, con [none, none] (q_k_byteAt A49)), (54, con [none] (q_k_isSign A54))]
theorem Cok_k_rNu_1 (A49 : T_k_byteAt) (A54 : T_k_isSign) (h49 : FO 49 (q_k_byteAt A49)) (h54 : FO 54 (q_k_isSign A54)) (o0 : Nat → Prop) : CalOK sy Tryz.prog GT ovD o0 GL (C_k_rNu_1 A49 A54) := (tab_cons (con_ok h49) (tab_cons (con_ok h54) tab_nil)) o0

def F_k_rNu_2_l2 (A49 : T_k_byteAt) (A55 : T_char_IsDigit) : Nat → Int → Bt → Int → (Int → Bt → Int → Prop) → Prop
  | 0, _, _, _, _ => False
  | n + 1, x3, c0_0, c1_0, Ke => (A49 c0_0 c1_0 (fun y1 => (A55 y1 (fun y2 => ((y2 = true → (I64 (c1_0 + 1) ∧ F_k_rNu_2_l2 A49 A55 n x3 c0_0 (c1_0 + 1) Ke)) ∧ (y2 = false → Ke x3 c0_0 c1_0))))))

def C_k_rNu_2 (A49 : T_k_byteAt) (A55 : T_char_IsDigit) : CallT sg := tab [(49, con [none, none] (q_k_byteAt A49)), (55, con [none] (q_char_IsDigit A55))]
theorem Cok_k_rNu_2 (A49 : T_k_byteAt) (A55 : T_char_IsDigit) (h49 : FO 49 (q_k_byteAt A49)) (h55 : FO 55 (q_char_IsDigit A55)) (o0 : Nat → Prop) : CalOK sy Tryz.prog GT ovD o0 GL (C_k_rNu_2 A49 A55) := (tab_cons (con_ok h49) (tab_cons (con_ok h55) tab_nil)) o0

def ls_k_rNu_2_2 : LS sy (Unit × Unit × Int × Unit) (((Bt) × Unit) × (Int × Unit) × Unit) := ⟨[], fCons 0 (vLit sy (.p 1 0)) (fCons 1 (vLit sy (.p 0 0)) (fCons 3 (vInt sy .i64) (fNil sy))), hCells 0 (lCons (vStr sy) (lNil sy)) (hCells 1 (lCons (vInt sy .i64) (lNil sy)) (hNil sy)), 2, []⟩
def le_k_rNu_2_2 : LS sy (Unit × Unit × Int × Unit) (((Bt) × Unit) × (Int × Unit) × Unit) := ⟨[], fCons 0 (vLit sy (.p 1 0)) (fCons 1 (vLit sy (.p 0 0)) (fCons 3 (vInt sy .i64) (fNil sy))), hCells 0 (lCons (vStr sy) (lNil sy)) (hCells 1 (lCons (vInt sy .i64) (lNil sy)) (hNil sy)), 2, []⟩
def lr_k_rNu_2_2 : LS sy Unit Unit := ⟨[], fNil sy, hNil sy, 2, []⟩
def FF_k_rNu_2_2 (A49 : T_k_byteAt) (A55 : T_char_IsDigit) (n : Nat) (x : (Unit × Unit × Int × Unit) × (((Bt) × Unit) × (Int × Unit) × Unit)) (K : Ex → Z sg → Prop) : Prop := F_k_rNu_2_l2 A49 A55 n x.1.2.2.1 x.2.1.1 x.2.2.1.1 (fun y0 y1 y2 => K (.exit 0) (le_k_rNu_2_2.put (((), (), y0, ()), ((y1, ()), (y2, ()), ()))))
def h_k_rNu_2_2 (A49 : T_k_byteAt) (A55 : T_char_IsDigit) (z : Z sg) (K : Ex → Z sg → Prop) : Prop := ls_k_rNu_2_2.get z (fun x => ∃ n, FF_k_rNu_2_2 A49 A55 n x K)
def L_k_rNu_2 (A49 : T_k_byteAt) (A55 : T_char_IsDigit) : LoopT sg := tabL [(2, h_k_rNu_2_2 A49 A55)]
theorem hs_k_rNu_2_2 (A49 : T_k_byteAt) (A55 : T_char_IsDigit) (n : Nat) (x : (Unit × Unit × Int × Unit) × (((Bt) × Unit) × (Int × Unit) × Unit)) (K : Ex → Z sg → Prop) : forceZ (ls_k_rNu_2_2.put x) (fun z => sC sy Tryz.prog GT (C_k_rNu_2 A49 A55) (L_k_rNu_2 A49 A55) Tryz.f76.ntmps (nthLoop (bodyOf Tryz.f76) 0) z (rnd ls_k_rNu_2_2 (czT 0 le_k_rNu_2_2 lr_k_rNu_2_2) (fun x => FF_k_rNu_2_2 A49 A55 n x K) K)) = FF_k_rNu_2_2 A49 A55 (n + 1) x K := by kernel_rfl
theorem hl_k_rNu_2_2 (A49 : T_k_byteAt) (A55 : T_char_IsDigit) (z : Z sg) (K : Ex → Z sg → Prop) : (L_k_rNu_2 A49 A55) (nthLoop (bodyOf Tryz.f76) 0) z K = ls_k_rNu_2_2.get z (fun x => ∃ n, FF_k_rNu_2_2 A49 A55 n x K) := by kernel_rfl
theorem lo_k_rNu_2_2 (A49 : T_k_byteAt) (A55 : T_char_IsDigit) (h49 : FO 49 (q_k_byteAt A49)) (h55 : FO 55 (q_char_IsDigit A55)) : ∀ (o0 : Nat → Prop) (B : Bs sg), B.E.length ≤ 2 → ∀ z K, (L_k_rNu_2 A49 A55) (nthLoop (bodyOf Tryz.f76) 0) z K → Sx.Sem sy Tryz.prog GT ovD o0 GL Tryz.f76.ntmps B (.loop (nthLoop (bodyOf Tryz.f76) 0)) z K :=
  loop_ok (Cok_k_rNu_2 A49 A55 h49 h55) (lp_of (l := []) (by kernel_rfl) lp_nil) ls_k_rNu_2_2 (by decide) (czT 0 le_k_rNu_2_2 lr_k_rNu_2_2) (fun _ _ hB => czT_ok 0 le_k_rNu_2_2 lr_k_rNu_2_2 (Nat.le_trans hB (by decide)) (Nat.le_trans hB (by decide))) (fun _ _ h => h) (hs_k_rNu_2_2 A49 A55) (hl_k_rNu_2_2 A49 A55)
theorem Lp_k_rNu_2 (A49 : T_k_byteAt) (A55 : T_char_IsDigit) (h49 : FO 49 (q_k_byteAt A49)) (h55 : FO 55 (q_char_IsDigit A55)) : LpOK sy Tryz.prog GT ovD GL (L_k_rNu_2 A49 A55) 2 Tryz.f76.ntmps (bodyOf Tryz.f76) := lp_of (l := [(nthLoop (bodyOf Tryz.f76) 0)]) (by kernel_rfl) (lp_cons (lo_k_rNu_2_2 A49 A55 h49 h55) lp_nil)


abbrev T_k_rNu := Bt → Int → (Int → Bool → Int → Prop) → Prop
def q_k_rNu (A : T_k_rNu) (us : List W) (k : W → Prop) : Prop := match us with
  | [.s a0, .i .i64 a1] => A a0 a1 (fun r0 r1 r2 => k (.t [.i .i64 r0, .b r1, .i .i64 r2]))
  | _ => False
theorem q_k_rNu_weak {A A2 : T_k_rNu} (h : FO 57 (q_k_rNu A)) (hA : ∀ a0 a1 K, A2 a0 a1 K → A a0 a1 K) : FO 57 (q_k_rNu A2) := h.weak (by
  intro us k h
  unfold q_k_rNu at h ⊢
  split at h
  · exact hA _ _ _ h
  · exact h.elim)

def F_k_rNu (A56 : T_k_fractionStarts) (A49 : T_k_byteAt) (A77 : T_k_isExponentMark) (A78 : T_k_digitStarts) (A79 : T_k_wholeNumber) (A80 : T_k_cutNumber) (A54 : T_k_isSign) (A55 : T_char_IsDigit) (a0 : Bt) (a1 : Int) (K : Int → Bool → Int → Prop) : Prop :=
  (A49 a0 a1 (fun y1 => (A49 a0 a1 (fun y2 => (A54 y2 (fun y3 => ((y3 = true → (I64 (a1 + 1) ∧ (∃ m, F_k_rNu_2_l2 A49 A55 m (a1 + 1) a0 (a1 + 1) (fun y4 y5 y6 => ((0 ≤ y4 ∧ y4 ≤ y6 ∧ y6 ≤ (y5.length : Int)) ∧ (A56 y5 y6 (fun y7 => ((y7 = true → (I64 (y6 + 1) ∧ (∃ m, F_k_rNu_2_l2 A49 A55 m (y6 + 1) y5 (y6 + 1) (fun y8 y9 y10 => ((0 ≤ y8 ∧ y8 ≤ y10 ∧ y10 ≤ (y9.length : Int)) ∧ (A49 y9 y10 (fun y11 => (A77 y11 (fun y12 => ((y12 = true → (I64 (y10 + 1) ∧ (A78 y9 (y10 + 1) (fun y13 => ((y13 = true → (I64 (y10 + 1) ∧ (A49 y9 (y10 + 1) (fun y14 => (A49 y9 (y10 + 1) (fun y15 => (A54 y15 (fun y16 => ((y16 = true → (I64 ((y10 + 1) + 1) ∧ (∃ m, F_k_rNu_2_l2 A49 A55 m ((y10 + 1) + 1) y9 ((y10 + 1) + 1) (fun y17 y18 y19 => ((0 ≤ y17 ∧ y17 ≤ y19 ∧ y19 ≤ (y18.length : Int)) ∧ (A79 ((y18.drop y17.toNat).take (y19.toNat - y17.toNat)) (fun y20 => (((decide (y14 = 45)) = true → (I64 (0 - y20) ∧ (((y5.drop y4.toNat).take (y6.toNat - y4.toNat)).length + ((y9.drop y8.toNat).take (y10.toNat - y8.toNat)).length ≤ 1099511627776 ∧ (I64 ((((y5.drop y4.toNat).take (y6.toNat - y4.toNat)).length : Int) + (0 - y20)) ∧ (I64 (((((y5.drop y4.toNat).take (y6.toNat - y4.toNat)).length : Int) + (0 - y20)) + 3) ∧ (A80 (((y5.drop y4.toNat).take (y6.toNat - y4.toNat)) ++ ((y9.drop y8.toNat).take (y10.toNat - y8.toNat))) (((((y5.drop y4.toNat).take (y6.toNat - y4.toNat)).length : Int) + (0 - y20)) + 3) (fun y21 => (((decide (y1 = 45)) = true → (I64 (0 - y21) ∧ K (0 - y21) false y19)) ∧ ((decide (y1 = 45)) = false → K y21 false y19))))))))) ∧ ((decide (y14 = 45)) = false → (((y5.drop y4.toNat).take (y6.toNat - y4.toNat)).length + ((y9.drop y8.toNat).take (y10.toNat - y8.toNat)).length ≤ 1099511627776 ∧ (I64 ((((y5.drop y4.toNat).take (y6.toNat - y4.toNat)).length : Int) + y20) ∧ (I64 (((((y5.drop y4.toNat).take (y6.toNat - y4.toNat)).length : Int) + y20) + (3 : Int)) ∧ (A80 (((y5.drop y4.toNat).take (y6.toNat - y4.toNat)) ++ ((y9.drop y8.toNat).take (y10.toNat - y8.toNat))) (((((y5.drop y4.toNat).take (y6.toNat - y4.toNat)).length : Int) + y20) + (3 : Int)) (fun y22 => (((decide (y1 = 45)) = true → (I64 (0 - y22) ∧ K (0 - y22) false y19)) ∧ ((decide (y1 = 45)) = false → K y22 false y19)))))))))))))))) ∧ (y16 = false → (∃ m, F_k_rNu_2_l2 A49 A55 m (y10 + 1) y9 (y10 + 1) (fun y23 y24 y25 => ((0 ≤ y23 ∧ y23 ≤ y25 ∧ y25 ≤ (y24.length : Int)) ∧ (A79 ((y24.drop y23.toNat).take (y25.toNat - y23.toNat)) (fun y26 => (((decide (y14 = 45)) = true → (I64 (0 - y26) ∧ (((y5.drop y4.toNat).take (y6.toNat - y4.toNat)).length + ((y9.drop y8.toNat).take (y10.toNat - y8.toNat)).length ≤ 1099511627776 ∧ (I64 ((((y5.drop y4.toNat).take (y6.toNat - y4.toNat)).length : Int) + (0 - y26)) ∧ (I64 (((((y5.drop y4.toNat).take (y6.toNat - y4.toNat)).length : Int) + (0 - y26)) + 3) ∧ (A80 (((y5.drop y4.toNat).take (y6.toNat - y4.toNat)) ++ ((y9.drop y8.toNat).take (y10.toNat - y8.toNat))) (((((y5.drop y4.toNat).take (y6.toNat - y4.toNat)).length : Int) + (0 - y26)) + 3) (fun y27 => (((decide (y1 = 45)) = true → (I64 (0 - y27) ∧ K (0 - y27) false y25)) ∧ ((decide (y1 = 45)) = false → K y27 false y25))))))))) ∧ ((decide (y14 = 45)) = false → (((y5.drop y4.toNat).take (y6.toNat - y4.toNat)).length + ((y9.drop y8.toNat).take (y10.toNat - y8.toNat)).length ≤ 1099511627776 ∧ (I64 ((((y5.drop y4.toNat).take (y6.toNat - y4.toNat)).length : Int) + y26) ∧ (I64 (((((y5.drop y4.toNat).take (y6.toNat - y4.toNat)).length : Int) + y26) + (3 : Int)) ∧ (A80 (((y5.drop y4.toNat).take (y6.toNat - y4.toNat)) ++ ((y9.drop y8.toNat).take (y10.toNat - y8.toNat))) (((((y5.drop y4.toNat).take (y6.toNat - y4.toNat)).length : Int) + y26) + (3 : Int)) (fun y28 => (((decide (y1 = 45)) = true → (I64 (0 - y28) ∧ K (0 - y28) false y25)) ∧ ((decide (y1 = 45)) = false → K y28 false y25)))))))))))))))))))))))) ∧ (y13 = false → (((y5.drop y4.toNat).take (y6.toNat - y4.toNat)).length + ((y9.drop y8.toNat).take (y10.toNat - y8.toNat)).length ≤ 1099511627776 ∧ (I64 ((((y5.drop y4.toNat).take (y6.toNat - y4.toNat)).length : Int) + (0 : Int)) ∧ (I64 (((((y5.drop y4.toNat).take (y6.toNat - y4.toNat)).length : Int) + (0 : Int)) + 3) ∧ (A80 (((y5.drop y4.toNat).take (y6.toNat - y4.toNat)) ++ ((y9.drop y8.toNat).take (y10.toNat - y8.toNat))) (((((y5.drop y4.toNat).take (y6.toNat - y4.toNat)).length : Int) + (0 : Int)) + 3) (fun y29 => (((decide (y1 = 45)) = true → (I64 (0 - y29) ∧ K (0 - y29) false y10)) ∧ ((decide (y1 = 45)) = false → K y29 false y10))))))))))))) ∧ (y12 = false → (((y5.drop y4.toNat).take (y6.toNat - y4.toNat)).length + ((y9.drop y8.toNat).take (y10.toNat - y8.toNat)).length ≤ 1099511627776 ∧ (I64 ((((y5.drop y4.toNat).take (y6.toNat - y4.toNat)).length : Int) + (0 : Int)) ∧ (I64 (((((y5.drop y4.toNat).take (y6.toNat - y4.toNat)).length : Int) + (0 : Int)) + 3) ∧ (A80 (((y5.drop y4.toNat).take (y6.toNat - y4.toNat)) ++ ((y9.drop y8.toNat).take (y10.toNat - y8.toNat))) (((((y5.drop y4.toNat).take (y6.toNat - y4.toNat)).length : Int) + (0 : Int)) + 3) (fun y30 => (((decide (y1 = 45)) = true → (I64 (0 - y30) ∧ K (0 - y30) false y10)) ∧ ((decide (y1 = 45)) = false → K y30 false y10)))))))))))))))))) ∧ (y7 = false → (A49 y5 y6 (fun y31 => (A77 y31 (fun y32 => ((y32 = true → (I64 (y6 + 1) ∧ (A78 y5 (y6 + 1) (fun y33 => ((y33 = true → (I64 (y6 + 1) ∧ (A49 y5 (y6 + 1) (fun y34 => (A49 y5 (y6 + 1) (fun y35 => (A54 y35 (fun y36 => ((y36 = true → (I64 ((y6 + 1) + 1) ∧ (∃ m, F_k_rNu_2_l2 A49 A55 m ((y6 + 1) + 1) y5 ((y6 + 1) + 1) (fun y37 y38 y39 => ((0 ≤ y37 ∧ y37 ≤ y39 ∧ y39 ≤ (y38.length : Int)) ∧ (A79 ((y38.drop y37.toNat).take (y39.toNat - y37.toNat)) (fun y40 => (((decide (y34 = 45)) = true → (I64 (0 - y40) ∧ (((y5.drop y4.toNat).take (y6.toNat - y4.toNat)).length + ([] : Bt).length ≤ 1099511627776 ∧ (I64 ((((y5.drop y4.toNat).take (y6.toNat - y4.toNat)).length : Int) + (0 - y40)) ∧ (I64 (((((y5.drop y4.toNat).take (y6.toNat - y4.toNat)).length : Int) + (0 - y40)) + 3) ∧ (A80 (((y5.drop y4.toNat).take (y6.toNat - y4.toNat)) ++ ([] : Bt)) (((((y5.drop y4.toNat).take (y6.toNat - y4.toNat)).length : Int) + (0 - y40)) + 3) (fun y41 => (((decide (y1 = 45)) = true → (I64 (0 - y41) ∧ K (0 - y41) false y39)) ∧ ((decide (y1 = 45)) = false → K y41 false y39))))))))) ∧ ((decide (y34 = 45)) = false → (((y5.drop y4.toNat).take (y6.toNat - y4.toNat)).length + ([] : Bt).length ≤ 1099511627776 ∧ (I64 ((((y5.drop y4.toNat).take (y6.toNat - y4.toNat)).length : Int) + y40) ∧ (I64 (((((y5.drop y4.toNat).take (y6.toNat - y4.toNat)).length : Int) + y40) + (3 : Int)) ∧ (A80 (((y5.drop y4.toNat).take (y6.toNat - y4.toNat)) ++ ([] : Bt)) (((((y5.drop y4.toNat).take (y6.toNat - y4.toNat)).length : Int) + y40) + (3 : Int)) (fun y42 => (((decide (y1 = 45)) = true → (I64 (0 - y42) ∧ K (0 - y42) false y39)) ∧ ((decide (y1 = 45)) = false → K y42 false y39)))))))))))))))) ∧ (y36 = false → (∃ m, F_k_rNu_2_l2 A49 A55 m (y6 + 1) y5 (y6 + 1) (fun y43 y44 y45 => ((0 ≤ y43 ∧ y43 ≤ y45 ∧ y45 ≤ (y44.length : Int)) ∧ (A79 ((y44.drop y43.toNat).take (y45.toNat - y43.toNat)) (fun y46 => (((decide (y34 = 45)) = true → (I64 (0 - y46) ∧ (((y5.drop y4.toNat).take (y6.toNat - y4.toNat)).length + ([] : Bt).length ≤ 1099511627776 ∧ (I64 ((((y5.drop y4.toNat).take (y6.toNat - y4.toNat)).length : Int) + (0 - y46)) ∧ (I64 (((((y5.drop y4.toNat).take (y6.toNat - y4.toNat)).length : Int) + (0 - y46)) + 3) ∧ (A80 (((y5.drop y4.toNat).take (y6.toNat - y4.toNat)) ++ ([] : Bt)) (((((y5.drop y4.toNat).take (y6.toNat - y4.toNat)).length : Int) + (0 - y46)) + 3) (fun y47 => (((decide (y1 = 45)) = true → (I64 (0 - y47) ∧ K (0 - y47) false y45)) ∧ ((decide (y1 = 45)) = false → K y47 false y45))))))))) ∧ ((decide (y34 = 45)) = false → (((y5.drop y4.toNat).take (y6.toNat - y4.toNat)).length + ([] : Bt).length ≤ 1099511627776 ∧ (I64 ((((y5.drop y4.toNat).take (y6.toNat - y4.toNat)).length : Int) + y46) ∧ (I64 (((((y5.drop y4.toNat).take (y6.toNat - y4.toNat)).length : Int) + y46) + (3 : Int)) ∧ (A80 (((y5.drop y4.toNat).take (y6.toNat - y4.toNat)) ++ ([] : Bt)) (((((y5.drop y4.toNat).take (y6.toNat - y4.toNat)).length : Int) + y46) + (3 : Int)) (fun y48 => (((decide (y1 = 45)) = true → (I64 (0 - y48) ∧ K (0 - y48) false y45)) ∧ ((decide (y1 = 45)) = false → K y48 false y45)))))))))))))))))))))))) ∧ (y33 = false → (((y5.drop y4.toNat).take (y6.toNat - y4.toNat)).length + ([] : Bt).length ≤ 1099511627776 ∧ (I64 ((((y5.drop y4.toNat).take (y6.toNat - y4.toNat)).length : Int) + (0 : Int)) ∧ (I64 (((((y5.drop y4.toNat).take (y6.toNat - y4.toNat)).length : Int) + (0 : Int)) + 3) ∧ (A80 (((y5.drop y4.toNat).take (y6.toNat - y4.toNat)) ++ ([] : Bt)) (((((y5.drop y4.toNat).take (y6.toNat - y4.toNat)).length : Int) + (0 : Int)) + 3) (fun y49 => (((decide (y1 = 45)) = true → (I64 (0 - y49) ∧ K (0 - y49) true y6)) ∧ ((decide (y1 = 45)) = false → K y49 true y6))))))))))))) ∧ (y32 = false → (((y5.drop y4.toNat).take (y6.toNat - y4.toNat)).length + ([] : Bt).length ≤ 1099511627776 ∧ (I64 ((((y5.drop y4.toNat).take (y6.toNat - y4.toNat)).length : Int) + (0 : Int)) ∧ (I64 (((((y5.drop y4.toNat).take (y6.toNat - y4.toNat)).length : Int) + (0 : Int)) + 3) ∧ (A80 (((y5.drop y4.toNat).take (y6.toNat - y4.toNat)) ++ ([] : Bt)) (((((y5.drop y4.toNat).take (y6.toNat - y4.toNat)).length : Int) + (0 : Int)) + 3) (fun y50 => (((decide (y1 = 45)) = true → (I64 (0 - y50) ∧ K (0 - y50) true y6)) ∧ ((decide (y1 = 45)) = false → K y50 true y6)))))))))))))))))))))) ∧ (y3 = false → (∃ m, F_k_rNu_2_l2 A49 A55 m a1 a0 a1 (fun y51 y52 y53 => ((0 ≤ y51 ∧ y51 ≤ y53 ∧ y53 ≤ (y52.length : Int)) ∧ (A56 y52 y53 (fun y54 => ((y54 = true → (I64 (y53 + 1) ∧ (∃ m, F_k_rNu_2_l2 A49 A55 m (y53 + 1) y52 (y53 + 1) (fun y55 y56 y57 => ((0 ≤ y55 ∧ y55 ≤ y57 ∧ y57 ≤ (y56.length : Int)) ∧ (A49 y56 y57 (fun y58 => (A77 y58 (fun y59 => ((y59 = true → (I64 (y57 + 1) ∧ (A78 y56 (y57 + 1) (fun y60 => ((y60 = true → (I64 (y57 + 1) ∧ (A49 y56 (y57 + 1) (fun y61 => (A49 y56 (y57 + 1) (fun y62 => (A54 y62 (fun y63 => ((y63 = true → (I64 ((y57 + 1) + 1) ∧ (∃ m, F_k_rNu_2_l2 A49 A55 m ((y57 + 1) + 1) y56 ((y57 + 1) + 1) (fun y64 y65 y66 => ((0 ≤ y64 ∧ y64 ≤ y66 ∧ y66 ≤ (y65.length : Int)) ∧ (A79 ((y65.drop y64.toNat).take (y66.toNat - y64.toNat)) (fun y67 => (((decide (y61 = 45)) = true → (I64 (0 - y67) ∧ (((y52.drop y51.toNat).take (y53.toNat - y51.toNat)).length + ((y56.drop y55.toNat).take (y57.toNat - y55.toNat)).length ≤ 1099511627776 ∧ (I64 ((((y52.drop y51.toNat).take (y53.toNat - y51.toNat)).length : Int) + (0 - y67)) ∧ (I64 (((((y52.drop y51.toNat).take (y53.toNat - y51.toNat)).length : Int) + (0 - y67)) + 3) ∧ (A80 (((y52.drop y51.toNat).take (y53.toNat - y51.toNat)) ++ ((y56.drop y55.toNat).take (y57.toNat - y55.toNat))) (((((y52.drop y51.toNat).take (y53.toNat - y51.toNat)).length : Int) + (0 - y67)) + 3) (fun y68 => (((decide (y1 = 45)) = true → (I64 (0 - y68) ∧ K (0 - y68) false y66)) ∧ ((decide (y1 = 45)) = false → K y68 false y66))))))))) ∧ ((decide (y61 = 45)) = false → (((y52.drop y51.toNat).take (y53.toNat - y51.toNat)).length + ((y56.drop y55.toNat).take (y57.toNat - y55.toNat)).length ≤ 1099511627776 ∧ (I64 ((((y52.drop y51.toNat).take (y53.toNat - y51.toNat)).length : Int) + y67) ∧ (I64 (((((y52.drop y51.toNat).take (y53.toNat - y51.toNat)).length : Int) + y67) + (3 : Int)) ∧ (A80 (((y52.drop y51.toNat).take (y53.toNat - y51.toNat)) ++ ((y56.drop y55.toNat).take (y57.toNat - y55.toNat))) (((((y52.drop y51.toNat).take (y53.toNat - y51.toNat)).length : Int) + y67) + (3 : Int)) (fun y69 => (((decide (y1 = 45)) = true → (I64 (0 - y69) ∧ K (0 - y69) false y66)) ∧ ((decide (y1 = 45)) = false → K y69 false y66)))))))))))))))) ∧ (y63 = false → (∃ m, F_k_rNu_2_l2 A49 A55 m (y57 + 1) y56 (y57 + 1) (fun y70 y71 y72 => ((0 ≤ y70 ∧ y70 ≤ y72 ∧ y72 ≤ (y71.length : Int)) ∧ (A79 ((y71.drop y70.toNat).take (y72.toNat - y70.toNat)) (fun y73 => (((decide (y61 = 45)) = true → (I64 (0 - y73) ∧ (((y52.drop y51.toNat).take (y53.toNat - y51.toNat)).length + ((y56.drop y55.toNat).take (y57.toNat - y55.toNat)).length ≤ 1099511627776 ∧ (I64 ((((y52.drop y51.toNat).take (y53.toNat - y51.toNat)).length : Int) + (0 - y73)) ∧ (I64 (((((y52.drop y51.toNat).take (y53.toNat - y51.toNat)).length : Int) + (0 - y73)) + 3) ∧ (A80 (((y52.drop y51.toNat).take (y53.toNat - y51.toNat)) ++ ((y56.drop y55.toNat).take (y57.toNat - y55.toNat))) (((((y52.drop y51.toNat).take (y53.toNat - y51.toNat)).length : Int) + (0 - y73)) + 3) (fun y74 => (((decide (y1 = 45)) = true → (I64 (0 - y74) ∧ K (0 - y74) false y72)) ∧ ((decide (y1 = 45)) = false → K y74 false y72))))))))) ∧ ((decide (y61 = 45)) = false → (((y52.drop y51.toNat).take (y53.toNat - y51.toNat)).length + ((y56.drop y55.toNat).take (y57.toNat - y55.toNat)).length ≤ 1099511627776 ∧ (I64 ((((y52.drop y51.toNat).take (y53.toNat - y51.toNat)).length : Int) + y73) ∧ (I64 (((((y52.drop y51.toNat).take (y53.toNat - y51.toNat)).length : Int) + y73) + (3 : Int)) ∧ (A80 (((y52.drop y51.toNat).take (y53.toNat - y51.toNat)) ++ ((y56.drop y55.toNat).take (y57.toNat - y55.toNat))) (((((y52.drop y51.toNat).take (y53.toNat - y51.toNat)).length : Int) + y73) + (3 : Int)) (fun y75 => (((decide (y1 = 45)) = true → (I64 (0 - y75) ∧ K (0 - y75) false y72)) ∧ ((decide (y1 = 45)) = false → K y75 false y72)))))))))))))))))))))))) ∧ (y60 = false → (((y52.drop y51.toNat).take (y53.toNat - y51.toNat)).length + ((y56.drop y55.toNat).take (y57.toNat - y55.toNat)).length ≤ 1099511627776 ∧ (I64 ((((y52.drop y51.toNat).take (y53.toNat - y51.toNat)).length : Int) + (0 : Int)) ∧ (I64 (((((y52.drop y51.toNat).take (y53.toNat - y51.toNat)).length : Int) + (0 : Int)) + 3) ∧ (A80 (((y52.drop y51.toNat).take (y53.toNat - y51.toNat)) ++ ((y56.drop y55.toNat).take (y57.toNat - y55.toNat))) (((((y52.drop y51.toNat).take (y53.toNat - y51.toNat)).length : Int) + (0 : Int)) + 3) (fun y76 => (((decide (y1 = 45)) = true → (I64 (0 - y76) ∧ K (0 - y76) false y57)) ∧ ((decide (y1 = 45)) = false → K y76 false y57))))))))))))) ∧ (y59 = false → (((y52.drop y51.toNat).take (y53.toNat - y51.toNat)).length + ((y56.drop y55.toNat).take (y57.toNat - y55.toNat)).length ≤ 1099511627776 ∧ (I64 ((((y52.drop y51.toNat).take (y53.toNat - y51.toNat)).length : Int) + (0 : Int)) ∧ (I64 (((((y52.drop y51.toNat).take (y53.toNat - y51.toNat)).length : Int) + (0 : Int)) + 3) ∧ (A80 (((y52.drop y51.toNat).take (y53.toNat - y51.toNat)) ++ ((y56.drop y55.toNat).take (y57.toNat - y55.toNat))) (((((y52.drop y51.toNat).take (y53.toNat - y51.toNat)).length : Int) + (0 : Int)) + 3) (fun y77 => (((decide (y1 = 45)) = true → (I64 (0 - y77) ∧ K (0 - y77) false y57)) ∧ ((decide (y1 = 45)) = false → K y77 false y57)))))))))))))))))) ∧ (y54 = false → (A49 y52 y53 (fun y78 => (A77 y78 (fun y79 => ((y79 = true → (I64 (y53 + 1) ∧ (A78 y52 (y53 + 1) (fun y80 => ((y80 = true → (I64 (y53 + 1) ∧ (A49 y52 (y53 + 1) (fun y81 => (A49 y52 (y53 + 1) (fun y82 => (A54 y82 (fun y83 => ((y83 = true → (I64 ((y53 + 1) + 1) ∧ (∃ m, F_k_rNu_2_l2 A49 A55 m ((y53 + 1) + 1) y52 ((y53 + 1) + 1) (fun y84 y85 y86 => ((0 ≤ y84 ∧ y84 ≤ y86 ∧ y86 ≤ (y85.length : Int)) ∧ (A79 ((y85.drop y84.toNat).take (y86.toNat - y84.toNat)) (fun y87 => (((decide (y81 = 45)) = true → (I64 (0 - y87) ∧ (((y52.drop y51.toNat).take (y53.toNat - y51.toNat)).length + ([] : Bt).length ≤ 1099511627776 ∧ (I64 ((((y52.drop y51.toNat).take (y53.toNat - y51.toNat)).length : Int) + (0 - y87)) ∧ (I64 (((((y52.drop y51.toNat).take (y53.toNat - y51.toNat)).length : Int) + (0 - y87)) + 3) ∧ (A80 (((y52.drop y51.toNat).take (y53.toNat - y51.toNat)) ++ ([] : Bt)) (((((y52.drop y51.toNat).take (y53.toNat - y51.toNat)).length : Int) + (0 - y87)) + 3) (fun y88 => (((decide (y1 = 45)) = true → (I64 (0 - y88) ∧ K (0 - y88) false y86)) ∧ ((decide (y1 = 45)) = false → K y88 false y86))))))))) ∧ ((decide (y81 = 45)) = false → (((y52.drop y51.toNat).take (y53.toNat - y51.toNat)).length + ([] : Bt).length ≤ 1099511627776 ∧ (I64 ((((y52.drop y51.toNat).take (y53.toNat - y51.toNat)).length : Int) + y87) ∧ (I64 (((((y52.drop y51.toNat).take (y53.toNat - y51.toNat)).length : Int) + y87) + (3 : Int)) ∧ (A80 (((y52.drop y51.toNat).take (y53.toNat - y51.toNat)) ++ ([] : Bt)) (((((y52.drop y51.toNat).take (y53.toNat - y51.toNat)).length : Int) + y87) + (3 : Int)) (fun y89 => (((decide (y1 = 45)) = true → (I64 (0 - y89) ∧ K (0 - y89) false y86)) ∧ ((decide (y1 = 45)) = false → K y89 false y86)))))))))))))))) ∧ (y83 = false → (∃ m, F_k_rNu_2_l2 A49 A55 m (y53 + 1) y52 (y53 + 1) (fun y90 y91 y92 => ((0 ≤ y90 ∧ y90 ≤ y92 ∧ y92 ≤ (y91.length : Int)) ∧ (A79 ((y91.drop y90.toNat).take (y92.toNat - y90.toNat)) (fun y93 => (((decide (y81 = 45)) = true → (I64 (0 - y93) ∧ (((y52.drop y51.toNat).take (y53.toNat - y51.toNat)).length + ([] : Bt).length ≤ 1099511627776 ∧ (I64 ((((y52.drop y51.toNat).take (y53.toNat - y51.toNat)).length : Int) + (0 - y93)) ∧ (I64 (((((y52.drop y51.toNat).take (y53.toNat - y51.toNat)).length : Int) + (0 - y93)) + 3) ∧ (A80 (((y52.drop y51.toNat).take (y53.toNat - y51.toNat)) ++ ([] : Bt)) (((((y52.drop y51.toNat).take (y53.toNat - y51.toNat)).length : Int) + (0 - y93)) + 3) (fun y94 => (((decide (y1 = 45)) = true → (I64 (0 - y94) ∧ K (0 - y94) false y92)) ∧ ((decide (y1 = 45)) = false → K y94 false y92))))))))) ∧ ((decide (y81 = 45)) = false → (((y52.drop y51.toNat).take (y53.toNat - y51.toNat)).length + ([] : Bt).length ≤ 1099511627776 ∧ (I64 ((((y52.drop y51.toNat).take (y53.toNat - y51.toNat)).length : Int) + y93) ∧ (I64 (((((y52.drop y51.toNat).take (y53.toNat - y51.toNat)).length : Int) + y93) + (3 : Int)) ∧ (A80 (((y52.drop y51.toNat).take (y53.toNat - y51.toNat)) ++ ([] : Bt)) (((((y52.drop y51.toNat).take (y53.toNat - y51.toNat)).length : Int) + y93) + (3 : Int)) (fun y95 => (((decide (y1 = 45)) = true → (I64 (0 - y95) ∧ K (0 - y95) false y92)) ∧ ((decide (y1 = 45)) = false → K y95 false y92)))))))))))))))))))))))) ∧ (y80 = false → (((y52.drop y51.toNat).take (y53.toNat - y51.toNat)).length + ([] : Bt).length ≤ 1099511627776 ∧ (I64 ((((y52.drop y51.toNat).take (y53.toNat - y51.toNat)).length : Int) + (0 : Int)) ∧ (I64 (((((y52.drop y51.toNat).take (y53.toNat - y51.toNat)).length : Int) + (0 : Int)) + 3) ∧ (A80 (((y52.drop y51.toNat).take (y53.toNat - y51.toNat)) ++ ([] : Bt)) (((((y52.drop y51.toNat).take (y53.toNat - y51.toNat)).length : Int) + (0 : Int)) + 3) (fun y96 => (((decide (y1 = 45)) = true → (I64 (0 - y96) ∧ K (0 - y96) true y53)) ∧ ((decide (y1 = 45)) = false → K y96 true y53))))))))))))) ∧ (y79 = false → (((y52.drop y51.toNat).take (y53.toNat - y51.toNat)).length + ([] : Bt).length ≤ 1099511627776 ∧ (I64 ((((y52.drop y51.toNat).take (y53.toNat - y51.toNat)).length : Int) + (0 : Int)) ∧ (I64 (((((y52.drop y51.toNat).take (y53.toNat - y51.toNat)).length : Int) + (0 : Int)) + 3) ∧ (A80 (((y52.drop y51.toNat).take (y53.toNat - y51.toNat)) ++ ([] : Bt)) (((((y52.drop y51.toNat).take (y53.toNat - y51.toNat)).length : Int) + (0 : Int)) + 3) (fun y97 => (((decide (y1 = 45)) = true → (I64 (0 - y97) ∧ K (0 - y97) true y53)) ∧ ((decide (y1 = 45)) = false → K y97 true y53))))))))))))))))))))))))))))

def C_k_rNu (A56 : T_k_fractionStarts) (A49 : T_k_byteAt) (A77 : T_k_isExponentMark) (A78 : T_k_digitStarts) (A79 : T_k_wholeNumber) (A80 : T_k_cutNumber) (A54 : T_k_isSign) (A55 : T_char_IsDigit) : CallT sg := tab [(56, con [none, none] (q_k_fractionStarts A56)), (49, con [none, none] (q_k_byteAt A49)), (77, con [none] (q_k_isExponentMark A77)), (78, con [none, none] (q_k_digitStarts A78)), (79, con [none] (q_k_wholeNumber A79)), (80, con [none, none] (q_k_cutNumber A80)), (75, inl sy Tryz.prog GT (C_k_rNu_1 A49 A54) noL 1000 Tryz.f75.ntmps (bodyOf Tryz.f75) Tryz.f75.results.toList), (76, inl sy Tryz.prog GT (C_k_rNu_2 A49 A55) (L_k_rNu_2 A49 A55) 2 Tryz.f76.ntmps (bodyOf Tryz.f76) Tryz.f76.results.toList)]
theorem Cok_k_rNu (A56 : T_k_fractionStarts) (A49 : T_k_byteAt) (A77 : T_k_isExponentMark) (A78 : T_k_digitStarts) (A79 : T_k_wholeNumber) (A80 : T_k_cutNumber) (A54 : T_k_isSign) (A55 : T_char_IsDigit) (h56 : FO 56 (q_k_fractionStarts A56)) (h49 : FO 49 (q_k_byteAt A49)) (h77 : FO 77 (q_k_isExponentMark A77)) (h78 : FO 78 (q_k_digitStarts A78)) (h79 : FO 79 (q_k_wholeNumber A79)) (h80 : FO 80 (q_k_cutNumber A80)) (h54 : FO 54 (q_k_isSign A54)) (h55 : FO 55 (q_char_IsDigit A55)) (o0 : Nat → Prop) : CalOK sy Tryz.prog GT ovD o0 GL (C_k_rNu A56 A49 A77 A78 A79 A80 A54 A55) := (tab_cons (con_ok h56) (tab_cons (con_ok h49) (tab_cons (con_ok h77) (tab_cons (con_ok h78) (tab_cons (con_ok h79) (tab_cons (con_ok h80) (tab_cons (inl_ok (f := 75) (fn := Tryz.f75) (fun _ => rfl) Tryz.func75 (by kernel_rfl) rfl rfl (Cok_k_rNu_1 A49 A54 h49 h54) (lp_of (l := []) (by kernel_rfl) lp_nil)) (tab_cons (inl_ok (f := 76) (fn := Tryz.f76) (fun _ => rfl) Tryz.func76 (by kernel_rfl) rfl rfl (Cok_k_rNu_2 A49 A55 h49 h55) (Lp_k_rNu_2 A49 A55 h49 h55)) tab_nil)))))))) o0

theorem raw_k_rNu (A56 : T_k_fractionStarts) (A49 : T_k_byteAt) (A77 : T_k_isExponentMark) (A78 : T_k_digitStarts) (A79 : T_k_wholeNumber) (A80 : T_k_cutNumber) (A54 : T_k_isSign) (A55 : T_char_IsDigit) (a0 : Bt) (a1 : Int) (k : W → Prop) : fnT sy Tryz.prog GT (C_k_rNu A56 A49 A77 A78 A79 A80 A54 A55) noL Tryz.f57.ntmps (bodyOf Tryz.f57) [none, none, none] Tryz.f57.results.toList [.s a0, .i .i64 a1] k = F_k_rNu A56 A49 A77 A78 A79 A80 A54 A55 a0 a1 (fun r0 r1 r2 => k (.t [.i .i64 r0, .b r1, .i .i64 r2])) := by kernel_rfl

theorem ok_k_rNu (A56 : T_k_fractionStarts) (A49 : T_k_byteAt) (A77 : T_k_isExponentMark) (A78 : T_k_digitStarts) (A79 : T_k_wholeNumber) (A80 : T_k_cutNumber) (A54 : T_k_isSign) (A55 : T_char_IsDigit) (h56 : FO 56 (q_k_fractionStarts A56)) (h49 : FO 49 (q_k_byteAt A49)) (h77 : FO 77 (q_k_isExponentMark A77)) (h78 : FO 78 (q_k_digitStarts A78)) (h79 : FO 79 (q_k_wholeNumber A79)) (h80 : FO 80 (q_k_cutNumber A80)) (h54 : FO 54 (q_k_isSign A54)) (h55 : FO 55 (q_char_IsDigit A55)) : FO 57 (q_k_rNu (F_k_rNu A56 A49 A77 A78 A79 A80 A54 A55)) := (fn_ok (rc := [none, none, none]) (f := 57) (fn := Tryz.f57) (c := bodyOf Tryz.f57) (nt := Tryz.f57.ntmps) (res := Tryz.f57.results.toList) (C := C_k_rNu A56 A49 A77 A78 A79 A80 A54 A55) (L := noL) (fun _ => rfl) Tryz.func57 (by kernel_rfl) rfl rfl (Cok_k_rNu A56 A49 A77 A78 A79 A80 A54 A55 h56 h49 h77 h78 h79 h80 h54 h55) (lp_of (l := []) (by kernel_rfl) lp_nil)).weak (by
  intro us k h
  unfold q_k_rNu at h
  split at h
  · skip
    rename_i a0 a1
    rw [raw_k_rNu A56 A49 A77 A78 A79 A80 A54 A55 a0 a1 k]
    exact h
  · exact h.elim)

abbrev T_char_IsLetter := Int → (Bool → Prop) → Prop
def q_char_IsLetter (A : T_char_IsLetter) (us : List W) (k : W → Prop) : Prop := match us with
  | [.i .u8 a0] => A a0 (fun r0 => k (.b r0))
  | _ => False
theorem q_char_IsLetter_weak {A A2 : T_char_IsLetter} (h : FO 74 (q_char_IsLetter A)) (hA : ∀ a0 K, A2 a0 K → A a0 K) : FO 74 (q_char_IsLetter A2) := h.weak (by
  intro us k h
  unfold q_char_IsLetter at h ⊢
  split at h
  · exact hA _ _ h
  · exact h.elim)

def F_char_IsLetter (a0 : Int) (K : Bool → Prop) : Prop :=
  (((decide ((97 : Int) ≤ a0)) = true → (((decide (a0 ≤ 122)) = false → (((decide ((65 : Int) ≤ a0)) = true → K (decide (a0 ≤ 90))) ∧ ((decide ((65 : Int) ≤ a0)) = false → K false))) ∧ ((decide (a0 ≤ 122)) = true → K true))) ∧ ((decide ((97 : Int) ≤ a0)) = false → (((decide ((65 : Int) ≤ a0)) = true → K (decide (a0 ≤ 90))) ∧ ((decide ((65 : Int) ≤ a0)) = false → K false))))

def C_char_IsLetter : CallT sg := tab []
theorem Cok_char_IsLetter (o0 : Nat → Prop) : CalOK sy Tryz.prog GT ovD o0 GL (C_char_IsLetter) := tab_nil o0

theorem raw_char_IsLetter (a0 : Int) (k : W → Prop) : fnT sy Tryz.prog GT (C_char_IsLetter) noL Tryz.f74.ntmps (bodyOf Tryz.f74) [none] Tryz.f74.results.toList [.i .u8 a0] k = F_char_IsLetter a0 (fun r0 => k (.b r0)) := by kernel_rfl

theorem ok_char_IsLetter : FO 74 (q_char_IsLetter (F_char_IsLetter)) := (fn_ok (rc := [none]) (f := 74) (fn := Tryz.f74) (c := bodyOf Tryz.f74) (nt := Tryz.f74.ntmps) (res := Tryz.f74.results.toList) (C := C_char_IsLetter) (L := noL) (fun _ => rfl) Tryz.func74 (by kernel_rfl) rfl rfl (Cok_char_IsLetter) (lp_of (l := []) (by kernel_rfl) lp_nil)).weak (by
  intro us k h
  unfold q_char_IsLetter at h
  split at h
  · skip
    rename_i a0
    rw [raw_char_IsLetter a0 k]
    exact h
  · exact h.elim)

abbrev T_char_StartsName := Int → (Bool → Prop) → Prop
def q_char_StartsName (A : T_char_StartsName) (us : List W) (k : W → Prop) : Prop := match us with
  | [.i .u8 a0] => A a0 (fun r0 => k (.b r0))
  | _ => False
theorem q_char_StartsName_weak {A A2 : T_char_StartsName} (h : FO 53 (q_char_StartsName A)) (hA : ∀ a0 K, A2 a0 K → A a0 K) : FO 53 (q_char_StartsName A2) := h.weak (by
  intro us k h
  unfold q_char_StartsName at h ⊢
  split at h
  · exact hA _ _ h
  · exact h.elim)

def F_char_StartsName (A74 : T_char_IsLetter) (a0 : Int) (K : Bool → Prop) : Prop :=
  (A74 a0 (fun y1 => ((y1 = false → (((decide (a0 = 95)) = false → K (decide ((128 : Int) ≤ a0))) ∧ ((decide (a0 = 95)) = true → K true))) ∧ (y1 = true → K true))))

def C_char_StartsName (A74 : T_char_IsLetter) : CallT sg := tab [(74, con [none] (q_char_IsLetter A74))]
theorem Cok_char_StartsName (A74 : T_char_IsLetter) (h74 : FO 74 (q_char_IsLetter A74)) (o0 : Nat → Prop) : CalOK sy Tryz.prog GT ovD o0 GL (C_char_StartsName A74) := (tab_cons (con_ok h74) tab_nil) o0

theorem raw_char_StartsName (A74 : T_char_IsLetter) (a0 : Int) (k : W → Prop) : fnT sy Tryz.prog GT (C_char_StartsName A74) noL Tryz.f53.ntmps (bodyOf Tryz.f53) [none] Tryz.f53.results.toList [.i .u8 a0] k = F_char_StartsName A74 a0 (fun r0 => k (.b r0)) := by kernel_rfl

theorem ok_char_StartsName (A74 : T_char_IsLetter) (h74 : FO 74 (q_char_IsLetter A74)) : FO 53 (q_char_StartsName (F_char_StartsName A74)) := (fn_ok (rc := [none]) (f := 53) (fn := Tryz.f53) (c := bodyOf Tryz.f53) (nt := Tryz.f53.ntmps) (res := Tryz.f53.results.toList) (C := C_char_StartsName A74) (L := noL) (fun _ => rfl) Tryz.func53 (by kernel_rfl) rfl rfl (Cok_char_StartsName A74 h74) (lp_of (l := []) (by kernel_rfl) lp_nil)).weak (by
  intro us k h
  unfold q_char_StartsName at h
  split at h
  · skip
    rename_i a0
    rw [raw_char_StartsName A74 a0 k]
    exact h
  · exact h.elim)

abbrev T_k_eSt := Bt → Int → (Bool → Prop) → Prop
def q_k_eSt (A : T_k_eSt) (us : List W) (k : W → Prop) : Prop := match us with
  | [.s a0, .i .i64 a1] => A a0 a1 (fun r0 => k (.b r0))
  | _ => False
theorem q_k_eSt_weak {A A2 : T_k_eSt} (h : FO 52 (q_k_eSt A)) (hA : ∀ a0 a1 K, A2 a0 a1 K → A a0 a1 K) : FO 52 (q_k_eSt A2) := h.weak (by
  intro us k h
  unfold q_k_eSt at h ⊢
  split at h
  · exact hA _ _ _ h
  · exact h.elim)

def F_k_eSt (A49 : T_k_byteAt) (a0 : Bt) (a1 : Int) (K : Bool → Prop) : Prop :=
  (A49 a0 a1 (fun y1 => (((decide (y1 = 92)) = true → (I64 (a1 + 1) ∧ (A49 a0 (a1 + 1) (fun y2 => K (decide (y2 ≠ 10)))))) ∧ ((decide (y1 = 92)) = false → K false))))

def C_k_eSt (A49 : T_k_byteAt) : CallT sg := tab [(49, con [none, none] (q_k_byteAt A49))]
theorem Cok_k_eSt (A49 : T_k_byteAt) (h49 : FO 49 (q_k_byteAt A49)) (o0 : Nat → Prop) : CalOK sy Tryz.prog GT ovD o0 GL (C_k_eSt A49) := (tab_cons (con_ok h49) tab_nil) o0

theorem raw_k_eSt (A49 : T_k_byteAt) (a0 : Bt) (a1 : Int) (k : W → Prop) : fnT sy Tryz.prog GT (C_k_eSt A49) noL Tryz.f52.ntmps (bodyOf Tryz.f52) [none] Tryz.f52.results.toList [.s a0, .i .i64 a1] k = F_k_eSt A49 a0 a1 (fun r0 => k (.b r0)) := by kernel_rfl

theorem ok_k_eSt (A49 : T_k_byteAt) (h49 : FO 49 (q_k_byteAt A49)) : FO 52 (q_k_eSt (F_k_eSt A49)) := (fn_ok (rc := [none]) (f := 52) (fn := Tryz.f52) (c := bodyOf Tryz.f52) (nt := Tryz.f52.ntmps) (res := Tryz.f52.results.toList) (C := C_k_eSt A49) (L := noL) (fun _ => rfl) Tryz.func52 (by kernel_rfl) rfl rfl (Cok_k_eSt A49 h49) (lp_of (l := []) (by kernel_rfl) lp_nil)).weak (by
  intro us k h
  unfold q_k_eSt at h
  split at h
  · skip
    rename_i a0 a1
    rw [raw_k_eSt A49 a0 a1 k]
    exact h
  · exact h.elim)

abbrev T_k_nameStarts := Bt → Int → (Bool → Prop) → Prop
def q_k_nameStarts (A : T_k_nameStarts) (us : List W) (k : W → Prop) : Prop := match us with
  | [.s a0, .i .i64 a1] => A a0 a1 (fun r0 => k (.b r0))
  | _ => False
theorem q_k_nameStarts_weak {A A2 : T_k_nameStarts} (h : FO 29 (q_k_nameStarts A)) (hA : ∀ a0 a1 K, A2 a0 a1 K → A a0 a1 K) : FO 29 (q_k_nameStarts A2) := h.weak (by
  intro us k h
  unfold q_k_nameStarts at h ⊢
  split at h
  · exact hA _ _ _ h
  · exact h.elim)

def F_k_nameStarts (A49 : T_k_byteAt) (A53 : T_char_StartsName) (A52 : T_k_eSt) (a0 : Bt) (a1 : Int) (K : Bool → Prop) : Prop :=
  (A49 a0 a1 (fun y1 => (((decide (y1 ≠ 45)) = true → (A49 a0 a1 (fun y2 => (A53 y2 (fun y3 => ((y3 = false → (A52 a0 a1 (fun y4 => K y4))) ∧ (y3 = true → K true))))))) ∧ ((decide (y1 ≠ 45)) = false → (I64 (a1 + 1) ∧ (A49 a0 (a1 + 1) (fun y5 => (A53 y5 (fun y6 => ((y6 = false → (((decide (y5 = 45)) = false → (I64 (a1 + 1) ∧ (A52 a0 (a1 + 1) (fun y7 => K y7)))) ∧ ((decide (y5 = 45)) = true → K true))) ∧ (y6 = true → K true)))))))))))

def C_k_nameStarts (A49 : T_k_byteAt) (A53 : T_char_StartsName) (A52 : T_k_eSt) : CallT sg := tab [(49, con [none, none] (q_k_byteAt A49)), (53, con [none] (q_char_StartsName A53)), (52, con [none, none] (q_k_eSt A52))]
theorem Cok_k_nameStarts (A49 : T_k_byteAt) (A53 : T_char_StartsName) (A52 : T_k_eSt) (h49 : FO 49 (q_k_byteAt A49)) (h53 : FO 53 (q_char_StartsName A53)) (h52 : FO 52 (q_k_eSt A52)) (o0 : Nat → Prop) : CalOK sy Tryz.prog GT ovD o0 GL (C_k_nameStarts A49 A53 A52) := (tab_cons (con_ok h49) (tab_cons (con_ok h53) (tab_cons (con_ok h52) tab_nil))) o0

theorem raw_k_nameStarts (A49 : T_k_byteAt) (A53 : T_char_StartsName) (A52 : T_k_eSt) (a0 : Bt) (a1 : Int) (k : W → Prop) : fnT sy Tryz.prog GT (C_k_nameStarts A49 A53 A52) noL Tryz.f29.ntmps (bodyOf Tryz.f29) [none] Tryz.f29.results.toList [.s a0, .i .i64 a1] k = F_k_nameStarts A49 A53 A52 a0 a1 (fun r0 => k (.b r0)) := by kernel_rfl

theorem ok_k_nameStarts (A49 : T_k_byteAt) (A53 : T_char_StartsName) (A52 : T_k_eSt) (h49 : FO 49 (q_k_byteAt A49)) (h53 : FO 53 (q_char_StartsName A53)) (h52 : FO 52 (q_k_eSt A52)) : FO 29 (q_k_nameStarts (F_k_nameStarts A49 A53 A52)) := (fn_ok (rc := [none]) (f := 29) (fn := Tryz.f29) (c := bodyOf Tryz.f29) (nt := Tryz.f29.ntmps) (res := Tryz.f29.results.toList) (C := C_k_nameStarts A49 A53 A52) (L := noL) (fun _ => rfl) Tryz.func29 (by kernel_rfl) rfl rfl (Cok_k_nameStarts A49 A53 A52 h49 h53 h52) (lp_of (l := []) (by kernel_rfl) lp_nil)).weak (by
  intro us k h
  unfold q_k_nameStarts at h
  split at h
  · skip
    rename_i a0 a1
    rw [raw_k_nameStarts A49 A53 A52 a0 a1 k]
    exact h
  · exact h.elim)

abbrev T_char_IsOfName := Int → (Bool → Prop) → Prop
def q_char_IsOfName (A : T_char_IsOfName) (us : List W) (k : W → Prop) : Prop := match us with
  | [.i .u8 a0] => A a0 (fun r0 => k (.b r0))
  | _ => False
theorem q_char_IsOfName_weak {A A2 : T_char_IsOfName} (h : FO 51 (q_char_IsOfName A)) (hA : ∀ a0 K, A2 a0 K → A a0 K) : FO 51 (q_char_IsOfName A2) := h.weak (by
  intro us k h
  unfold q_char_IsOfName at h ⊢
  split at h
  · exact hA _ _ h
  · exact h.elim)

def F_char_IsOfName (A53 : T_char_StartsName) (A55 : T_char_IsDigit) (a0 : Int) (K : Bool → Prop) : Prop :=
  (A53 a0 (fun y1 => ((y1 = false → (A55 a0 (fun y2 => ((y2 = false → K (decide (a0 = 45))) ∧ (y2 = true → K true))))) ∧ (y1 = true → K true))))

def C_char_IsOfName (A53 : T_char_StartsName) (A55 : T_char_IsDigit) : CallT sg := tab [(53, con [none] (q_char_StartsName A53)), (55, con [none] (q_char_IsDigit A55))]
theorem Cok_char_IsOfName (A53 : T_char_StartsName) (A55 : T_char_IsDigit) (h53 : FO 53 (q_char_StartsName A53)) (h55 : FO 55 (q_char_IsDigit A55)) (o0 : Nat → Prop) : CalOK sy Tryz.prog GT ovD o0 GL (C_char_IsOfName A53 A55) := (tab_cons (con_ok h53) (tab_cons (con_ok h55) tab_nil)) o0

theorem raw_char_IsOfName (A53 : T_char_StartsName) (A55 : T_char_IsDigit) (a0 : Int) (k : W → Prop) : fnT sy Tryz.prog GT (C_char_IsOfName A53 A55) noL Tryz.f51.ntmps (bodyOf Tryz.f51) [none] Tryz.f51.results.toList [.i .u8 a0] k = F_char_IsOfName A53 A55 a0 (fun r0 => k (.b r0)) := by kernel_rfl

theorem ok_char_IsOfName (A53 : T_char_StartsName) (A55 : T_char_IsDigit) (h53 : FO 53 (q_char_StartsName A53)) (h55 : FO 55 (q_char_IsDigit A55)) : FO 51 (q_char_IsOfName (F_char_IsOfName A53 A55)) := (fn_ok (rc := [none]) (f := 51) (fn := Tryz.f51) (c := bodyOf Tryz.f51) (nt := Tryz.f51.ntmps) (res := Tryz.f51.results.toList) (C := C_char_IsOfName A53 A55) (L := noL) (fun _ => rfl) Tryz.func51 (by kernel_rfl) rfl rfl (Cok_char_IsOfName A53 A55 h53 h55) (lp_of (l := []) (by kernel_rfl) lp_nil)).weak (by
  intro us k h
  unfold q_char_IsOfName at h
  split at h
  · skip
    rename_i a0
    rw [raw_char_IsOfName A53 A55 a0 k]
    exact h
  · exact h.elim)

abbrev T_k_nameGoesOn := Bt → Int → (Bool → Prop) → Prop
def q_k_nameGoesOn (A : T_k_nameGoesOn) (us : List W) (k : W → Prop) : Prop := match us with
  | [.s a0, .i .i64 a1] => A a0 a1 (fun r0 => k (.b r0))
  | _ => False
theorem q_k_nameGoesOn_weak {A A2 : T_k_nameGoesOn} (h : FO 28 (q_k_nameGoesOn A)) (hA : ∀ a0 a1 K, A2 a0 a1 K → A a0 a1 K) : FO 28 (q_k_nameGoesOn A2) := h.weak (by
  intro us k h
  unfold q_k_nameGoesOn at h ⊢
  split at h
  · exact hA _ _ _ h
  · exact h.elim)

def F_k_nameGoesOn (A49 : T_k_byteAt) (A51 : T_char_IsOfName) (A52 : T_k_eSt) (a0 : Bt) (a1 : Int) (K : Bool → Prop) : Prop :=
  (A49 a0 a1 (fun y1 => (A51 y1 (fun y2 => ((y2 = false → (A52 a0 a1 (fun y3 => K y3))) ∧ (y2 = true → K true))))))

def C_k_nameGoesOn (A49 : T_k_byteAt) (A51 : T_char_IsOfName) (A52 : T_k_eSt) : CallT sg := tab [(49, con [none, none] (q_k_byteAt A49)), (51, con [none] (q_char_IsOfName A51)), (52, con [none, none] (q_k_eSt A52))]
theorem Cok_k_nameGoesOn (A49 : T_k_byteAt) (A51 : T_char_IsOfName) (A52 : T_k_eSt) (h49 : FO 49 (q_k_byteAt A49)) (h51 : FO 51 (q_char_IsOfName A51)) (h52 : FO 52 (q_k_eSt A52)) (o0 : Nat → Prop) : CalOK sy Tryz.prog GT ovD o0 GL (C_k_nameGoesOn A49 A51 A52) := (tab_cons (con_ok h49) (tab_cons (con_ok h51) (tab_cons (con_ok h52) tab_nil))) o0

theorem raw_k_nameGoesOn (A49 : T_k_byteAt) (A51 : T_char_IsOfName) (A52 : T_k_eSt) (a0 : Bt) (a1 : Int) (k : W → Prop) : fnT sy Tryz.prog GT (C_k_nameGoesOn A49 A51 A52) noL Tryz.f28.ntmps (bodyOf Tryz.f28) [none] Tryz.f28.results.toList [.s a0, .i .i64 a1] k = F_k_nameGoesOn A49 A51 A52 a0 a1 (fun r0 => k (.b r0)) := by kernel_rfl

theorem ok_k_nameGoesOn (A49 : T_k_byteAt) (A51 : T_char_IsOfName) (A52 : T_k_eSt) (h49 : FO 49 (q_k_byteAt A49)) (h51 : FO 51 (q_char_IsOfName A51)) (h52 : FO 52 (q_k_eSt A52)) : FO 28 (q_k_nameGoesOn (F_k_nameGoesOn A49 A51 A52)) := (fn_ok (rc := [none]) (f := 28) (fn := Tryz.f28) (c := bodyOf Tryz.f28) (nt := Tryz.f28.ntmps) (res := Tryz.f28.results.toList) (C := C_k_nameGoesOn A49 A51 A52) (L := noL) (fun _ => rfl) Tryz.func28 (by kernel_rfl) rfl rfl (Cok_k_nameGoesOn A49 A51 A52 h49 h51 h52) (lp_of (l := []) (by kernel_rfl) lp_nil)).weak (by
  intro us k h
  unfold q_k_nameGoesOn at h
  split at h
  · skip
    rename_i a0 a1
    rw [raw_k_nameGoesOn A49 A51 A52 a0 a1 k]
    exact h
  · exact h.elim)

abbrev T_char_IsSpace := Int → (Bool → Prop) → Prop
def q_char_IsSpace (A : T_char_IsSpace) (us : List W) (k : W → Prop) : Prop := match us with
  | [.i .u8 a0] => A a0 (fun r0 => k (.b r0))
  | _ => False
theorem q_char_IsSpace_weak {A A2 : T_char_IsSpace} (h : FO 24 (q_char_IsSpace A)) (hA : ∀ a0 K, A2 a0 K → A a0 K) : FO 24 (q_char_IsSpace A2) := h.weak (by
  intro us k h
  unfold q_char_IsSpace at h ⊢
  split at h
  · exact hA _ _ h
  · exact h.elim)

def F_char_IsSpace (a0 : Int) (K : Bool → Prop) : Prop :=
  (((decide (a0 = 10)) = false → (((decide (a0 = 9)) = false → K (decide (a0 = 32))) ∧ ((decide (a0 = 9)) = true → K true))) ∧ ((decide (a0 = 10)) = true → K true))

def C_char_IsSpace : CallT sg := tab []
theorem Cok_char_IsSpace (o0 : Nat → Prop) : CalOK sy Tryz.prog GT ovD o0 GL (C_char_IsSpace) := tab_nil o0

theorem raw_char_IsSpace (a0 : Int) (k : W → Prop) : fnT sy Tryz.prog GT (C_char_IsSpace) noL Tryz.f24.ntmps (bodyOf Tryz.f24) [none] Tryz.f24.results.toList [.i .u8 a0] k = F_char_IsSpace a0 (fun r0 => k (.b r0)) := by kernel_rfl

theorem ok_char_IsSpace : FO 24 (q_char_IsSpace (F_char_IsSpace)) := (fn_ok (rc := [none]) (f := 24) (fn := Tryz.f24) (c := bodyOf Tryz.f24) (nt := Tryz.f24.ntmps) (res := Tryz.f24.results.toList) (C := C_char_IsSpace) (L := noL) (fun _ => rfl) Tryz.func24 (by kernel_rfl) rfl rfl (Cok_char_IsSpace) (lp_of (l := []) (by kernel_rfl) lp_nil)).weak (by
  intro us k h
  unfold q_char_IsSpace at h
  split at h
  · skip
    rename_i a0
    rw [raw_char_IsSpace a0 k]
    exact h
  · exact h.elim)

abbrev T_char_IsQuote := Int → (Bool → Prop) → Prop
def q_char_IsQuote (A : T_char_IsQuote) (us : List W) (k : W → Prop) : Prop := match us with
  | [.i .u8 a0] => A a0 (fun r0 => k (.b r0))
  | _ => False
theorem q_char_IsQuote_weak {A A2 : T_char_IsQuote} (h : FO 26 (q_char_IsQuote A)) (hA : ∀ a0 K, A2 a0 K → A a0 K) : FO 26 (q_char_IsQuote A2) := h.weak (by
  intro us k h
  unfold q_char_IsQuote at h ⊢
  split at h
  · exact hA _ _ h
  · exact h.elim)

def F_char_IsQuote (a0 : Int) (K : Bool → Prop) : Prop :=
  (((decide (a0 = 34)) = false → K (decide (a0 = 39))) ∧ ((decide (a0 = 34)) = true → K true))

def C_char_IsQuote : CallT sg := tab []
theorem Cok_char_IsQuote (o0 : Nat → Prop) : CalOK sy Tryz.prog GT ovD o0 GL (C_char_IsQuote) := tab_nil o0

theorem raw_char_IsQuote (a0 : Int) (k : W → Prop) : fnT sy Tryz.prog GT (C_char_IsQuote) noL Tryz.f26.ntmps (bodyOf Tryz.f26) [none] Tryz.f26.results.toList [.i .u8 a0] k = F_char_IsQuote a0 (fun r0 => k (.b r0)) := by kernel_rfl

theorem ok_char_IsQuote : FO 26 (q_char_IsQuote (F_char_IsQuote)) := (fn_ok (rc := [none]) (f := 26) (fn := Tryz.f26) (c := bodyOf Tryz.f26) (nt := Tryz.f26.ntmps) (res := Tryz.f26.results.toList) (C := C_char_IsQuote) (L := noL) (fun _ => rfl) Tryz.func26 (by kernel_rfl) rfl rfl (Cok_char_IsQuote) (lp_of (l := []) (by kernel_rfl) lp_nil)).weak (by
  intro us k h
  unfold q_char_IsQuote at h
  split at h
  · skip
    rename_i a0
    rw [raw_char_IsQuote a0 k]
    exact h
  · exact h.elim)

abbrev T_k_behindSpaces := Bt → Int → (Int → Prop) → Prop
def q_k_behindSpaces (A : T_k_behindSpaces) (us : List W) (k : W → Prop) : Prop := match us with
  | [.s a0, .i .i64 a1] => A a0 a1 (fun r0 => k (.i .i64 r0))
  | _ => False
theorem q_k_behindSpaces_weak {A A2 : T_k_behindSpaces} (h : FO 25 (q_k_behindSpaces A)) (hA : ∀ a0 a1 K, A2 a0 a1 K → A a0 a1 K) : FO 25 (q_k_behindSpaces A2) := h.weak (by
  intro us k h
  unfold q_k_behindSpaces at h ⊢
  split at h
  · exact hA _ _ _ h
  · exact h.elim)

def F_k_behindSpaces_l1 (A49 : T_k_byteAt) (A24 : T_char_IsSpace) : Nat → Bt → Int → (Int → Prop) → Prop
  | 0, _, _, _ => False
  | n + 1, x0, x1, Ke => (A49 x0 x1 (fun y1 => (A24 y1 (fun y2 => ((y2 = true → (I64 (x1 + 1) ∧ F_k_behindSpaces_l1 A49 A24 n x0 (x1 + 1) Ke)) ∧ (y2 = false → Ke x1))))))

def F_k_behindSpaces (A49 : T_k_byteAt) (A24 : T_char_IsSpace) (a0 : Bt) (a1 : Int) (K : Int → Prop) : Prop :=
  (∃ m, F_k_behindSpaces_l1 A49 A24 m a0 a1 (fun y1 => K y1))

def C_k_behindSpaces (A49 : T_k_byteAt) (A24 : T_char_IsSpace) : CallT sg := tab [(49, con [none, none] (q_k_byteAt A49)), (24, con [none] (q_char_IsSpace A24))]
theorem Cok_k_behindSpaces (A49 : T_k_byteAt) (A24 : T_char_IsSpace) (h49 : FO 49 (q_k_byteAt A49)) (h24 : FO 24 (q_char_IsSpace A24)) (o0 : Nat → Prop) : CalOK sy Tryz.prog GT ovD o0 GL (C_k_behindSpaces A49 A24) := (tab_cons (con_ok h49) (tab_cons (con_ok h24) tab_nil)) o0

def ls_k_behindSpaces_1 : LS sy ((Bt) × Int × Unit) Unit := ⟨[], fCons 0 (vStr sy) (fCons 1 (vInt sy .i64) (fNil sy)), hNil sy, 0, []⟩
def le_k_behindSpaces_1 : LS sy (Int × Unit) Unit := ⟨[], fCons 1 (vInt sy .i64) (fNil sy), hNil sy, 0, []⟩
def lr_k_behindSpaces_1 : LS sy Unit Unit := ⟨[], fNil sy, hNil sy, 0, []⟩
def FF_k_behindSpaces_1 (A49 : T_k_byteAt) (A24 : T_char_IsSpace) (n : Nat) (x : ((Bt) × Int × Unit) × Unit) (K : Ex → Z sg → Prop) : Prop := F_k_behindSpaces_l1 A49 A24 n x.1.1 x.1.2.1 (fun y0 => K (.exit 0) (le_k_behindSpaces_1.put ((y0, ()), ())))
def h_k_behindSpaces_1 (A49 : T_k_byteAt) (A24 : T_char_IsSpace) (z : Z sg) (K : Ex → Z sg → Prop) : Prop := ls_k_behindSpaces_1.get z (fun x => ∃ n, FF_k_behindSpaces_1 A49 A24 n x K)
def L_k_behindSpaces (A49 : T_k_byteAt) (A24 : T_char_IsSpace) : LoopT sg := tabL [(1, h_k_behindSpaces_1 A49 A24)]
theorem hs_k_behindSpaces_1 (A49 : T_k_byteAt) (A24 : T_char_IsSpace) (n : Nat) (x : ((Bt) × Int × Unit) × Unit) (K : Ex → Z sg → Prop) : forceZ (ls_k_behindSpaces_1.put x) (fun z => sC sy Tryz.prog GT (C_k_behindSpaces A49 A24) (L_k_behindSpaces A49 A24) Tryz.f25.ntmps (nthLoop (bodyOf Tryz.f25) 0) z (rnd ls_k_behindSpaces_1 (czT 0 le_k_behindSpaces_1 lr_k_behindSpaces_1) (fun x => FF_k_behindSpaces_1 A49 A24 n x K) K)) = FF_k_behindSpaces_1 A49 A24 (n + 1) x K := by kernel_rfl
theorem hl_k_behindSpaces_1 (A49 : T_k_byteAt) (A24 : T_char_IsSpace) (z : Z sg) (K : Ex → Z sg → Prop) : (L_k_behindSpaces A49 A24) (nthLoop (bodyOf Tryz.f25) 0) z K = ls_k_behindSpaces_1.get z (fun x => ∃ n, FF_k_behindSpaces_1 A49 A24 n x K) := by kernel_rfl
theorem lo_k_behindSpaces_1 (A49 : T_k_byteAt) (A24 : T_char_IsSpace) (h49 : FO 49 (q_k_byteAt A49)) (h24 : FO 24 (q_char_IsSpace A24)) : ∀ (o0 : Nat → Prop) (B : Bs sg), B.E.length ≤ 0 → ∀ z K, (L_k_behindSpaces A49 A24) (nthLoop (bodyOf Tryz.f25) 0) z K → Sx.Sem sy Tryz.prog GT ovD o0 GL Tryz.f25.ntmps B (.loop (nthLoop (bodyOf Tryz.f25) 0)) z K :=
  loop_ok (Cok_k_behindSpaces A49 A24 h49 h24) (lp_of (l := []) (by kernel_rfl) lp_nil) ls_k_behindSpaces_1 (by decide) (czT 0 le_k_behindSpaces_1 lr_k_behindSpaces_1) (fun _ _ hB => czT_ok 0 le_k_behindSpaces_1 lr_k_behindSpaces_1 (Nat.le_trans hB (by decide)) (Nat.le_trans hB (by decide))) (fun _ _ h => h) (hs_k_behindSpaces_1 A49 A24) (hl_k_behindSpaces_1 A49 A24)
theorem Lp_k_behindSpaces (A49 : T_k_byteAt) (A24 : T_char_IsSpace) (h49 : FO 49 (q_k_byteAt A49)) (h24 : FO 24 (q_char_IsSpace A24)) : LpOK sy Tryz.prog GT ovD GL (L_k_behindSpaces A49 A24) 0 Tryz.f25.ntmps (bodyOf Tryz.f25) := lp_of (l := [(nthLoop (bodyOf Tryz.f25) 0)]) (by kernel_rfl) (lp_cons (lo_k_behindSpaces_1 A49 A24 h49 h24) lp_nil)


theorem raw_k_behindSpaces (A49 : T_k_byteAt) (A24 : T_char_IsSpace) (a0 : Bt) (a1 : Int) (k : W → Prop) : fnT sy Tryz.prog GT (C_k_behindSpaces A49 A24) (L_k_behindSpaces A49 A24) Tryz.f25.ntmps (bodyOf Tryz.f25) [none] Tryz.f25.results.toList [.s a0, .i .i64 a1] k = F_k_behindSpaces A49 A24 a0 a1 (fun r0 => k (.i .i64 r0)) := by kernel_rfl

theorem ok_k_behindSpaces (A49 : T_k_byteAt) (A24 : T_char_IsSpace) (h49 : FO 49 (q_k_byteAt A49)) (h24 : FO 24 (q_char_IsSpace A24)) : FO 25 (q_k_behindSpaces (F_k_behindSpaces A49 A24)) := (fn_ok (rc := [none]) (f := 25) (fn := Tryz.f25) (c := bodyOf Tryz.f25) (nt := Tryz.f25.ntmps) (res := Tryz.f25.results.toList) (C := C_k_behindSpaces A49 A24) (L := (L_k_behindSpaces A49 A24)) (fun _ => rfl) Tryz.func25 (by kernel_rfl) rfl rfl (Cok_k_behindSpaces A49 A24 h49 h24) (Lp_k_behindSpaces A49 A24 h49 h24)).weak (by
  intro us k h
  unfold q_k_behindSpaces at h
  split at h
  · skip
    rename_i a0 a1
    rw [raw_k_behindSpaces A49 A24 a0 a1 k]
    exact h
  · exact h.elim)

abbrev T_gslHasPrefix := Bt → Bt → (Bool → Prop) → Prop
def q_gslHasPrefix (A : T_gslHasPrefix) (us : List W) (k : W → Prop) : Prop := match us with
  | [.s a0, .s a1] => A a0 a1 (fun r0 => k (.b r0))
  | _ => False
theorem q_gslHasPrefix_weak {A A2 : T_gslHasPrefix} (h : FO 47 (q_gslHasPrefix A)) (hA : ∀ a0 a1 K, A2 a0 a1 K → A a0 a1 K) : FO 47 (q_gslHasPrefix A2) := h.weak (by
  intro us k h
  unfold q_gslHasPrefix at h ⊢
  split at h
  · exact hA _ _ _ h
  · exact h.elim)

def F_gslHasPrefix (a0 : Bt) (a1 : Bt) (K : Bool → Prop) : Prop :=
  (((decide ((a1.length : Int) ≤ (a0.length : Int))) = true → ((0 ≤ (a1.length : Int) ∧ (a1.length : Int) ≤ (a0.length : Int)) ∧ K ((a0.take (a1.length : Int).toNat) == a1))) ∧ ((decide ((a1.length : Int) ≤ (a0.length : Int))) = false → K false))

def C_gslHasPrefix : CallT sg := tab []
theorem Cok_gslHasPrefix (o0 : Nat → Prop) : CalOK sy Tryz.prog GT ovD o0 GL (C_gslHasPrefix) := tab_nil o0

theorem raw_gslHasPrefix (a0 : Bt) (a1 : Bt) (k : W → Prop) : fnT sy Tryz.prog GT (C_gslHasPrefix) noL Tryz.f47.ntmps (bodyOf Tryz.f47) [none] Tryz.f47.results.toList [.s a0, .s a1] k = F_gslHasPrefix a0 a1 (fun r0 => k (.b r0)) := by kernel_rfl

theorem ok_gslHasPrefix : FO 47 (q_gslHasPrefix (F_gslHasPrefix)) := (fn_ok (rc := [none]) (f := 47) (fn := Tryz.f47) (c := bodyOf Tryz.f47) (nt := Tryz.f47.ntmps) (res := Tryz.f47.results.toList) (C := C_gslHasPrefix) (L := noL) (fun _ => rfl) Tryz.func47 (by kernel_rfl) rfl rfl (Cok_gslHasPrefix) (lp_of (l := []) (by kernel_rfl) lp_nil)).weak (by
  intro us k h
  unfold q_gslHasPrefix at h
  split at h
  · skip
    rename_i a0 a1
    rw [raw_gslHasPrefix a0 a1 k]
    exact h
  · exact h.elim)

abbrev T_gs_HasPrefix := Bt → Bt → (Bool → Prop) → Prop
def q_gs_HasPrefix (A : T_gs_HasPrefix) (us : List W) (k : W → Prop) : Prop := match us with
  | [.s a0, .s a1] => A a0 a1 (fun r0 => k (.b r0))
  | _ => False
theorem q_gs_HasPrefix_weak {A A2 : T_gs_HasPrefix} (h : FO 22 (q_gs_HasPrefix A)) (hA : ∀ a0 a1 K, A2 a0 a1 K → A a0 a1 K) : FO 22 (q_gs_HasPrefix A2) := h.weak (by
  intro us k h
  unfold q_gs_HasPrefix at h ⊢
  split at h
  · exact hA _ _ _ h
  · exact h.elim)

def F_gs_HasPrefix (A47 : T_gslHasPrefix) (a0 : Bt) (a1 : Bt) (K : Bool → Prop) : Prop :=
  (A47 a0 a1 (fun y1 => K y1))

def C_gs_HasPrefix (A47 : T_gslHasPrefix) : CallT sg := tab [(47, con [none, none] (q_gslHasPrefix A47))]
theorem Cok_gs_HasPrefix (A47 : T_gslHasPrefix) (h47 : FO 47 (q_gslHasPrefix A47)) (o0 : Nat → Prop) : CalOK sy Tryz.prog GT ovD o0 GL (C_gs_HasPrefix A47) := (tab_cons (con_ok h47) tab_nil) o0

theorem raw_gs_HasPrefix (A47 : T_gslHasPrefix) (a0 : Bt) (a1 : Bt) (k : W → Prop) : fnT sy Tryz.prog GT (C_gs_HasPrefix A47) noL Tryz.f22.ntmps (bodyOf Tryz.f22) [none] Tryz.f22.results.toList [.s a0, .s a1] k = F_gs_HasPrefix A47 a0 a1 (fun r0 => k (.b r0)) := by kernel_rfl

theorem ok_gs_HasPrefix (A47 : T_gslHasPrefix) (h47 : FO 47 (q_gslHasPrefix A47)) : FO 22 (q_gs_HasPrefix (F_gs_HasPrefix A47)) := (fn_ok (rc := [none]) (f := 22) (fn := Tryz.f22) (c := bodyOf Tryz.f22) (nt := Tryz.f22.ntmps) (res := Tryz.f22.results.toList) (C := C_gs_HasPrefix A47) (L := noL) (fun _ => rfl) Tryz.func22 (by kernel_rfl) rfl rfl (Cok_gs_HasPrefix A47 h47) (lp_of (l := []) (by kernel_rfl) lp_nil)).weak (by
  intro us k h
  unfold q_gs_HasPrefix at h
  split at h
  · skip
    rename_i a0 a1
    rw [raw_gs_HasPrefix A47 a0 a1 k]
    exact h
  · exact h.elim)

abbrev T_input_startsWithLineEnd := Bt → (Bool → Prop) → Prop
def q_input_startsWithLineEnd (A : T_input_startsWithLineEnd) (us : List W) (k : W → Prop) : Prop := match us with
  | [.s a0] => A a0 (fun r0 => k (.b r0))
  | _ => False
theorem q_input_startsWithLineEnd_weak {A A2 : T_input_startsWithLineEnd} (h : FO 21 (q_input_startsWithLineEnd A)) (hA : ∀ a0 K, A2 a0 K → A a0 K) : FO 21 (q_input_startsWithLineEnd A2) := h.weak (by
  intro us k h
  unfold q_input_startsWithLineEnd at h ⊢
  split at h
  · exact hA _ _ h
  · exact h.elim)

def F_input_startsWithLineEnd (a0 : Bt) (K : Bool → Prop) : Prop :=
  (((decide ((0 : Int) < (a0.length : Int))) = true → ((0 ≤ (0 : Int) ∧ (0 : Int) < (a0.length : Int)) ∧ K (decide (((a0.getD 0 0).toNat : Int) = (10 : Int))))) ∧ ((decide ((0 : Int) < (a0.length : Int))) = false → K false))

def C_input_startsWithLineEnd : CallT sg := tab []
theorem Cok_input_startsWithLineEnd (o0 : Nat → Prop) : CalOK sy Tryz.prog GT ovD o0 GL (C_input_startsWithLineEnd) := tab_nil o0

theorem raw_input_startsWithLineEnd (a0 : Bt) (k : W → Prop) : fnT sy Tryz.prog GT (C_input_startsWithLineEnd) noL Tryz.f21.ntmps (bodyOf Tryz.f21) [none] Tryz.f21.results.toList [.s a0] k = F_input_startsWithLineEnd a0 (fun r0 => k (.b r0)) := by kernel_rfl

theorem ok_input_startsWithLineEnd : FO 21 (q_input_startsWithLineEnd (F_input_startsWithLineEnd)) := (fn_ok (rc := [none]) (f := 21) (fn := Tryz.f21) (c := bodyOf Tryz.f21) (nt := Tryz.f21.ntmps) (res := Tryz.f21.results.toList) (C := C_input_startsWithLineEnd) (L := noL) (fun _ => rfl) Tryz.func21 (by kernel_rfl) rfl rfl (Cok_input_startsWithLineEnd) (lp_of (l := []) (by kernel_rfl) lp_nil)).weak (by
  intro us k h
  unfold q_input_startsWithLineEnd at h
  split at h
  · skip
    rename_i a0
    rw [raw_input_startsWithLineEnd a0 k]
    exact h
  · exact h.elim)

abbrev T_input_Clean := Bt → (Bt → Int → Prop) → Prop
def q_input_Clean (A : T_input_Clean) (us : List W) (k : W → Prop) : Prop := match us with
  | [.s a0] => A a0 (fun r0 r1 => k (.t [.s r0, .i .i64 r1]))
  | _ => False
theorem q_input_Clean_weak {A A2 : T_input_Clean} (h : FO 15 (q_input_Clean A)) (hA : ∀ a0 K, A2 a0 K → A a0 K) : FO 15 (q_input_Clean A2) := h.weak (by
  intro us k h
  unfold q_input_Clean at h ⊢
  split at h
  · exact hA _ _ h
  · exact h.elim)

def F_input_Clean_l5 (A21 : T_input_startsWithLineEnd) : Nat → Bt → Int → Bt → (Bt → Prop) → Prop
  | 0, _, _, _, _ => False
  | n + 1, x0, x5, b0, Ke => (((decide (x5 < (x0.length : Int))) = true → ((0 ≤ x5 ∧ x5 < (x0.length : Int)) ∧ (((decide (((x0.getD x5.toNat 0).toNat : Int) = (0 : Int))) = true → ((b0.length + ([239, 191, 189] : Bt).length) * 1 ≤ 1099511627776 ∧ (I64 (x5 + 1) ∧ F_input_Clean_l5 A21 n x0 (x5 + 1) (b0 ++ ([239, 191, 189] : Bt)) Ke))) ∧ ((decide (((x0.getD x5.toNat 0).toNat : Int) = (0 : Int))) = false → (((decide (((x0.getD x5.toNat 0).toNat : Int) = (12 : Int))) = true → ((0 ≤ (10 : Int) ∧ (10 : Int) ≤ 255) ∧ ((b0.length + [UInt8.ofNat 10].length) * 1 ≤ 1099511627776 ∧ (I64 (x5 + 1) ∧ F_input_Clean_l5 A21 n x0 (x5 + 1) (b0 ++ [UInt8.ofNat 10]) Ke)))) ∧ ((decide (((x0.getD x5.toNat 0).toNat : Int) = (12 : Int))) = false → (((decide (((x0.getD x5.toNat 0).toNat : Int) = (13 : Int))) = true → (I64 (x5 + 1) ∧ ((0 ≤ (x5 + 1) ∧ (x5 + 1) ≤ (x0.length : Int)) ∧ (A21 (x0.drop (x5 + 1).toNat) (fun y1 => (((!y1) = true → ((0 ≤ (10 : Int) ∧ (10 : Int) ≤ 255) ∧ ((b0.length + [UInt8.ofNat 10].length) * 1 ≤ 1099511627776 ∧ (I64 (x5 + 1) ∧ F_input_Clean_l5 A21 n x0 (x5 + 1) (b0 ++ [UInt8.ofNat 10]) Ke)))) ∧ ((!y1) = false → (I64 (x5 + 1) ∧ F_input_Clean_l5 A21 n x0 (x5 + 1) b0 Ke)))))))) ∧ ((decide (((x0.getD x5.toNat 0).toNat : Int) = (13 : Int))) = false → ((0 ≤ x5 ∧ x5 < (x0.length : Int)) ∧ ((0 ≤ ((x0.getD x5.toNat 0).toNat : Int) ∧ ((x0.getD x5.toNat 0).toNat : Int) ≤ 255) ∧ ((b0.length + [UInt8.ofNat (((x0.getD x5.toNat 0).toNat : Int).toNat)].length) * 1 ≤ 1099511627776 ∧ (I64 (x5 + 1) ∧ F_input_Clean_l5 A21 n x0 (x5 + 1) (b0 ++ [UInt8.ofNat (((x0.getD x5.toNat 0).toNat : Int).toNat)]) Ke)))))))))))) ∧ ((decide (x5 < (x0.length : Int))) = false → Ke b0))

def F_input_Clean (A21 : T_input_startsWithLineEnd) (a0 : Bt) (K : Bt → Int → Prop) : Prop :=
  (((decide ((4000 : Int) < (a0.length : Int))) = true → K ([] : Bt) (28 : Int)) ∧ ((decide ((4000 : Int) < (a0.length : Int))) = false → ((0 ≤ (0 : Int) ∧ (0 : Int) ≤ (a0.length : Int) ∧ 1 * (a0.length : Int) ≤ 1099511627776 ∧ (a0.length : Int) ≤ 1099511627776) ∧ ((0 ≤ (0 : Int) ∧ (0 : Int) ≤ 255) ∧ (∃ m, F_input_Clean_l5 A21 m a0 (0 : Int) (List.replicate 0 (UInt8.ofNat 0)) (fun y1 => K y1 (0 : Int)))))))

def C_input_Clean (A21 : T_input_startsWithLineEnd) : CallT sg := tab [(21, con [none] (q_input_startsWithLineEnd A21))]
theorem Cok_input_Clean (A21 : T_input_startsWithLineEnd) (h21 : FO 21 (q_input_startsWithLineEnd A21)) (o0 : Nat → Prop) : CalOK sy Tryz.prog GT ovD o0 GL (C_input_Clean A21) := (tab_cons (con_ok h21) tab_nil) o0

def ls_input_Clean_5 : LS sy ((Bt) × Unit × Int × Unit) (List (sg.Den Cd.u8) × Unit) := ⟨[], fCons 0 (vStr sy) (fCons 4 (vLit sy (.o 0)) (fCons 5 (vInt sy .i64) (fNil sy))), hBuf 0 Cd.u8 (hNil sy), 1, [0]⟩
def le_input_Clean_5 : LS sy (Unit × Unit) (List (sg.Den Cd.u8) × Unit) := ⟨[], fCons 4 (vLit sy (.o 0)) (fNil sy), hBuf 0 Cd.u8 (hNil sy), 1, [0]⟩
def lr_input_Clean_5 : LS sy Unit Unit := ⟨[], fNil sy, hNil sy, 0, []⟩
def FF_input_Clean_5 (A21 : T_input_startsWithLineEnd) (n : Nat) (x : ((Bt) × Unit × Int × Unit) × (List (sg.Den Cd.u8) × Unit)) (K : Ex → Z sg → Prop) : Prop := F_input_Clean_l5 A21 n x.1.1 x.1.2.2.1 x.2.1 (fun y0 => K (.exit 0) (le_input_Clean_5.put (((), ()), (y0, ()))))
def h_input_Clean_5 (A21 : T_input_startsWithLineEnd) (z : Z sg) (K : Ex → Z sg → Prop) : Prop := ls_input_Clean_5.get z (fun x => ∃ n, FF_input_Clean_5 A21 n x K)
def L_input_Clean (A21 : T_input_startsWithLineEnd) : LoopT sg := tabL [(5, h_input_Clean_5 A21)]
theorem hs_input_Clean_5 (A21 : T_input_startsWithLineEnd) (n : Nat) (x : ((Bt) × Unit × Int × Unit) × (List (sg.Den Cd.u8) × Unit)) (K : Ex → Z sg → Prop) : forceZ (ls_input_Clean_5.put x) (fun z => sC sy Tryz.prog GT (C_input_Clean A21) (L_input_Clean A21) Tryz.f15.ntmps (nthLoop (bodyOf Tryz.f15) 0) z (rnd ls_input_Clean_5 (czT 0 le_input_Clean_5 lr_input_Clean_5) (fun x => FF_input_Clean_5 A21 n x K) K)) = FF_input_Clean_5 A21 (n + 1) x K := by kernel_rfl
theorem hl_input_Clean_5 (A21 : T_input_startsWithLineEnd) (z : Z sg) (K : Ex → Z sg → Prop) : (L_input_Clean A21) (nthLoop (bodyOf Tryz.f15) 0) z K = ls_input_Clean_5.get z (fun x => ∃ n, FF_input_Clean_5 A21 n x K) := by kernel_rfl
theorem lo_input_Clean_5 (A21 : T_input_startsWithLineEnd) (h21 : FO 21 (q_input_startsWithLineEnd A21)) : ∀ (o0 : Nat → Prop) (B : Bs sg), B.E.length ≤ 0 → ∀ z K, (L_input_Clean A21) (nthLoop (bodyOf Tryz.f15) 0) z K → Sx.Sem sy Tryz.prog GT ovD o0 GL Tryz.f15.ntmps B (.loop (nthLoop (bodyOf Tryz.f15) 0)) z K :=
  loop_ok (Cok_input_Clean A21 h21) (lp_of (l := []) (by kernel_rfl) lp_nil) ls_input_Clean_5 (by decide) (czT 0 le_input_Clean_5 lr_input_Clean_5) (fun _ _ hB => czT_ok 0 le_input_Clean_5 lr_input_Clean_5 (Nat.le_trans hB (by decide)) (Nat.le_trans hB (by decide))) (fun _ _ h => h) (hs_input_Clean_5 A21) (hl_input_Clean_5 A21)
theorem Lp_input_Clean (A21 : T_input_startsWithLineEnd) (h21 : FO 21 (q_input_startsWithLineEnd A21)) : LpOK sy Tryz.prog GT ovD GL (L_input_Clean A21) 0 Tryz.f15.ntmps (bodyOf Tryz.f15) := lp_of (l := [(nthLoop (bodyOf Tryz.f15) 0)]) (by kernel_rfl) (lp_cons (lo_input_Clean_5 A21 h21) lp_nil)


theorem raw_input_Clean (A21 : T_input_startsWithLineEnd) (a0 : Bt) (k : W → Prop) : fnT sy Tryz.prog GT (C_input_Clean A21) (L_input_Clean A21) Tryz.f15.ntmps (bodyOf Tryz.f15) [none, none] Tryz.f15.results.toList [.s a0] k = F_input_Clean A21 a0 (fun r0 r1 => k (.t [.s r0, .i .i64 r1])) := by kernel_rfl

theorem ok_input_Clean (A21 : T_input_startsWithLineEnd) (h21 : FO 21 (q_input_startsWithLineEnd A21)) : FO 15 (q_input_Clean (F_input_Clean A21)) := (fn_ok (rc := [none, none]) (f := 15) (fn := Tryz.f15) (c := bodyOf Tryz.f15) (nt := Tryz.f15.ntmps) (res := Tryz.f15.results.toList) (C := C_input_Clean A21) (L := (L_input_Clean A21)) (fun _ => rfl) Tryz.func15 (by kernel_rfl) rfl rfl (Cok_input_Clean A21 h21) (Lp_input_Clean A21 h21)).weak (by
  intro us k h
  unfold q_input_Clean at h
  split at h
  · skip
    rename_i a0
    rw [raw_input_Clean A21 a0 k]
    exact h
  · exact h.elim)

end Go.Proofs.YtcjoehlflbegpaaGreatDoor
