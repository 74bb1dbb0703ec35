/-
  Functions of the tokenizer, followed. Nothing is claimed here.
-/
import Derived.Test.YthjnfeihngjchaaDoorTa
import Derived.Test.YthjnfeihngjchaaDoorOb
namespace Go.Proofs.YthjnfeihngjchaaDoor
open Go.Vm Go.Sx Go.RowKit

def marksL : List Int := [0, 0, 0, 0, 0, 0, 0, 0, 0, 0, 0, 0, 0, 0, 0, 0, 0, 0, 0, 0, 0, 0, 0, 0, 0, 0, 0, 0, 0, 0, 0, 0, 0, 0, 0, 0, 0, 0, 0, 0, 21, 22, 0, 0, 18, 0, 0, 0, 0, 0, 0, 0, 0, 0, 0, 0, 0, 0, 16, 17, 0, 0, 0, 0, 0, 0, 0, 0, 0, 0, 0, 0, 0, 0, 0, 0, 0, 0, 0, 0, 0, 0, 0, 0, 0, 0, 0, 0, 0, 0, 0, 19, 0, 20, 0, 0, 0, 0, 0, 0, 0, 0, 0, 0, 0, 0, 0, 0, 0, 0, 0, 0, 0, 0, 0, 0, 0, 0, 0, 0, 0, 0, 0, 23, 0, 24]
def GT : Gl
  | 0 => some (.u8, marksL)
  | _ => none
def ovD : Ov := ovA
def noT (_ : List W) (_ : W → Prop) : Prop := False
theorem noT_ok (f : FuncId) : FnOK sy Tryd.prog GT ovD GL f noT := fun _ _ _ h => h.elim

abbrev T_token_byteAt := List UInt8 → Int → (Int → Prop) → Prop
def q_token_byteAt (A : T_token_byteAt) (us : List W) (k : W → Prop) : Prop := match us with
  | [.s a0, .i .i64 a1] => A a0 a1 (fun r0 => k (.i .u8 r0))
  | _ => False
theorem q_token_byteAt_weak {A A2 : T_token_byteAt} (h : FnOK sy Tryd.prog GT ovD GL 31 (q_token_byteAt A)) (hA : ∀ a0 a1 K, A2 a0 a1 K → A a0 a1 K) : FnOK sy Tryd.prog GT ovD GL 31 (q_token_byteAt A2) := h.weak (by
  intro us k h
  unfold q_token_byteAt at h ⊢
  split at h
  · exact hA _ _ _ h
  · exact h.elim)

def F_token_byteAt (a0 : List UInt8) (a1 : Int) (K : Int → Prop) : Prop :=
  (((decide (a1 < (a0.length : Int))) = true → ((0 ≤ a1 ∧ a1 < (a0.length : Int)) ∧ K ((a0.getD a1.toNat 0).toNat : Int))) ∧ ((decide (a1 < (a0.length : Int))) = false → K (0 : Int)))

def C_token_byteAt : CallT sg := tab []
theorem Cok_token_byteAt (o0 : Nat → Prop) : CalOK sy Tryd.prog GT ovD o0 GL (C_token_byteAt) := tab_nil o0

theorem raw_token_byteAt (a0 : List UInt8) (a1 : Int) (k : W → Prop) : fnT sy Tryd.prog GT (C_token_byteAt) noL Tryd.f31.ntmps (bodyOf Tryd.f31) [none] Tryd.f31.results.toList [.s a0, .i .i64 a1] k = F_token_byteAt a0 a1 (fun r0 => k (.i .u8 r0)) := by kernel_rfl

theorem ok_token_byteAt : FnOK sy Tryd.prog GT ovD GL 31 (q_token_byteAt (F_token_byteAt)) := (fn_ok (rc := [none]) (f := 31) (fn := Tryd.f31) (c := bodyOf Tryd.f31) (nt := Tryd.f31.ntmps) (res := Tryd.f31.results.toList) (C := C_token_byteAt) (L := noL) (fun _ _ => rfl) Tryd.func31 (by kernel_rfl) rfl rfl (Cok_token_byteAt) (lp_of (l := []) (by kernel_rfl) lp_nil)).weak (by
  intro us k h
  unfold q_token_byteAt at h
  split at h
  · skip
    rename_i a0 a1
    rw [raw_token_byteAt a0 a1 k]
    exact h
  · exact h.elim)

abbrev T_char_IsDigit := Int → (Bool → Prop) → Prop
def q_char_IsDigit (A : T_char_IsDigit) (us : List W) (k : W → Prop) : Prop := match us with
  | [.i .u8 a0] => A a0 (fun r0 => k (.b r0))
  | _ => False
theorem q_char_IsDigit_weak {A A2 : T_char_IsDigit} (h : FnOK sy Tryd.prog GT ovD GL 37 (q_char_IsDigit A)) (hA : ∀ a0 K, A2 a0 K → A a0 K) : FnOK sy Tryd.prog GT ovD GL 37 (q_char_IsDigit A2) := h.weak (by
  intro us k h
  unfold q_char_IsDigit at h ⊢
  split at h
  · exact hA _ _ h
  · exact h.elim)

def F_char_IsDigit (a0 : Int) (K : Bool → Prop) : Prop :=
  (((decide ((48 : Int) ≤ a0)) = true → K (decide (a0 ≤ (57 : Int)))) ∧ ((decide ((48 : Int) ≤ a0)) = false → K false))

def C_char_IsDigit : CallT sg := tab []
theorem Cok_char_IsDigit (o0 : Nat → Prop) : CalOK sy Tryd.prog GT ovD o0 GL (C_char_IsDigit) := tab_nil o0

theorem raw_char_IsDigit (a0 : Int) (k : W → Prop) : fnT sy Tryd.prog GT (C_char_IsDigit) noL Tryd.f37.ntmps (bodyOf Tryd.f37) [none] Tryd.f37.results.toList [.i .u8 a0] k = F_char_IsDigit a0 (fun r0 => k (.b r0)) := by kernel_rfl

theorem ok_char_IsDigit : FnOK sy Tryd.prog GT ovD GL 37 (q_char_IsDigit (F_char_IsDigit)) := (fn_ok (rc := [none]) (f := 37) (fn := Tryd.f37) (c := bodyOf Tryd.f37) (nt := Tryd.f37.ntmps) (res := Tryd.f37.results.toList) (C := C_char_IsDigit) (L := noL) (fun _ _ => rfl) Tryd.func37 (by kernel_rfl) rfl rfl (Cok_char_IsDigit) (lp_of (l := []) (by kernel_rfl) lp_nil)).weak (by
  intro us k h
  unfold q_char_IsDigit at h
  split at h
  · skip
    rename_i a0
    rw [raw_char_IsDigit a0 k]
    exact h
  · exact h.elim)

abbrev T_token_isSign := Int → (Bool → Prop) → Prop
def q_token_isSign (A : T_token_isSign) (us : List W) (k : W → Prop) : Prop := match us with
  | [.i .u8 a0] => A a0 (fun r0 => k (.b r0))
  | _ => False
theorem q_token_isSign_weak {A A2 : T_token_isSign} (h : FnOK sy Tryd.prog GT ovD GL 36 (q_token_isSign A)) (hA : ∀ a0 K, A2 a0 K → A a0 K) : FnOK sy Tryd.prog GT ovD GL 36 (q_token_isSign A2) := h.weak (by
  intro us k h
  unfold q_token_isSign at h ⊢
  split at h
  · exact hA _ _ h
  · exact h.elim)

def F_token_isSign (a0 : Int) (K : Bool → Prop) : Prop :=
  (((decide (a0 = (43 : Int))) = false → K (decide (a0 = (45 : Int)))) ∧ ((decide (a0 = (43 : Int))) = true → K true))

def C_token_isSign : CallT sg := tab []
theorem Cok_token_isSign (o0 : Nat → Prop) : CalOK sy Tryd.prog GT ovD o0 GL (C_token_isSign) := tab_nil o0

theorem raw_token_isSign (a0 : Int) (k : W → Prop) : fnT sy Tryd.prog GT (C_token_isSign) noL Tryd.f36.ntmps (bodyOf Tryd.f36) [none] Tryd.f36.results.toList [.i .u8 a0] k = F_token_isSign a0 (fun r0 => k (.b r0)) := by kernel_rfl

theorem ok_token_isSign : FnOK sy Tryd.prog GT ovD GL 36 (q_token_isSign (F_token_isSign)) := (fn_ok (rc := [none]) (f := 36) (fn := Tryd.f36) (c := bodyOf Tryd.f36) (nt := Tryd.f36.ntmps) (res := Tryd.f36.results.toList) (C := C_token_isSign) (L := noL) (fun _ _ => rfl) Tryd.func36 (by kernel_rfl) rfl rfl (Cok_token_isSign) (lp_of (l := []) (by kernel_rfl) lp_nil)).weak (by
  intro us k h
  unfold q_token_isSign at h
  split at h
  · skip
    rename_i a0
    rw [raw_token_isSign a0 k]
    exact h
  · exact h.elim)

abbrev T_token_fractionStarts := List UInt8 → Int → (Bool → Prop) → Prop
def q_token_fractionStarts (A : T_token_fractionStarts) (us : List W) (k : W → Prop) : Prop := match us with
  | [.s a0, .i .i64 a1] => A a0 a1 (fun r0 => k (.b r0))
  | _ => False
theorem q_token_fractionStarts_weak {A A2 : T_token_fractionStarts} (h : FnOK sy Tryd.prog GT ovD GL 38 (q_token_fractionStarts A)) (hA : ∀ a0 a1 K, A2 a0 a1 K → A a0 a1 K) : FnOK sy Tryd.prog GT ovD GL 38 (q_token_fractionStarts A2) := h.weak (by
  intro us k h
  unfold q_token_fractionStarts at h ⊢
  split at h
  · exact hA _ _ _ h
  · exact h.elim)

def F_token_fractionStarts (A31 : T_token_byteAt) (A37 : T_char_IsDigit) (a0 : List UInt8) (a1 : Int) (K : Bool → Prop) : Prop :=
  (A31 a0 a1 (fun y1 => (((decide (y1 = (46 : Int))) = true → (I64 (a1 + (1 : Int)) ∧ (A31 a0 (a1 + (1 : Int)) (fun y2 => (A37 y2 (fun y3 => K y3)))))) ∧ ((decide (y1 = (46 : Int))) = false → K false))))

def C_token_fractionStarts (A31 : T_token_byteAt) (A37 : T_char_IsDigit) : CallT sg := tab [(31, con [none, none] (q_token_byteAt A31)), (37, con [none] (q_char_IsDigit A37))]
theorem Cok_token_fractionStarts (A31 : T_token_byteAt) (A37 : T_char_IsDigit) (h31 : FnOK sy Tryd.prog GT ovD GL 31 (q_token_byteAt A31)) (h37 : FnOK sy Tryd.prog GT ovD GL 37 (q_char_IsDigit A37)) (o0 : Nat → Prop) : CalOK sy Tryd.prog GT ovD o0 GL (C_token_fractionStarts A31 A37) := (tab_cons (con_ok h31) (tab_cons (con_ok h37) tab_nil)) o0

theorem raw_token_fractionStarts (A31 : T_token_byteAt) (A37 : T_char_IsDigit) (a0 : List UInt8) (a1 : Int) (k : W → Prop) : fnT sy Tryd.prog GT (C_token_fractionStarts A31 A37) noL Tryd.f38.ntmps (bodyOf Tryd.f38) [none] Tryd.f38.results.toList [.s a0, .i .i64 a1] k = F_token_fractionStarts A31 A37 a0 a1 (fun r0 => k (.b r0)) := by kernel_rfl

theorem ok_token_fractionStarts (A31 : T_token_byteAt) (A37 : T_char_IsDigit) (h31 : FnOK sy Tryd.prog GT ovD GL 31 (q_token_byteAt A31)) (h37 : FnOK sy Tryd.prog GT ovD GL 37 (q_char_IsDigit A37)) : FnOK sy Tryd.prog GT ovD GL 38 (q_token_fractionStarts (F_token_fractionStarts A31 A37)) := (fn_ok (rc := [none]) (f := 38) (fn := Tryd.f38) (c := bodyOf Tryd.f38) (nt := Tryd.f38.ntmps) (res := Tryd.f38.results.toList) (C := C_token_fractionStarts A31 A37) (L := noL) (fun _ _ => rfl) Tryd.func38 (by kernel_rfl) rfl rfl (Cok_token_fractionStarts A31 A37 h31 h37) (lp_of (l := []) (by kernel_rfl) lp_nil)).weak (by
  intro us k h
  unfold q_token_fractionStarts at h
  split at h
  · skip
    rename_i a0 a1
    rw [raw_token_fractionStarts A31 A37 a0 a1 k]
    exact h
  · exact h.elim)

abbrev T_token_numberStarts := List UInt8 → Int → (Bool → Prop) → Prop
def q_token_numberStarts (A : T_token_numberStarts) (us : List W) (k : W → Prop) : Prop := match us with
  | [.s a0, .i .i64 a1] => A a0 a1 (fun r0 => k (.b r0))
  | _ => False
theorem q_token_numberStarts_weak {A A2 : T_token_numberStarts} (h : FnOK sy Tryd.prog GT ovD GL 25 (q_token_numberStarts A)) (hA : ∀ a0 a1 K, A2 a0 a1 K → A a0 a1 K) : FnOK sy Tryd.prog GT ovD GL 25 (q_token_numberStarts A2) := h.weak (by
  intro us k h
  unfold q_token_numberStarts at h ⊢
  split at h
  · exact hA _ _ _ h
  · exact h.elim)

def F_token_numberStarts (A31 : T_token_byteAt) (A36 : T_token_isSign) (A37 : T_char_IsDigit) (A38 : T_token_fractionStarts) (a0 : List UInt8) (a1 : Int) (K : Bool → Prop) : Prop :=
  (A31 a0 a1 (fun y1 => (A36 y1 (fun y2 => ((y2 = true → (I64 (a1 + (1 : Int)) ∧ (A31 a0 (a1 + (1 : Int)) (fun y3 => (A37 y3 (fun y4 => ((y4 = false → (A38 a0 (a1 + (1 : Int)) (fun y5 => K y5))) ∧ (y4 = true → K true)))))))) ∧ (y2 = false → (A31 a0 a1 (fun y6 => (A37 y6 (fun y7 => ((y7 = false → (A38 a0 a1 (fun y8 => K y8))) ∧ (y7 = true → K true))))))))))))

def C_token_numberStarts (A31 : T_token_byteAt) (A36 : T_token_isSign) (A37 : T_char_IsDigit) (A38 : T_token_fractionStarts) : CallT sg := tab [(31, con [none, none] (q_token_byteAt A31)), (36, con [none] (q_token_isSign A36)), (37, con [none] (q_char_IsDigit A37)), (38, con [none, none] (q_token_fractionStarts A38))]
theorem Cok_token_numberStarts (A31 : T_token_byteAt) (A36 : T_token_isSign) (A37 : T_char_IsDigit) (A38 : T_token_fractionStarts) (h31 : FnOK sy Tryd.prog GT ovD GL 31 (q_token_byteAt A31)) (h36 : FnOK sy Tryd.prog GT ovD GL 36 (q_token_isSign A36)) (h37 : FnOK sy Tryd.prog GT ovD GL 37 (q_char_IsDigit A37)) (h38 : FnOK sy Tryd.prog GT ovD GL 38 (q_token_fractionStarts A38)) (o0 : Nat → Prop) : CalOK sy Tryd.prog GT ovD o0 GL (C_token_numberStarts A31 A36 A37 A38) := (tab_cons (con_ok h31) (tab_cons (con_ok h36) (tab_cons (con_ok h37) (tab_cons (con_ok h38) tab_nil)))) o0

theorem raw_token_numberStarts (A31 : T_token_byteAt) (A36 : T_token_isSign) (A37 : T_char_IsDigit) (A38 : T_token_fractionStarts) (a0 : List UInt8) (a1 : Int) (k : W → Prop) : fnT sy Tryd.prog GT (C_token_numberStarts A31 A36 A37 A38) noL Tryd.f25.ntmps (bodyOf Tryd.f25) [none] Tryd.f25.results.toList [.s a0, .i .i64 a1] k = F_token_numberStarts A31 A36 A37 A38 a0 a1 (fun r0 => k (.b r0)) := by kernel_rfl

theorem ok_token_numberStarts (A31 : T_token_byteAt) (A36 : T_token_isSign) (A37 : T_char_IsDigit) (A38 : T_token_fractionStarts) (h31 : FnOK sy Tryd.prog GT ovD GL 31 (q_token_byteAt A31)) (h36 : FnOK sy Tryd.prog GT ovD GL 36 (q_token_isSign A36)) (h37 : FnOK sy Tryd.prog GT ovD GL 37 (q_char_IsDigit A37)) (h38 : FnOK sy Tryd.prog GT ovD GL 38 (q_token_fractionStarts A38)) : FnOK sy Tryd.prog GT ovD GL 25 (q_token_numberStarts (F_token_numberStarts A31 A36 A37 A38)) := (fn_ok (rc := [none]) (f := 25) (fn := Tryd.f25) (c := bodyOf Tryd.f25) (nt := Tryd.f25.ntmps) (res := Tryd.f25.results.toList) (C := C_token_numberStarts A31 A36 A37 A38) (L := noL) (fun _ _ => rfl) Tryd.func25 (by kernel_rfl) rfl rfl (Cok_token_numberStarts A31 A36 A37 A38 h31 h36 h37 h38) (lp_of (l := []) (by kernel_rfl) lp_nil)).weak (by
  intro us k h
  unfold q_token_numberStarts at h
  split at h
  · skip
    rename_i a0 a1
    rw [raw_token_numberStarts A31 A36 A37 A38 a0 a1 k]
    exact h
  · exact h.elim)

abbrev T_token_isExponentMark := Int → (Bool → Prop) → Prop
def q_token_isExponentMark (A : T_token_isExponentMark) (us : List W) (k : W → Prop) : Prop := match us with
  | [.i .u8 a0] => A a0 (fun r0 => k (.b r0))
  | _ => False
theorem q_token_isExponentMark_weak {A A2 : T_token_isExponentMark} (h : FnOK sy Tryd.prog GT ovD GL 51 (q_token_isExponentMark A)) (hA : ∀ a0 K, A2 a0 K → A a0 K) : FnOK sy Tryd.prog GT ovD GL 51 (q_token_isExponentMark A2) := h.weak (by
  intro us k h
  unfold q_token_isExponentMark at h ⊢
  split at h
  · exact hA _ _ h
  · exact h.elim)

def F_token_isExponentMark (a0 : Int) (K : Bool → Prop) : Prop :=
  (((decide (a0 = (101 : Int))) = false → K (decide (a0 = (69 : Int)))) ∧ ((decide (a0 = (101 : Int))) = true → K true))

def C_token_isExponentMark : CallT sg := tab []
theorem Cok_token_isExponentMark (o0 : Nat → Prop) : CalOK sy Tryd.prog GT ovD o0 GL (C_token_isExponentMark) := tab_nil o0

theorem raw_token_isExponentMark (a0 : Int) (k : W → Prop) : fnT sy Tryd.prog GT (C_token_isExponentMark) noL Tryd.f51.ntmps (bodyOf Tryd.f51) [none] Tryd.f51.results.toList [.i .u8 a0] k = F_token_isExponentMark a0 (fun r0 => k (.b r0)) := by kernel_rfl

theorem ok_token_isExponentMark : FnOK sy Tryd.prog GT ovD GL 51 (q_token_isExponentMark (F_token_isExponentMark)) := (fn_ok (rc := [none]) (f := 51) (fn := Tryd.f51) (c := bodyOf Tryd.f51) (nt := Tryd.f51.ntmps) (res := Tryd.f51.results.toList) (C := C_token_isExponentMark) (L := noL) (fun _ _ => rfl) Tryd.func51 (by kernel_rfl) rfl rfl (Cok_token_isExponentMark) (lp_of (l := []) (by kernel_rfl) lp_nil)).weak (by
  intro us k h
  unfold q_token_isExponentMark at h
  split at h
  · skip
    rename_i a0
    rw [raw_token_isExponentMark a0 k]
    exact h
  · exact h.elim)

abbrev T_token_digitStarts := List UInt8 → Int → (Bool → Prop) → Prop
def q_token_digitStarts (A : T_token_digitStarts) (us : List W) (k : W → Prop) : Prop := match us with
  | [.s a0, .i .i64 a1] => A a0 a1 (fun r0 => k (.b r0))
  | _ => False
theorem q_token_digitStarts_weak {A A2 : T_token_digitStarts} (h : FnOK sy Tryd.prog GT ovD GL 52 (q_token_digitStarts A)) (hA : ∀ a0 a1 K, A2 a0 a1 K → A a0 a1 K) : FnOK sy Tryd.prog GT ovD GL 52 (q_token_digitStarts A2) := h.weak (by
  intro us k h
  unfold q_token_digitStarts at h ⊢
  split at h
  · exact hA _ _ _ h
  · exact h.elim)

def F_token_digitStarts (A31 : T_token_byteAt) (A36 : T_token_isSign) (A37 : T_char_IsDigit) (a0 : List UInt8) (a1 : Int) (K : Bool → Prop) : Prop :=
  (A31 a0 a1 (fun y1 => (A36 y1 (fun y2 => ((y2 = true → (I64 (a1 + (1 : Int)) ∧ (A31 a0 (a1 + (1 : Int)) (fun y3 => (A37 y3 (fun y4 => K y4)))))) ∧ (y2 = false → (A31 a0 a1 (fun y5 => (A37 y5 (fun y6 => K y6))))))))))

def C_token_digitStarts (A31 : T_token_byteAt) (A36 : T_token_isSign) (A37 : T_char_IsDigit) : CallT sg := tab [(31, con [none, none] (q_token_byteAt A31)), (36, con [none] (q_token_isSign A36)), (37, con [none] (q_char_IsDigit A37))]
theorem Cok_token_digitStarts (A31 : T_token_byteAt) (A36 : T_token_isSign) (A37 : T_char_IsDigit) (h31 : FnOK sy Tryd.prog GT ovD GL 31 (q_token_byteAt A31)) (h36 : FnOK sy Tryd.prog GT ovD GL 36 (q_token_isSign A36)) (h37 : FnOK sy Tryd.prog GT ovD GL 37 (q_char_IsDigit A37)) (o0 : Nat → Prop) : CalOK sy Tryd.prog GT ovD o0 GL (C_token_digitStarts A31 A36 A37) := (tab_cons (con_ok h31) (tab_cons (con_ok h36) (tab_cons (con_ok h37) tab_nil))) o0

theorem raw_token_digitStarts (A31 : T_token_byteAt) (A36 : T_token_isSign) (A37 : T_char_IsDigit) (a0 : List UInt8) (a1 : Int) (k : W → Prop) : fnT sy Tryd.prog GT (C_token_digitStarts A31 A36 A37) noL Tryd.f52.ntmps (bodyOf Tryd.f52) [none] Tryd.f52.results.toList [.s a0, .i .i64 a1] k = F_token_digitStarts A31 A36 A37 a0 a1 (fun r0 => k (.b r0)) := by kernel_rfl

theorem ok_token_digitStarts (A31 : T_token_byteAt) (A36 : T_token_isSign) (A37 : T_char_IsDigit) (h31 : FnOK sy Tryd.prog GT ovD GL 31 (q_token_byteAt A31)) (h36 : FnOK sy Tryd.prog GT ovD GL 36 (q_token_isSign A36)) (h37 : FnOK sy Tryd.prog GT ovD GL 37 (q_char_IsDigit A37)) : FnOK sy Tryd.prog GT ovD GL 52 (q_token_digitStarts (F_token_digitStarts A31 A36 A37)) := (fn_ok (rc := [none]) (f := 52) (fn := Tryd.f52) (c := bodyOf Tryd.f52) (nt := Tryd.f52.ntmps) (res := Tryd.f52.results.toList) (C := C_token_digitStarts A31 A36 A37) (L := noL) (fun _ _ => rfl) Tryd.func52 (by kernel_rfl) rfl rfl (Cok_token_digitStarts A31 A36 A37 h31 h36 h37) (lp_of (l := []) (by kernel_rfl) lp_nil)).weak (by
  intro us k h
  unfold q_token_digitStarts at h
  split at h
  · skip
    rename_i a0 a1
    rw [raw_token_digitStarts A31 A36 A37 a0 a1 k]
    exact h
  · exact h.elim)

abbrev T_token_wholeNumber := List UInt8 → (Int → Prop) → Prop
def q_token_wholeNumber (A : T_token_wholeNumber) (us : List W) (k : W → Prop) : Prop := match us with
  | [.s a0] => A a0 (fun r0 => k (.i .i64 r0))
  | _ => False
theorem q_token_wholeNumber_weak {A A2 : T_token_wholeNumber} (h : FnOK sy Tryd.prog GT ovD GL 53 (q_token_wholeNumber A)) (hA : ∀ a0 K, A2 a0 K → A a0 K) : FnOK sy Tryd.prog GT ovD GL 53 (q_token_wholeNumber A2) := h.weak (by
  intro us k h
  unfold q_token_wholeNumber at h ⊢
  split at h
  · exact hA _ _ h
  · exact h.elim)

def F_token_wholeNumber_l3 : Nat → List UInt8 → Int → Int → Int → (Int → Prop) → Prop
  | 0, _, _, _, _, _ => False
  | n + 1, x0, x3, x6, x7, Ke => (((decide (x7 < x6)) = true → (I64 ((10 : Int) * x3) ∧ ((0 ≤ x7 ∧ x7 < (x0.length : Int)) ∧ (I64 (IntKind.u8.wrap (((x0.getD x7.toNat 0).toNat : Int) - (48 : Int))) ∧ (I64 (((10 : Int) * x3) + (IntKind.u8.wrap (((x0.getD x7.toNat 0).toNat : Int) - (48 : Int)))) ∧ (I64 (x7 + (1 : Int)) ∧ F_token_wholeNumber_l3 n x0 (if (8000 : Int) < (((10 : Int) * x3) + (IntKind.u8.wrap (((x0.getD x7.toNat 0).toNat : Int) - (48 : Int)))) then (8000 : Int) else (((10 : Int) * x3) + (IntKind.u8.wrap (((x0.getD x7.toNat 0).toNat : Int) - (48 : Int))))) x6 (x7 + (1 : Int)) Ke)))))) ∧ ((decide (x7 < x6)) = false → Ke x3))

def F_token_wholeNumber (a0 : List UInt8) (K : Int → Prop) : Prop :=
  (∃ m, F_token_wholeNumber_l3 m a0 (0 : Int) (a0.length : Int) (0 : Int) (fun y1 => K y1))

def C_token_wholeNumber : CallT sg := tab []
theorem Cok_token_wholeNumber (o0 : Nat → Prop) : CalOK sy Tryd.prog GT ovD o0 GL (C_token_wholeNumber) := tab_nil o0

def ls_token_wholeNumber_3 : LS sy ((List UInt8) × Int × Int × Int × Unit) Unit := ⟨[], fCons 0 (vStr sy) (fCons 3 (vInt sy .i64) (fCons 6 (vInt sy .i64) (fCons 7 (vInt sy .i64) (fNil sy)))), hNil sy, 0, []⟩
def le_token_wholeNumber_3 : LS sy (Int × Unit) Unit := ⟨[], fCons 3 (vInt sy .i64) (fNil sy), hNil sy, 0, []⟩
def lr_token_wholeNumber_3 : LS sy Unit Unit := ⟨[], fNil sy, hNil sy, 0, []⟩
def FF_token_wholeNumber_3 (n : Nat) (x : ((List UInt8) × Int × Int × Int × Unit) × Unit) (K : Ex → Z sg → Prop) : Prop := F_token_wholeNumber_l3 n x.1.1 x.1.2.1 x.1.2.2.1 x.1.2.2.2.1 (fun y0 => K (.exit 0) (le_token_wholeNumber_3.put ((y0, ()), ())))
def h_token_wholeNumber_3 (z : Z sg) (K : Ex → Z sg → Prop) : Prop := ls_token_wholeNumber_3.get z (fun x => ∃ n, FF_token_wholeNumber_3 n x K)
def L_token_wholeNumber : LoopT sg := tabL [(3, h_token_wholeNumber_3)]
theorem hs_token_wholeNumber_3 (n : Nat) (x : ((List UInt8) × Int × Int × Int × Unit) × Unit) (K : Ex → Z sg → Prop) : forceZ (ls_token_wholeNumber_3.put x) (fun z => sC sy Tryd.prog GT (C_token_wholeNumber) (L_token_wholeNumber) Tryd.f53.ntmps (nthLoop (bodyOf Tryd.f53) 0) z (rnd ls_token_wholeNumber_3 (czT 0 le_token_wholeNumber_3 lr_token_wholeNumber_3) (fun x => FF_token_wholeNumber_3 n x K) K)) = FF_token_wholeNumber_3 (n + 1) x K := by kernel_rfl
theorem hl_token_wholeNumber_3 (z : Z sg) (K : Ex → Z sg → Prop) : (L_token_wholeNumber) (nthLoop (bodyOf Tryd.f53) 0) z K = ls_token_wholeNumber_3.get z (fun x => ∃ n, FF_token_wholeNumber_3 n x K) := by kernel_rfl
theorem lo_token_wholeNumber_3 : ∀ (o0 : Nat → Prop) (B : Bs sg), B.E.length ≤ 0 → ∀ z K, (L_token_wholeNumber) (nthLoop (bodyOf Tryd.f53) 0) z K → Sx.Sem sy Tryd.prog GT ovD o0 GL Tryd.f53.ntmps B (.loop (nthLoop (bodyOf Tryd.f53) 0)) z K :=
  loop_ok (Cok_token_wholeNumber) (lp_of (l := []) (by kernel_rfl) lp_nil) ls_token_wholeNumber_3 (by decide) (czT 0 le_token_wholeNumber_3 lr_token_wholeNumber_3) (fun _ _ hB => czT_ok 0 le_token_wholeNumber_3 lr_token_wholeNumber_3 (Nat.le_trans hB (by decide)) (Nat.le_trans hB (by decide))) (fun _ _ h => h) (hs_token_wholeNumber_3) (hl_token_wholeNumber_3)
theorem Lp_token_wholeNumber : LpOK sy Tryd.prog GT ovD GL (L_token_wholeNumber) 0 Tryd.f53.ntmps (bodyOf Tryd.f53) := lp_of (l := [(nthLoop (bodyOf Tryd.f53) 0)]) (by kernel_rfl) (lp_cons (lo_token_wholeNumber_3) lp_nil)


theorem raw_token_wholeNumber (a0 : List UInt8) (k : W → Prop) : fnT sy Tryd.prog GT (C_token_wholeNumber) (L_token_wholeNumber) Tryd.f53.ntmps (bodyOf Tryd.f53) [none] Tryd.f53.results.toList [.s a0] k = F_token_wholeNumber a0 (fun r0 => k (.i .i64 r0)) := by kernel_rfl

theorem ok_token_wholeNumber : FnOK sy Tryd.prog GT ovD GL 53 (q_token_wholeNumber (F_token_wholeNumber)) := (fn_ok (rc := [none]) (f := 53) (fn := Tryd.f53) (c := bodyOf Tryd.f53) (nt := Tryd.f53.ntmps) (res := Tryd.f53.results.toList) (C := C_token_wholeNumber) (L := (L_token_wholeNumber)) (fun _ _ => rfl) Tryd.func53 (by kernel_rfl) rfl rfl (Cok_token_wholeNumber) (Lp_token_wholeNumber)).weak (by
  intro us k h
  unfold q_token_wholeNumber at h
  split at h
  · skip
    rename_i a0
    rw [raw_token_wholeNumber a0 k]
    exact h
  · exact h.elim)

abbrev T_strings_trimLeftByte := List UInt8 → Int → (List UInt8 → Prop) → Prop
def q_strings_trimLeftByte (A : T_strings_trimLeftByte) (us : List W) (k : W → Prop) : Prop := match us with
  | [.s a0, .i .u8 a1] => A a0 a1 (fun r0 => k (.s r0))
  | _ => False
theorem q_strings_trimLeftByte_weak {A A2 : T_strings_trimLeftByte} (h : FnOK sy Tryd.prog GT ovD GL 62 (q_strings_trimLeftByte A)) (hA : ∀ a0 a1 K, A2 a0 a1 K → A a0 a1 K) : FnOK sy Tryd.prog GT ovD GL 62 (q_strings_trimLeftByte A2) := h.weak (by
  intro us k h
  unfold q_strings_trimLeftByte at h ⊢
  split at h
  · exact hA _ _ _ h
  · exact h.elim)

def F_strings_trimLeftByte_l1 : Nat → List UInt8 → Int → (List UInt8 → Prop) → Prop
  | 0, _, _, _ => False
  | n + 1, x0, x1, Ke => (((decide ((0 : Int) < (x0.length : Int))) = true → ((0 ≤ (0 : Int) ∧ (0 : Int) < (x0.length : Int)) ∧ (((decide (((x0.getD 0 0).toNat : Int) = x1)) = true → ((0 ≤ (1 : Int) ∧ (1 : Int) ≤ (x0.length : Int)) ∧ F_strings_trimLeftByte_l1 n (x0.drop 1) x1 Ke)) ∧ ((decide (((x0.getD 0 0).toNat : Int) = x1)) = false → Ke x0)))) ∧ ((decide ((0 : Int) < (x0.length : Int))) = false → Ke x0))

def F_strings_trimLeftByte (a0 : List UInt8) (a1 : Int) (K : List UInt8 → Prop) : Prop :=
  (∃ m, F_strings_trimLeftByte_l1 m a0 a1 (fun y1 => K y1))

def C_strings_trimLeftByte : CallT sg := tab []
theorem Cok_strings_trimLeftByte (o0 : Nat → Prop) : CalOK sy Tryd.prog GT ovD o0 GL (C_strings_trimLeftByte) := tab_nil o0

def ls_strings_trimLeftByte_1 : LS sy ((List UInt8) × Int × Unit) Unit := ⟨[], fCons 0 (vStr sy) (fCons 1 (vInt sy .u8) (fNil sy)), hNil sy, 0, []⟩
def le_strings_trimLeftByte_1 : LS sy ((List UInt8) × Unit) Unit := ⟨[], fCons 0 (vStr sy) (fNil sy), hNil sy, 0, []⟩
def lr_strings_trimLeftByte_1 : LS sy Unit Unit := ⟨[], fNil sy, hNil sy, 0, []⟩
def FF_strings_trimLeftByte_1 (n : Nat) (x : ((List UInt8) × Int × Unit) × Unit) (K : Ex → Z sg → Prop) : Prop := F_strings_trimLeftByte_l1 n x.1.1 x.1.2.1 (fun y0 => K (.exit 0) (le_strings_trimLeftByte_1.put ((y0, ()), ())))
def h_strings_trimLeftByte_1 (z : Z sg) (K : Ex → Z sg → Prop) : Prop := ls_strings_trimLeftByte_1.get z (fun x => ∃ n, FF_strings_trimLeftByte_1 n x K)
def L_strings_trimLeftByte : LoopT sg := tabL [(1, h_strings_trimLeftByte_1)]
theorem hs_strings_trimLeftByte_1 (n : Nat) (x : ((List UInt8) × Int × Unit) × Unit) (K : Ex → Z sg → Prop) : forceZ (ls_strings_trimLeftByte_1.put x) (fun z => sC sy Tryd.prog GT (C_strings_trimLeftByte) (L_strings_trimLeftByte) Tryd.f62.ntmps (nthLoop (bodyOf Tryd.f62) 0) z (rnd ls_strings_trimLeftByte_1 (czT 0 le_strings_trimLeftByte_1 lr_strings_trimLeftByte_1) (fun x => FF_strings_trimLeftByte_1 n x K) K)) = FF_strings_trimLeftByte_1 (n + 1) x K := by kernel_rfl
theorem hl_strings_trimLeftByte_1 (z : Z sg) (K : Ex → Z sg → Prop) : (L_strings_trimLeftByte) (nthLoop (bodyOf Tryd.f62) 0) z K = ls_strings_trimLeftByte_1.get z (fun x => ∃ n, FF_strings_trimLeftByte_1 n x K) := by kernel_rfl
theorem lo_strings_trimLeftByte_1 : ∀ (o0 : Nat → Prop) (B : Bs sg), B.E.length ≤ 0 → ∀ z K, (L_strings_trimLeftByte) (nthLoop (bodyOf Tryd.f62) 0) z K → Sx.Sem sy Tryd.prog GT ovD o0 GL Tryd.f62.ntmps B (.loop (nthLoop (bodyOf Tryd.f62) 0)) z K :=
  loop_ok (Cok_strings_trimLeftByte) (lp_of (l := []) (by kernel_rfl) lp_nil) ls_strings_trimLeftByte_1 (by decide) (czT 0 le_strings_trimLeftByte_1 lr_strings_trimLeftByte_1) (fun _ _ hB => czT_ok 0 le_strings_trimLeftByte_1 lr_strings_trimLeftByte_1 (Nat.le_trans hB (by decide)) (Nat.le_trans hB (by decide))) (fun _ _ h => h) (hs_strings_trimLeftByte_1) (hl_strings_trimLeftByte_1)
theorem Lp_strings_trimLeftByte : LpOK sy Tryd.prog GT ovD GL (L_strings_trimLeftByte) 0 Tryd.f62.ntmps (bodyOf Tryd.f62) := lp_of (l := [(nthLoop (bodyOf Tryd.f62) 0)]) (by kernel_rfl) (lp_cons (lo_strings_trimLeftByte_1) lp_nil)


theorem raw_strings_trimLeftByte (a0 : List UInt8) (a1 : Int) (k : W → Prop) : fnT sy Tryd.prog GT (C_strings_trimLeftByte) (L_strings_trimLeftByte) Tryd.f62.ntmps (bodyOf Tryd.f62) [none] Tryd.f62.results.toList [.s a0, .i .u8 a1] k = F_strings_trimLeftByte a0 a1 (fun r0 => k (.s r0)) := by kernel_rfl

theorem ok_strings_trimLeftByte : FnOK sy Tryd.prog GT ovD GL 62 (q_strings_trimLeftByte (F_strings_trimLeftByte)) := (fn_ok (rc := [none]) (f := 62) (fn := Tryd.f62) (c := bodyOf Tryd.f62) (nt := Tryd.f62.ntmps) (res := Tryd.f62.results.toList) (C := C_strings_trimLeftByte) (L := (L_strings_trimLeftByte)) (fun _ _ => rfl) Tryd.func62 (by kernel_rfl) rfl rfl (Cok_strings_trimLeftByte) (Lp_strings_trimLeftByte)).weak (by
  intro us k h
  unfold q_strings_trimLeftByte at h
  split at h
  · skip
    rename_i a0 a1
    rw [raw_strings_trimLeftByte a0 a1 k]
    exact h
  · exact h.elim)

abbrev T_strings_TrimLeft := List UInt8 → List UInt8 → (List UInt8 → Prop) → Prop
def q_strings_TrimLeft (A : T_strings_TrimLeft) (us : List W) (k : W → Prop) : Prop := match us with
  | [.s a0, .s a1] => A a0 a1 (fun r0 => k (.s r0))
  | _ => False
theorem q_strings_TrimLeft_weak {A A2 : T_strings_TrimLeft} (h : FnOK sy Tryd.prog GT ovD GL 61 (q_strings_TrimLeft A)) (hA : ∀ a0 a1 K, A2 a0 a1 K → A a0 a1 K) : FnOK sy Tryd.prog GT ovD GL 61 (q_strings_TrimLeft A2) := h.weak (by
  intro us k h
  unfold q_strings_TrimLeft at h ⊢
  split at h
  · exact hA _ _ _ h
  · exact h.elim)

def F_strings_TrimLeft (A62 : T_strings_trimLeftByte) (a0 : List UInt8) (a1 : List UInt8) (K : List UInt8 → Prop) : Prop :=
  (((a0 == ([] : List UInt8)) = false → (((a1 == ([] : List UInt8)) = true → K a0) ∧ ((a1 == ([] : List UInt8)) = false → (((decide ((a1.length : Int) = (1 : Int))) = true → ((0 ≤ (0 : Int) ∧ (0 : Int) < (a1.length : Int)) ∧ (((decide (((a1.getD 0 0).toNat : Int) < (128 : Int))) = true → ((0 ≤ (0 : Int) ∧ (0 : Int) < (a1.length : Int)) ∧ (A62 a0 ((a1.getD 0 0).toNat : Int) (fun y1 => K y1)))) ∧ ((decide (((a1.getD 0 0).toNat : Int) < (128 : Int))) = false → False)))) ∧ ((decide ((a1.length : Int) = (1 : Int))) = false → False))))) ∧ ((a0 == ([] : List UInt8)) = true → K a0))

def C_strings_TrimLeft (A62 : T_strings_trimLeftByte) : CallT sg := tab [(62, con [none, none] (q_strings_trimLeftByte A62)), (63, con [] noT), (64, con [] noT), (65, con [] noT)]
theorem Cok_strings_TrimLeft (A62 : T_strings_trimLeftByte) (h62 : FnOK sy Tryd.prog GT ovD GL 62 (q_strings_trimLeftByte A62)) (o0 : Nat → Prop) : CalOK sy Tryd.prog GT ovD o0 GL (C_strings_TrimLeft A62) := (tab_cons (con_ok h62) (tab_cons (con_ok (noT_ok 63)) (tab_cons (con_ok (noT_ok 64)) (tab_cons (con_ok (noT_ok 65)) tab_nil)))) o0

theorem raw_strings_TrimLeft (A62 : T_strings_trimLeftByte) (a0 : List UInt8) (a1 : List UInt8) (k : W → Prop) : fnT sy Tryd.prog GT (C_strings_TrimLeft A62) noL Tryd.f61.ntmps (bodyOf Tryd.f61) [none] Tryd.f61.results.toList [.s a0, .s a1] k = F_strings_TrimLeft A62 a0 a1 (fun r0 => k (.s r0)) := by kernel_rfl

theorem ok_strings_TrimLeft (A62 : T_strings_trimLeftByte) (h62 : FnOK sy Tryd.prog GT ovD GL 62 (q_strings_trimLeftByte A62)) : FnOK sy Tryd.prog GT ovD GL 61 (q_strings_TrimLeft (F_strings_TrimLeft A62)) := (fn_ok (rc := [none]) (f := 61) (fn := Tryd.f61) (c := bodyOf Tryd.f61) (nt := Tryd.f61.ntmps) (res := Tryd.f61.results.toList) (C := C_strings_TrimLeft A62) (L := noL) (fun _ _ => rfl) Tryd.func61 (by kernel_rfl) rfl rfl (Cok_strings_TrimLeft A62 h62) (lp_of (l := []) (by kernel_rfl) lp_nil)).weak (by
  intro us k h
  unfold q_strings_TrimLeft at h
  split at h
  · skip
    rename_i a0 a1
    rw [raw_strings_TrimLeft A62 a0 a1 k]
    exact h
  · exact h.elim)

abbrev T_token_cutNumber := List UInt8 → Int → (Int → Prop) → Prop
def q_token_cutNumber (A : T_token_cutNumber) (us : List W) (k : W → Prop) : Prop := match us with
  | [.s a0, .i .i64 a1] => A a0 a1 (fun r0 => k (.i .i64 r0))
  | _ => False
theorem q_token_cutNumber_weak {A A2 : T_token_cutNumber} (h : FnOK sy Tryd.prog GT ovD GL 54 (q_token_cutNumber A)) (hA : ∀ a0 a1 K, A2 a0 a1 K → A a0 a1 K) : FnOK sy Tryd.prog GT ovD GL 54 (q_token_cutNumber A2) := h.weak (by
  intro us k h
  unfold q_token_cutNumber at h ⊢
  split at h
  · exact hA _ _ _ h
  · exact h.elim)

def F_token_cutNumber_l9 (A61 : T_strings_TrimLeft) : Nat → List UInt8 → Int → Int → Int → (Int → Prop) → Prop
  | 0, _, _, _, _, _ => False
  | n + 1, x5, x6, x25, x26, Ke => (((decide (x26 < x25)) = true → (I64 (x6 * (10 : Int)) ∧ (((decide (x26 < (x5.length : Int))) = true → ((0 ≤ x26 ∧ x26 < (x5.length : Int)) ∧ (I64 (IntKind.u8.wrap (((x5.getD x26.toNat 0).toNat : Int) - (48 : Int))) ∧ (I64 ((x6 * (10 : Int)) + (IntKind.u8.wrap (((x5.getD x26.toNat 0).toNat : Int) - (48 : Int)))) ∧ (I64 (x26 + (1 : Int)) ∧ F_token_cutNumber_l9 A61 n x5 ((x6 * (10 : Int)) + (IntKind.u8.wrap (((x5.getD x26.toNat 0).toNat : Int) - (48 : Int)))) x25 (x26 + (1 : Int)) Ke))))) ∧ ((decide (x26 < (x5.length : Int))) = false → (I64 (x26 + (1 : Int)) ∧ F_token_cutNumber_l9 A61 n x5 (x6 * (10 : Int)) x25 (x26 + (1 : Int)) Ke))))) ∧ ((decide (x26 < x25)) = false → Ke x6))

def F_token_cutNumber (A61 : T_strings_TrimLeft) (a0 : List UInt8) (a1 : Int) (K : Int → Prop) : Prop :=
  (A61 a0 ([48] : List UInt8) (fun y1 => (I64 ((a0.length : Int) - (y1.length : Int)) ∧ (I64 (a1 - ((a0.length : Int) - (y1.length : Int))) ∧ (((y1 == ([] : List UInt8)) = false → (((decide ((a1 - ((a0.length : Int) - (y1.length : Int))) ≤ (0 : Int))) = true → K (0 : Int)) ∧ ((decide ((a1 - ((a0.length : Int) - (y1.length : Int))) ≤ (0 : Int))) = false → (((decide ((13 : Int) < (a1 - ((a0.length : Int) - (y1.length : Int))))) = true → K (1000000000000 : Int)) ∧ ((decide ((13 : Int) < (a1 - ((a0.length : Int) - (y1.length : Int))))) = false → (∃ m, F_token_cutNumber_l9 A61 m y1 (0 : Int) (a1 - ((a0.length : Int) - (y1.length : Int))) (0 : Int) (fun y2 => K (if (1000000000000 : Int) < y2 then (1000000000000 : Int) else y2)))))))) ∧ ((y1 == ([] : List UInt8)) = true → K (0 : Int)))))))

def C_token_cutNumber (A61 : T_strings_TrimLeft) : CallT sg := tab [(61, con [none, none] (q_strings_TrimLeft A61))]
theorem Cok_token_cutNumber (A61 : T_strings_TrimLeft) (h61 : FnOK sy Tryd.prog GT ovD GL 61 (q_strings_TrimLeft A61)) (o0 : Nat → Prop) : CalOK sy Tryd.prog GT ovD o0 GL (C_token_cutNumber A61) := (tab_cons (con_ok h61) tab_nil) o0

def ls_token_cutNumber_9 : LS sy ((List UInt8) × Int × Int × Int × Unit) Unit := ⟨[], fCons 5 (vStr sy) (fCons 6 (vInt sy .i64) (fCons 25 (vInt sy .i64) (fCons 26 (vInt sy .i64) (fNil sy)))), hNil sy, 0, []⟩
def le_token_cutNumber_9 : LS sy (Int × Unit) Unit := ⟨[], fCons 6 (vInt sy .i64) (fNil sy), hNil sy, 0, []⟩
def lr_token_cutNumber_9 : LS sy Unit Unit := ⟨[], fNil sy, hNil sy, 0, []⟩
def FF_token_cutNumber_9 (A61 : T_strings_TrimLeft) (n : Nat) (x : ((List UInt8) × Int × Int × Int × Unit) × Unit) (K : Ex → Z sg → Prop) : Prop := F_token_cutNumber_l9 A61 n x.1.1 x.1.2.1 x.1.2.2.1 x.1.2.2.2.1 (fun y0 => K (.exit 0) (le_token_cutNumber_9.put ((y0, ()), ())))
def h_token_cutNumber_9 (A61 : T_strings_TrimLeft) (z : Z sg) (K : Ex → Z sg → Prop) : Prop := ls_token_cutNumber_9.get z (fun x => ∃ n, FF_token_cutNumber_9 A61 n x K)
def L_token_cutNumber (A61 : T_strings_TrimLeft) : LoopT sg := tabL [(9, h_token_cutNumber_9 A61)]
theorem hs_token_cutNumber_9 (A61 : T_strings_TrimLeft) (n : Nat) (x : ((List UInt8) × Int × Int × Int × Unit) × Unit) (K : Ex → Z sg → Prop) : forceZ (ls_token_cutNumber_9.put x) (fun z => sC sy Tryd.prog GT (C_token_cutNumber A61) (L_token_cutNumber A61) Tryd.f54.ntmps (nthLoop (bodyOf Tryd.f54) 0) z (rnd ls_token_cutNumber_9 (czT 0 le_token_cutNumber_9 lr_token_cutNumber_9) (fun x => FF_token_cutNumber_9 A61 n x K) K)) = FF_token_cutNumber_9 A61 (n + 1) x K := by kernel_rfl
theorem hl_token_cutNumber_9 (A61 : T_strings_TrimLeft) (z : Z sg) (K : Ex → Z sg → Prop) : (L_token_cutNumber A61) (nthLoop (bodyOf Tryd.f54) 0) z K = ls_token_cutNumber_9.get z (fun x => ∃ n, FF_token_cutNumber_9 A61 n x K) := by kernel_rfl
theorem lo_token_cutNumber_9 (A61 : T_strings_TrimLeft) (h61 : FnOK sy Tryd.prog GT ovD GL 61 (q_strings_TrimLeft A61)) : ∀ (o0 : Nat → Prop) (B : Bs sg), B.E.length ≤ 0 → ∀ z K, (L_token_cutNumber A61) (nthLoop (bodyOf Tryd.f54) 0) z K → Sx.Sem sy Tryd.prog GT ovD o0 GL Tryd.f54.ntmps B (.loop (nthLoop (bodyOf Tryd.f54) 0)) z K :=
  loop_ok (Cok_token_cutNumber A61 h61) (lp_of (l := []) (by kernel_rfl) lp_nil) ls_token_cutNumber_9 (by decide) (czT 0 le_token_cutNumber_9 lr_token_cutNumber_9) (fun _ _ hB => czT_ok 0 le_token_cutNumber_9 lr_token_cutNumber_9 (Nat.le_trans hB (by decide)) (Nat.le_trans hB (by decide))) (fun _ _ h => h) (hs_token_cutNumber_9 A61) (hl_token_cutNumber_9 A61)
theorem Lp_token_cutNumber (A61 : T_strings_TrimLeft) (h61 : FnOK sy Tryd.prog GT ovD GL 61 (q_strings_TrimLeft A61)) : LpOK sy Tryd.prog GT ovD GL (L_token_cutNumber A61) 0 Tryd.f54.ntmps (bodyOf Tryd.f54) := lp_of (l := [(nthLoop (bodyOf Tryd.f54) 0)]) (by kernel_rfl) (lp_cons (lo_token_cutNumber_9 A61 h61) lp_nil)


theorem raw_token_cutNumber (A61 : T_strings_TrimLeft) (a0 : List UInt8) (a1 : Int) (k : W → Prop) : fnT sy Tryd.prog GT (C_token_cutNumber A61) (L_token_cutNumber A61) Tryd.f54.ntmps (bodyOf Tryd.f54) [none] Tryd.f54.results.toList [.s a0, .i .i64 a1] k = F_token_cutNumber A61 a0 a1 (fun r0 => k (.i .i64 r0)) := by kernel_rfl

theorem ok_token_cutNumber (A61 : T_strings_TrimLeft) (h61 : FnOK sy Tryd.prog GT ovD GL 61 (q_strings_TrimLeft A61)) : FnOK sy Tryd.prog GT ovD GL 54 (q_token_cutNumber (F_token_cutNumber A61)) := (fn_ok (rc := [none]) (f := 54) (fn := Tryd.f54) (c := bodyOf Tryd.f54) (nt := Tryd.f54.ntmps) (res := Tryd.f54.results.toList) (C := C_token_cutNumber A61) (L := (L_token_cutNumber A61)) (fun _ _ => rfl) Tryd.func54 (by kernel_rfl) rfl rfl (Cok_token_cutNumber A61 h61) (Lp_token_cutNumber A61 h61)).weak (by
  intro us k h
  unfold q_token_cutNumber at h
  split at h
  · skip
    rename_i a0 a1
    rw [raw_token_cutNumber A61 a0 a1 k]
    exact h
  · exact h.elim)

def C_token_readNumber_1 (A31 : T_token_byteAt) (A36 : T_token_isSign) : CallT sg := tab [(31, con [none, none] (q_token_byteAt A31)), (36, con [none] (q_token_isSign A36))]
theorem Cok_token_readNumber_1 (A31 : T_token_byteAt) (A36 : T_token_isSign) (h31 : FnOK sy Tryd.prog GT ovD GL 31 (q_token_byteAt A31)) (h36 : FnOK sy Tryd.prog GT ovD GL 36 (q_token_isSign A36)) (o0 : Nat → Prop) : CalOK sy Tryd.prog GT ovD o0 GL (C_token_readNumber_1 A31 A36) := (tab_cons (con_ok h31) (tab_cons (con_ok h36) tab_nil)) o0

def F_token_readNumber_2_l2 (A31 : T_token_byteAt) (A37 : T_char_IsDigit) : Nat → Int → List UInt8 → Int → (Int → List UInt8 → Int → Prop) → Prop
  | 0, _, _, _, _ => False
  | n + 1, x3, c0_0, c1_0, Ke => (A31 c0_0 c1_0 (fun y1 => (A37 y1 (fun y2 => ((y2 = true → (I64 (c1_0 + (1 : Int)) ∧ F_token_readNumber_2_l2 A31 A37 n x3 c0_0 (c1_0 + (1 : Int)) Ke)) ∧ (y2 = false → Ke x3 c0_0 c1_0))))))

def C_token_readNumber_2 (A31 : T_token_byteAt) (A37 : T_char_IsDigit) : CallT sg := tab [(31, con [none, none] (q_token_byteAt A31)), (37, con [none] (q_char_IsDigit A37))]
theorem Cok_token_readNumber_2 (A31 : T_token_byteAt) (A37 : T_char_IsDigit) (h31 : FnOK sy Tryd.prog GT ovD GL 31 (q_token_byteAt A31)) (h37 : FnOK sy Tryd.prog GT ovD GL 37 (q_char_IsDigit A37)) (o0 : Nat → Prop) : CalOK sy Tryd.prog GT ovD o0 GL (C_token_readNumber_2 A31 A37) := (tab_cons (con_ok h31) (tab_cons (con_ok h37) tab_nil)) o0

def ls_token_readNumber_2_2 : LS sy (Unit × Unit × Int × Unit) (((List UInt8) × Unit) × (Int × Unit) × Unit) := ⟨[], fCons 0 (vLit sy (.p 1 0)) (fCons 1 (vLit sy (.p 0 0)) (fCons 3 (vInt sy .i64) (fNil sy))), hCells 0 (lCons (vStr sy) (lNil sy)) (hCells 1 (lCons (vInt sy .i64) (lNil sy)) (hNil sy)), 2, []⟩
def le_token_readNumber_2_2 : LS sy (Unit × Unit × Int × Unit) (((List UInt8) × Unit) × (Int × Unit) × Unit) := ⟨[], fCons 0 (vLit sy (.p 1 0)) (fCons 1 (vLit sy (.p 0 0)) (fCons 3 (vInt sy .i64) (fNil sy))), hCells 0 (lCons (vStr sy) (lNil sy)) (hCells 1 (lCons (vInt sy .i64) (lNil sy)) (hNil sy)), 2, []⟩
def lr_token_readNumber_2_2 : LS sy Unit Unit := ⟨[], fNil sy, hNil sy, 2, []⟩
def FF_token_readNumber_2_2 (A31 : T_token_byteAt) (A37 : T_char_IsDigit) (n : Nat) (x : (Unit × Unit × Int × Unit) × (((List UInt8) × Unit) × (Int × Unit) × Unit)) (K : Ex → Z sg → Prop) : Prop := F_token_readNumber_2_l2 A31 A37 n x.1.2.2.1 x.2.1.1 x.2.2.1.1 (fun y0 y1 y2 => K (.exit 0) (le_token_readNumber_2_2.put (((), (), y0, ()), ((y1, ()), (y2, ()), ()))))
def h_token_readNumber_2_2 (A31 : T_token_byteAt) (A37 : T_char_IsDigit) (z : Z sg) (K : Ex → Z sg → Prop) : Prop := ls_token_readNumber_2_2.get z (fun x => ∃ n, FF_token_readNumber_2_2 A31 A37 n x K)
def L_token_readNumber_2 (A31 : T_token_byteAt) (A37 : T_char_IsDigit) : LoopT sg := tabL [(2, h_token_readNumber_2_2 A31 A37)]
theorem hs_token_readNumber_2_2 (A31 : T_token_byteAt) (A37 : T_char_IsDigit) (n : Nat) (x : (Unit × Unit × Int × Unit) × (((List UInt8) × Unit) × (Int × Unit) × Unit)) (K : Ex → Z sg → Prop) : forceZ (ls_token_readNumber_2_2.put x) (fun z => sC sy Tryd.prog GT (C_token_readNumber_2 A31 A37) (L_token_readNumber_2 A31 A37) Tryd.f50.ntmps (nthLoop (bodyOf Tryd.f50) 0) z (rnd ls_token_readNumber_2_2 (czT 0 le_token_readNumber_2_2 lr_token_readNumber_2_2) (fun x => FF_token_readNumber_2_2 A31 A37 n x K) K)) = FF_token_readNumber_2_2 A31 A37 (n + 1) x K := by kernel_rfl
theorem hl_token_readNumber_2_2 (A31 : T_token_byteAt) (A37 : T_char_IsDigit) (z : Z sg) (K : Ex → Z sg → Prop) : (L_token_readNumber_2 A31 A37) (nthLoop (bodyOf Tryd.f50) 0) z K = ls_token_readNumber_2_2.get z (fun x => ∃ n, FF_token_readNumber_2_2 A31 A37 n x K) := by kernel_rfl
theorem lo_token_readNumber_2_2 (A31 : T_token_byteAt) (A37 : T_char_IsDigit) (h31 : FnOK sy Tryd.prog GT ovD GL 31 (q_token_byteAt A31)) (h37 : FnOK sy Tryd.prog GT ovD GL 37 (q_char_IsDigit A37)) : ∀ (o0 : Nat → Prop) (B : Bs sg), B.E.length ≤ 2 → ∀ z K, (L_token_readNumber_2 A31 A37) (nthLoop (bodyOf Tryd.f50) 0) z K → Sx.Sem sy Tryd.prog GT ovD o0 GL Tryd.f50.ntmps B (.loop (nthLoop (bodyOf Tryd.f50) 0)) z K :=
  loop_ok (Cok_token_readNumber_2 A31 A37 h31 h37) (lp_of (l := []) (by kernel_rfl) lp_nil) ls_token_readNumber_2_2 (by decide) (czT 0 le_token_readNumber_2_2 lr_token_readNumber_2_2) (fun _ _ hB => czT_ok 0 le_token_readNumber_2_2 lr_token_readNumber_2_2 (Nat.le_trans hB (by decide)) (Nat.le_trans hB (by decide))) (fun _ _ h => h) (hs_token_readNumber_2_2 A31 A37) (hl_token_readNumber_2_2 A31 A37)
theorem Lp_token_readNumber_2 (A31 : T_token_byteAt) (A37 : T_char_IsDigit) (h31 : FnOK sy Tryd.prog GT ovD GL 31 (q_token_byteAt A31)) (h37 : FnOK sy Tryd.prog GT ovD GL 37 (q_char_IsDigit A37)) : LpOK sy Tryd.prog GT ovD GL (L_token_readNumber_2 A31 A37) 2 Tryd.f50.ntmps (bodyOf Tryd.f50) := lp_of (l := [(nthLoop (bodyOf Tryd.f50) 0)]) (by kernel_rfl) (lp_cons (lo_token_readNumber_2_2 A31 A37 h31 h37) lp_nil)


abbrev T_token_readNumber := List UInt8 → Int → (Int → Bool → Int → Prop) → Prop
def q_token_readNumber (A : T_token_readNumber) (us : List W) (k : W → Prop) : Prop := match us with
  | [.s a0, .i .i64 a1] => A a0 a1 (fun r0 r1 r2 => k (.t [.i .i64 r0, .b r1, .i .i64 r2]))
  | _ => False
theorem q_token_readNumber_weak {A A2 : T_token_readNumber} (h : FnOK sy Tryd.prog GT ovD GL 39 (q_token_readNumber A)) (hA : ∀ a0 a1 K, A2 a0 a1 K → A a0 a1 K) : FnOK sy Tryd.prog GT ovD GL 39 (q_token_readNumber A2) := h.weak (by
  intro us k h
  unfold q_token_readNumber at h ⊢
  split at h
  · exact hA _ _ _ h
  · exact h.elim)

def F_token_readNumber (A38 : T_token_fractionStarts) (A31 : T_token_byteAt) (A51 : T_token_isExponentMark) (A52 : T_token_digitStarts) (A53 : T_token_wholeNumber) (A54 : T_token_cutNumber) (A36 : T_token_isSign) (A37 : T_char_IsDigit) (a0 : List UInt8) (a1 : Int) (K : Int → Bool → Int → Prop) : Prop :=
  (A31 a0 a1 (fun y1 => (A31 a0 a1 (fun y2 => (A36 y2 (fun y3 => ((y3 = true → (I64 (a1 + (1 : Int)) ∧ (∃ m, F_token_readNumber_2_l2 A31 A37 m (a1 + (1 : Int)) a0 (a1 + (1 : Int)) (fun y4 y5 y6 => ((0 ≤ y4 ∧ y4 ≤ y6 ∧ y6 ≤ (y5.length : Int)) ∧ (A38 y5 y6 (fun y7 => ((y7 = true → (I64 (y6 + (1 : Int)) ∧ (∃ m, F_token_readNumber_2_l2 A31 A37 m (y6 + (1 : Int)) y5 (y6 + (1 : Int)) (fun y8 y9 y10 => ((0 ≤ y8 ∧ y8 ≤ y10 ∧ y10 ≤ (y9.length : Int)) ∧ (A31 y9 y10 (fun y11 => (A51 y11 (fun y12 => ((y12 = true → (I64 (y10 + (1 : Int)) ∧ (A52 y9 (y10 + (1 : Int)) (fun y13 => ((y13 = true → (I64 (y10 + (1 : Int)) ∧ (A31 y9 (y10 + (1 : Int)) (fun y14 => (A31 y9 (y10 + (1 : Int)) (fun y15 => (A36 y15 (fun y16 => ((y16 = true → (I64 ((y10 + (1 : Int)) + (1 : Int)) ∧ (∃ m, F_token_readNumber_2_l2 A31 A37 m ((y10 + (1 : Int)) + (1 : Int)) y9 ((y10 + (1 : Int)) + (1 : Int)) (fun y17 y18 y19 => ((0 ≤ y17 ∧ y17 ≤ y19 ∧ y19 ≤ (y18.length : Int)) ∧ (A53 ((y18.drop y17.toNat).take (y19.toNat - y17.toNat)) (fun y20 => (((decide (y14 = (45 : Int))) = true → (I64 (0 - y20) ∧ (((y5.drop y4.toNat).take (y6.toNat - y4.toNat)).length + ((y9.drop y8.toNat).take (y10.toNat - y8.toNat)).length ≤ 1099511627776 ∧ (I64 ((((y5.drop y4.toNat).take (y6.toNat - y4.toNat)).length : Int) + (0 - y20)) ∧ (I64 (((((y5.drop y4.toNat).take (y6.toNat - y4.toNat)).length : Int) + (0 - y20)) + (3 : Int)) ∧ (A54 (((y5.drop y4.toNat).take (y6.toNat - y4.toNat)) ++ ((y9.drop y8.toNat).take (y10.toNat - y8.toNat))) (((((y5.drop y4.toNat).take (y6.toNat - y4.toNat)).length : Int) + (0 - y20)) + (3 : Int)) (fun y21 => (((decide (y1 = (45 : Int))) = true → (I64 (0 - y21) ∧ K (0 - y21) false y19)) ∧ ((decide (y1 = (45 : Int))) = false → K y21 false y19))))))))) ∧ ((decide (y14 = (45 : Int))) = false → (((y5.drop y4.toNat).take (y6.toNat - y4.toNat)).length + ((y9.drop y8.toNat).take (y10.toNat - y8.toNat)).length ≤ 1099511627776 ∧ (I64 ((((y5.drop y4.toNat).take (y6.toNat - y4.toNat)).length : Int) + y20) ∧ (I64 (((((y5.drop y4.toNat).take (y6.toNat - y4.toNat)).length : Int) + y20) + (3 : Int)) ∧ (A54 (((y5.drop y4.toNat).take (y6.toNat - y4.toNat)) ++ ((y9.drop y8.toNat).take (y10.toNat - y8.toNat))) (((((y5.drop y4.toNat).take (y6.toNat - y4.toNat)).length : Int) + y20) + (3 : Int)) (fun y22 => (((decide (y1 = (45 : Int))) = true → (I64 (0 - y22) ∧ K (0 - y22) false y19)) ∧ ((decide (y1 = (45 : Int))) = false → K y22 false y19)))))))))))))))) ∧ (y16 = false → (∃ m, F_token_readNumber_2_l2 A31 A37 m (y10 + (1 : Int)) y9 (y10 + (1 : Int)) (fun y23 y24 y25 => ((0 ≤ y23 ∧ y23 ≤ y25 ∧ y25 ≤ (y24.length : Int)) ∧ (A53 ((y24.drop y23.toNat).take (y25.toNat - y23.toNat)) (fun y26 => (((decide (y14 = (45 : Int))) = true → (I64 (0 - y26) ∧ (((y5.drop y4.toNat).take (y6.toNat - y4.toNat)).length + ((y9.drop y8.toNat).take (y10.toNat - y8.toNat)).length ≤ 1099511627776 ∧ (I64 ((((y5.drop y4.toNat).take (y6.toNat - y4.toNat)).length : Int) + (0 - y26)) ∧ (I64 (((((y5.drop y4.toNat).take (y6.toNat - y4.toNat)).length : Int) + (0 - y26)) + (3 : Int)) ∧ (A54 (((y5.drop y4.toNat).take (y6.toNat - y4.toNat)) ++ ((y9.drop y8.toNat).take (y10.toNat - y8.toNat))) (((((y5.drop y4.toNat).take (y6.toNat - y4.toNat)).length : Int) + (0 - y26)) + (3 : Int)) (fun y27 => (((decide (y1 = (45 : Int))) = true → (I64 (0 - y27) ∧ K (0 - y27) false y25)) ∧ ((decide (y1 = (45 : Int))) = false → K y27 false y25))))))))) ∧ ((decide (y14 = (45 : Int))) = false → (((y5.drop y4.toNat).take (y6.toNat - y4.toNat)).length + ((y9.drop y8.toNat).take (y10.toNat - y8.toNat)).length ≤ 1099511627776 ∧ (I64 ((((y5.drop y4.toNat).take (y6.toNat - y4.toNat)).length : Int) + y26) ∧ (I64 (((((y5.drop y4.toNat).take (y6.toNat - y4.toNat)).length : Int) + y26) + (3 : Int)) ∧ (A54 (((y5.drop y4.toNat).take (y6.toNat - y4.toNat)) ++ ((y9.drop y8.toNat).take (y10.toNat - y8.toNat))) (((((y5.drop y4.toNat).take (y6.toNat - y4.toNat)).length : Int) + y26) + (3 : Int)) (fun y28 => (((decide (y1 = (45 : Int))) = true → (I64 (0 - y28) ∧ K (0 - y28) false y25)) ∧ ((decide (y1 = (45 : Int))) = false → K y28 false y25)))))))))))))))))))))))) ∧ (y13 = false → (((y5.drop y4.toNat).take (y6.toNat - y4.toNat)).length + ((y9.drop y8.toNat).take (y10.toNat - y8.toNat)).length ≤ 1099511627776 ∧ (I64 ((((y5.drop y4.toNat).take (y6.toNat - y4.toNat)).length : Int) + (0 : Int)) ∧ (I64 (((((y5.drop y4.toNat).take (y6.toNat - y4.toNat)).length : Int) + (0 : Int)) + (3 : Int)) ∧ (A54 (((y5.drop y4.toNat).take (y6.toNat - y4.toNat)) ++ ((y9.drop y8.toNat).take (y10.toNat - y8.toNat))) (((((y5.drop y4.toNat).take (y6.toNat - y4.toNat)).length : Int) + (0 : Int)) + (3 : Int)) (fun y29 => (((decide (y1 = (45 : Int))) = true → (I64 (0 - y29) ∧ K (0 - y29) false y10)) ∧ ((decide (y1 = (45 : Int))) = false → K y29 false y10))))))))))))) ∧ (y12 = false → (((y5.drop y4.toNat).take (y6.toNat - y4.toNat)).length + ((y9.drop y8.toNat).take (y10.toNat - y8.toNat)).length ≤ 1099511627776 ∧ (I64 ((((y5.drop y4.toNat).take (y6.toNat - y4.toNat)).length : Int) + (0 : Int)) ∧ (I64 (((((y5.drop y4.toNat).take (y6.toNat - y4.toNat)).length : Int) + (0 : Int)) + (3 : Int)) ∧ (A54 (((y5.drop y4.toNat).take (y6.toNat - y4.toNat)) ++ ((y9.drop y8.toNat).take (y10.toNat - y8.toNat))) (((((y5.drop y4.toNat).take (y6.toNat - y4.toNat)).length : Int) + (0 : Int)) + (3 : Int)) (fun y30 => (((decide (y1 = (45 : Int))) = true → (I64 (0 - y30) ∧ K (0 - y30) false y10)) ∧ ((decide (y1 = (45 : Int))) = false → K y30 false y10)))))))))))))))))) ∧ (y7 = false → (A31 y5 y6 (fun y31 => (A51 y31 (fun y32 => ((y32 = true → (I64 (y6 + (1 : Int)) ∧ (A52 y5 (y6 + (1 : Int)) (fun y33 => ((y33 = true → (I64 (y6 + (1 : Int)) ∧ (A31 y5 (y6 + (1 : Int)) (fun y34 => (A31 y5 (y6 + (1 : Int)) (fun y35 => (A36 y35 (fun y36 => ((y36 = true → (I64 ((y6 + (1 : Int)) + (1 : Int)) ∧ (∃ m, F_token_readNumber_2_l2 A31 A37 m ((y6 + (1 : Int)) + (1 : Int)) y5 ((y6 + (1 : Int)) + (1 : Int)) (fun y37 y38 y39 => ((0 ≤ y37 ∧ y37 ≤ y39 ∧ y39 ≤ (y38.length : Int)) ∧ (A53 ((y38.drop y37.toNat).take (y39.toNat - y37.toNat)) (fun y40 => (((decide (y34 = (45 : Int))) = true → (I64 (0 - y40) ∧ (((y5.drop y4.toNat).take (y6.toNat - y4.toNat)).length + ([] : List UInt8).length ≤ 1099511627776 ∧ (I64 ((((y5.drop y4.toNat).take (y6.toNat - y4.toNat)).length : Int) + (0 - y40)) ∧ (I64 (((((y5.drop y4.toNat).take (y6.toNat - y4.toNat)).length : Int) + (0 - y40)) + (3 : Int)) ∧ (A54 (((y5.drop y4.toNat).take (y6.toNat - y4.toNat)) ++ ([] : List UInt8)) (((((y5.drop y4.toNat).take (y6.toNat - y4.toNat)).length : Int) + (0 - y40)) + (3 : Int)) (fun y41 => (((decide (y1 = (45 : Int))) = true → (I64 (0 - y41) ∧ K (0 - y41) false y39)) ∧ ((decide (y1 = (45 : Int))) = false → K y41 false y39))))))))) ∧ ((decide (y34 = (45 : Int))) = false → (((y5.drop y4.toNat).take (y6.toNat - y4.toNat)).length + ([] : List UInt8).length ≤ 1099511627776 ∧ (I64 ((((y5.drop y4.toNat).take (y6.toNat - y4.toNat)).length : Int) + y40) ∧ (I64 (((((y5.drop y4.toNat).take (y6.toNat - y4.toNat)).length : Int) + y40) + (3 : Int)) ∧ (A54 (((y5.drop y4.toNat).take (y6.toNat - y4.toNat)) ++ ([] : List UInt8)) (((((y5.drop y4.toNat).take (y6.toNat - y4.toNat)).length : Int) + y40) + (3 : Int)) (fun y42 => (((decide (y1 = (45 : Int))) = true → (I64 (0 - y42) ∧ K (0 - y42) false y39)) ∧ ((decide (y1 = (45 : Int))) = false → K y42 false y39)))))))))))))))) ∧ (y36 = false → (∃ m, F_token_readNumber_2_l2 A31 A37 m (y6 + (1 : Int)) y5 (y6 + (1 : Int)) (fun y43 y44 y45 => ((0 ≤ y43 ∧ y43 ≤ y45 ∧ y45 ≤ (y44.length : Int)) ∧ (A53 ((y44.drop y43.toNat).take (y45.toNat - y43.toNat)) (fun y46 => (((decide (y34 = (45 : Int))) = true → (I64 (0 - y46) ∧ (((y5.drop y4.toNat).take (y6.toNat - y4.toNat)).length + ([] : List UInt8).length ≤ 1099511627776 ∧ (I64 ((((y5.drop y4.toNat).take (y6.toNat - y4.toNat)).length : Int) + (0 - y46)) ∧ (I64 (((((y5.drop y4.toNat).take (y6.toNat - y4.toNat)).length : Int) + (0 - y46)) + (3 : Int)) ∧ (A54 (((y5.drop y4.toNat).take (y6.toNat - y4.toNat)) ++ ([] : List UInt8)) (((((y5.drop y4.toNat).take (y6.toNat - y4.toNat)).length : Int) + (0 - y46)) + (3 : Int)) (fun y47 => (((decide (y1 = (45 : Int))) = true → (I64 (0 - y47) ∧ K (0 - y47) false y45)) ∧ ((decide (y1 = (45 : Int))) = false → K y47 false y45))))))))) ∧ ((decide (y34 = (45 : Int))) = false → (((y5.drop y4.toNat).take (y6.toNat - y4.toNat)).length + ([] : List UInt8).length ≤ 1099511627776 ∧ (I64 ((((y5.drop y4.toNat).take (y6.toNat - y4.toNat)).length : Int) + y46) ∧ (I64 (((((y5.drop y4.toNat).take (y6.toNat - y4.toNat)).length : Int) + y46) + (3 : Int)) ∧ (A54 (((y5.drop y4.toNat).take (y6.toNat - y4.toNat)) ++ ([] : List UInt8)) (((((y5.drop y4.toNat).take (y6.toNat - y4.toNat)).length : Int) + y46) + (3 : Int)) (fun y48 => (((decide (y1 = (45 : Int))) = true → (I64 (0 - y48) ∧ K (0 - y48) false y45)) ∧ ((decide (y1 = (45 : Int))) = false → K y48 false y45)))))))))))))))))))))))) ∧ (y33 = false → (((y5.drop y4.toNat).take (y6.toNat - y4.toNat)).length + ([] : List UInt8).length ≤ 1099511627776 ∧ (I64 ((((y5.drop y4.toNat).take (y6.toNat - y4.toNat)).length : Int) + (0 : Int)) ∧ (I64 (((((y5.drop y4.toNat).take (y6.toNat - y4.toNat)).length : Int) + (0 : Int)) + (3 : Int)) ∧ (A54 (((y5.drop y4.toNat).take (y6.toNat - y4.toNat)) ++ ([] : List UInt8)) (((((y5.drop y4.toNat).take (y6.toNat - y4.toNat)).length : Int) + (0 : Int)) + (3 : Int)) (fun y49 => (((decide (y1 = (45 : Int))) = true → (I64 (0 - y49) ∧ K (0 - y49) true y6)) ∧ ((decide (y1 = (45 : Int))) = false → K y49 true y6))))))))))))) ∧ (y32 = false → (((y5.drop y4.toNat).take (y6.toNat - y4.toNat)).length + ([] : List UInt8).length ≤ 1099511627776 ∧ (I64 ((((y5.drop y4.toNat).take (y6.toNat - y4.toNat)).length : Int) + (0 : Int)) ∧ (I64 (((((y5.drop y4.toNat).take (y6.toNat - y4.toNat)).length : Int) + (0 : Int)) + (3 : Int)) ∧ (A54 (((y5.drop y4.toNat).take (y6.toNat - y4.toNat)) ++ ([] : List UInt8)) (((((y5.drop y4.toNat).take (y6.toNat - y4.toNat)).length : Int) + (0 : Int)) + (3 : Int)) (fun y50 => (((decide (y1 = (45 : Int))) = true → (I64 (0 - y50) ∧ K (0 - y50) true y6)) ∧ ((decide (y1 = (45 : Int))) = false → K y50 true y6)))))))))))))))))))))) ∧ (y3 = false → (∃ m, F_token_readNumber_2_l2 A31 A37 m a1 a0 a1 (fun y51 y52 y53 => ((0 ≤ y51 ∧ y51 ≤ y53 ∧ y53 ≤ (y52.length : Int)) ∧ (A38 y52 y53 (fun y54 => ((y54 = true → (I64 (y53 + (1 : Int)) ∧ (∃ m, F_token_readNumber_2_l2 A31 A37 m (y53 + (1 : Int)) y52 (y53 + (1 : Int)) (fun y55 y56 y57 => ((0 ≤ y55 ∧ y55 ≤ y57 ∧ y57 ≤ (y56.length : Int)) ∧ (A31 y56 y57 (fun y58 => (A51 y58 (fun y59 => ((y59 = true → (I64 (y57 + (1 : Int)) ∧ (A52 y56 (y57 + (1 : Int)) (fun y60 => ((y60 = true → (I64 (y57 + (1 : Int)) ∧ (A31 y56 (y57 + (1 : Int)) (fun y61 => (A31 y56 (y57 + (1 : Int)) (fun y62 => (A36 y62 (fun y63 => ((y63 = true → (I64 ((y57 + (1 : Int)) + (1 : Int)) ∧ (∃ m, F_token_readNumber_2_l2 A31 A37 m ((y57 + (1 : Int)) + (1 : Int)) y56 ((y57 + (1 : Int)) + (1 : Int)) (fun y64 y65 y66 => ((0 ≤ y64 ∧ y64 ≤ y66 ∧ y66 ≤ (y65.length : Int)) ∧ (A53 ((y65.drop y64.toNat).take (y66.toNat - y64.toNat)) (fun y67 => (((decide (y61 = (45 : Int))) = true → (I64 (0 - y67) ∧ (((y52.drop y51.toNat).take (y53.toNat - y51.toNat)).length + ((y56.drop y55.toNat).take (y57.toNat - y55.toNat)).length ≤ 1099511627776 ∧ (I64 ((((y52.drop y51.toNat).take (y53.toNat - y51.toNat)).length : Int) + (0 - y67)) ∧ (I64 (((((y52.drop y51.toNat).take (y53.toNat - y51.toNat)).length : Int) + (0 - y67)) + (3 : Int)) ∧ (A54 (((y52.drop y51.toNat).take (y53.toNat - y51.toNat)) ++ ((y56.drop y55.toNat).take (y57.toNat - y55.toNat))) (((((y52.drop y51.toNat).take (y53.toNat - y51.toNat)).length : Int) + (0 - y67)) + (3 : Int)) (fun y68 => (((decide (y1 = (45 : Int))) = true → (I64 (0 - y68) ∧ K (0 - y68) false y66)) ∧ ((decide (y1 = (45 : Int))) = false → K y68 false y66))))))))) ∧ ((decide (y61 = (45 : Int))) = false → (((y52.drop y51.toNat).take (y53.toNat - y51.toNat)).length + ((y56.drop y55.toNat).take (y57.toNat - y55.toNat)).length ≤ 1099511627776 ∧ (I64 ((((y52.drop y51.toNat).take (y53.toNat - y51.toNat)).length : Int) + y67) ∧ (I64 (((((y52.drop y51.toNat).take (y53.toNat - y51.toNat)).length : Int) + y67) + (3 : Int)) ∧ (A54 (((y52.drop y51.toNat).take (y53.toNat - y51.toNat)) ++ ((y56.drop y55.toNat).take (y57.toNat - y55.toNat))) (((((y52.drop y51.toNat).take (y53.toNat - y51.toNat)).length : Int) + y67) + (3 : Int)) (fun y69 => (((decide (y1 = (45 : Int))) = true → (I64 (0 - y69) ∧ K (0 - y69) false y66)) ∧ ((decide (y1 = (45 : Int))) = false → K y69 false y66)))))))))))))))) ∧ (y63 = false → (∃ m, F_token_readNumber_2_l2 A31 A37 m (y57 + (1 : Int)) y56 (y57 + (1 : Int)) (fun y70 y71 y72 => ((0 ≤ y70 ∧ y70 ≤ y72 ∧ y72 ≤ (y71.length : Int)) ∧ (A53 ((y71.drop y70.toNat).take (y72.toNat - y70.toNat)) (fun y73 => (((decide (y61 = (45 : Int))) = true → (I64 (0 - y73) ∧ (((y52.drop y51.toNat).take (y53.toNat - y51.toNat)).length + ((y56.drop y55.toNat).take (y57.toNat - y55.toNat)).length ≤ 1099511627776 ∧ (I64 ((((y52.drop y51.toNat).take (y53.toNat - y51.toNat)).length : Int) + (0 - y73)) ∧ (I64 (((((y52.drop y51.toNat).take (y53.toNat - y51.toNat)).length : Int) + (0 - y73)) + (3 : Int)) ∧ (A54 (((y52.drop y51.toNat).take (y53.toNat - y51.toNat)) ++ ((y56.drop y55.toNat).take (y57.toNat - y55.toNat))) (((((y52.drop y51.toNat).take (y53.toNat - y51.toNat)).length : Int) + (0 - y73)) + (3 : Int)) (fun y74 => (((decide (y1 = (45 : Int))) = true → (I64 (0 - y74) ∧ K (0 - y74) false y72)) ∧ ((decide (y1 = (45 : Int))) = false → K y74 false y72))))))))) ∧ ((decide (y61 = (45 : Int))) = false → (((y52.drop y51.toNat).take (y53.toNat - y51.toNat)).length + ((y56.drop y55.toNat).take (y57.toNat - y55.toNat)).length ≤ 1099511627776 ∧ (I64 ((((y52.drop y51.toNat).take (y53.toNat - y51.toNat)).length : Int) + y73) ∧ (I64 (((((y52.drop y51.toNat).take (y53.toNat - y51.toNat)).length : Int) + y73) + (3 : Int)) ∧ (A54 (((y52.drop y51.toNat).take (y53.toNat - y51.toNat)) ++ ((y56.drop y55.toNat).take (y57.toNat - y55.toNat))) (((((y52.drop y51.toNat).take (y53.toNat - y51.toNat)).length : Int) + y73) + (3 : Int)) (fun y75 => (((decide (y1 = (45 : Int))) = true → (I64 (0 - y75) ∧ K (0 - y75) false y72)) ∧ ((decide (y1 = (45 : Int))) = false → K y75 false y72)))))))))))))))))))))))) ∧ (y60 = false → (((y52.drop y51.toNat).take (y53.toNat - y51.toNat)).length + ((y56.drop y55.toNat).take (y57.toNat - y55.toNat)).length ≤ 1099511627776 ∧ (I64 ((((y52.drop y51.toNat).take (y53.toNat - y51.toNat)).length : Int) + (0 : Int)) ∧ (I64 (((((y52.drop y51.toNat).take (y53.toNat - y51.toNat)).length : Int) + (0 : Int)) + (3 : Int)) ∧ (A54 (((y52.drop y51.toNat).take (y53.toNat - y51.toNat)) ++ ((y56.drop y55.toNat).take (y57.toNat - y55.toNat))) (((((y52.drop y51.toNat).take (y53.toNat - y51.toNat)).length : Int) + (0 : Int)) + (3 : Int)) (fun y76 => (((decide (y1 = (45 : Int))) = true → (I64 (0 - y76) ∧ K (0 - y76) false y57)) ∧ ((decide (y1 = (45 : Int))) = false → K y76 false y57))))))))))))) ∧ (y59 = false → (((y52.drop y51.toNat).take (y53.toNat - y51.toNat)).length + ((y56.drop y55.toNat).take (y57.toNat - y55.toNat)).length ≤ 1099511627776 ∧ (I64 ((((y52.drop y51.toNat).take (y53.toNat - y51.toNat)).length : Int) + (0 : Int)) ∧ (I64 (((((y52.drop y51.toNat).take (y53.toNat - y51.toNat)).length : Int) + (0 : Int)) + (3 : Int)) ∧ (A54 (((y52.drop y51.toNat).take (y53.toNat - y51.toNat)) ++ ((y56.drop y55.toNat).take (y57.toNat - y55.toNat))) (((((y52.drop y51.toNat).take (y53.toNat - y51.toNat)).length : Int) + (0 : Int)) + (3 : Int)) (fun y77 => (((decide (y1 = (45 : Int))) = true → (I64 (0 - y77) ∧ K (0 - y77) false y57)) ∧ ((decide (y1 = (45 : Int))) = false → K y77 false y57)))))))))))))))))) ∧ (y54 = false → (A31 y52 y53 (fun y78 => (A51 y78 (fun y79 => ((y79 = true → (I64 (y53 + (1 : Int)) ∧ (A52 y52 (y53 + (1 : Int)) (fun y80 => ((y80 = true → (I64 (y53 + (1 : Int)) ∧ (A31 y52 (y53 + (1 : Int)) (fun y81 => (A31 y52 (y53 + (1 : Int)) (fun y82 => (A36 y82 (fun y83 => ((y83 = true → (I64 ((y53 + (1 : Int)) + (1 : Int)) ∧ (∃ m, F_token_readNumber_2_l2 A31 A37 m ((y53 + (1 : Int)) + (1 : Int)) y52 ((y53 + (1 : Int)) + (1 : Int)) (fun y84 y85 y86 => ((0 ≤ y84 ∧ y84 ≤ y86 ∧ y86 ≤ (y85.length : Int)) ∧ (A53 ((y85.drop y84.toNat).take (y86.toNat - y84.toNat)) (fun y87 => (((decide (y81 = (45 : Int))) = true → (I64 (0 - y87) ∧ (((y52.drop y51.toNat).take (y53.toNat - y51.toNat)).length + ([] : List UInt8).length ≤ 1099511627776 ∧ (I64 ((((y52.drop y51.toNat).take (y53.toNat - y51.toNat)).length : Int) + (0 - y87)) ∧ (I64 (((((y52.drop y51.toNat).take (y53.toNat - y51.toNat)).length : Int) + (0 - y87)) + (3 : Int)) ∧ (A54 (((y52.drop y51.toNat).take (y53.toNat - y51.toNat)) ++ ([] : List UInt8)) (((((y52.drop y51.toNat).take (y53.toNat - y51.toNat)).length : Int) + (0 - y87)) + (3 : Int)) (fun y88 => (((decide (y1 = (45 : Int))) = true → (I64 (0 - y88) ∧ K (0 - y88) false y86)) ∧ ((decide (y1 = (45 : Int))) = false → K y88 false y86))))))))) ∧ ((decide (y81 = (45 : Int))) = false → (((y52.drop y51.toNat).take (y53.toNat - y51.toNat)).length + ([] : List UInt8).length ≤ 1099511627776 ∧ (I64 ((((y52.drop y51.toNat).take (y53.toNat - y51.toNat)).length : Int) + y87) ∧ (I64 (((((y52.drop y51.toNat).take (y53.toNat - y51.toNat)).length : Int) + y87) + (3 : Int)) ∧ (A54 (((y52.drop y51.toNat).take (y53.toNat - y51.toNat)) ++ ([] : List UInt8)) (((((y52.drop y51.toNat).take (y53.toNat - y51.toNat)).length : Int) + y87) + (3 : Int)) (fun y89 => (((decide (y1 = (45 : Int))) = true → (I64 (0 - y89) ∧ K (0 - y89) false y86)) ∧ ((decide (y1 = (45 : Int))) = false → K y89 false y86)))))))))))))))) ∧ (y83 = false → (∃ m, F_token_readNumber_2_l2 A31 A37 m (y53 + (1 : Int)) y52 (y53 + (1 : Int)) (fun y90 y91 y92 => ((0 ≤ y90 ∧ y90 ≤ y92 ∧ y92 ≤ (y91.length : Int)) ∧ (A53 ((y91.drop y90.toNat).take (y92.toNat - y90.toNat)) (fun y93 => (((decide (y81 = (45 : Int))) = true → (I64 (0 - y93) ∧ (((y52.drop y51.toNat).take (y53.toNat - y51.toNat)).length + ([] : List UInt8).length ≤ 1099511627776 ∧ (I64 ((((y52.drop y51.toNat).take (y53.toNat - y51.toNat)).length : Int) + (0 - y93)) ∧ (I64 (((((y52.drop y51.toNat).take (y53.toNat - y51.toNat)).length : Int) + (0 - y93)) + (3 : Int)) ∧ (A54 (((y52.drop y51.toNat).take (y53.toNat - y51.toNat)) ++ ([] : List UInt8)) (((((y52.drop y51.toNat).take (y53.toNat - y51.toNat)).length : Int) + (0 - y93)) + (3 : Int)) (fun y94 => (((decide (y1 = (45 : Int))) = true → (I64 (0 - y94) ∧ K (0 - y94) false y92)) ∧ ((decide (y1 = (45 : Int))) = false → K y94 false y92))))))))) ∧ ((decide (y81 = (45 : Int))) = false → (((y52.drop y51.toNat).take (y53.toNat - y51.toNat)).length + ([] : List UInt8).length ≤ 1099511627776 ∧ (I64 ((((y52.drop y51.toNat).take (y53.toNat - y51.toNat)).length : Int) + y93) ∧ (I64 (((((y52.drop y51.toNat).take (y53.toNat - y51.toNat)).length : Int) + y93) + (3 : Int)) ∧ (A54 (((y52.drop y51.toNat).take (y53.toNat - y51.toNat)) ++ ([] : List UInt8)) (((((y52.drop y51.toNat).take (y53.toNat - y51.toNat)).length : Int) + y93) + (3 : Int)) (fun y95 => (((decide (y1 = (45 : Int))) = true → (I64 (0 - y95) ∧ K (0 - y95) false y92)) ∧ ((decide (y1 = (45 : Int))) = false → K y95 false y92)))))))))))))))))))))))) ∧ (y80 = false → (((y52.drop y51.toNat).take (y53.toNat - y51.toNat)).length + ([] : List UInt8).length ≤ 1099511627776 ∧ (I64 ((((y52.drop y51.toNat).take (y53.toNat - y51.toNat)).length : Int) + (0 : Int)) ∧ (I64 (((((y52.drop y51.toNat).take (y53.toNat - y51.toNat)).length : Int) + (0 : Int)) + (3 : Int)) ∧ (A54 (((y52.drop y51.toNat).take (y53.toNat - y51.toNat)) ++ ([] : List UInt8)) (((((y52.drop y51.toNat).take (y53.toNat - y51.toNat)).length : Int) + (0 : Int)) + (3 : Int)) (fun y96 => (((decide (y1 = (45 : Int))) = true → (I64 (0 - y96) ∧ K (0 - y96) true y53)) ∧ ((decide (y1 = (45 : Int))) = false → K y96 true y53))))))))))))) ∧ (y79 = false → (((y52.drop y51.toNat).take (y53.toNat - y51.toNat)).length + ([] : List UInt8).length ≤ 1099511627776 ∧ (I64 ((((y52.drop y51.toNat).take (y53.toNat - y51.toNat)).length : Int) + (0 : Int)) ∧ (I64 (((((y52.drop y51.toNat).take (y53.toNat - y51.toNat)).length : Int) + (0 : Int)) + (3 : Int)) ∧ (A54 (((y52.drop y51.toNat).take (y53.toNat - y51.toNat)) ++ ([] : List UInt8)) (((((y52.drop y51.toNat).take (y53.toNat - y51.toNat)).length : Int) + (0 : Int)) + (3 : Int)) (fun y97 => (((decide (y1 = (45 : Int))) = true → (I64 (0 - y97) ∧ K (0 - y97) true y53)) ∧ ((decide (y1 = (45 : Int))) = false → K y97 true y53))))))))))))))))))))))))))))

def C_token_readNumber (A38 : T_token_fractionStarts) (A31 : T_token_byteAt) (A51 : T_token_isExponentMark) (A52 : T_token_digitStarts) (A53 : T_token_wholeNumber) (A54 : T_token_cutNumber) (A36 : T_token_isSign) (A37 : T_char_IsDigit) : CallT sg := tab [(38, con [none, none] (q_token_fractionStarts A38)), (31, con [none, none] (q_token_byteAt A31)), (51, con [none] (q_token_isExponentMark A51)), (52, con [none, none] (q_token_digitStarts A52)), (53, con [none] (q_token_wholeNumber A53)), (54, con [none, none] (q_token_cutNumber A54)), (49, inl sy Tryd.prog GT (C_token_readNumber_1 A31 A36) noL 1000 Tryd.f49.ntmps (bodyOf Tryd.f49) Tryd.f49.results.toList), (50, inl sy Tryd.prog GT (C_token_readNumber_2 A31 A37) (L_token_readNumber_2 A31 A37) 2 Tryd.f50.ntmps (bodyOf Tryd.f50) Tryd.f50.results.toList)]
theorem Cok_token_readNumber (A38 : T_token_fractionStarts) (A31 : T_token_byteAt) (A51 : T_token_isExponentMark) (A52 : T_token_digitStarts) (A53 : T_token_wholeNumber) (A54 : T_token_cutNumber) (A36 : T_token_isSign) (A37 : T_char_IsDigit) (h38 : FnOK sy Tryd.prog GT ovD GL 38 (q_token_fractionStarts A38)) (h31 : FnOK sy Tryd.prog GT ovD GL 31 (q_token_byteAt A31)) (h51 : FnOK sy Tryd.prog GT ovD GL 51 (q_token_isExponentMark A51)) (h52 : FnOK sy Tryd.prog GT ovD GL 52 (q_token_digitStarts A52)) (h53 : FnOK sy Tryd.prog GT ovD GL 53 (q_token_wholeNumber A53)) (h54 : FnOK sy Tryd.prog GT ovD GL 54 (q_token_cutNumber A54)) (h36 : FnOK sy Tryd.prog GT ovD GL 36 (q_token_isSign A36)) (h37 : FnOK sy Tryd.prog GT ovD GL 37 (q_char_IsDigit A37)) (o0 : Nat → Prop) : CalOK sy Tryd.prog GT ovD o0 GL (C_token_readNumber A38 A31 A51 A52 A53 A54 A36 A37) := (tab_cons (con_ok h38) (tab_cons (con_ok h31) (tab_cons (con_ok h51) (tab_cons (con_ok h52) (tab_cons (con_ok h53) (tab_cons (con_ok h54) (tab_cons (inl_ok (f := 49) (fn := Tryd.f49) (fun _ _ => rfl) Tryd.func49 (by kernel_rfl) rfl rfl (Cok_token_readNumber_1 A31 A36 h31 h36) (lp_of (l := []) (by kernel_rfl) lp_nil)) (tab_cons (inl_ok (f := 50) (fn := Tryd.f50) (fun _ _ => rfl) Tryd.func50 (by kernel_rfl) rfl rfl (Cok_token_readNumber_2 A31 A37 h31 h37) (Lp_token_readNumber_2 A31 A37 h31 h37)) tab_nil)))))))) o0

theorem raw_token_readNumber (A38 : T_token_fractionStarts) (A31 : T_token_byteAt) (A51 : T_token_isExponentMark) (A52 : T_token_digitStarts) (A53 : T_token_wholeNumber) (A54 : T_token_cutNumber) (A36 : T_token_isSign) (A37 : T_char_IsDigit) (a0 : List UInt8) (a1 : Int) (k : W → Prop) : fnT sy Tryd.prog GT (C_token_readNumber A38 A31 A51 A52 A53 A54 A36 A37) noL Tryd.f39.ntmps (bodyOf Tryd.f39) [none, none, none] Tryd.f39.results.toList [.s a0, .i .i64 a1] k = F_token_readNumber A38 A31 A51 A52 A53 A54 A36 A37 a0 a1 (fun r0 r1 r2 => k (.t [.i .i64 r0, .b r1, .i .i64 r2])) := by kernel_rfl

theorem ok_token_readNumber (A38 : T_token_fractionStarts) (A31 : T_token_byteAt) (A51 : T_token_isExponentMark) (A52 : T_token_digitStarts) (A53 : T_token_wholeNumber) (A54 : T_token_cutNumber) (A36 : T_token_isSign) (A37 : T_char_IsDigit) (h38 : FnOK sy Tryd.prog GT ovD GL 38 (q_token_fractionStarts A38)) (h31 : FnOK sy Tryd.prog GT ovD GL 31 (q_token_byteAt A31)) (h51 : FnOK sy Tryd.prog GT ovD GL 51 (q_token_isExponentMark A51)) (h52 : FnOK sy Tryd.prog GT ovD GL 52 (q_token_digitStarts A52)) (h53 : FnOK sy Tryd.prog GT ovD GL 53 (q_token_wholeNumber A53)) (h54 : FnOK sy Tryd.prog GT ovD GL 54 (q_token_cutNumber A54)) (h36 : FnOK sy Tryd.prog GT ovD GL 36 (q_token_isSign A36)) (h37 : FnOK sy Tryd.prog GT ovD GL 37 (q_char_IsDigit A37)) : FnOK sy Tryd.prog GT ovD GL 39 (q_token_readNumber (F_token_readNumber A38 A31 A51 A52 A53 A54 A36 A37)) := (fn_ok (rc := [none, none, none]) (f := 39) (fn := Tryd.f39) (c := bodyOf Tryd.f39) (nt := Tryd.f39.ntmps) (res := Tryd.f39.results.toList) (C := C_token_readNumber A38 A31 A51 A52 A53 A54 A36 A37) (L := noL) (fun _ _ => rfl) Tryd.func39 (by kernel_rfl) rfl rfl (Cok_token_readNumber A38 A31 A51 A52 A53 A54 A36 A37 h38 h31 h51 h52 h53 h54 h36 h37) (lp_of (l := []) (by kernel_rfl) lp_nil)).weak (by
  intro us k h
  unfold q_token_readNumber at h
  split at h
  · skip
    rename_i a0 a1
    rw [raw_token_readNumber A38 A31 A51 A52 A53 A54 A36 A37 a0 a1 k]
    exact h
  · exact h.elim)

abbrev T_char_IsLetter := Int → (Bool → Prop) → Prop
def q_char_IsLetter (A : T_char_IsLetter) (us : List W) (k : W → Prop) : Prop := match us with
  | [.i .u8 a0] => A a0 (fun r0 => k (.b r0))
  | _ => False
theorem q_char_IsLetter_weak {A A2 : T_char_IsLetter} (h : FnOK sy Tryd.prog GT ovD GL 48 (q_char_IsLetter A)) (hA : ∀ a0 K, A2 a0 K → A a0 K) : FnOK sy Tryd.prog GT ovD GL 48 (q_char_IsLetter A2) := h.weak (by
  intro us k h
  unfold q_char_IsLetter at h ⊢
  split at h
  · exact hA _ _ h
  · exact h.elim)

def F_char_IsLetter (a0 : Int) (K : Bool → Prop) : Prop :=
  (((decide ((97 : Int) ≤ a0)) = true → (((decide (a0 ≤ (122 : Int))) = false → (((decide ((65 : Int) ≤ a0)) = true → K (decide (a0 ≤ (90 : Int)))) ∧ ((decide ((65 : Int) ≤ a0)) = false → K false))) ∧ ((decide (a0 ≤ (122 : Int))) = true → K true))) ∧ ((decide ((97 : Int) ≤ a0)) = false → (((decide ((65 : Int) ≤ a0)) = true → K (decide (a0 ≤ (90 : Int)))) ∧ ((decide ((65 : Int) ≤ a0)) = false → K false))))

def C_char_IsLetter : CallT sg := tab []
theorem Cok_char_IsLetter (o0 : Nat → Prop) : CalOK sy Tryd.prog GT ovD o0 GL (C_char_IsLetter) := tab_nil o0

theorem raw_char_IsLetter (a0 : Int) (k : W → Prop) : fnT sy Tryd.prog GT (C_char_IsLetter) noL Tryd.f48.ntmps (bodyOf Tryd.f48) [none] Tryd.f48.results.toList [.i .u8 a0] k = F_char_IsLetter a0 (fun r0 => k (.b r0)) := by kernel_rfl

theorem ok_char_IsLetter : FnOK sy Tryd.prog GT ovD GL 48 (q_char_IsLetter (F_char_IsLetter)) := (fn_ok (rc := [none]) (f := 48) (fn := Tryd.f48) (c := bodyOf Tryd.f48) (nt := Tryd.f48.ntmps) (res := Tryd.f48.results.toList) (C := C_char_IsLetter) (L := noL) (fun _ _ => rfl) Tryd.func48 (by kernel_rfl) rfl rfl (Cok_char_IsLetter) (lp_of (l := []) (by kernel_rfl) lp_nil)).weak (by
  intro us k h
  unfold q_char_IsLetter at h
  split at h
  · skip
    rename_i a0
    rw [raw_char_IsLetter a0 k]
    exact h
  · exact h.elim)

abbrev T_char_StartsName := Int → (Bool → Prop) → Prop
def q_char_StartsName (A : T_char_StartsName) (us : List W) (k : W → Prop) : Prop := match us with
  | [.i .u8 a0] => A a0 (fun r0 => k (.b r0))
  | _ => False
theorem q_char_StartsName_weak {A A2 : T_char_StartsName} (h : FnOK sy Tryd.prog GT ovD GL 35 (q_char_StartsName A)) (hA : ∀ a0 K, A2 a0 K → A a0 K) : FnOK sy Tryd.prog GT ovD GL 35 (q_char_StartsName A2) := h.weak (by
  intro us k h
  unfold q_char_StartsName at h ⊢
  split at h
  · exact hA _ _ h
  · exact h.elim)

def F_char_StartsName (A48 : T_char_IsLetter) (a0 : Int) (K : Bool → Prop) : Prop :=
  (A48 a0 (fun y1 => ((y1 = false → (((decide (a0 = (95 : Int))) = false → K (decide ((128 : Int) ≤ a0))) ∧ ((decide (a0 = (95 : Int))) = true → K true))) ∧ (y1 = true → K true))))

def C_char_StartsName (A48 : T_char_IsLetter) : CallT sg := tab [(48, con [none] (q_char_IsLetter A48))]
theorem Cok_char_StartsName (A48 : T_char_IsLetter) (h48 : FnOK sy Tryd.prog GT ovD GL 48 (q_char_IsLetter A48)) (o0 : Nat → Prop) : CalOK sy Tryd.prog GT ovD o0 GL (C_char_StartsName A48) := (tab_cons (con_ok h48) tab_nil) o0

theorem raw_char_StartsName (A48 : T_char_IsLetter) (a0 : Int) (k : W → Prop) : fnT sy Tryd.prog GT (C_char_StartsName A48) noL Tryd.f35.ntmps (bodyOf Tryd.f35) [none] Tryd.f35.results.toList [.i .u8 a0] k = F_char_StartsName A48 a0 (fun r0 => k (.b r0)) := by kernel_rfl

theorem ok_char_StartsName (A48 : T_char_IsLetter) (h48 : FnOK sy Tryd.prog GT ovD GL 48 (q_char_IsLetter A48)) : FnOK sy Tryd.prog GT ovD GL 35 (q_char_StartsName (F_char_StartsName A48)) := (fn_ok (rc := [none]) (f := 35) (fn := Tryd.f35) (c := bodyOf Tryd.f35) (nt := Tryd.f35.ntmps) (res := Tryd.f35.results.toList) (C := C_char_StartsName A48) (L := noL) (fun _ _ => rfl) Tryd.func35 (by kernel_rfl) rfl rfl (Cok_char_StartsName A48 h48) (lp_of (l := []) (by kernel_rfl) lp_nil)).weak (by
  intro us k h
  unfold q_char_StartsName at h
  split at h
  · skip
    rename_i a0
    rw [raw_char_StartsName A48 a0 k]
    exact h
  · exact h.elim)

abbrev T_token_escapeStarts := List UInt8 → Int → (Bool → Prop) → Prop
def q_token_escapeStarts (A : T_token_escapeStarts) (us : List W) (k : W → Prop) : Prop := match us with
  | [.s a0, .i .i64 a1] => A a0 a1 (fun r0 => k (.b r0))
  | _ => False
theorem q_token_escapeStarts_weak {A A2 : T_token_escapeStarts} (h : FnOK sy Tryd.prog GT ovD GL 34 (q_token_escapeStarts A)) (hA : ∀ a0 a1 K, A2 a0 a1 K → A a0 a1 K) : FnOK sy Tryd.prog GT ovD GL 34 (q_token_escapeStarts A2) := h.weak (by
  intro us k h
  unfold q_token_escapeStarts at h ⊢
  split at h
  · exact hA _ _ _ h
  · exact h.elim)

def F_token_escapeStarts (A31 : T_token_byteAt) (a0 : List UInt8) (a1 : Int) (K : Bool → Prop) : Prop :=
  (A31 a0 a1 (fun y1 => (((decide (y1 = (92 : Int))) = true → (I64 (a1 + (1 : Int)) ∧ (A31 a0 (a1 + (1 : Int)) (fun y2 => K (decide (y2 ≠ (10 : Int))))))) ∧ ((decide (y1 = (92 : Int))) = false → K false))))

def C_token_escapeStarts (A31 : T_token_byteAt) : CallT sg := tab [(31, con [none, none] (q_token_byteAt A31))]
theorem Cok_token_escapeStarts (A31 : T_token_byteAt) (h31 : FnOK sy Tryd.prog GT ovD GL 31 (q_token_byteAt A31)) (o0 : Nat → Prop) : CalOK sy Tryd.prog GT ovD o0 GL (C_token_escapeStarts A31) := (tab_cons (con_ok h31) tab_nil) o0

theorem raw_token_escapeStarts (A31 : T_token_byteAt) (a0 : List UInt8) (a1 : Int) (k : W → Prop) : fnT sy Tryd.prog GT (C_token_escapeStarts A31) noL Tryd.f34.ntmps (bodyOf Tryd.f34) [none] Tryd.f34.results.toList [.s a0, .i .i64 a1] k = F_token_escapeStarts A31 a0 a1 (fun r0 => k (.b r0)) := by kernel_rfl

theorem ok_token_escapeStarts (A31 : T_token_byteAt) (h31 : FnOK sy Tryd.prog GT ovD GL 31 (q_token_byteAt A31)) : FnOK sy Tryd.prog GT ovD GL 34 (q_token_escapeStarts (F_token_escapeStarts A31)) := (fn_ok (rc := [none]) (f := 34) (fn := Tryd.f34) (c := bodyOf Tryd.f34) (nt := Tryd.f34.ntmps) (res := Tryd.f34.results.toList) (C := C_token_escapeStarts A31) (L := noL) (fun _ _ => rfl) Tryd.func34 (by kernel_rfl) rfl rfl (Cok_token_escapeStarts A31 h31) (lp_of (l := []) (by kernel_rfl) lp_nil)).weak (by
  intro us k h
  unfold q_token_escapeStarts at h
  split at h
  · skip
    rename_i a0 a1
    rw [raw_token_escapeStarts A31 a0 a1 k]
    exact h
  · exact h.elim)

abbrev T_token_nameStarts := List UInt8 → Int → (Bool → Prop) → Prop
def q_token_nameStarts (A : T_token_nameStarts) (us : List W) (k : W → Prop) : Prop := match us with
  | [.s a0, .i .i64 a1] => A a0 a1 (fun r0 => k (.b r0))
  | _ => False
theorem q_token_nameStarts_weak {A A2 : T_token_nameStarts} (h : FnOK sy Tryd.prog GT ovD GL 23 (q_token_nameStarts A)) (hA : ∀ a0 a1 K, A2 a0 a1 K → A a0 a1 K) : FnOK sy Tryd.prog GT ovD GL 23 (q_token_nameStarts A2) := h.weak (by
  intro us k h
  unfold q_token_nameStarts at h ⊢
  split at h
  · exact hA _ _ _ h
  · exact h.elim)

def F_token_nameStarts (A31 : T_token_byteAt) (A35 : T_char_StartsName) (A34 : T_token_escapeStarts) (a0 : List UInt8) (a1 : Int) (K : Bool → Prop) : Prop :=
  (A31 a0 a1 (fun y1 => (((decide (y1 ≠ (45 : Int))) = true → (A31 a0 a1 (fun y2 => (A35 y2 (fun y3 => ((y3 = false → (A34 a0 a1 (fun y4 => K y4))) ∧ (y3 = true → K true))))))) ∧ ((decide (y1 ≠ (45 : Int))) = false → (I64 (a1 + (1 : Int)) ∧ (A31 a0 (a1 + (1 : Int)) (fun y5 => (A35 y5 (fun y6 => ((y6 = false → (((decide (y5 = (45 : Int))) = false → (I64 (a1 + (1 : Int)) ∧ (A34 a0 (a1 + (1 : Int)) (fun y7 => K y7)))) ∧ ((decide (y5 = (45 : Int))) = true → K true))) ∧ (y6 = true → K true)))))))))))

def C_token_nameStarts (A31 : T_token_byteAt) (A35 : T_char_StartsName) (A34 : T_token_escapeStarts) : CallT sg := tab [(31, con [none, none] (q_token_byteAt A31)), (35, con [none] (q_char_StartsName A35)), (34, con [none, none] (q_token_escapeStarts A34))]
theorem Cok_token_nameStarts (A31 : T_token_byteAt) (A35 : T_char_StartsName) (A34 : T_token_escapeStarts) (h31 : FnOK sy Tryd.prog GT ovD GL 31 (q_token_byteAt A31)) (h35 : FnOK sy Tryd.prog GT ovD GL 35 (q_char_StartsName A35)) (h34 : FnOK sy Tryd.prog GT ovD GL 34 (q_token_escapeStarts A34)) (o0 : Nat → Prop) : CalOK sy Tryd.prog GT ovD o0 GL (C_token_nameStarts A31 A35 A34) := (tab_cons (con_ok h31) (tab_cons (con_ok h35) (tab_cons (con_ok h34) tab_nil))) o0

theorem raw_token_nameStarts (A31 : T_token_byteAt) (A35 : T_char_StartsName) (A34 : T_token_escapeStarts) (a0 : List UInt8) (a1 : Int) (k : W → Prop) : fnT sy Tryd.prog GT (C_token_nameStarts A31 A35 A34) noL Tryd.f23.ntmps (bodyOf Tryd.f23) [none] Tryd.f23.results.toList [.s a0, .i .i64 a1] k = F_token_nameStarts A31 A35 A34 a0 a1 (fun r0 => k (.b r0)) := by kernel_rfl

theorem ok_token_nameStarts (A31 : T_token_byteAt) (A35 : T_char_StartsName) (A34 : T_token_escapeStarts) (h31 : FnOK sy Tryd.prog GT ovD GL 31 (q_token_byteAt A31)) (h35 : FnOK sy Tryd.prog GT ovD GL 35 (q_char_StartsName A35)) (h34 : FnOK sy Tryd.prog GT ovD GL 34 (q_token_escapeStarts A34)) : FnOK sy Tryd.prog GT ovD GL 23 (q_token_nameStarts (F_token_nameStarts A31 A35 A34)) := (fn_ok (rc := [none]) (f := 23) (fn := Tryd.f23) (c := bodyOf Tryd.f23) (nt := Tryd.f23.ntmps) (res := Tryd.f23.results.toList) (C := C_token_nameStarts A31 A35 A34) (L := noL) (fun _ _ => rfl) Tryd.func23 (by kernel_rfl) rfl rfl (Cok_token_nameStarts A31 A35 A34 h31 h35 h34) (lp_of (l := []) (by kernel_rfl) lp_nil)).weak (by
  intro us k h
  unfold q_token_nameStarts at h
  split at h
  · skip
    rename_i a0 a1
    rw [raw_token_nameStarts A31 A35 A34 a0 a1 k]
    exact h
  · exact h.elim)

abbrev T_char_IsOfName := Int → (Bool → Prop) → Prop
def q_char_IsOfName (A : T_char_IsOfName) (us : List W) (k : W → Prop) : Prop := match us with
  | [.i .u8 a0] => A a0 (fun r0 => k (.b r0))
  | _ => False
theorem q_char_IsOfName_weak {A A2 : T_char_IsOfName} (h : FnOK sy Tryd.prog GT ovD GL 33 (q_char_IsOfName A)) (hA : ∀ a0 K, A2 a0 K → A a0 K) : FnOK sy Tryd.prog GT ovD GL 33 (q_char_IsOfName A2) := h.weak (by
  intro us k h
  unfold q_char_IsOfName at h ⊢
  split at h
  · exact hA _ _ h
  · exact h.elim)

def F_char_IsOfName (A35 : T_char_StartsName) (A37 : T_char_IsDigit) (a0 : Int) (K : Bool → Prop) : Prop :=
  (A35 a0 (fun y1 => ((y1 = false → (A37 a0 (fun y2 => ((y2 = false → K (decide (a0 = (45 : Int)))) ∧ (y2 = true → K true))))) ∧ (y1 = true → K true))))

def C_char_IsOfName (A35 : T_char_StartsName) (A37 : T_char_IsDigit) : CallT sg := tab [(35, con [none] (q_char_StartsName A35)), (37, con [none] (q_char_IsDigit A37))]
theorem Cok_char_IsOfName (A35 : T_char_StartsName) (A37 : T_char_IsDigit) (h35 : FnOK sy Tryd.prog GT ovD GL 35 (q_char_StartsName A35)) (h37 : FnOK sy Tryd.prog GT ovD GL 37 (q_char_IsDigit A37)) (o0 : Nat → Prop) : CalOK sy Tryd.prog GT ovD o0 GL (C_char_IsOfName A35 A37) := (tab_cons (con_ok h35) (tab_cons (con_ok h37) tab_nil)) o0

theorem raw_char_IsOfName (A35 : T_char_StartsName) (A37 : T_char_IsDigit) (a0 : Int) (k : W → Prop) : fnT sy Tryd.prog GT (C_char_IsOfName A35 A37) noL Tryd.f33.ntmps (bodyOf Tryd.f33) [none] Tryd.f33.results.toList [.i .u8 a0] k = F_char_IsOfName A35 A37 a0 (fun r0 => k (.b r0)) := by kernel_rfl

theorem ok_char_IsOfName (A35 : T_char_StartsName) (A37 : T_char_IsDigit) (h35 : FnOK sy Tryd.prog GT ovD GL 35 (q_char_StartsName A35)) (h37 : FnOK sy Tryd.prog GT ovD GL 37 (q_char_IsDigit A37)) : FnOK sy Tryd.prog GT ovD GL 33 (q_char_IsOfName (F_char_IsOfName A35 A37)) := (fn_ok (rc := [none]) (f := 33) (fn := Tryd.f33) (c := bodyOf Tryd.f33) (nt := Tryd.f33.ntmps) (res := Tryd.f33.results.toList) (C := C_char_IsOfName A35 A37) (L := noL) (fun _ _ => rfl) Tryd.func33 (by kernel_rfl) rfl rfl (Cok_char_IsOfName A35 A37 h35 h37) (lp_of (l := []) (by kernel_rfl) lp_nil)).weak (by
  intro us k h
  unfold q_char_IsOfName at h
  split at h
  · skip
    rename_i a0
    rw [raw_char_IsOfName A35 A37 a0 k]
    exact h
  · exact h.elim)

abbrev T_token_nameGoesOn := List UInt8 → Int → (Bool → Prop) → Prop
def q_token_nameGoesOn (A : T_token_nameGoesOn) (us : List W) (k : W → Prop) : Prop := match us with
  | [.s a0, .i .i64 a1] => A a0 a1 (fun r0 => k (.b r0))
  | _ => False
theorem q_token_nameGoesOn_weak {A A2 : T_token_nameGoesOn} (h : FnOK sy Tryd.prog GT ovD GL 22 (q_token_nameGoesOn A)) (hA : ∀ a0 a1 K, A2 a0 a1 K → A a0 a1 K) : FnOK sy Tryd.prog GT ovD GL 22 (q_token_nameGoesOn A2) := h.weak (by
  intro us k h
  unfold q_token_nameGoesOn at h ⊢
  split at h
  · exact hA _ _ _ h
  · exact h.elim)

def F_token_nameGoesOn (A31 : T_token_byteAt) (A33 : T_char_IsOfName) (A34 : T_token_escapeStarts) (a0 : List UInt8) (a1 : Int) (K : Bool → Prop) : Prop :=
  (A31 a0 a1 (fun y1 => (A33 y1 (fun y2 => ((y2 = false → (A34 a0 a1 (fun y3 => K y3))) ∧ (y2 = true → K true))))))

def C_token_nameGoesOn (A31 : T_token_byteAt) (A33 : T_char_IsOfName) (A34 : T_token_escapeStarts) : CallT sg := tab [(31, con [none, none] (q_token_byteAt A31)), (33, con [none] (q_char_IsOfName A33)), (34, con [none, none] (q_token_escapeStarts A34))]
theorem Cok_token_nameGoesOn (A31 : T_token_byteAt) (A33 : T_char_IsOfName) (A34 : T_token_escapeStarts) (h31 : FnOK sy Tryd.prog GT ovD GL 31 (q_token_byteAt A31)) (h33 : FnOK sy Tryd.prog GT ovD GL 33 (q_char_IsOfName A33)) (h34 : FnOK sy Tryd.prog GT ovD GL 34 (q_token_escapeStarts A34)) (o0 : Nat → Prop) : CalOK sy Tryd.prog GT ovD o0 GL (C_token_nameGoesOn A31 A33 A34) := (tab_cons (con_ok h31) (tab_cons (con_ok h33) (tab_cons (con_ok h34) tab_nil))) o0

theorem raw_token_nameGoesOn (A31 : T_token_byteAt) (A33 : T_char_IsOfName) (A34 : T_token_escapeStarts) (a0 : List UInt8) (a1 : Int) (k : W → Prop) : fnT sy Tryd.prog GT (C_token_nameGoesOn A31 A33 A34) noL Tryd.f22.ntmps (bodyOf Tryd.f22) [none] Tryd.f22.results.toList [.s a0, .i .i64 a1] k = F_token_nameGoesOn A31 A33 A34 a0 a1 (fun r0 => k (.b r0)) := by kernel_rfl

theorem ok_token_nameGoesOn (A31 : T_token_byteAt) (A33 : T_char_IsOfName) (A34 : T_token_escapeStarts) (h31 : FnOK sy Tryd.prog GT ovD GL 31 (q_token_byteAt A31)) (h33 : FnOK sy Tryd.prog GT ovD GL 33 (q_char_IsOfName A33)) (h34 : FnOK sy Tryd.prog GT ovD GL 34 (q_token_escapeStarts A34)) : FnOK sy Tryd.prog GT ovD GL 22 (q_token_nameGoesOn (F_token_nameGoesOn A31 A33 A34)) := (fn_ok (rc := [none]) (f := 22) (fn := Tryd.f22) (c := bodyOf Tryd.f22) (nt := Tryd.f22.ntmps) (res := Tryd.f22.results.toList) (C := C_token_nameGoesOn A31 A33 A34) (L := noL) (fun _ _ => rfl) Tryd.func22 (by kernel_rfl) rfl rfl (Cok_token_nameGoesOn A31 A33 A34 h31 h33 h34) (lp_of (l := []) (by kernel_rfl) lp_nil)).weak (by
  intro us k h
  unfold q_token_nameGoesOn at h
  split at h
  · skip
    rename_i a0 a1
    rw [raw_token_nameGoesOn A31 A33 A34 a0 a1 k]
    exact h
  · exact h.elim)

abbrev T_char_IsSpace := Int → (Bool → Prop) → Prop
def q_char_IsSpace (A : T_char_IsSpace) (us : List W) (k : W → Prop) : Prop := match us with
  | [.i .u8 a0] => A a0 (fun r0 => k (.b r0))
  | _ => False
theorem q_char_IsSpace_weak {A A2 : T_char_IsSpace} (h : FnOK sy Tryd.prog GT ovD GL 18 (q_char_IsSpace A)) (hA : ∀ a0 K, A2 a0 K → A a0 K) : FnOK sy Tryd.prog GT ovD GL 18 (q_char_IsSpace A2) := h.weak (by
  intro us k h
  unfold q_char_IsSpace at h ⊢
  split at h
  · exact hA _ _ h
  · exact h.elim)

def F_char_IsSpace (a0 : Int) (K : Bool → Prop) : Prop :=
  (((decide (a0 = (10 : Int))) = false → (((decide (a0 = (9 : Int))) = false → K (decide (a0 = (32 : Int)))) ∧ ((decide (a0 = (9 : Int))) = true → K true))) ∧ ((decide (a0 = (10 : Int))) = true → K true))

def C_char_IsSpace : CallT sg := tab []
theorem Cok_char_IsSpace (o0 : Nat → Prop) : CalOK sy Tryd.prog GT ovD o0 GL (C_char_IsSpace) := tab_nil o0

theorem raw_char_IsSpace (a0 : Int) (k : W → Prop) : fnT sy Tryd.prog GT (C_char_IsSpace) noL Tryd.f18.ntmps (bodyOf Tryd.f18) [none] Tryd.f18.results.toList [.i .u8 a0] k = F_char_IsSpace a0 (fun r0 => k (.b r0)) := by kernel_rfl

theorem ok_char_IsSpace : FnOK sy Tryd.prog GT ovD GL 18 (q_char_IsSpace (F_char_IsSpace)) := (fn_ok (rc := [none]) (f := 18) (fn := Tryd.f18) (c := bodyOf Tryd.f18) (nt := Tryd.f18.ntmps) (res := Tryd.f18.results.toList) (C := C_char_IsSpace) (L := noL) (fun _ _ => rfl) Tryd.func18 (by kernel_rfl) rfl rfl (Cok_char_IsSpace) (lp_of (l := []) (by kernel_rfl) lp_nil)).weak (by
  intro us k h
  unfold q_char_IsSpace at h
  split at h
  · skip
    rename_i a0
    rw [raw_char_IsSpace a0 k]
    exact h
  · exact h.elim)

abbrev T_char_IsQuote := Int → (Bool → Prop) → Prop
def q_char_IsQuote (A : T_char_IsQuote) (us : List W) (k : W → Prop) : Prop := match us with
  | [.i .u8 a0] => A a0 (fun r0 => k (.b r0))
  | _ => False
theorem q_char_IsQuote_weak {A A2 : T_char_IsQuote} (h : FnOK sy Tryd.prog GT ovD GL 20 (q_char_IsQuote A)) (hA : ∀ a0 K, A2 a0 K → A a0 K) : FnOK sy Tryd.prog GT ovD GL 20 (q_char_IsQuote A2) := h.weak (by
  intro us k h
  unfold q_char_IsQuote at h ⊢
  split at h
  · exact hA _ _ h
  · exact h.elim)

def F_char_IsQuote (a0 : Int) (K : Bool → Prop) : Prop :=
  (((decide (a0 = (34 : Int))) = false → K (decide (a0 = (39 : Int)))) ∧ ((decide (a0 = (34 : Int))) = true → K true))

def C_char_IsQuote : CallT sg := tab []
theorem Cok_char_IsQuote (o0 : Nat → Prop) : CalOK sy Tryd.prog GT ovD o0 GL (C_char_IsQuote) := tab_nil o0

theorem raw_char_IsQuote (a0 : Int) (k : W → Prop) : fnT sy Tryd.prog GT (C_char_IsQuote) noL Tryd.f20.ntmps (bodyOf Tryd.f20) [none] Tryd.f20.results.toList [.i .u8 a0] k = F_char_IsQuote a0 (fun r0 => k (.b r0)) := by kernel_rfl

theorem ok_char_IsQuote : FnOK sy Tryd.prog GT ovD GL 20 (q_char_IsQuote (F_char_IsQuote)) := (fn_ok (rc := [none]) (f := 20) (fn := Tryd.f20) (c := bodyOf Tryd.f20) (nt := Tryd.f20.ntmps) (res := Tryd.f20.results.toList) (C := C_char_IsQuote) (L := noL) (fun _ _ => rfl) Tryd.func20 (by kernel_rfl) rfl rfl (Cok_char_IsQuote) (lp_of (l := []) (by kernel_rfl) lp_nil)).weak (by
  intro us k h
  unfold q_char_IsQuote at h
  split at h
  · skip
    rename_i a0
    rw [raw_char_IsQuote a0 k]
    exact h
  · exact h.elim)

abbrev T_token_behindSpaces := List UInt8 → Int → (Int → Prop) → Prop
def q_token_behindSpaces (A : T_token_behindSpaces) (us : List W) (k : W → Prop) : Prop := match us with
  | [.s a0, .i .i64 a1] => A a0 a1 (fun r0 => k (.i .i64 r0))
  | _ => False
theorem q_token_behindSpaces_weak {A A2 : T_token_behindSpaces} (h : FnOK sy Tryd.prog GT ovD GL 19 (q_token_behindSpaces A)) (hA : ∀ a0 a1 K, A2 a0 a1 K → A a0 a1 K) : FnOK sy Tryd.prog GT ovD GL 19 (q_token_behindSpaces A2) := h.weak (by
  intro us k h
  unfold q_token_behindSpaces at h ⊢
  split at h
  · exact hA _ _ _ h
  · exact h.elim)

def F_token_behindSpaces_l1 (A31 : T_token_byteAt) (A18 : T_char_IsSpace) : Nat → List UInt8 → Int → (Int → Prop) → Prop
  | 0, _, _, _ => False
  | n + 1, x0, x1, Ke => (A31 x0 x1 (fun y1 => (A18 y1 (fun y2 => ((y2 = true → (I64 (x1 + (1 : Int)) ∧ F_token_behindSpaces_l1 A31 A18 n x0 (x1 + (1 : Int)) Ke)) ∧ (y2 = false → Ke x1))))))

def F_token_behindSpaces (A31 : T_token_byteAt) (A18 : T_char_IsSpace) (a0 : List UInt8) (a1 : Int) (K : Int → Prop) : Prop :=
  (∃ m, F_token_behindSpaces_l1 A31 A18 m a0 a1 (fun y1 => K y1))

def C_token_behindSpaces (A31 : T_token_byteAt) (A18 : T_char_IsSpace) : CallT sg := tab [(31, con [none, none] (q_token_byteAt A31)), (18, con [none] (q_char_IsSpace A18))]
theorem Cok_token_behindSpaces (A31 : T_token_byteAt) (A18 : T_char_IsSpace) (h31 : FnOK sy Tryd.prog GT ovD GL 31 (q_token_byteAt A31)) (h18 : FnOK sy Tryd.prog GT ovD GL 18 (q_char_IsSpace A18)) (o0 : Nat → Prop) : CalOK sy Tryd.prog GT ovD o0 GL (C_token_behindSpaces A31 A18) := (tab_cons (con_ok h31) (tab_cons (con_ok h18) tab_nil)) o0

def ls_token_behindSpaces_1 : LS sy ((List UInt8) × Int × Unit) Unit := ⟨[], fCons 0 (vStr sy) (fCons 1 (vInt sy .i64) (fNil sy)), hNil sy, 0, []⟩
def le_token_behindSpaces_1 : LS sy (Int × Unit) Unit := ⟨[], fCons 1 (vInt sy .i64) (fNil sy), hNil sy, 0, []⟩
def lr_token_behindSpaces_1 : LS sy Unit Unit := ⟨[], fNil sy, hNil sy, 0, []⟩
def FF_token_behindSpaces_1 (A31 : T_token_byteAt) (A18 : T_char_IsSpace) (n : Nat) (x : ((List UInt8) × Int × Unit) × Unit) (K : Ex → Z sg → Prop) : Prop := F_token_behindSpaces_l1 A31 A18 n x.1.1 x.1.2.1 (fun y0 => K (.exit 0) (le_token_behindSpaces_1.put ((y0, ()), ())))
def h_token_behindSpaces_1 (A31 : T_token_byteAt) (A18 : T_char_IsSpace) (z : Z sg) (K : Ex → Z sg → Prop) : Prop := ls_token_behindSpaces_1.get z (fun x => ∃ n, FF_token_behindSpaces_1 A31 A18 n x K)
def L_token_behindSpaces (A31 : T_token_byteAt) (A18 : T_char_IsSpace) : LoopT sg := tabL [(1, h_token_behindSpaces_1 A31 A18)]
theorem hs_token_behindSpaces_1 (A31 : T_token_byteAt) (A18 : T_char_IsSpace) (n : Nat) (x : ((List UInt8) × Int × Unit) × Unit) (K : Ex → Z sg → Prop) : forceZ (ls_token_behindSpaces_1.put x) (fun z => sC sy Tryd.prog GT (C_token_behindSpaces A31 A18) (L_token_behindSpaces A31 A18) Tryd.f19.ntmps (nthLoop (bodyOf Tryd.f19) 0) z (rnd ls_token_behindSpaces_1 (czT 0 le_token_behindSpaces_1 lr_token_behindSpaces_1) (fun x => FF_token_behindSpaces_1 A31 A18 n x K) K)) = FF_token_behindSpaces_1 A31 A18 (n + 1) x K := by kernel_rfl
theorem hl_token_behindSpaces_1 (A31 : T_token_byteAt) (A18 : T_char_IsSpace) (z : Z sg) (K : Ex → Z sg → Prop) : (L_token_behindSpaces A31 A18) (nthLoop (bodyOf Tryd.f19) 0) z K = ls_token_behindSpaces_1.get z (fun x => ∃ n, FF_token_behindSpaces_1 A31 A18 n x K) := by kernel_rfl
theorem lo_token_behindSpaces_1 (A31 : T_token_byteAt) (A18 : T_char_IsSpace) (h31 : FnOK sy Tryd.prog GT ovD GL 31 (q_token_byteAt A31)) (h18 : FnOK sy Tryd.prog GT ovD GL 18 (q_char_IsSpace A18)) : ∀ (o0 : Nat → Prop) (B : Bs sg), B.E.length ≤ 0 → ∀ z K, (L_token_behindSpaces A31 A18) (nthLoop (bodyOf Tryd.f19) 0) z K → Sx.Sem sy Tryd.prog GT ovD o0 GL Tryd.f19.ntmps B (.loop (nthLoop (bodyOf Tryd.f19) 0)) z K :=
  loop_ok (Cok_token_behindSpaces A31 A18 h31 h18) (lp_of (l := []) (by kernel_rfl) lp_nil) ls_token_behindSpaces_1 (by decide) (czT 0 le_token_behindSpaces_1 lr_token_behindSpaces_1) (fun _ _ hB => czT_ok 0 le_token_behindSpaces_1 lr_token_behindSpaces_1 (Nat.le_trans hB (by decide)) (Nat.le_trans hB (by decide))) (fun _ _ h => h) (hs_token_behindSpaces_1 A31 A18) (hl_token_behindSpaces_1 A31 A18)
theorem Lp_token_behindSpaces (A31 : T_token_byteAt) (A18 : T_char_IsSpace) (h31 : FnOK sy Tryd.prog GT ovD GL 31 (q_token_byteAt A31)) (h18 : FnOK sy Tryd.prog GT ovD GL 18 (q_char_IsSpace A18)) : LpOK sy Tryd.prog GT ovD GL (L_token_behindSpaces A31 A18) 0 Tryd.f19.ntmps (bodyOf Tryd.f19) := lp_of (l := [(nthLoop (bodyOf Tryd.f19) 0)]) (by kernel_rfl) (lp_cons (lo_token_behindSpaces_1 A31 A18 h31 h18) lp_nil)


theorem raw_token_behindSpaces (A31 : T_token_byteAt) (A18 : T_char_IsSpace) (a0 : List UInt8) (a1 : Int) (k : W → Prop) : fnT sy Tryd.prog GT (C_token_behindSpaces A31 A18) (L_token_behindSpaces A31 A18) Tryd.f19.ntmps (bodyOf Tryd.f19) [none] Tryd.f19.results.toList [.s a0, .i .i64 a1] k = F_token_behindSpaces A31 A18 a0 a1 (fun r0 => k (.i .i64 r0)) := by kernel_rfl

theorem ok_token_behindSpaces (A31 : T_token_byteAt) (A18 : T_char_IsSpace) (h31 : FnOK sy Tryd.prog GT ovD GL 31 (q_token_byteAt A31)) (h18 : FnOK sy Tryd.prog GT ovD GL 18 (q_char_IsSpace A18)) : FnOK sy Tryd.prog GT ovD GL 19 (q_token_behindSpaces (F_token_behindSpaces A31 A18)) := (fn_ok (rc := [none]) (f := 19) (fn := Tryd.f19) (c := bodyOf Tryd.f19) (nt := Tryd.f19.ntmps) (res := Tryd.f19.results.toList) (C := C_token_behindSpaces A31 A18) (L := (L_token_behindSpaces A31 A18)) (fun _ _ => rfl) Tryd.func19 (by kernel_rfl) rfl rfl (Cok_token_behindSpaces A31 A18 h31 h18) (Lp_token_behindSpaces A31 A18 h31 h18)).weak (by
  intro us k h
  unfold q_token_behindSpaces at h
  split at h
  · skip
    rename_i a0 a1
    rw [raw_token_behindSpaces A31 A18 a0 a1 k]
    exact h
  · exact h.elim)

abbrev T_stringslite_HasPrefix := List UInt8 → List UInt8 → (Bool → Prop) → Prop
def q_stringslite_HasPrefix (A : T_stringslite_HasPrefix) (us : List W) (k : W → Prop) : Prop := match us with
  | [.s a0, .s a1] => A a0 a1 (fun r0 => k (.b r0))
  | _ => False
theorem q_stringslite_HasPrefix_weak {A A2 : T_stringslite_HasPrefix} (h : FnOK sy Tryd.prog GT ovD GL 29 (q_stringslite_HasPrefix A)) (hA : ∀ a0 a1 K, A2 a0 a1 K → A a0 a1 K) : FnOK sy Tryd.prog GT ovD GL 29 (q_stringslite_HasPrefix A2) := h.weak (by
  intro us k h
  unfold q_stringslite_HasPrefix at h ⊢
  split at h
  · exact hA _ _ _ h
  · exact h.elim)

def F_stringslite_HasPrefix (a0 : List UInt8) (a1 : List UInt8) (K : Bool → Prop) : Prop :=
  (((decide ((a1.length : Int) ≤ (a0.length : Int))) = true → ((0 ≤ (a1.length : Int) ∧ (a1.length : Int) ≤ (a0.length : Int)) ∧ K ((a0.take (a1.length : Int).toNat) == a1))) ∧ ((decide ((a1.length : Int) ≤ (a0.length : Int))) = false → K false))

def C_stringslite_HasPrefix : CallT sg := tab []
theorem Cok_stringslite_HasPrefix (o0 : Nat → Prop) : CalOK sy Tryd.prog GT ovD o0 GL (C_stringslite_HasPrefix) := tab_nil o0

theorem raw_stringslite_HasPrefix (a0 : List UInt8) (a1 : List UInt8) (k : W → Prop) : fnT sy Tryd.prog GT (C_stringslite_HasPrefix) noL Tryd.f29.ntmps (bodyOf Tryd.f29) [none] Tryd.f29.results.toList [.s a0, .s a1] k = F_stringslite_HasPrefix a0 a1 (fun r0 => k (.b r0)) := by kernel_rfl

theorem ok_stringslite_HasPrefix : FnOK sy Tryd.prog GT ovD GL 29 (q_stringslite_HasPrefix (F_stringslite_HasPrefix)) := (fn_ok (rc := [none]) (f := 29) (fn := Tryd.f29) (c := bodyOf Tryd.f29) (nt := Tryd.f29.ntmps) (res := Tryd.f29.results.toList) (C := C_stringslite_HasPrefix) (L := noL) (fun _ _ => rfl) Tryd.func29 (by kernel_rfl) rfl rfl (Cok_stringslite_HasPrefix) (lp_of (l := []) (by kernel_rfl) lp_nil)).weak (by
  intro us k h
  unfold q_stringslite_HasPrefix at h
  split at h
  · skip
    rename_i a0 a1
    rw [raw_stringslite_HasPrefix a0 a1 k]
    exact h
  · exact h.elim)

abbrev T_strings_HasPrefix := List UInt8 → List UInt8 → (Bool → Prop) → Prop
def q_strings_HasPrefix (A : T_strings_HasPrefix) (us : List W) (k : W → Prop) : Prop := match us with
  | [.s a0, .s a1] => A a0 a1 (fun r0 => k (.b r0))
  | _ => False
theorem q_strings_HasPrefix_weak {A A2 : T_strings_HasPrefix} (h : FnOK sy Tryd.prog GT ovD GL 16 (q_strings_HasPrefix A)) (hA : ∀ a0 a1 K, A2 a0 a1 K → A a0 a1 K) : FnOK sy Tryd.prog GT ovD GL 16 (q_strings_HasPrefix A2) := h.weak (by
  intro us k h
  unfold q_strings_HasPrefix at h ⊢
  split at h
  · exact hA _ _ _ h
  · exact h.elim)

def F_strings_HasPrefix (A29 : T_stringslite_HasPrefix) (a0 : List UInt8) (a1 : List UInt8) (K : Bool → Prop) : Prop :=
  (A29 a0 a1 (fun y1 => K y1))

def C_strings_HasPrefix (A29 : T_stringslite_HasPrefix) : CallT sg := tab [(29, con [none, none] (q_stringslite_HasPrefix A29))]
theorem Cok_strings_HasPrefix (A29 : T_stringslite_HasPrefix) (h29 : FnOK sy Tryd.prog GT ovD GL 29 (q_stringslite_HasPrefix A29)) (o0 : Nat → Prop) : CalOK sy Tryd.prog GT ovD o0 GL (C_strings_HasPrefix A29) := (tab_cons (con_ok h29) tab_nil) o0

theorem raw_strings_HasPrefix (A29 : T_stringslite_HasPrefix) (a0 : List UInt8) (a1 : List UInt8) (k : W → Prop) : fnT sy Tryd.prog GT (C_strings_HasPrefix A29) noL Tryd.f16.ntmps (bodyOf Tryd.f16) [none] Tryd.f16.results.toList [.s a0, .s a1] k = F_strings_HasPrefix A29 a0 a1 (fun r0 => k (.b r0)) := by kernel_rfl

theorem ok_strings_HasPrefix (A29 : T_stringslite_HasPrefix) (h29 : FnOK sy Tryd.prog GT ovD GL 29 (q_stringslite_HasPrefix A29)) : FnOK sy Tryd.prog GT ovD GL 16 (q_strings_HasPrefix (F_strings_HasPrefix A29)) := (fn_ok (rc := [none]) (f := 16) (fn := Tryd.f16) (c := bodyOf Tryd.f16) (nt := Tryd.f16.ntmps) (res := Tryd.f16.results.toList) (C := C_strings_HasPrefix A29) (L := noL) (fun _ _ => rfl) Tryd.func16 (by kernel_rfl) rfl rfl (Cok_strings_HasPrefix A29 h29) (lp_of (l := []) (by kernel_rfl) lp_nil)).weak (by
  intro us k h
  unfold q_strings_HasPrefix at h
  split at h
  · skip
    rename_i a0 a1
    rw [raw_strings_HasPrefix A29 a0 a1 k]
    exact h
  · exact h.elim)

abbrev T_input_startsWithLineEnd := List UInt8 → (Bool → Prop) → Prop
def q_input_startsWithLineEnd (A : T_input_startsWithLineEnd) (us : List W) (k : W → Prop) : Prop := match us with
  | [.s a0] => A a0 (fun r0 => k (.b r0))
  | _ => False
theorem q_input_startsWithLineEnd_weak {A A2 : T_input_startsWithLineEnd} (h : FnOK sy Tryd.prog GT ovD GL 10 (q_input_startsWithLineEnd A)) (hA : ∀ a0 K, A2 a0 K → A a0 K) : FnOK sy Tryd.prog GT ovD GL 10 (q_input_startsWithLineEnd A2) := h.weak (by
  intro us k h
  unfold q_input_startsWithLineEnd at h ⊢
  split at h
  · exact hA _ _ h
  · exact h.elim)

def F_input_startsWithLineEnd (a0 : List UInt8) (K : Bool → Prop) : Prop :=
  (((decide ((0 : Int) < (a0.length : Int))) = true → ((0 ≤ (0 : Int) ∧ (0 : Int) < (a0.length : Int)) ∧ K (decide (((a0.getD 0 0).toNat : Int) = (10 : Int))))) ∧ ((decide ((0 : Int) < (a0.length : Int))) = false → K false))

def C_input_startsWithLineEnd : CallT sg := tab []
theorem Cok_input_startsWithLineEnd (o0 : Nat → Prop) : CalOK sy Tryd.prog GT ovD o0 GL (C_input_startsWithLineEnd) := tab_nil o0

theorem raw_input_startsWithLineEnd (a0 : List UInt8) (k : W → Prop) : fnT sy Tryd.prog GT (C_input_startsWithLineEnd) noL Tryd.f10.ntmps (bodyOf Tryd.f10) [none] Tryd.f10.results.toList [.s a0] k = F_input_startsWithLineEnd a0 (fun r0 => k (.b r0)) := by kernel_rfl

theorem ok_input_startsWithLineEnd : FnOK sy Tryd.prog GT ovD GL 10 (q_input_startsWithLineEnd (F_input_startsWithLineEnd)) := (fn_ok (rc := [none]) (f := 10) (fn := Tryd.f10) (c := bodyOf Tryd.f10) (nt := Tryd.f10.ntmps) (res := Tryd.f10.results.toList) (C := C_input_startsWithLineEnd) (L := noL) (fun _ _ => rfl) Tryd.func10 (by kernel_rfl) rfl rfl (Cok_input_startsWithLineEnd) (lp_of (l := []) (by kernel_rfl) lp_nil)).weak (by
  intro us k h
  unfold q_input_startsWithLineEnd at h
  split at h
  · skip
    rename_i a0
    rw [raw_input_startsWithLineEnd a0 k]
    exact h
  · exact h.elim)

abbrev T_input_Clean := List UInt8 → (List UInt8 → Int → Prop) → Prop
def q_input_Clean (A : T_input_Clean) (us : List W) (k : W → Prop) : Prop := match us with
  | [.s a0] => A a0 (fun r0 r1 => k (.t [.s r0, .i .i64 r1]))
  | _ => False
theorem q_input_Clean_weak {A A2 : T_input_Clean} (h : FnOK sy Tryd.prog GT ovD GL 5 (q_input_Clean A)) (hA : ∀ a0 K, A2 a0 K → A a0 K) : FnOK sy Tryd.prog GT ovD GL 5 (q_input_Clean A2) := h.weak (by
  intro us k h
  unfold q_input_Clean at h ⊢
  split at h
  · exact hA _ _ h
  · exact h.elim)

def F_input_Clean_l5 (A10 : T_input_startsWithLineEnd) : Nat → List UInt8 → Int → List UInt8 → (List UInt8 → Prop) → Prop
  | 0, _, _, _, _ => False
  | n + 1, x0, x5, b0, Ke => (((decide (x5 < (x0.length : Int))) = true → ((0 ≤ x5 ∧ x5 < (x0.length : Int)) ∧ (((decide (((x0.getD x5.toNat 0).toNat : Int) = (0 : Int))) = true → ((b0.length + ([239, 191, 189] : List UInt8).length) * 1 ≤ 1099511627776 ∧ (I64 (x5 + (1 : Int)) ∧ F_input_Clean_l5 A10 n x0 (x5 + (1 : Int)) (b0 ++ ([239, 191, 189] : List UInt8)) Ke))) ∧ ((decide (((x0.getD x5.toNat 0).toNat : Int) = (0 : Int))) = false → (((decide (((x0.getD x5.toNat 0).toNat : Int) = (12 : Int))) = true → ((0 ≤ (10 : Int) ∧ (10 : Int) ≤ 255) ∧ ((b0.length + [UInt8.ofNat 10].length) * 1 ≤ 1099511627776 ∧ (I64 (x5 + (1 : Int)) ∧ F_input_Clean_l5 A10 n x0 (x5 + (1 : Int)) (b0 ++ [UInt8.ofNat 10]) Ke)))) ∧ ((decide (((x0.getD x5.toNat 0).toNat : Int) = (12 : Int))) = false → (((decide (((x0.getD x5.toNat 0).toNat : Int) = (13 : Int))) = true → (I64 (x5 + (1 : Int)) ∧ ((0 ≤ (x5 + (1 : Int)) ∧ (x5 + (1 : Int)) ≤ (x0.length : Int)) ∧ (A10 (x0.drop (x5 + (1 : Int)).toNat) (fun y1 => (((!y1) = true → ((0 ≤ (10 : Int) ∧ (10 : Int) ≤ 255) ∧ ((b0.length + [UInt8.ofNat 10].length) * 1 ≤ 1099511627776 ∧ (I64 (x5 + (1 : Int)) ∧ F_input_Clean_l5 A10 n x0 (x5 + (1 : Int)) (b0 ++ [UInt8.ofNat 10]) Ke)))) ∧ ((!y1) = false → (I64 (x5 + (1 : Int)) ∧ F_input_Clean_l5 A10 n x0 (x5 + (1 : Int)) b0 Ke)))))))) ∧ ((decide (((x0.getD x5.toNat 0).toNat : Int) = (13 : Int))) = false → ((0 ≤ x5 ∧ x5 < (x0.length : Int)) ∧ ((0 ≤ ((x0.getD x5.toNat 0).toNat : Int) ∧ ((x0.getD x5.toNat 0).toNat : Int) ≤ 255) ∧ ((b0.length + [UInt8.ofNat (((x0.getD x5.toNat 0).toNat : Int).toNat)].length) * 1 ≤ 1099511627776 ∧ (I64 (x5 + (1 : Int)) ∧ F_input_Clean_l5 A10 n x0 (x5 + (1 : Int)) (b0 ++ [UInt8.ofNat (((x0.getD x5.toNat 0).toNat : Int).toNat)]) Ke)))))))))))) ∧ ((decide (x5 < (x0.length : Int))) = false → Ke b0))

def F_input_Clean (A10 : T_input_startsWithLineEnd) (a0 : List UInt8) (K : List UInt8 → Int → Prop) : Prop :=
  (((decide ((4000 : Int) < (a0.length : Int))) = true → K ([] : List UInt8) (28 : Int)) ∧ ((decide ((4000 : Int) < (a0.length : Int))) = false → ((0 ≤ (0 : Int) ∧ (0 : Int) ≤ (a0.length : Int) ∧ 1 * (a0.length : Int) ≤ 1099511627776 ∧ (a0.length : Int) ≤ 1099511627776) ∧ ((0 ≤ (0 : Int) ∧ (0 : Int) ≤ 255) ∧ (∃ m, F_input_Clean_l5 A10 m a0 (0 : Int) (List.replicate 0 (UInt8.ofNat 0)) (fun y1 => K y1 (0 : Int)))))))

def C_input_Clean (A10 : T_input_startsWithLineEnd) : CallT sg := tab [(10, con [none] (q_input_startsWithLineEnd A10))]
theorem Cok_input_Clean (A10 : T_input_startsWithLineEnd) (h10 : FnOK sy Tryd.prog GT ovD GL 10 (q_input_startsWithLineEnd A10)) (o0 : Nat → Prop) : CalOK sy Tryd.prog GT ovD o0 GL (C_input_Clean A10) := (tab_cons (con_ok h10) tab_nil) o0

def ls_input_Clean_5 : LS sy ((List UInt8) × Unit × Int × Unit) (List (sg.Den Cd.u8) × Unit) := ⟨[], fCons 0 (vStr sy) (fCons 4 (vLit sy (.o 0)) (fCons 5 (vInt sy .i64) (fNil sy))), hBuf 0 Cd.u8 (hNil sy), 1, [0]⟩
def le_input_Clean_5 : LS sy (Unit × Unit) (List (sg.Den Cd.u8) × Unit) := ⟨[], fCons 4 (vLit sy (.o 0)) (fNil sy), hBuf 0 Cd.u8 (hNil sy), 1, [0]⟩
def lr_input_Clean_5 : LS sy Unit Unit := ⟨[], fNil sy, hNil sy, 0, []⟩
def FF_input_Clean_5 (A10 : T_input_startsWithLineEnd) (n : Nat) (x : ((List UInt8) × Unit × Int × Unit) × (List (sg.Den Cd.u8) × Unit)) (K : Ex → Z sg → Prop) : Prop := F_input_Clean_l5 A10 n x.1.1 x.1.2.2.1 x.2.1 (fun y0 => K (.exit 0) (le_input_Clean_5.put (((), ()), (y0, ()))))
def h_input_Clean_5 (A10 : T_input_startsWithLineEnd) (z : Z sg) (K : Ex → Z sg → Prop) : Prop := ls_input_Clean_5.get z (fun x => ∃ n, FF_input_Clean_5 A10 n x K)
def L_input_Clean (A10 : T_input_startsWithLineEnd) : LoopT sg := tabL [(5, h_input_Clean_5 A10)]
theorem hs_input_Clean_5 (A10 : T_input_startsWithLineEnd) (n : Nat) (x : ((List UInt8) × Unit × Int × Unit) × (List (sg.Den Cd.u8) × Unit)) (K : Ex → Z sg → Prop) : forceZ (ls_input_Clean_5.put x) (fun z => sC sy Tryd.prog GT (C_input_Clean A10) (L_input_Clean A10) Tryd.f5.ntmps (nthLoop (bodyOf Tryd.f5) 0) z (rnd ls_input_Clean_5 (czT 0 le_input_Clean_5 lr_input_Clean_5) (fun x => FF_input_Clean_5 A10 n x K) K)) = FF_input_Clean_5 A10 (n + 1) x K := by kernel_rfl
theorem hl_input_Clean_5 (A10 : T_input_startsWithLineEnd) (z : Z sg) (K : Ex → Z sg → Prop) : (L_input_Clean A10) (nthLoop (bodyOf Tryd.f5) 0) z K = ls_input_Clean_5.get z (fun x => ∃ n, FF_input_Clean_5 A10 n x K) := by kernel_rfl
theorem lo_input_Clean_5 (A10 : T_input_startsWithLineEnd) (h10 : FnOK sy Tryd.prog GT ovD GL 10 (q_input_startsWithLineEnd A10)) : ∀ (o0 : Nat → Prop) (B : Bs sg), B.E.length ≤ 0 → ∀ z K, (L_input_Clean A10) (nthLoop (bodyOf Tryd.f5) 0) z K → Sx.Sem sy Tryd.prog GT ovD o0 GL Tryd.f5.ntmps B (.loop (nthLoop (bodyOf Tryd.f5) 0)) z K :=
  loop_ok (Cok_input_Clean A10 h10) (lp_of (l := []) (by kernel_rfl) lp_nil) ls_input_Clean_5 (by decide) (czT 0 le_input_Clean_5 lr_input_Clean_5) (fun _ _ hB => czT_ok 0 le_input_Clean_5 lr_input_Clean_5 (Nat.le_trans hB (by decide)) (Nat.le_trans hB (by decide))) (fun _ _ h => h) (hs_input_Clean_5 A10) (hl_input_Clean_5 A10)
theorem Lp_input_Clean (A10 : T_input_startsWithLineEnd) (h10 : FnOK sy Tryd.prog GT ovD GL 10 (q_input_startsWithLineEnd A10)) : LpOK sy Tryd.prog GT ovD GL (L_input_Clean A10) 0 Tryd.f5.ntmps (bodyOf Tryd.f5) := lp_of (l := [(nthLoop (bodyOf Tryd.f5) 0)]) (by kernel_rfl) (lp_cons (lo_input_Clean_5 A10 h10) lp_nil)


theorem raw_input_Clean (A10 : T_input_startsWithLineEnd) (a0 : List UInt8) (k : W → Prop) : fnT sy Tryd.prog GT (C_input_Clean A10) (L_input_Clean A10) Tryd.f5.ntmps (bodyOf Tryd.f5) [none, none] Tryd.f5.results.toList [.s a0] k = F_input_Clean A10 a0 (fun r0 r1 => k (.t [.s r0, .i .i64 r1])) := by kernel_rfl

theorem ok_input_Clean (A10 : T_input_startsWithLineEnd) (h10 : FnOK sy Tryd.prog GT ovD GL 10 (q_input_startsWithLineEnd A10)) : FnOK sy Tryd.prog GT ovD GL 5 (q_input_Clean (F_input_Clean A10)) := (fn_ok (rc := [none, none]) (f := 5) (fn := Tryd.f5) (c := bodyOf Tryd.f5) (nt := Tryd.f5.ntmps) (res := Tryd.f5.results.toList) (C := C_input_Clean A10) (L := (L_input_Clean A10)) (fun _ _ => rfl) Tryd.func5 (by kernel_rfl) rfl rfl (Cok_input_Clean A10 h10) (Lp_input_Clean A10 h10)).weak (by
  intro us k h
  unfold q_input_Clean at h
  split at h
  · skip
    rename_i a0
    rw [raw_input_Clean A10 a0 k]
    exact h
  · exact h.elim)

end Go.Proofs.YthjnfeihngjchaaDoor
