/-
  Functions of the tokenizer, followed: tokens of all kinds, all tokens. Nothing is claimed here.
-/
import Derived.Test.YtbpbaicbaehhjaaGreatDoorTg
namespace Go.Proofs.YtbpbaicbaehhjaaGreatDoor
open Go.Vm Go.Sx Go.RowKit
variable {ro : Nat}

abbrev T_stringslite_Index := List UInt8 → List UInt8 → (Int → Prop) → Prop
def q_stringslite_Index (A : T_stringslite_Index) (us : List W) (k : W → Prop) : Prop := match us with
  | [.s a0, .s a1] => A a0 a1 (fun r0 => k (.i .i64 r0))
  | _ => False
theorem q_stringslite_Index_weak {A A2 : T_stringslite_Index} (h : FnOK sy Tryz.prog GT (ovD ro) ro 67 (q_stringslite_Index A)) (hA : ∀ a0 a1 K, A2 a0 a1 K → A a0 a1 K) : FnOK sy Tryz.prog GT (ovD ro) ro 67 (q_stringslite_Index A2) := h.weak (by
  intro us k h
  unfold q_stringslite_Index at h ⊢
  split at h
  · exact hA _ _ _ h
  · exact h.elim)

abbrev T_strings_Index := List UInt8 → List UInt8 → (Int → Prop) → Prop
def q_strings_Index (A : T_strings_Index) (us : List W) (k : W → Prop) : Prop := match us with
  | [.s a0, .s a1] => A a0 a1 (fun r0 => k (.i .i64 r0))
  | _ => False
theorem q_strings_Index_weak {A A2 : T_strings_Index} (h : FnOK sy Tryz.prog GT (ovD ro) ro 48 (q_strings_Index A)) (hA : ∀ a0 a1 K, A2 a0 a1 K → A a0 a1 K) : FnOK sy Tryz.prog GT (ovD ro) ro 48 (q_strings_Index A2) := h.weak (by
  intro us k h
  unfold q_strings_Index at h ⊢
  split at h
  · exact hA _ _ _ h
  · exact h.elim)

def F_strings_Index (A67 : T_stringslite_Index) (a0 : List UInt8) (a1 : List UInt8) (K : Int → Prop) : Prop :=
  (A67 a0 a1 (fun y1 => K y1))

def C_strings_Index (A67 : T_stringslite_Index) : CallT sg := tab [(67, con [none, none] (q_stringslite_Index A67))]
theorem Cok_strings_Index (A67 : T_stringslite_Index) (h67 : FnOK sy Tryz.prog GT (ovD ro) ro 67 (q_stringslite_Index A67)) (o0 : Nat → Prop) : CalOK sy Tryz.prog GT (ovD ro) o0 ro (C_strings_Index A67) := (tab_cons (con_ok h67) tab_nil) o0

theorem raw_strings_Index (A67 : T_stringslite_Index) (a0 : List UInt8) (a1 : List UInt8) (k : W → Prop) : fnT sy Tryz.prog GT (C_strings_Index A67) noL Tryz.f48.ntmps (bodyOf Tryz.f48) [none] Tryz.f48.results.toList [.s a0, .s a1] k = F_strings_Index A67 a0 a1 (fun r0 => k (.i .i64 r0)) := by kernel_rfl

theorem ok_strings_Index (A67 : T_stringslite_Index) (h67 : FnOK sy Tryz.prog GT (ovD ro) ro 67 (q_stringslite_Index A67)) : FnOK sy Tryz.prog GT (ovD ro) ro 48 (q_strings_Index (F_strings_Index A67)) := (fn_ok (rc := [none]) (f := 48) (fn := Tryz.f48) (c := bodyOf Tryz.f48) (nt := Tryz.f48.ntmps) (res := Tryz.f48.results.toList) (C := C_strings_Index A67) (L := noL) (fun _ _ => rfl) Tryz.func48 (by kernel_rfl) rfl rfl (Cok_strings_Index A67 h67) (lp_of (l := []) (by kernel_rfl) lp_nil)).weak (by
  intro us k h
  unfold q_strings_Index at h
  split at h
  · skip
    rename_i a0 a1
    rw [raw_strings_Index A67 a0 a1 k]
    exact h
  · exact h.elim)

abbrev T_token_isMark := Int → (Bool → Prop) → Prop
def q_token_isMark (A : T_token_isMark) (us : List W) (k : W → Prop) : Prop := match us with
  | [.i .u8 a0] => A a0 (fun r0 => k (.b r0))
  | _ => False
theorem q_token_isMark_weak {A A2 : T_token_isMark} (h : FnOK sy Tryz.prog GT (ovD ro) ro 59 (q_token_isMark A)) (hA : ∀ a0 K, A2 a0 K → A a0 K) : FnOK sy Tryz.prog GT (ovD ro) ro 59 (q_token_isMark A2) := h.weak (by
  intro us k h
  unfold q_token_isMark at h ⊢
  split at h
  · exact hA _ _ h
  · exact h.elim)

def F_token_isMark (a0 : Int) (K : Bool → Prop) : Prop :=
  (I64 a0 ∧ (((decide (a0 < (126 : Int))) = true → ((0 ≤ a0 ∧ a0 < (126 : Int)) ∧ (0 + a0.toNat * 1 < marksL.length ∧ K (decide ((marksL.getD (0 + a0.toNat * 1) 0) ≠ (0 : Int)))))) ∧ ((decide (a0 < (126 : Int))) = false → K false)))

def C_token_isMark : CallT sg := tab []
theorem Cok_token_isMark (o0 : Nat → Prop) : CalOK sy Tryz.prog GT (ovD ro) o0 ro (C_token_isMark) := tab_nil o0

theorem raw_token_isMark (a0 : Int) (k : W → Prop) : fnT sy Tryz.prog GT (C_token_isMark) noL Tryz.f59.ntmps (bodyOf Tryz.f59) [none] Tryz.f59.results.toList [.i .u8 a0] k = F_token_isMark a0 (fun r0 => k (.b r0)) := by kernel_rfl

theorem ok_token_isMark : FnOK sy Tryz.prog GT (ovD ro) ro 59 (q_token_isMark (F_token_isMark)) := (fn_ok (rc := [none]) (f := 59) (fn := Tryz.f59) (c := bodyOf Tryz.f59) (nt := Tryz.f59.ntmps) (res := Tryz.f59.results.toList) (C := C_token_isMark) (L := noL) (fun _ _ => rfl) Tryz.func59 (by kernel_rfl) rfl rfl (Cok_token_isMark) (lp_of (l := []) (by kernel_rfl) lp_nil)).weak (by
  intro us k h
  unfold q_token_isMark at h
  split at h
  · skip
    rename_i a0
    rw [raw_token_isMark a0 k]
    exact h
  · exact h.elim)

abbrev T_readNumericA := List UInt8 → Int → (Tok → Int → Prop) → Prop
def q_readNumericA (A : T_readNumericA) (us : List W) (k : W → Prop) : Prop := match us with
  | [.s a0, .i .i64 a1] => A a0 a1 (fun r0 r1 => k (.t [.a [.i .u8 r0.kind, .s r0.text, .i .i64 r0.num, .s r0.unit, .b r0.flag], .i .i64 r1]))
  | _ => False
theorem q_readNumericA_weak {A A2 : T_readNumericA} (h : FnOK sy Tryz.prog GT (ovD ro) ro 57 (q_readNumericA A)) (hA : ∀ a0 a1 K, A2 a0 a1 K → A a0 a1 K) : FnOK sy Tryz.prog GT (ovD ro) ro 57 (q_readNumericA A2) := h.weak (by
  intro us k h
  unfold q_readNumericA at h ⊢
  split at h
  · exact hA _ _ _ h
  · exact h.elim)

def F_readNumericA (A75 : T_token_readNumber) (A54 : T_token_nameStarts) (A55 : T_token_readName) (A68 : T_token_byteAt) (a0 : List UInt8) (a1 : Int) (K : Tok → Int → Prop) : Prop :=
  (A75 a0 a1 (fun y1 y2 y3 => (A54 a0 y3 (fun y4 => ((y4 = true → (A55 a0 y3 (fun y5 y6 => K (Tok.mk (12 : Int) ([] : List UInt8) y1 y5 y2) y6))) ∧ (y4 = false → (A68 a0 y3 (fun y7 => (((decide (y7 = (37 : Int))) = true → (I64 (y3 + (1 : Int)) ∧ K (Tok.mk (11 : Int) ([] : List UInt8) y1 ([] : List UInt8) false) (y3 + (1 : Int)))) ∧ ((decide (y7 = (37 : Int))) = false → K (Tok.mk (10 : Int) ([] : List UInt8) y1 ([] : List UInt8) y2) y3))))))))))

def C_readNumericA (A75 : T_token_readNumber) (A54 : T_token_nameStarts) (A55 : T_token_readName) (A68 : T_token_byteAt) : CallT sg := tab [(75, con [none, none] (q_token_readNumber A75)), (54, con [none, none] (q_token_nameStarts A54)), (55, con [none, none] (q_token_readName A55)), (68, con [none, none] (q_token_byteAt A68))]
theorem Cok_readNumericA (A75 : T_token_readNumber) (A54 : T_token_nameStarts) (A55 : T_token_readName) (A68 : T_token_byteAt) (h75 : FnOK sy Tryz.prog GT (ovD ro) ro 75 (q_token_readNumber A75)) (h54 : FnOK sy Tryz.prog GT (ovD ro) ro 54 (q_token_nameStarts A54)) (h55 : FnOK sy Tryz.prog GT (ovD ro) ro 55 (q_token_readName A55)) (h68 : FnOK sy Tryz.prog GT (ovD ro) ro 68 (q_token_byteAt A68)) (o0 : Nat → Prop) : CalOK sy Tryz.prog GT (ovD ro) o0 ro (C_readNumericA A75 A54 A55 A68) := (tab_cons (con_ok h75) (tab_cons (con_ok h54) (tab_cons (con_ok h55) (tab_cons (con_ok h68) tab_nil)))) o0

theorem raw_readNumericA (A75 : T_token_readNumber) (A54 : T_token_nameStarts) (A55 : T_token_readName) (A68 : T_token_byteAt) (a0 : List UInt8) (a1 : Int) (k : W → Prop) : fnT sy Tryz.prog GT (C_readNumericA A75 A54 A55 A68) noL Tryz.f57.ntmps (bodyOf Tryz.f57) [none, none] Tryz.f57.results.toList [.s a0, .i .i64 a1] k = F_readNumericA A75 A54 A55 A68 a0 a1 (fun r0 r1 => k (.t [.a [.i .u8 r0.kind, .s r0.text, .i .i64 r0.num, .s r0.unit, .b r0.flag], .i .i64 r1])) := by kernel_rfl

theorem ok_readNumericA (A75 : T_token_readNumber) (A54 : T_token_nameStarts) (A55 : T_token_readName) (A68 : T_token_byteAt) (h75 : FnOK sy Tryz.prog GT (ovD ro) ro 75 (q_token_readNumber A75)) (h54 : FnOK sy Tryz.prog GT (ovD ro) ro 54 (q_token_nameStarts A54)) (h55 : FnOK sy Tryz.prog GT (ovD ro) ro 55 (q_token_readName A55)) (h68 : FnOK sy Tryz.prog GT (ovD ro) ro 68 (q_token_byteAt A68)) : FnOK sy Tryz.prog GT (ovD ro) ro 57 (q_readNumericA (F_readNumericA A75 A54 A55 A68)) := (fn_ok (rc := [none, none]) (f := 57) (fn := Tryz.f57) (c := bodyOf Tryz.f57) (nt := Tryz.f57.ntmps) (res := Tryz.f57.results.toList) (C := C_readNumericA A75 A54 A55 A68) (L := noL) (fun _ _ => rfl) Tryz.func57 (by kernel_rfl) rfl rfl (Cok_readNumericA A75 A54 A55 A68 h75 h54 h55 h68) (lp_of (l := []) (by kernel_rfl) lp_nil)).weak (by
  intro us k h
  unfold q_readNumericA at h
  split at h
  · skip
    rename_i a0 a1
    rw [raw_readNumericA A75 A54 A55 A68 a0 a1 k]
    exact h
  · exact h.elim)

abbrev T_behindCommentsA := List UInt8 → Int → (Int → Prop) → Prop
def q_behindCommentsA (A : T_behindCommentsA) (us : List W) (k : W → Prop) : Prop := match us with
  | [.s a0, .i .i64 a1] => A a0 a1 (fun r0 => k (.i .i64 r0))
  | _ => False
theorem q_behindCommentsA_weak {A A2 : T_behindCommentsA} (h : FnOK sy Tryz.prog GT (ovD ro) ro 33 (q_behindCommentsA A)) (hA : ∀ a0 a1 K, A2 a0 a1 K → A a0 a1 K) : FnOK sy Tryz.prog GT (ovD ro) ro 33 (q_behindCommentsA A2) := h.weak (by
  intro us k h
  unfold q_behindCommentsA at h ⊢
  split at h
  · exact hA _ _ _ h
  · exact h.elim)

def F_behindCommentsA_l1 (A47 : T_strings_HasPrefix) (A48 : T_strings_Index) : Nat → List UInt8 → Int → (Int → Prop) → (Int → Prop) → Prop
  | 0, _, _, _, _ => False
  | n + 1, x0, x1, Ke, Kr => ((0 ≤ x1 ∧ x1 ≤ (x0.length : Int)) ∧ (A47 (x0.drop x1.toNat) ([47, 42] : List UInt8) (fun y1 => ((y1 = true → (I64 (x1 + (2 : Int)) ∧ ((0 ≤ (x1 + (2 : Int)) ∧ (x1 + (2 : Int)) ≤ (x0.length : Int)) ∧ (A48 (x0.drop (x1 + (2 : Int)).toNat) ([42, 47] : List UInt8) (fun y2 => (((decide (y2 < (0 : Int))) = true → Kr (x0.length : Int)) ∧ ((decide (y2 < (0 : Int))) = false → (I64 (y2 + (2 : Int)) ∧ (I64 ((x1 + (2 : Int)) + (y2 + (2 : Int))) ∧ F_behindCommentsA_l1 A47 A48 n x0 ((x1 + (2 : Int)) + (y2 + (2 : Int))) Ke Kr))))))))) ∧ (y1 = false → Ke x1)))))

def F_behindCommentsA (A47 : T_strings_HasPrefix) (A48 : T_strings_Index) (a0 : List UInt8) (a1 : Int) (K : Int → Prop) : Prop :=
  (∃ m, F_behindCommentsA_l1 A47 A48 m a0 a1 (fun y1 => K y1) (fun y2 => K y2))

def C_behindCommentsA (A47 : T_strings_HasPrefix) (A48 : T_strings_Index) : CallT sg := tab [(47, con [none, none] (q_strings_HasPrefix A47)), (48, con [none, none] (q_strings_Index A48))]
theorem Cok_behindCommentsA (A47 : T_strings_HasPrefix) (A48 : T_strings_Index) (h47 : FnOK sy Tryz.prog GT (ovD ro) ro 47 (q_strings_HasPrefix A47)) (h48 : FnOK sy Tryz.prog GT (ovD ro) ro 48 (q_strings_Index A48)) (o0 : Nat → Prop) : CalOK sy Tryz.prog GT (ovD ro) o0 ro (C_behindCommentsA A47 A48) := (tab_cons (con_ok h47) (tab_cons (con_ok h48) tab_nil)) o0

def ls_behindCommentsA_1 : LS sy ((List UInt8) × Int × Unit) Unit := ⟨[], fCons 0 (vStr sy) (fCons 1 (vInt sy .i64) (fNil sy)), hNil sy, 0, []⟩
def le_behindCommentsA_1 : LS sy (Int × Unit) Unit := ⟨[], fCons 1 (vInt sy .i64) (fNil sy), hNil sy, 0, []⟩
def lr_behindCommentsA_1 : LS sy (Int × Unit) Unit := ⟨[], fCons 4 (vInt sy .i64) (fNil sy), hNil sy, 0, []⟩
def FF_behindCommentsA_1 (A47 : T_strings_HasPrefix) (A48 : T_strings_Index) (n : Nat) (x : ((List UInt8) × Int × Unit) × Unit) (K : Ex → Z sg → Prop) : Prop := F_behindCommentsA_l1 A47 A48 n x.1.1 x.1.2.1 (fun y0 => K (.exit 0) (le_behindCommentsA_1.put ((y0, ()), ()))) (fun y0 => K .ret (lr_behindCommentsA_1.put ((y0, ()), ())))
def h_behindCommentsA_1 (A47 : T_strings_HasPrefix) (A48 : T_strings_Index) (z : Z sg) (K : Ex → Z sg → Prop) : Prop := ls_behindCommentsA_1.get z (fun x => ∃ n, FF_behindCommentsA_1 A47 A48 n x K)
def L_behindCommentsA (A47 : T_strings_HasPrefix) (A48 : T_strings_Index) : LoopT sg := tabL [(1, h_behindCommentsA_1 A47 A48)]
theorem hs_behindCommentsA_1 (A47 : T_strings_HasPrefix) (A48 : T_strings_Index) (n : Nat) (x : ((List UInt8) × Int × Unit) × Unit) (K : Ex → Z sg → Prop) : forceZ (ls_behindCommentsA_1.put x) (fun z => sC sy Tryz.prog GT (C_behindCommentsA A47 A48) (L_behindCommentsA A47 A48) Tryz.f33.ntmps (nthLoop (bodyOf Tryz.f33) 0) z (rnd ls_behindCommentsA_1 (czT 0 le_behindCommentsA_1 lr_behindCommentsA_1) (fun x => FF_behindCommentsA_1 A47 A48 n x K) K)) = FF_behindCommentsA_1 A47 A48 (n + 1) x K := by kernel_rfl
theorem hl_behindCommentsA_1 (A47 : T_strings_HasPrefix) (A48 : T_strings_Index) (z : Z sg) (K : Ex → Z sg → Prop) : (L_behindCommentsA A47 A48) (nthLoop (bodyOf Tryz.f33) 0) z K = ls_behindCommentsA_1.get z (fun x => ∃ n, FF_behindCommentsA_1 A47 A48 n x K) := by kernel_rfl
theorem lo_behindCommentsA_1 (A47 : T_strings_HasPrefix) (A48 : T_strings_Index) (h47 : FnOK sy Tryz.prog GT (ovD ro) ro 47 (q_strings_HasPrefix A47)) (h48 : FnOK sy Tryz.prog GT (ovD ro) ro 48 (q_strings_Index A48)) : ∀ (o0 : Nat → Prop) (B : Bs sg), B.E.length ≤ 0 → ∀ z K, (L_behindCommentsA A47 A48) (nthLoop (bodyOf Tryz.f33) 0) z K → Sx.Sem sy Tryz.prog GT (ovD ro) o0 ro Tryz.f33.ntmps B (.loop (nthLoop (bodyOf Tryz.f33) 0)) z K :=
  loop_ok (Cok_behindCommentsA A47 A48 h47 h48) (lp_of (l := []) (by kernel_rfl) lp_nil) ls_behindCommentsA_1 (by decide) (czT 0 le_behindCommentsA_1 lr_behindCommentsA_1) (fun _ _ hB => czT_ok 0 le_behindCommentsA_1 lr_behindCommentsA_1 (Nat.le_trans hB (by decide)) (Nat.le_trans hB (by decide))) (fun _ _ h => h) (hs_behindCommentsA_1 A47 A48) (hl_behindCommentsA_1 A47 A48)
theorem Lp_behindCommentsA (A47 : T_strings_HasPrefix) (A48 : T_strings_Index) (h47 : FnOK sy Tryz.prog GT (ovD ro) ro 47 (q_strings_HasPrefix A47)) (h48 : FnOK sy Tryz.prog GT (ovD ro) ro 48 (q_strings_Index A48)) : LpOK sy Tryz.prog GT (ovD ro) ro (L_behindCommentsA A47 A48) 0 Tryz.f33.ntmps (bodyOf Tryz.f33) := lp_of (l := [(nthLoop (bodyOf Tryz.f33) 0)]) (by kernel_rfl) (lp_cons (lo_behindCommentsA_1 A47 A48 h47 h48) lp_nil)


theorem raw_behindCommentsA (A47 : T_strings_HasPrefix) (A48 : T_strings_Index) (a0 : List UInt8) (a1 : Int) (k : W → Prop) : fnT sy Tryz.prog GT (C_behindCommentsA A47 A48) (L_behindCommentsA A47 A48) Tryz.f33.ntmps (bodyOf Tryz.f33) [none] Tryz.f33.results.toList [.s a0, .i .i64 a1] k = F_behindCommentsA A47 A48 a0 a1 (fun r0 => k (.i .i64 r0)) := by kernel_rfl

theorem ok_behindCommentsA (A47 : T_strings_HasPrefix) (A48 : T_strings_Index) (h47 : FnOK sy Tryz.prog GT (ovD ro) ro 47 (q_strings_HasPrefix A47)) (h48 : FnOK sy Tryz.prog GT (ovD ro) ro 48 (q_strings_Index A48)) : FnOK sy Tryz.prog GT (ovD ro) ro 33 (q_behindCommentsA (F_behindCommentsA A47 A48)) := (fn_ok (rc := [none]) (f := 33) (fn := Tryz.f33) (c := bodyOf Tryz.f33) (nt := Tryz.f33.ntmps) (res := Tryz.f33.results.toList) (C := C_behindCommentsA A47 A48) (L := (L_behindCommentsA A47 A48)) (fun _ _ => rfl) Tryz.func33 (by kernel_rfl) rfl rfl (Cok_behindCommentsA A47 A48 h47 h48) (Lp_behindCommentsA A47 A48 h47 h48)).weak (by
  intro us k h
  unfold q_behindCommentsA at h
  split at h
  · skip
    rename_i a0 a1
    rw [raw_behindCommentsA A47 A48 a0 a1 k]
    exact h
  · exact h.elim)

abbrev T_readTokenA := List UInt8 → Int → (Tok → Int → Prop) → Prop
def q_readTokenA (A : T_readTokenA) (us : List W) (k : W → Prop) : Prop := match us with
  | [.s a0, .i .i64 a1] => A a0 a1 (fun r0 r1 => k (.t [.a [.i .u8 r0.kind, .s r0.text, .i .i64 r0.num, .s r0.unit, .b r0.flag], .i .i64 r1]))
  | _ => False
theorem q_readTokenA_weak {A A2 : T_readTokenA} (h : FnOK sy Tryz.prog GT (ovD ro) ro 34 (q_readTokenA A)) (hA : ∀ a0 a1 K, A2 a0 a1 K → A a0 a1 K) : FnOK sy Tryz.prog GT (ovD ro) ro 34 (q_readTokenA A2) := h.weak (by
  intro us k h
  unfold q_readTokenA at h ⊢
  split at h
  · exact hA _ _ _ h
  · exact h.elim)

def F_readTokenA (A49 : T_char_IsSpace) (A50 : T_token_behindSpaces) (A51 : T_char_IsQuote) (A52 : T_token_readString) (A53 : T_token_nameGoesOn) (A54 : T_token_nameStarts) (A55 : T_token_readName) (A56 : T_token_numberStarts) (A57 : T_readNumericA) (A47 : T_strings_HasPrefix) (A58 : T_token_readNamed) (A59 : T_token_isMark) (a0 : List UInt8) (a1 : Int) (K : Tok → Int → Prop) : Prop :=
  ((0 ≤ a1 ∧ a1 < (a0.length : Int)) ∧ (A49 ((a0.getD a1.toNat 0).toNat : Int) (fun y1 => ((y1 = true → (A50 a0 a1 (fun y2 => K (Tok.mk (13 : Int) ([] : List UInt8) (0 : Int) ([] : List UInt8) false) y2))) ∧ (y1 = false → ((0 ≤ a1 ∧ a1 < (a0.length : Int)) ∧ (A51 ((a0.getD a1.toNat 0).toNat : Int) (fun y3 => ((y3 = true → (A52 a0 a1 (fun y4 y5 => K (Tok.mk y4.kind y4.text y4.num y4.unit y4.flag) y5))) ∧ (y3 = false → ((0 ≤ a1 ∧ a1 < (a0.length : Int)) ∧ (((decide (((a0.getD a1.toNat 0).toNat : Int) = (35 : Int))) = true → (I64 (a1 + (1 : Int)) ∧ (A53 a0 (a1 + (1 : Int)) (fun y6 => ((y6 = true → (I64 (a1 + (1 : Int)) ∧ (A54 a0 (a1 + (1 : Int)) (fun y7 => (I64 (a1 + (1 : Int)) ∧ (A55 a0 (a1 + (1 : Int)) (fun y8 y9 => K (Tok.mk (4 : Int) y8 (0 : Int) ([] : List UInt8) y7) y9))))))) ∧ (y6 = false → (A56 a0 a1 (fun y10 => ((y10 = true → (A57 a0 a1 (fun y11 y12 => K (Tok.mk y11.kind y11.text y11.num y11.unit y11.flag) y12))) ∧ (y10 = false → ((0 ≤ a1 ∧ a1 ≤ (a0.length : Int)) ∧ (A47 (a0.drop a1.toNat) ([45, 45, 62] : List UInt8) (fun y13 => ((y13 = true → (I64 (a1 + (3 : Int)) ∧ K (Tok.mk (15 : Int) ([] : List UInt8) (0 : Int) ([] : List UInt8) false) (a1 + (3 : Int)))) ∧ (y13 = false → ((0 ≤ a1 ∧ a1 ≤ (a0.length : Int)) ∧ (A47 (a0.drop a1.toNat) ([60, 33, 45, 45] : List UInt8) (fun y14 => ((y14 = true → (I64 (a1 + (4 : Int)) ∧ K (Tok.mk (14 : Int) ([] : List UInt8) (0 : Int) ([] : List UInt8) false) (a1 + (4 : Int)))) ∧ (y14 = false → ((0 ≤ a1 ∧ a1 < (a0.length : Int)) ∧ (((decide (((a0.getD a1.toNat 0).toNat : Int) = (64 : Int))) = true → (I64 (a1 + (1 : Int)) ∧ (A54 a0 (a1 + (1 : Int)) (fun y15 => ((y15 = true → (I64 (a1 + (1 : Int)) ∧ (A55 a0 (a1 + (1 : Int)) (fun y16 y17 => K (Tok.mk (3 : Int) y16 (0 : Int) ([] : List UInt8) false) y17)))) ∧ (y15 = false → (A54 a0 a1 (fun y18 => ((y18 = true → (A58 a0 a1 (fun y19 y20 => K (Tok.mk y19.kind y19.text y19.num y19.unit y19.flag) y20))) ∧ (y18 = false → ((0 ≤ a1 ∧ a1 < (a0.length : Int)) ∧ (A59 ((a0.getD a1.toNat 0).toNat : Int) (fun y21 => ((y21 = true → ((0 ≤ a1 ∧ a1 < (a0.length : Int)) ∧ ((0 ≤ ((a0.getD a1.toNat 0).toNat : Int) ∧ ((a0.getD a1.toNat 0).toNat : Int) < (126 : Int)) ∧ (0 + ((a0.getD a1.toNat 0).toNat : Int).toNat * 1 < marksL.length ∧ (I64 (a1 + (1 : Int)) ∧ K (Tok.mk (marksL.getD (0 + ((a0.getD a1.toNat 0).toNat : Int).toNat * 1) 0) ([] : List UInt8) (0 : Int) ([] : List UInt8) false) (a1 + (1 : Int))))))) ∧ (y21 = false → (I64 (a1 + (1 : Int)) ∧ ((0 ≤ a1 ∧ a1 ≤ (a1 + (1 : Int)) ∧ (a1 + (1 : Int)) ≤ (a0.length : Int)) ∧ (I64 (a1 + (1 : Int)) ∧ K (Tok.mk (9 : Int) ((a0.drop a1.toNat).take ((a1 + (1 : Int)).toNat - a1.toNat)) (0 : Int) ([] : List UInt8) false) (a1 + (1 : Int)))))))))))))))))))) ∧ ((decide (((a0.getD a1.toNat 0).toNat : Int) = (64 : Int))) = false → (A54 a0 a1 (fun y22 => ((y22 = true → (A58 a0 a1 (fun y23 y24 => K (Tok.mk y23.kind y23.text y23.num y23.unit y23.flag) y24))) ∧ (y22 = false → ((0 ≤ a1 ∧ a1 < (a0.length : Int)) ∧ (A59 ((a0.getD a1.toNat 0).toNat : Int) (fun y25 => ((y25 = true → ((0 ≤ a1 ∧ a1 < (a0.length : Int)) ∧ ((0 ≤ ((a0.getD a1.toNat 0).toNat : Int) ∧ ((a0.getD a1.toNat 0).toNat : Int) < (126 : Int)) ∧ (0 + ((a0.getD a1.toNat 0).toNat : Int).toNat * 1 < marksL.length ∧ (I64 (a1 + (1 : Int)) ∧ K (Tok.mk (marksL.getD (0 + ((a0.getD a1.toNat 0).toNat : Int).toNat * 1) 0) ([] : List UInt8) (0 : Int) ([] : List UInt8) false) (a1 + (1 : Int))))))) ∧ (y25 = false → (I64 (a1 + (1 : Int)) ∧ ((0 ≤ a1 ∧ a1 ≤ (a1 + (1 : Int)) ∧ (a1 + (1 : Int)) ≤ (a0.length : Int)) ∧ (I64 (a1 + (1 : Int)) ∧ K (Tok.mk (9 : Int) ((a0.drop a1.toNat).take ((a1 + (1 : Int)).toNat - a1.toNat)) (0 : Int) ([] : List UInt8) false) (a1 + (1 : Int))))))))))))))))))))))))))))))))))))) ∧ ((decide (((a0.getD a1.toNat 0).toNat : Int) = (35 : Int))) = false → (A56 a0 a1 (fun y26 => ((y26 = true → (A57 a0 a1 (fun y27 y28 => K (Tok.mk y27.kind y27.text y27.num y27.unit y27.flag) y28))) ∧ (y26 = false → ((0 ≤ a1 ∧ a1 ≤ (a0.length : Int)) ∧ (A47 (a0.drop a1.toNat) ([45, 45, 62] : List UInt8) (fun y29 => ((y29 = true → (I64 (a1 + (3 : Int)) ∧ K (Tok.mk (15 : Int) ([] : List UInt8) (0 : Int) ([] : List UInt8) false) (a1 + (3 : Int)))) ∧ (y29 = false → ((0 ≤ a1 ∧ a1 ≤ (a0.length : Int)) ∧ (A47 (a0.drop a1.toNat) ([60, 33, 45, 45] : List UInt8) (fun y30 => ((y30 = true → (I64 (a1 + (4 : Int)) ∧ K (Tok.mk (14 : Int) ([] : List UInt8) (0 : Int) ([] : List UInt8) false) (a1 + (4 : Int)))) ∧ (y30 = false → ((0 ≤ a1 ∧ a1 < (a0.length : Int)) ∧ (((decide (((a0.getD a1.toNat 0).toNat : Int) = (64 : Int))) = true → (I64 (a1 + (1 : Int)) ∧ (A54 a0 (a1 + (1 : Int)) (fun y31 => ((y31 = true → (I64 (a1 + (1 : Int)) ∧ (A55 a0 (a1 + (1 : Int)) (fun y32 y33 => K (Tok.mk (3 : Int) y32 (0 : Int) ([] : List UInt8) false) y33)))) ∧ (y31 = false → (A54 a0 a1 (fun y34 => ((y34 = true → (A58 a0 a1 (fun y35 y36 => K (Tok.mk y35.kind y35.text y35.num y35.unit y35.flag) y36))) ∧ (y34 = false → ((0 ≤ a1 ∧ a1 < (a0.length : Int)) ∧ (A59 ((a0.getD a1.toNat 0).toNat : Int) (fun y37 => ((y37 = true → ((0 ≤ a1 ∧ a1 < (a0.length : Int)) ∧ ((0 ≤ ((a0.getD a1.toNat 0).toNat : Int) ∧ ((a0.getD a1.toNat 0).toNat : Int) < (126 : Int)) ∧ (0 + ((a0.getD a1.toNat 0).toNat : Int).toNat * 1 < marksL.length ∧ (I64 (a1 + (1 : Int)) ∧ K (Tok.mk (marksL.getD (0 + ((a0.getD a1.toNat 0).toNat : Int).toNat * 1) 0) ([] : List UInt8) (0 : Int) ([] : List UInt8) false) (a1 + (1 : Int))))))) ∧ (y37 = false → (I64 (a1 + (1 : Int)) ∧ ((0 ≤ a1 ∧ a1 ≤ (a1 + (1 : Int)) ∧ (a1 + (1 : Int)) ≤ (a0.length : Int)) ∧ (I64 (a1 + (1 : Int)) ∧ K (Tok.mk (9 : Int) ((a0.drop a1.toNat).take ((a1 + (1 : Int)).toNat - a1.toNat)) (0 : Int) ([] : List UInt8) false) (a1 + (1 : Int)))))))))))))))))))) ∧ ((decide (((a0.getD a1.toNat 0).toNat : Int) = (64 : Int))) = false → (A54 a0 a1 (fun y38 => ((y38 = true → (A58 a0 a1 (fun y39 y40 => K (Tok.mk y39.kind y39.text y39.num y39.unit y39.flag) y40))) ∧ (y38 = false → ((0 ≤ a1 ∧ a1 < (a0.length : Int)) ∧ (A59 ((a0.getD a1.toNat 0).toNat : Int) (fun y41 => ((y41 = true → ((0 ≤ a1 ∧ a1 < (a0.length : Int)) ∧ ((0 ≤ ((a0.getD a1.toNat 0).toNat : Int) ∧ ((a0.getD a1.toNat 0).toNat : Int) < (126 : Int)) ∧ (0 + ((a0.getD a1.toNat 0).toNat : Int).toNat * 1 < marksL.length ∧ (I64 (a1 + (1 : Int)) ∧ K (Tok.mk (marksL.getD (0 + ((a0.getD a1.toNat 0).toNat : Int).toNat * 1) 0) ([] : List UInt8) (0 : Int) ([] : List UInt8) false) (a1 + (1 : Int))))))) ∧ (y41 = false → (I64 (a1 + (1 : Int)) ∧ ((0 ≤ a1 ∧ a1 ≤ (a1 + (1 : Int)) ∧ (a1 + (1 : Int)) ≤ (a0.length : Int)) ∧ (I64 (a1 + (1 : Int)) ∧ K (Tok.mk (9 : Int) ((a0.drop a1.toNat).take ((a1 + (1 : Int)).toNat - a1.toNat)) (0 : Int) ([] : List UInt8) false) (a1 + (1 : Int))))))))))))))))))))))))))))))))))))))))))))

def C_readTokenA (A49 : T_char_IsSpace) (A50 : T_token_behindSpaces) (A51 : T_char_IsQuote) (A52 : T_token_readString) (A53 : T_token_nameGoesOn) (A54 : T_token_nameStarts) (A55 : T_token_readName) (A56 : T_token_numberStarts) (A57 : T_readNumericA) (A47 : T_strings_HasPrefix) (A58 : T_token_readNamed) (A59 : T_token_isMark) : CallT sg := tab [(49, con [none] (q_char_IsSpace A49)), (50, con [none, none] (q_token_behindSpaces A50)), (51, con [none] (q_char_IsQuote A51)), (52, con [none, none] (q_token_readString A52)), (53, con [none, none] (q_token_nameGoesOn A53)), (54, con [none, none] (q_token_nameStarts A54)), (55, con [none, none] (q_token_readName A55)), (56, con [none, none] (q_token_numberStarts A56)), (57, con [none, none] (q_readNumericA A57)), (47, con [none, none] (q_strings_HasPrefix A47)), (58, con [none, none] (q_token_readNamed A58)), (59, con [none] (q_token_isMark A59))]
theorem Cok_readTokenA (A49 : T_char_IsSpace) (A50 : T_token_behindSpaces) (A51 : T_char_IsQuote) (A52 : T_token_readString) (A53 : T_token_nameGoesOn) (A54 : T_token_nameStarts) (A55 : T_token_readName) (A56 : T_token_numberStarts) (A57 : T_readNumericA) (A47 : T_strings_HasPrefix) (A58 : T_token_readNamed) (A59 : T_token_isMark) (h49 : FnOK sy Tryz.prog GT (ovD ro) ro 49 (q_char_IsSpace A49)) (h50 : FnOK sy Tryz.prog GT (ovD ro) ro 50 (q_token_behindSpaces A50)) (h51 : FnOK sy Tryz.prog GT (ovD ro) ro 51 (q_char_IsQuote A51)) (h52 : FnOK sy Tryz.prog GT (ovD ro) ro 52 (q_token_readString A52)) (h53 : FnOK sy Tryz.prog GT (ovD ro) ro 53 (q_token_nameGoesOn A53)) (h54 : FnOK sy Tryz.prog GT (ovD ro) ro 54 (q_token_nameStarts A54)) (h55 : FnOK sy Tryz.prog GT (ovD ro) ro 55 (q_token_readName A55)) (h56 : FnOK sy Tryz.prog GT (ovD ro) ro 56 (q_token_numberStarts A56)) (h57 : FnOK sy Tryz.prog GT (ovD ro) ro 57 (q_readNumericA A57)) (h47 : FnOK sy Tryz.prog GT (ovD ro) ro 47 (q_strings_HasPrefix A47)) (h58 : FnOK sy Tryz.prog GT (ovD ro) ro 58 (q_token_readNamed A58)) (h59 : FnOK sy Tryz.prog GT (ovD ro) ro 59 (q_token_isMark A59)) (o0 : Nat → Prop) : CalOK sy Tryz.prog GT (ovD ro) o0 ro (C_readTokenA A49 A50 A51 A52 A53 A54 A55 A56 A57 A47 A58 A59) := (tab_cons (con_ok h49) (tab_cons (con_ok h50) (tab_cons (con_ok h51) (tab_cons (con_ok h52) (tab_cons (con_ok h53) (tab_cons (con_ok h54) (tab_cons (con_ok h55) (tab_cons (con_ok h56) (tab_cons (con_ok h57) (tab_cons (con_ok h47) (tab_cons (con_ok h58) (tab_cons (con_ok h59) tab_nil)))))))))))) o0

theorem raw_readTokenA (A49 : T_char_IsSpace) (A50 : T_token_behindSpaces) (A51 : T_char_IsQuote) (A52 : T_token_readString) (A53 : T_token_nameGoesOn) (A54 : T_token_nameStarts) (A55 : T_token_readName) (A56 : T_token_numberStarts) (A57 : T_readNumericA) (A47 : T_strings_HasPrefix) (A58 : T_token_readNamed) (A59 : T_token_isMark) (a0 : List UInt8) (a1 : Int) (k : W → Prop) : fnT sy Tryz.prog GT (C_readTokenA A49 A50 A51 A52 A53 A54 A55 A56 A57 A47 A58 A59) noL Tryz.f34.ntmps (bodyOf Tryz.f34) [none, none] Tryz.f34.results.toList [.s a0, .i .i64 a1] k = F_readTokenA A49 A50 A51 A52 A53 A54 A55 A56 A57 A47 A58 A59 a0 a1 (fun r0 r1 => k (.t [.a [.i .u8 r0.kind, .s r0.text, .i .i64 r0.num, .s r0.unit, .b r0.flag], .i .i64 r1])) := by kernel_rfl

theorem ok_readTokenA (A49 : T_char_IsSpace) (A50 : T_token_behindSpaces) (A51 : T_char_IsQuote) (A52 : T_token_readString) (A53 : T_token_nameGoesOn) (A54 : T_token_nameStarts) (A55 : T_token_readName) (A56 : T_token_numberStarts) (A57 : T_readNumericA) (A47 : T_strings_HasPrefix) (A58 : T_token_readNamed) (A59 : T_token_isMark) (h49 : FnOK sy Tryz.prog GT (ovD ro) ro 49 (q_char_IsSpace A49)) (h50 : FnOK sy Tryz.prog GT (ovD ro) ro 50 (q_token_behindSpaces A50)) (h51 : FnOK sy Tryz.prog GT (ovD ro) ro 51 (q_char_IsQuote A51)) (h52 : FnOK sy Tryz.prog GT (ovD ro) ro 52 (q_token_readString A52)) (h53 : FnOK sy Tryz.prog GT (ovD ro) ro 53 (q_token_nameGoesOn A53)) (h54 : FnOK sy Tryz.prog GT (ovD ro) ro 54 (q_token_nameStarts A54)) (h55 : FnOK sy Tryz.prog GT (ovD ro) ro 55 (q_token_readName A55)) (h56 : FnOK sy Tryz.prog GT (ovD ro) ro 56 (q_token_numberStarts A56)) (h57 : FnOK sy Tryz.prog GT (ovD ro) ro 57 (q_readNumericA A57)) (h47 : FnOK sy Tryz.prog GT (ovD ro) ro 47 (q_strings_HasPrefix A47)) (h58 : FnOK sy Tryz.prog GT (ovD ro) ro 58 (q_token_readNamed A58)) (h59 : FnOK sy Tryz.prog GT (ovD ro) ro 59 (q_token_isMark A59)) : FnOK sy Tryz.prog GT (ovD ro) ro 34 (q_readTokenA (F_readTokenA A49 A50 A51 A52 A53 A54 A55 A56 A57 A47 A58 A59)) := (fn_ok (rc := [none, none]) (f := 34) (fn := Tryz.f34) (c := bodyOf Tryz.f34) (nt := Tryz.f34.ntmps) (res := Tryz.f34.results.toList) (C := C_readTokenA A49 A50 A51 A52 A53 A54 A55 A56 A57 A47 A58 A59) (L := noL) (fun _ _ => rfl) Tryz.func34 (by kernel_rfl) rfl rfl (Cok_readTokenA A49 A50 A51 A52 A53 A54 A55 A56 A57 A47 A58 A59 h49 h50 h51 h52 h53 h54 h55 h56 h57 h47 h58 h59) (lp_of (l := []) (by kernel_rfl) lp_nil)).weak (by
  intro us k h
  unfold q_readTokenA at h
  split at h
  · skip
    rename_i a0 a1
    rw [raw_readTokenA A49 A50 A51 A52 A53 A54 A55 A56 A57 A47 A58 A59 a0 a1 k]
    exact h
  · exact h.elim)

def C_token_Tokens_1A : CallT sg := tab []
theorem Cok_token_Tokens_1A (o0 : Nat → Prop) : CalOK sy Tryz.prog GT (ovD ro) o0 ro (C_token_Tokens_1A) := tab_nil o0

def F_token_eachToken_tA_l6 (A32 : T_input_Clean) (A33 : T_behindCommentsA) (A34 : T_readTokenA) : Nat → List UInt8 → Int → Int → List Tok → (List Tok → Prop) → (Int → List Tok → Prop) → Prop
  | 0, _, _, _, _, _, _ => False
  | n + 1, x5, x7, x8, b1, Ke, Kr => (((decide (x8 < (x5.length : Int))) = true → (((decide (x7 = (1500 : Int))) = true → Kr (4 : Int) b1) ∧ ((decide (x7 = (1500 : Int))) = false → (A34 x5 x8 (fun y1 y2 => ((b1.length + [(Tok.mk y1.kind y1.text y1.num y1.unit y1.flag)].length) * 56 ≤ 1099511627776 ∧ (I64 (x7 + (1 : Int)) ∧ (A33 x5 y2 (fun y3 => F_token_eachToken_tA_l6 A32 A33 A34 n x5 (x7 + (1 : Int)) y3 (b1 ++ [(Tok.mk y1.kind y1.text y1.num y1.unit y1.flag)]) Ke Kr))))))))) ∧ ((decide (x8 < (x5.length : Int))) = false → Ke b1))

def C_token_eachToken_tA (A32 : T_input_Clean) (A33 : T_behindCommentsA) (A34 : T_readTokenA) : CallT sg := tab [(32, con [none] (q_input_Clean A32)), (33, con [none, none] (q_behindCommentsA A33)), (34, con [none, none] (q_readTokenA A34)), (25, inl sy Tryz.prog GT (C_token_Tokens_1A) noL 1000 Tryz.f25.ntmps (bodyOf Tryz.f25) Tryz.f25.results.toList)]
theorem Cok_token_eachToken_tA (A32 : T_input_Clean) (A33 : T_behindCommentsA) (A34 : T_readTokenA) (h32 : FnOK sy Tryz.prog GT (ovD ro) ro 32 (q_input_Clean A32)) (h33 : FnOK sy Tryz.prog GT (ovD ro) ro 33 (q_behindCommentsA A33)) (h34 : FnOK sy Tryz.prog GT (ovD ro) ro 34 (q_readTokenA A34)) (o0 : Nat → Prop) : CalOK sy Tryz.prog GT (ovD ro) o0 ro (C_token_eachToken_tA A32 A33 A34) := (tab_cons (con_ok h32) (tab_cons (con_ok h33) (tab_cons (con_ok h34) (tab_cons (inl_ok (f := 25) (fn := Tryz.f25) (fun _ _ => rfl) Tryz.func25 (by kernel_rfl) rfl rfl (Cok_token_Tokens_1A) (lp_of (l := []) (by kernel_rfl) lp_nil)) tab_nil)))) o0

def ls_token_eachToken_tA_6 : LS sy ((Unit × Unit) × (List UInt8) × Int × Int × Unit) ((Unit × Unit) × List (sg.Den Cd.tok) × Unit) := ⟨[.cell 0 0 1 Cd.tok], fCons 1 (vFn 25 (lCons (vLit sy (.p 0 0)) (lNil sy))) (fCons 5 (vStr sy) (fCons 7 (vInt sy .i64) (fCons 8 (vInt sy .i64) (fNil sy)))), hCells 0 (lCons (vLit sy (.o 1)) (lNil sy)) (hBuf 1 Cd.tok (hNil sy)), 2, [1]⟩
def le_token_eachToken_tA_6 : LS sy Unit ((Unit × Unit) × List (sg.Den Cd.tok) × Unit) := ⟨[], fNil sy, hCells 0 (lCons (vLit sy (.o 1)) (lNil sy)) (hBuf 1 Cd.tok (hNil sy)), 2, [1]⟩
def lr_token_eachToken_tA_6 : LS sy (Int × Unit) ((Unit × Unit) × List (sg.Den Cd.tok) × Unit) := ⟨[], fCons 4 (vInt sy .i64) (fNil sy), hCells 0 (lCons (vLit sy (.o 1)) (lNil sy)) (hBuf 1 Cd.tok (hNil sy)), 2, [1]⟩
def FF_token_eachToken_tA_6 (A32 : T_input_Clean) (A33 : T_behindCommentsA) (A34 : T_readTokenA) (n : Nat) (x : ((Unit × Unit) × (List UInt8) × Int × Int × Unit) × ((Unit × Unit) × List (sg.Den Cd.tok) × Unit)) (K : Ex → Z sg → Prop) : Prop := F_token_eachToken_tA_l6 A32 A33 A34 n x.1.2.1 x.1.2.2.1 x.1.2.2.2.1 x.2.2.1 (fun y0 => K (.exit 0) (le_token_eachToken_tA_6.put ((), (((), ()), y0, ())))) (fun y0 y1 => K .ret (lr_token_eachToken_tA_6.put ((y0, ()), (((), ()), y1, ()))))
def h_token_eachToken_tA_6 (A32 : T_input_Clean) (A33 : T_behindCommentsA) (A34 : T_readTokenA) (z : Z sg) (K : Ex → Z sg → Prop) : Prop := ls_token_eachToken_tA_6.get z (fun x => ∃ n, FF_token_eachToken_tA_6 A32 A33 A34 n x K)
def L_token_eachToken_tA (A32 : T_input_Clean) (A33 : T_behindCommentsA) (A34 : T_readTokenA) : LoopT sg := tabL [(6, h_token_eachToken_tA_6 A32 A33 A34)]
theorem hs_token_eachToken_tA_6 (A32 : T_input_Clean) (A33 : T_behindCommentsA) (A34 : T_readTokenA) (n : Nat) (x : ((Unit × Unit) × (List UInt8) × Int × Int × Unit) × ((Unit × Unit) × List (sg.Den Cd.tok) × Unit)) (K : Ex → Z sg → Prop) : forceZ (ls_token_eachToken_tA_6.put x) (fun z => sC sy Tryz.prog GT (C_token_eachToken_tA A32 A33 A34) (L_token_eachToken_tA A32 A33 A34) Tryz.f24.ntmps (nthLoop (bodyOf Tryz.f24) 0) z (rnd ls_token_eachToken_tA_6 (czT 0 le_token_eachToken_tA_6 lr_token_eachToken_tA_6) (fun x => FF_token_eachToken_tA_6 A32 A33 A34 n x K) K)) = FF_token_eachToken_tA_6 A32 A33 A34 (n + 1) x K := by kernel_rfl
theorem hl_token_eachToken_tA_6 (A32 : T_input_Clean) (A33 : T_behindCommentsA) (A34 : T_readTokenA) (z : Z sg) (K : Ex → Z sg → Prop) : (L_token_eachToken_tA A32 A33 A34) (nthLoop (bodyOf Tryz.f24) 0) z K = ls_token_eachToken_tA_6.get z (fun x => ∃ n, FF_token_eachToken_tA_6 A32 A33 A34 n x K) := by kernel_rfl
theorem lo_token_eachToken_tA_6 (A32 : T_input_Clean) (A33 : T_behindCommentsA) (A34 : T_readTokenA) (h32 : FnOK sy Tryz.prog GT (ovD ro) ro 32 (q_input_Clean A32)) (h33 : FnOK sy Tryz.prog GT (ovD ro) ro 33 (q_behindCommentsA A33)) (h34 : FnOK sy Tryz.prog GT (ovD ro) ro 34 (q_readTokenA A34)) : ∀ (o0 : Nat → Prop) (B : Bs sg), B.E.length ≤ 1 → ∀ z K, (L_token_eachToken_tA A32 A33 A34) (nthLoop (bodyOf Tryz.f24) 0) z K → Sx.Sem sy Tryz.prog GT (ovD ro) o0 ro Tryz.f24.ntmps B (.loop (nthLoop (bodyOf Tryz.f24) 0)) z K :=
  loop_ok (Cok_token_eachToken_tA A32 A33 A34 h32 h33 h34) (lp_of (l := []) (by kernel_rfl) lp_nil) ls_token_eachToken_tA_6 (by decide) (czT 0 le_token_eachToken_tA_6 lr_token_eachToken_tA_6) (fun _ _ hB => czT_ok 0 le_token_eachToken_tA_6 lr_token_eachToken_tA_6 (Nat.le_trans hB (by decide)) (Nat.le_trans hB (by decide))) (fun _ _ h => h) (hs_token_eachToken_tA_6 A32 A33 A34) (hl_token_eachToken_tA_6 A32 A33 A34)
theorem Lp_token_eachToken_tA (A32 : T_input_Clean) (A33 : T_behindCommentsA) (A34 : T_readTokenA) (h32 : FnOK sy Tryz.prog GT (ovD ro) ro 32 (q_input_Clean A32)) (h33 : FnOK sy Tryz.prog GT (ovD ro) ro 33 (q_behindCommentsA A33)) (h34 : FnOK sy Tryz.prog GT (ovD ro) ro 34 (q_readTokenA A34)) : LpOK sy Tryz.prog GT (ovD ro) ro (L_token_eachToken_tA A32 A33 A34) 1 Tryz.f24.ntmps (bodyOf Tryz.f24) := lp_of (l := [(nthLoop (bodyOf Tryz.f24) 0)]) (by kernel_rfl) (lp_cons (lo_token_eachToken_tA_6 A32 A33 A34 h32 h33 h34) lp_nil)


abbrev T_TokensA := List UInt8 → (List Tok → Int → Prop) → Prop
def q_TokensA (A : T_TokensA) (us : List W) (k : W → Prop) : Prop := match us with
  | [.s a0] => A a0 (fun r0 r1 => k (.t [.l Cd.tok r0, .i .i64 r1]))
  | _ => False
theorem q_TokensA_weak {A A2 : T_TokensA} (h : FnOK sy Tryz.prog GT (ovD ro) ro 17 (q_TokensA A)) (hA : ∀ a0 K, A2 a0 K → A a0 K) : FnOK sy Tryz.prog GT (ovD ro) ro 17 (q_TokensA A2) := h.weak (by
  intro us k h
  unfold q_TokensA at h ⊢
  split at h
  · exact hA _ _ h
  · exact h.elim)

def F_TokensA (A32 : T_input_Clean) (A33 : T_behindCommentsA) (A34 : T_readTokenA) (a0 : List UInt8) (K : List Tok → Int → Prop) : Prop :=
  (A32 a0 (fun y1 y2 => (((decide (y2 ≠ (0 : Int))) = true → (((decide (y2 ≠ (0 : Int))) = true → K ([] : List Tok) y2) ∧ ((decide (y2 ≠ (0 : Int))) = false → K ([] : List Tok) (0 : Int)))) ∧ ((decide (y2 ≠ (0 : Int))) = false → (A33 y1 (0 : Int) (fun y3 => (∃ m, F_token_eachToken_tA_l6 A32 A33 A34 m y1 (0 : Int) y3 ([] : List Tok) (fun y4 => (((decide ((0 : Int) ≠ (0 : Int))) = true → K ([] : List Tok) (0 : Int)) ∧ ((decide ((0 : Int) ≠ (0 : Int))) = false → K y4 (0 : Int)))) (fun y5 y6 => (((decide (y5 ≠ (0 : Int))) = true → K ([] : List Tok) y5) ∧ ((decide (y5 ≠ (0 : Int))) = false → K y6 (0 : Int)))))))))))

def C_TokensA (A32 : T_input_Clean) (A33 : T_behindCommentsA) (A34 : T_readTokenA) : CallT sg := tab [(24, inl sy Tryz.prog GT (C_token_eachToken_tA A32 A33 A34) (L_token_eachToken_tA A32 A33 A34) 1 Tryz.f24.ntmps (bodyOf Tryz.f24) Tryz.f24.results.toList), (25, inl sy Tryz.prog GT (C_token_Tokens_1A) noL 1000 Tryz.f25.ntmps (bodyOf Tryz.f25) Tryz.f25.results.toList)]
theorem Cok_TokensA (A32 : T_input_Clean) (A33 : T_behindCommentsA) (A34 : T_readTokenA) (h32 : FnOK sy Tryz.prog GT (ovD ro) ro 32 (q_input_Clean A32)) (h33 : FnOK sy Tryz.prog GT (ovD ro) ro 33 (q_behindCommentsA A33)) (h34 : FnOK sy Tryz.prog GT (ovD ro) ro 34 (q_readTokenA A34)) (o0 : Nat → Prop) : CalOK sy Tryz.prog GT (ovD ro) o0 ro (C_TokensA A32 A33 A34) := (tab_cons (inl_ok (f := 24) (fn := Tryz.f24) (fun _ _ => rfl) Tryz.func24 (by kernel_rfl) rfl rfl (Cok_token_eachToken_tA A32 A33 A34 h32 h33 h34) (Lp_token_eachToken_tA A32 A33 A34 h32 h33 h34)) (tab_cons (inl_ok (f := 25) (fn := Tryz.f25) (fun _ _ => rfl) Tryz.func25 (by kernel_rfl) rfl rfl (Cok_token_Tokens_1A) (lp_of (l := []) (by kernel_rfl) lp_nil)) tab_nil)) o0

theorem raw_TokensA (A32 : T_input_Clean) (A33 : T_behindCommentsA) (A34 : T_readTokenA) (a0 : List UInt8) (k : W → Prop) : fnT sy Tryz.prog GT (C_TokensA A32 A33 A34) noL Tryz.f17.ntmps (bodyOf Tryz.f17) [some Cd.tok, none] Tryz.f17.results.toList [.s a0] k = F_TokensA A32 A33 A34 a0 (fun r0 r1 => k (.t [.l Cd.tok r0, .i .i64 r1])) := by kernel_rfl

theorem ok_TokensA (A32 : T_input_Clean) (A33 : T_behindCommentsA) (A34 : T_readTokenA) (h32 : FnOK sy Tryz.prog GT (ovD ro) ro 32 (q_input_Clean A32)) (h33 : FnOK sy Tryz.prog GT (ovD ro) ro 33 (q_behindCommentsA A33)) (h34 : FnOK sy Tryz.prog GT (ovD ro) ro 34 (q_readTokenA A34)) : FnOK sy Tryz.prog GT (ovD ro) ro 17 (q_TokensA (F_TokensA A32 A33 A34)) := (fn_ok (rc := [some Cd.tok, none]) (f := 17) (fn := Tryz.f17) (c := bodyOf Tryz.f17) (nt := Tryz.f17.ntmps) (res := Tryz.f17.results.toList) (C := C_TokensA A32 A33 A34) (L := noL) (fun _ _ => rfl) Tryz.func17 (by kernel_rfl) rfl rfl (Cok_TokensA A32 A33 A34 h32 h33 h34) (lp_of (l := []) (by kernel_rfl) lp_nil)).weak (by
  intro us k h
  unfold q_TokensA at h
  split at h
  · skip
    rename_i a0
    rw [raw_TokensA A32 A33 A34 a0 k]
    exact h
  · exact h.elim)

end Go.Proofs.YtbpbaicbaehhjaaGreatDoor
