/-
  Functions of the tokenizer, followed: tokens of all kinds, all tokens. Nothing is claimed here.
-/
import Derived.Test.YtcjoehlflbegpaaDoorTg
namespace Go.Proofs.YtcjoehlflbegpaaDoor
open Go.Vm Go.Sx Go.RowKit

abbrev T_stringslite_Index := List UInt8 → List UInt8 → (Int → Prop) → Prop
def q_stringslite_Index (A : T_stringslite_Index) (us : List W) (k : W → Prop) : Prop := match us with
  | [.s a0, .s a1] => A a0 a1 (fun r0 => k (.i .i64 r0))
  | _ => False
theorem q_stringslite_Index_weak {A A2 : T_stringslite_Index} (h : FnOK sy Tryd.prog GT ovD GL 80 (q_stringslite_Index A)) (hA : ∀ a0 a1 K, A2 a0 a1 K → A a0 a1 K) : FnOK sy Tryd.prog GT ovD GL 80 (q_stringslite_Index A2) := h.weak (by
  intro us k h
  unfold q_stringslite_Index at h ⊢
  split at h
  · exact hA _ _ _ h
  · exact h.elim)

abbrev T_strings_Index := List UInt8 → List UInt8 → (Int → Prop) → Prop
def q_strings_Index (A : T_strings_Index) (us : List W) (k : W → Prop) : Prop := match us with
  | [.s a0, .s a1] => A a0 a1 (fun r0 => k (.i .i64 r0))
  | _ => False
theorem q_strings_Index_weak {A A2 : T_strings_Index} (h : FnOK sy Tryd.prog GT ovD GL 61 (q_strings_Index A)) (hA : ∀ a0 a1 K, A2 a0 a1 K → A a0 a1 K) : FnOK sy Tryd.prog GT ovD GL 61 (q_strings_Index A2) := h.weak (by
  intro us k h
  unfold q_strings_Index at h ⊢
  split at h
  · exact hA _ _ _ h
  · exact h.elim)

def F_strings_Index (A80 : T_stringslite_Index) (a0 : List UInt8) (a1 : List UInt8) (K : Int → Prop) : Prop :=
  (A80 a0 a1 (fun y1 => K y1))

def C_strings_Index (A80 : T_stringslite_Index) : CallT sg := tab [(80, con [none, none] (q_stringslite_Index A80))]
theorem Cok_strings_Index (A80 : T_stringslite_Index) (h80 : FnOK sy Tryd.prog GT ovD GL 80 (q_stringslite_Index A80)) (o0 : Nat → Prop) : CalOK sy Tryd.prog GT ovD o0 GL (C_strings_Index A80) := (tab_cons (con_ok h80) tab_nil) o0

theorem raw_strings_Index (A80 : T_stringslite_Index) (a0 : List UInt8) (a1 : List UInt8) (k : W → Prop) : fnT sy Tryd.prog GT (C_strings_Index A80) noL Tryd.f61.ntmps (bodyOf Tryd.f61) [none] Tryd.f61.results.toList [.s a0, .s a1] k = F_strings_Index A80 a0 a1 (fun r0 => k (.i .i64 r0)) := by kernel_rfl

theorem ok_strings_Index (A80 : T_stringslite_Index) (h80 : FnOK sy Tryd.prog GT ovD GL 80 (q_stringslite_Index A80)) : FnOK sy Tryd.prog GT ovD GL 61 (q_strings_Index (F_strings_Index A80)) := (fn_ok (rc := [none]) (f := 61) (fn := Tryd.f61) (c := bodyOf Tryd.f61) (nt := Tryd.f61.ntmps) (res := Tryd.f61.results.toList) (C := C_strings_Index A80) (L := noL) (fun _ => rfl) Tryd.func61 (by kernel_rfl) rfl rfl (Cok_strings_Index A80 h80) (lp_of (l := []) (by kernel_rfl) lp_nil)).weak (by
  intro us k h
  unfold q_strings_Index at h
  split at h
  · skip
    rename_i a0 a1
    rw [raw_strings_Index A80 a0 a1 k]
    exact h
  · exact h.elim)

abbrev T_token_isMark := Int → (Bool → Prop) → Prop
def q_token_isMark (A : T_token_isMark) (us : List W) (k : W → Prop) : Prop := match us with
  | [.i .u8 a0] => A a0 (fun r0 => k (.b r0))
  | _ => False
theorem q_token_isMark_weak {A A2 : T_token_isMark} (h : FnOK sy Tryd.prog GT ovD GL 68 (q_token_isMark A)) (hA : ∀ a0 K, A2 a0 K → A a0 K) : FnOK sy Tryd.prog GT ovD GL 68 (q_token_isMark A2) := h.weak (by
  intro us k h
  unfold q_token_isMark at h ⊢
  split at h
  · exact hA _ _ h
  · exact h.elim)

def F_token_isMark (a0 : Int) (K : Bool → Prop) : Prop :=
  (I64 a0 ∧ (((decide (a0 < (126 : Int))) = true → ((0 ≤ a0 ∧ a0 < (126 : Int)) ∧ (0 + a0.toNat * 1 < marksL.length ∧ K (decide ((marksL.getD (0 + a0.toNat * 1) 0) ≠ (0 : Int)))))) ∧ ((decide (a0 < (126 : Int))) = false → K false)))

def C_token_isMark : CallT sg := tab []
theorem Cok_token_isMark (o0 : Nat → Prop) : CalOK sy Tryd.prog GT ovD o0 GL (C_token_isMark) := tab_nil o0

theorem raw_token_isMark (a0 : Int) (k : W → Prop) : fnT sy Tryd.prog GT (C_token_isMark) noL Tryd.f68.ntmps (bodyOf Tryd.f68) [none] Tryd.f68.results.toList [.i .u8 a0] k = F_token_isMark a0 (fun r0 => k (.b r0)) := by kernel_rfl

theorem ok_token_isMark : FnOK sy Tryd.prog GT ovD GL 68 (q_token_isMark (F_token_isMark)) := (fn_ok (rc := [none]) (f := 68) (fn := Tryd.f68) (c := bodyOf Tryd.f68) (nt := Tryd.f68.ntmps) (res := Tryd.f68.results.toList) (C := C_token_isMark) (L := noL) (fun _ => rfl) Tryd.func68 (by kernel_rfl) rfl rfl (Cok_token_isMark) (lp_of (l := []) (by kernel_rfl) lp_nil)).weak (by
  intro us k h
  unfold q_token_isMark at h
  split at h
  · skip
    rename_i a0
    rw [raw_token_isMark a0 k]
    exact h
  · exact h.elim)

abbrev T_readNumericA := List UInt8 → Int → (Tok → Int → Prop) → Prop
def q_readNumericA (A : T_readNumericA) (us : List W) (k : W → Prop) : Prop := match us with
  | [.s a0, .i .i64 a1] => A a0 a1 (fun r0 r1 => k (.t [.a [.i .u8 r0.kind, .s r0.text, .i .i64 r0.num, .s r0.unit, .b r0.flag], .i .i64 r1]))
  | _ => False
theorem q_readNumericA_weak {A A2 : T_readNumericA} (h : FnOK sy Tryd.prog GT ovD GL 66 (q_readNumericA A)) (hA : ∀ a0 a1 K, A2 a0 a1 K → A a0 a1 K) : FnOK sy Tryd.prog GT ovD GL 66 (q_readNumericA A2) := h.weak (by
  intro us k h
  unfold q_readNumericA at h ⊢
  split at h
  · exact hA _ _ _ h
  · exact h.elim)

def F_readNumericA (A27 : T_token_readNumber) (A28 : T_token_nameStarts) (A29 : T_token_readName) (A40 : T_token_byteAt) (a0 : List UInt8) (a1 : Int) (K : Tok → Int → Prop) : Prop :=
  (A27 a0 a1 (fun y1 y2 y3 => (A28 a0 y3 (fun y4 => ((y4 = true → (A29 a0 y3 (fun y5 y6 => K (Tok.mk (12 : Int) ([] : List UInt8) y1 y5 y2) y6))) ∧ (y4 = false → (A40 a0 y3 (fun y7 => (((decide (y7 = (37 : Int))) = true → (I64 (y3 + (1 : Int)) ∧ K (Tok.mk (11 : Int) ([] : List UInt8) y1 ([] : List UInt8) false) (y3 + (1 : Int)))) ∧ ((decide (y7 = (37 : Int))) = false → K (Tok.mk (10 : Int) ([] : List UInt8) y1 ([] : List UInt8) y2) y3))))))))))

def C_readNumericA (A27 : T_token_readNumber) (A28 : T_token_nameStarts) (A29 : T_token_readName) (A40 : T_token_byteAt) : CallT sg := tab [(27, con [none, none] (q_token_readNumber A27)), (28, con [none, none] (q_token_nameStarts A28)), (29, con [none, none] (q_token_readName A29)), (40, con [none, none] (q_token_byteAt A40))]
theorem Cok_readNumericA (A27 : T_token_readNumber) (A28 : T_token_nameStarts) (A29 : T_token_readName) (A40 : T_token_byteAt) (h27 : FnOK sy Tryd.prog GT ovD GL 27 (q_token_readNumber A27)) (h28 : FnOK sy Tryd.prog GT ovD GL 28 (q_token_nameStarts A28)) (h29 : FnOK sy Tryd.prog GT ovD GL 29 (q_token_readName A29)) (h40 : FnOK sy Tryd.prog GT ovD GL 40 (q_token_byteAt A40)) (o0 : Nat → Prop) : CalOK sy Tryd.prog GT ovD o0 GL (C_readNumericA A27 A28 A29 A40) := (tab_cons (con_ok h27) (tab_cons (con_ok h28) (tab_cons (con_ok h29) (tab_cons (con_ok h40) tab_nil)))) o0

theorem raw_readNumericA (A27 : T_token_readNumber) (A28 : T_token_nameStarts) (A29 : T_token_readName) (A40 : T_token_byteAt) (a0 : List UInt8) (a1 : Int) (k : W → Prop) : fnT sy Tryd.prog GT (C_readNumericA A27 A28 A29 A40) noL Tryd.f66.ntmps (bodyOf Tryd.f66) [none, none] Tryd.f66.results.toList [.s a0, .i .i64 a1] k = F_readNumericA A27 A28 A29 A40 a0 a1 (fun r0 r1 => k (.t [.a [.i .u8 r0.kind, .s r0.text, .i .i64 r0.num, .s r0.unit, .b r0.flag], .i .i64 r1])) := by kernel_rfl

theorem ok_readNumericA (A27 : T_token_readNumber) (A28 : T_token_nameStarts) (A29 : T_token_readName) (A40 : T_token_byteAt) (h27 : FnOK sy Tryd.prog GT ovD GL 27 (q_token_readNumber A27)) (h28 : FnOK sy Tryd.prog GT ovD GL 28 (q_token_nameStarts A28)) (h29 : FnOK sy Tryd.prog GT ovD GL 29 (q_token_readName A29)) (h40 : FnOK sy Tryd.prog GT ovD GL 40 (q_token_byteAt A40)) : FnOK sy Tryd.prog GT ovD GL 66 (q_readNumericA (F_readNumericA A27 A28 A29 A40)) := (fn_ok (rc := [none, none]) (f := 66) (fn := Tryd.f66) (c := bodyOf Tryd.f66) (nt := Tryd.f66.ntmps) (res := Tryd.f66.results.toList) (C := C_readNumericA A27 A28 A29 A40) (L := noL) (fun _ => rfl) Tryd.func66 (by kernel_rfl) rfl rfl (Cok_readNumericA A27 A28 A29 A40 h27 h28 h29 h40) (lp_of (l := []) (by kernel_rfl) lp_nil)).weak (by
  intro us k h
  unfold q_readNumericA at h
  split at h
  · skip
    rename_i a0 a1
    rw [raw_readNumericA A27 A28 A29 A40 a0 a1 k]
    exact h
  · exact h.elim)

abbrev T_behindCommentsA := List UInt8 → Int → (Int → Prop) → Prop
def q_behindCommentsA (A : T_behindCommentsA) (us : List W) (k : W → Prop) : Prop := match us with
  | [.s a0, .i .i64 a1] => A a0 a1 (fun r0 => k (.i .i64 r0))
  | _ => False
theorem q_behindCommentsA_weak {A A2 : T_behindCommentsA} (h : FnOK sy Tryd.prog GT ovD GL 37 (q_behindCommentsA A)) (hA : ∀ a0 a1 K, A2 a0 a1 K → A a0 a1 K) : FnOK sy Tryd.prog GT ovD GL 37 (q_behindCommentsA A2) := h.weak (by
  intro us k h
  unfold q_behindCommentsA at h ⊢
  split at h
  · exact hA _ _ _ h
  · exact h.elim)

def F_behindCommentsA_l1 (A60 : T_strings_HasPrefix) (A61 : T_strings_Index) : Nat → List UInt8 → Int → (Int → Prop) → (Int → Prop) → Prop
  | 0, _, _, _, _ => False
  | n + 1, x0, x1, Ke, Kr => ((0 ≤ x1 ∧ x1 ≤ (x0.length : Int)) ∧ (A60 (x0.drop x1.toNat) ([47, 42] : List UInt8) (fun y1 => ((y1 = true → (I64 (x1 + (2 : Int)) ∧ ((0 ≤ (x1 + (2 : Int)) ∧ (x1 + (2 : Int)) ≤ (x0.length : Int)) ∧ (A61 (x0.drop (x1 + (2 : Int)).toNat) ([42, 47] : List UInt8) (fun y2 => (((decide (y2 < (0 : Int))) = true → Kr (x0.length : Int)) ∧ ((decide (y2 < (0 : Int))) = false → (I64 (y2 + (2 : Int)) ∧ (I64 ((x1 + (2 : Int)) + (y2 + (2 : Int))) ∧ F_behindCommentsA_l1 A60 A61 n x0 ((x1 + (2 : Int)) + (y2 + (2 : Int))) Ke Kr))))))))) ∧ (y1 = false → Ke x1)))))

def F_behindCommentsA (A60 : T_strings_HasPrefix) (A61 : T_strings_Index) (a0 : List UInt8) (a1 : Int) (K : Int → Prop) : Prop :=
  (∃ m, F_behindCommentsA_l1 A60 A61 m a0 a1 (fun y1 => K y1) (fun y2 => K y2))

def C_behindCommentsA (A60 : T_strings_HasPrefix) (A61 : T_strings_Index) : CallT sg := tab [(60, con [none, none] (q_strings_HasPrefix A60)), (61, con [none, none] (q_strings_Index A61))]
theorem Cok_behindCommentsA (A60 : T_strings_HasPrefix) (A61 : T_strings_Index) (h60 : FnOK sy Tryd.prog GT ovD GL 60 (q_strings_HasPrefix A60)) (h61 : FnOK sy Tryd.prog GT ovD GL 61 (q_strings_Index A61)) (o0 : Nat → Prop) : CalOK sy Tryd.prog GT ovD o0 GL (C_behindCommentsA A60 A61) := (tab_cons (con_ok h60) (tab_cons (con_ok h61) tab_nil)) o0

def ls_behindCommentsA_1 : LS sy ((List UInt8) × Int × Unit) Unit := ⟨[], fCons 0 (vStr sy) (fCons 1 (vInt sy .i64) (fNil sy)), hNil sy, 0, []⟩
def le_behindCommentsA_1 : LS sy (Int × Unit) Unit := ⟨[], fCons 1 (vInt sy .i64) (fNil sy), hNil sy, 0, []⟩
def lr_behindCommentsA_1 : LS sy (Int × Unit) Unit := ⟨[], fCons 4 (vInt sy .i64) (fNil sy), hNil sy, 0, []⟩
def FF_behindCommentsA_1 (A60 : T_strings_HasPrefix) (A61 : T_strings_Index) (n : Nat) (x : ((List UInt8) × Int × Unit) × Unit) (K : Ex → Z sg → Prop) : Prop := F_behindCommentsA_l1 A60 A61 n x.1.1 x.1.2.1 (fun y0 => K (.exit 0) (le_behindCommentsA_1.put ((y0, ()), ()))) (fun y0 => K .ret (lr_behindCommentsA_1.put ((y0, ()), ())))
def h_behindCommentsA_1 (A60 : T_strings_HasPrefix) (A61 : T_strings_Index) (z : Z sg) (K : Ex → Z sg → Prop) : Prop := ls_behindCommentsA_1.get z (fun x => ∃ n, FF_behindCommentsA_1 A60 A61 n x K)
def L_behindCommentsA (A60 : T_strings_HasPrefix) (A61 : T_strings_Index) : LoopT sg := tabL [(1, h_behindCommentsA_1 A60 A61)]
theorem hs_behindCommentsA_1 (A60 : T_strings_HasPrefix) (A61 : T_strings_Index) (n : Nat) (x : ((List UInt8) × Int × Unit) × Unit) (K : Ex → Z sg → Prop) : forceZ (ls_behindCommentsA_1.put x) (fun z => sC sy Tryd.prog GT (C_behindCommentsA A60 A61) (L_behindCommentsA A60 A61) Tryd.f37.ntmps (nthLoop (bodyOf Tryd.f37) 0) z (rnd ls_behindCommentsA_1 (czT 0 le_behindCommentsA_1 lr_behindCommentsA_1) (fun x => FF_behindCommentsA_1 A60 A61 n x K) K)) = FF_behindCommentsA_1 A60 A61 (n + 1) x K := by kernel_rfl
theorem hl_behindCommentsA_1 (A60 : T_strings_HasPrefix) (A61 : T_strings_Index) (z : Z sg) (K : Ex → Z sg → Prop) : (L_behindCommentsA A60 A61) (nthLoop (bodyOf Tryd.f37) 0) z K = ls_behindCommentsA_1.get z (fun x => ∃ n, FF_behindCommentsA_1 A60 A61 n x K) := by kernel_rfl
theorem lo_behindCommentsA_1 (A60 : T_strings_HasPrefix) (A61 : T_strings_Index) (h60 : FnOK sy Tryd.prog GT ovD GL 60 (q_strings_HasPrefix A60)) (h61 : FnOK sy Tryd.prog GT ovD GL 61 (q_strings_Index A61)) : ∀ (o0 : Nat → Prop) (B : Bs sg), B.E.length ≤ 0 → ∀ z K, (L_behindCommentsA A60 A61) (nthLoop (bodyOf Tryd.f37) 0) z K → Sx.Sem sy Tryd.prog GT ovD o0 GL Tryd.f37.ntmps B (.loop (nthLoop (bodyOf Tryd.f37) 0)) z K :=
  loop_ok (Cok_behindCommentsA A60 A61 h60 h61) (lp_of (l := []) (by kernel_rfl) lp_nil) ls_behindCommentsA_1 (by decide) (czT 0 le_behindCommentsA_1 lr_behindCommentsA_1) (fun _ _ hB => czT_ok 0 le_behindCommentsA_1 lr_behindCommentsA_1 (Nat.le_trans hB (by decide)) (Nat.le_trans hB (by decide))) (fun _ _ h => h) (hs_behindCommentsA_1 A60 A61) (hl_behindCommentsA_1 A60 A61)
theorem Lp_behindCommentsA (A60 : T_strings_HasPrefix) (A61 : T_strings_Index) (h60 : FnOK sy Tryd.prog GT ovD GL 60 (q_strings_HasPrefix A60)) (h61 : FnOK sy Tryd.prog GT ovD GL 61 (q_strings_Index A61)) : LpOK sy Tryd.prog GT ovD GL (L_behindCommentsA A60 A61) 0 Tryd.f37.ntmps (bodyOf Tryd.f37) := lp_of (l := [(nthLoop (bodyOf Tryd.f37) 0)]) (by kernel_rfl) (lp_cons (lo_behindCommentsA_1 A60 A61 h60 h61) lp_nil)


theorem raw_behindCommentsA (A60 : T_strings_HasPrefix) (A61 : T_strings_Index) (a0 : List UInt8) (a1 : Int) (k : W → Prop) : fnT sy Tryd.prog GT (C_behindCommentsA A60 A61) (L_behindCommentsA A60 A61) Tryd.f37.ntmps (bodyOf Tryd.f37) [none] Tryd.f37.results.toList [.s a0, .i .i64 a1] k = F_behindCommentsA A60 A61 a0 a1 (fun r0 => k (.i .i64 r0)) := by kernel_rfl

theorem ok_behindCommentsA (A60 : T_strings_HasPrefix) (A61 : T_strings_Index) (h60 : FnOK sy Tryd.prog GT ovD GL 60 (q_strings_HasPrefix A60)) (h61 : FnOK sy Tryd.prog GT ovD GL 61 (q_strings_Index A61)) : FnOK sy Tryd.prog GT ovD GL 37 (q_behindCommentsA (F_behindCommentsA A60 A61)) := (fn_ok (rc := [none]) (f := 37) (fn := Tryd.f37) (c := bodyOf Tryd.f37) (nt := Tryd.f37.ntmps) (res := Tryd.f37.results.toList) (C := C_behindCommentsA A60 A61) (L := (L_behindCommentsA A60 A61)) (fun _ => rfl) Tryd.func37 (by kernel_rfl) rfl rfl (Cok_behindCommentsA A60 A61 h60 h61) (Lp_behindCommentsA A60 A61 h60 h61)).weak (by
  intro us k h
  unfold q_behindCommentsA at h
  split at h
  · skip
    rename_i a0 a1
    rw [raw_behindCommentsA A60 A61 a0 a1 k]
    exact h
  · exact h.elim)

abbrev T_readTokenA := List UInt8 → Int → (Tok → Int → Prop) → Prop
def q_readTokenA (A : T_readTokenA) (us : List W) (k : W → Prop) : Prop := match us with
  | [.s a0, .i .i64 a1] => A a0 a1 (fun r0 r1 => k (.t [.a [.i .u8 r0.kind, .s r0.text, .i .i64 r0.num, .s r0.unit, .b r0.flag], .i .i64 r1]))
  | _ => False
theorem q_readTokenA_weak {A A2 : T_readTokenA} (h : FnOK sy Tryd.prog GT ovD GL 38 (q_readTokenA A)) (hA : ∀ a0 a1 K, A2 a0 a1 K → A a0 a1 K) : FnOK sy Tryd.prog GT ovD GL 38 (q_readTokenA A2) := h.weak (by
  intro us k h
  unfold q_readTokenA at h ⊢
  split at h
  · exact hA _ _ _ h
  · exact h.elim)

def F_readTokenA (A62 : T_char_IsSpace) (A63 : T_token_behindSpaces) (A64 : T_char_IsQuote) (A65 : T_token_readString) (A51 : T_token_nameGoesOn) (A28 : T_token_nameStarts) (A29 : T_token_readName) (A26 : T_token_numberStarts) (A66 : T_readNumericA) (A60 : T_strings_HasPrefix) (A67 : T_token_readNamed) (A68 : T_token_isMark) (a0 : List UInt8) (a1 : Int) (K : Tok → Int → Prop) : Prop :=
  ((0 ≤ a1 ∧ a1 < (a0.length : Int)) ∧ (A62 ((a0.getD a1.toNat 0).toNat : Int) (fun y1 => ((y1 = true → (A63 a0 a1 (fun y2 => K (Tok.mk (13 : Int) ([] : List UInt8) (0 : Int) ([] : List UInt8) false) y2))) ∧ (y1 = false → ((0 ≤ a1 ∧ a1 < (a0.length : Int)) ∧ (A64 ((a0.getD a1.toNat 0).toNat : Int) (fun y3 => ((y3 = true → (A65 a0 a1 (fun y4 y5 => K (Tok.mk y4.kind y4.text y4.num y4.unit y4.flag) y5))) ∧ (y3 = false → ((0 ≤ a1 ∧ a1 < (a0.length : Int)) ∧ (((decide (((a0.getD a1.toNat 0).toNat : Int) = (35 : Int))) = true → (I64 (a1 + (1 : Int)) ∧ (A51 a0 (a1 + (1 : Int)) (fun y6 => ((y6 = true → (I64 (a1 + (1 : Int)) ∧ (A28 a0 (a1 + (1 : Int)) (fun y7 => (I64 (a1 + (1 : Int)) ∧ (A29 a0 (a1 + (1 : Int)) (fun y8 y9 => K (Tok.mk (4 : Int) y8 (0 : Int) ([] : List UInt8) y7) y9))))))) ∧ (y6 = false → (A26 a0 a1 (fun y10 => ((y10 = true → (A66 a0 a1 (fun y11 y12 => K (Tok.mk y11.kind y11.text y11.num y11.unit y11.flag) y12))) ∧ (y10 = false → ((0 ≤ a1 ∧ a1 ≤ (a0.length : Int)) ∧ (A60 (a0.drop a1.toNat) ([45, 45, 62] : List UInt8) (fun y13 => ((y13 = true → (I64 (a1 + (3 : Int)) ∧ K (Tok.mk (15 : Int) ([] : List UInt8) (0 : Int) ([] : List UInt8) false) (a1 + (3 : Int)))) ∧ (y13 = false → ((0 ≤ a1 ∧ a1 ≤ (a0.length : Int)) ∧ (A60 (a0.drop a1.toNat) ([60, 33, 45, 45] : List UInt8) (fun y14 => ((y14 = true → (I64 (a1 + (4 : Int)) ∧ K (Tok.mk (14 : Int) ([] : List UInt8) (0 : Int) ([] : List UInt8) false) (a1 + (4 : Int)))) ∧ (y14 = false → ((0 ≤ a1 ∧ a1 < (a0.length : Int)) ∧ (((decide (((a0.getD a1.toNat 0).toNat : Int) = (64 : Int))) = true → (I64 (a1 + (1 : Int)) ∧ (A28 a0 (a1 + (1 : Int)) (fun y15 => ((y15 = true → (I64 (a1 + (1 : Int)) ∧ (A29 a0 (a1 + (1 : Int)) (fun y16 y17 => K (Tok.mk (3 : Int) y16 (0 : Int) ([] : List UInt8) false) y17)))) ∧ (y15 = false → (A28 a0 a1 (fun y18 => ((y18 = true → (A67 a0 a1 (fun y19 y20 => K (Tok.mk y19.kind y19.text y19.num y19.unit y19.flag) y20))) ∧ (y18 = false → ((0 ≤ a1 ∧ a1 < (a0.length : Int)) ∧ (A68 ((a0.getD a1.toNat 0).toNat : Int) (fun y21 => ((y21 = true → ((0 ≤ a1 ∧ a1 < (a0.length : Int)) ∧ ((0 ≤ ((a0.getD a1.toNat 0).toNat : Int) ∧ ((a0.getD a1.toNat 0).toNat : Int) < (126 : Int)) ∧ (0 + ((a0.getD a1.toNat 0).toNat : Int).toNat * 1 < marksL.length ∧ (I64 (a1 + (1 : Int)) ∧ K (Tok.mk (marksL.getD (0 + ((a0.getD a1.toNat 0).toNat : Int).toNat * 1) 0) ([] : List UInt8) (0 : Int) ([] : List UInt8) false) (a1 + (1 : Int))))))) ∧ (y21 = false → (I64 (a1 + (1 : Int)) ∧ ((0 ≤ a1 ∧ a1 ≤ (a1 + (1 : Int)) ∧ (a1 + (1 : Int)) ≤ (a0.length : Int)) ∧ (I64 (a1 + (1 : Int)) ∧ K (Tok.mk (9 : Int) ((a0.drop a1.toNat).take ((a1 + (1 : Int)).toNat - a1.toNat)) (0 : Int) ([] : List UInt8) false) (a1 + (1 : Int)))))))))))))))))))) ∧ ((decide (((a0.getD a1.toNat 0).toNat : Int) = (64 : Int))) = false → (A28 a0 a1 (fun y22 => ((y22 = true → (A67 a0 a1 (fun y23 y24 => K (Tok.mk y23.kind y23.text y23.num y23.unit y23.flag) y24))) ∧ (y22 = false → ((0 ≤ a1 ∧ a1 < (a0.length : Int)) ∧ (A68 ((a0.getD a1.toNat 0).toNat : Int) (fun y25 => ((y25 = true → ((0 ≤ a1 ∧ a1 < (a0.length : Int)) ∧ ((0 ≤ ((a0.getD a1.toNat 0).toNat : Int) ∧ ((a0.getD a1.toNat 0).toNat : Int) < (126 : Int)) ∧ (0 + ((a0.getD a1.toNat 0).toNat : Int).toNat * 1 < marksL.length ∧ (I64 (a1 + (1 : Int)) ∧ K (Tok.mk (marksL.getD (0 + ((a0.getD a1.toNat 0).toNat : Int).toNat * 1) 0) ([] : List UInt8) (0 : Int) ([] : List UInt8) false) (a1 + (1 : Int))))))) ∧ (y25 = false → (I64 (a1 + (1 : Int)) ∧ ((0 ≤ a1 ∧ a1 ≤ (a1 + (1 : Int)) ∧ (a1 + (1 : Int)) ≤ (a0.length : Int)) ∧ (I64 (a1 + (1 : Int)) ∧ K (Tok.mk (9 : Int) ((a0.drop a1.toNat).take ((a1 + (1 : Int)).toNat - a1.toNat)) (0 : Int) ([] : List UInt8) false) (a1 + (1 : Int))))))))))))))))))))))))))))))))))))) ∧ ((decide (((a0.getD a1.toNat 0).toNat : Int) = (35 : Int))) = false → (A26 a0 a1 (fun y26 => ((y26 = true → (A66 a0 a1 (fun y27 y28 => K (Tok.mk y27.kind y27.text y27.num y27.unit y27.flag) y28))) ∧ (y26 = false → ((0 ≤ a1 ∧ a1 ≤ (a0.length : Int)) ∧ (A60 (a0.drop a1.toNat) ([45, 45, 62] : List UInt8) (fun y29 => ((y29 = true → (I64 (a1 + (3 : Int)) ∧ K (Tok.mk (15 : Int) ([] : List UInt8) (0 : Int) ([] : List UInt8) false) (a1 + (3 : Int)))) ∧ (y29 = false → ((0 ≤ a1 ∧ a1 ≤ (a0.length : Int)) ∧ (A60 (a0.drop a1.toNat) ([60, 33, 45, 45] : List UInt8) (fun y30 => ((y30 = true → (I64 (a1 + (4 : Int)) ∧ K (Tok.mk (14 : Int) ([] : List UInt8) (0 : Int) ([] : List UInt8) false) (a1 + (4 : Int)))) ∧ (y30 = false → ((0 ≤ a1 ∧ a1 < (a0.length : Int)) ∧ (((decide (((a0.getD a1.toNat 0).toNat : Int) = (64 : Int))) = true → (I64 (a1 + (1 : Int)) ∧ (A28 a0 (a1 + (1 : Int)) (fun y31 => ((y31 = true → (I64 (a1 + (1 : Int)) ∧ (A29 a0 (a1 + (1 : Int)) (fun y32 y33 => K (Tok.mk (3 : Int) y32 (0 : Int) ([] : List UInt8) false) y33)))) ∧ (y31 = false → (A28 a0 a1 (fun y34 => ((y34 = true → (A67 a0 a1 (fun y35 y36 => K (Tok.mk y35.kind y35.text y35.num y35.unit y35.flag) y36))) ∧ (y34 = false → ((0 ≤ a1 ∧ a1 < (a0.length : Int)) ∧ (A68 ((a0.getD a1.toNat 0).toNat : Int) (fun y37 => ((y37 = true → ((0 ≤ a1 ∧ a1 < (a0.length : Int)) ∧ ((0 ≤ ((a0.getD a1.toNat 0).toNat : Int) ∧ ((a0.getD a1.toNat 0).toNat : Int) < (126 : Int)) ∧ (0 + ((a0.getD a1.toNat 0).toNat : Int).toNat * 1 < marksL.length ∧ (I64 (a1 + (1 : Int)) ∧ K (Tok.mk (marksL.getD (0 + ((a0.getD a1.toNat 0).toNat : Int).toNat * 1) 0) ([] : List UInt8) (0 : Int) ([] : List UInt8) false) (a1 + (1 : Int))))))) ∧ (y37 = false → (I64 (a1 + (1 : Int)) ∧ ((0 ≤ a1 ∧ a1 ≤ (a1 + (1 : Int)) ∧ (a1 + (1 : Int)) ≤ (a0.length : Int)) ∧ (I64 (a1 + (1 : Int)) ∧ K (Tok.mk (9 : Int) ((a0.drop a1.toNat).take ((a1 + (1 : Int)).toNat - a1.toNat)) (0 : Int) ([] : List UInt8) false) (a1 + (1 : Int)))))))))))))))))))) ∧ ((decide (((a0.getD a1.toNat 0).toNat : Int) = (64 : Int))) = false → (A28 a0 a1 (fun y38 => ((y38 = true → (A67 a0 a1 (fun y39 y40 => K (Tok.mk y39.kind y39.text y39.num y39.unit y39.flag) y40))) ∧ (y38 = false → ((0 ≤ a1 ∧ a1 < (a0.length : Int)) ∧ (A68 ((a0.getD a1.toNat 0).toNat : Int) (fun y41 => ((y41 = true → ((0 ≤ a1 ∧ a1 < (a0.length : Int)) ∧ ((0 ≤ ((a0.getD a1.toNat 0).toNat : Int) ∧ ((a0.getD a1.toNat 0).toNat : Int) < (126 : Int)) ∧ (0 + ((a0.getD a1.toNat 0).toNat : Int).toNat * 1 < marksL.length ∧ (I64 (a1 + (1 : Int)) ∧ K (Tok.mk (marksL.getD (0 + ((a0.getD a1.toNat 0).toNat : Int).toNat * 1) 0) ([] : List UInt8) (0 : Int) ([] : List UInt8) false) (a1 + (1 : Int))))))) ∧ (y41 = false → (I64 (a1 + (1 : Int)) ∧ ((0 ≤ a1 ∧ a1 ≤ (a1 + (1 : Int)) ∧ (a1 + (1 : Int)) ≤ (a0.length : Int)) ∧ (I64 (a1 + (1 : Int)) ∧ K (Tok.mk (9 : Int) ((a0.drop a1.toNat).take ((a1 + (1 : Int)).toNat - a1.toNat)) (0 : Int) ([] : List UInt8) false) (a1 + (1 : Int))))))))))))))))))))))))))))))))))))))))))))

def C_readTokenA (A62 : T_char_IsSpace) (A63 : T_token_behindSpaces) (A64 : T_char_IsQuote) (A65 : T_token_readString) (A51 : T_token_nameGoesOn) (A28 : T_token_nameStarts) (A29 : T_token_readName) (A26 : T_token_numberStarts) (A66 : T_readNumericA) (A60 : T_strings_HasPrefix) (A67 : T_token_readNamed) (A68 : T_token_isMark) : CallT sg := tab [(62, con [none] (q_char_IsSpace A62)), (63, con [none, none] (q_token_behindSpaces A63)), (64, con [none] (q_char_IsQuote A64)), (65, con [none, none] (q_token_readString A65)), (51, con [none, none] (q_token_nameGoesOn A51)), (28, con [none, none] (q_token_nameStarts A28)), (29, con [none, none] (q_token_readName A29)), (26, con [none, none] (q_token_numberStarts A26)), (66, con [none, none] (q_readNumericA A66)), (60, con [none, none] (q_strings_HasPrefix A60)), (67, con [none, none] (q_token_readNamed A67)), (68, con [none] (q_token_isMark A68))]
theorem Cok_readTokenA (A62 : T_char_IsSpace) (A63 : T_token_behindSpaces) (A64 : T_char_IsQuote) (A65 : T_token_readString) (A51 : T_token_nameGoesOn) (A28 : T_token_nameStarts) (A29 : T_token_readName) (A26 : T_token_numberStarts) (A66 : T_readNumericA) (A60 : T_strings_HasPrefix) (A67 : T_token_readNamed) (A68 : T_token_isMark) (h62 : FnOK sy Tryd.prog GT ovD GL 62 (q_char_IsSpace A62)) (h63 : FnOK sy Tryd.prog GT ovD GL 63 (q_token_behindSpaces A63)) (h64 : FnOK sy Tryd.prog GT ovD GL 64 (q_char_IsQuote A64)) (h65 : FnOK sy Tryd.prog GT ovD GL 65 (q_token_readString A65)) (h51 : FnOK sy Tryd.prog GT ovD GL 51 (q_token_nameGoesOn A51)) (h28 : FnOK sy Tryd.prog GT ovD GL 28 (q_token_nameStarts A28)) (h29 : FnOK sy Tryd.prog GT ovD GL 29 (q_token_readName A29)) (h26 : FnOK sy Tryd.prog GT ovD GL 26 (q_token_numberStarts A26)) (h66 : FnOK sy Tryd.prog GT ovD GL 66 (q_readNumericA A66)) (h60 : FnOK sy Tryd.prog GT ovD GL 60 (q_strings_HasPrefix A60)) (h67 : FnOK sy Tryd.prog GT ovD GL 67 (q_token_readNamed A67)) (h68 : FnOK sy Tryd.prog GT ovD GL 68 (q_token_isMark A68)) (o0 : Nat → Prop) : CalOK sy Tryd.prog GT ovD o0 GL (C_readTokenA A62 A63 A64 A65 A51 A28 A29 A26 A66 A60 A67 A68) := (tab_cons (con_ok h62) (tab_cons (con_ok h63) (tab_cons (con_ok h64) (tab_cons (con_ok h65) (tab_cons (con_ok h51) (tab_cons (con_ok h28) (tab_cons (con_ok h29) (tab_cons (con_ok h26) (tab_cons (con_ok h66) (tab_cons (con_ok h60) (tab_cons (con_ok h67) (tab_cons (con_ok h68) tab_nil)))))))))))) o0

theorem raw_readTokenA (A62 : T_char_IsSpace) (A63 : T_token_behindSpaces) (A64 : T_char_IsQuote) (A65 : T_token_readString) (A51 : T_token_nameGoesOn) (A28 : T_token_nameStarts) (A29 : T_token_readName) (A26 : T_token_numberStarts) (A66 : T_readNumericA) (A60 : T_strings_HasPrefix) (A67 : T_token_readNamed) (A68 : T_token_isMark) (a0 : List UInt8) (a1 : Int) (k : W → Prop) : fnT sy Tryd.prog GT (C_readTokenA A62 A63 A64 A65 A51 A28 A29 A26 A66 A60 A67 A68) noL Tryd.f38.ntmps (bodyOf Tryd.f38) [none, none] Tryd.f38.results.toList [.s a0, .i .i64 a1] k = F_readTokenA A62 A63 A64 A65 A51 A28 A29 A26 A66 A60 A67 A68 a0 a1 (fun r0 r1 => k (.t [.a [.i .u8 r0.kind, .s r0.text, .i .i64 r0.num, .s r0.unit, .b r0.flag], .i .i64 r1])) := by kernel_rfl

theorem ok_readTokenA (A62 : T_char_IsSpace) (A63 : T_token_behindSpaces) (A64 : T_char_IsQuote) (A65 : T_token_readString) (A51 : T_token_nameGoesOn) (A28 : T_token_nameStarts) (A29 : T_token_readName) (A26 : T_token_numberStarts) (A66 : T_readNumericA) (A60 : T_strings_HasPrefix) (A67 : T_token_readNamed) (A68 : T_token_isMark) (h62 : FnOK sy Tryd.prog GT ovD GL 62 (q_char_IsSpace A62)) (h63 : FnOK sy Tryd.prog GT ovD GL 63 (q_token_behindSpaces A63)) (h64 : FnOK sy Tryd.prog GT ovD GL 64 (q_char_IsQuote A64)) (h65 : FnOK sy Tryd.prog GT ovD GL 65 (q_token_readString A65)) (h51 : FnOK sy Tryd.prog GT ovD GL 51 (q_token_nameGoesOn A51)) (h28 : FnOK sy Tryd.prog GT ovD GL 28 (q_token_nameStarts A28)) (h29 : FnOK sy Tryd.prog GT ovD GL 29 (q_token_readName A29)) (h26 : FnOK sy Tryd.prog GT ovD GL 26 (q_token_numberStarts A26)) (h66 : FnOK sy Tryd.prog GT ovD GL 66 (q_readNumericA A66)) (h60 : FnOK sy Tryd.prog GT ovD GL 60 (q_strings_HasPrefix A60)) (h67 : FnOK sy Tryd.prog GT ovD GL 67 (q_token_readNamed A67)) (h68 : FnOK sy Tryd.prog GT ovD GL 68 (q_token_isMark A68)) : FnOK sy Tryd.prog GT ovD GL 38 (q_readTokenA (F_readTokenA A62 A63 A64 A65 A51 A28 A29 A26 A66 A60 A67 A68)) := (fn_ok (rc := [none, none]) (f := 38) (fn := Tryd.f38) (c := bodyOf Tryd.f38) (nt := Tryd.f38.ntmps) (res := Tryd.f38.results.toList) (C := C_readTokenA A62 A63 A64 A65 A51 A28 A29 A26 A66 A60 A67 A68) (L := noL) (fun _ => rfl) Tryd.func38 (by kernel_rfl) rfl rfl (Cok_readTokenA A62 A63 A64 A65 A51 A28 A29 A26 A66 A60 A67 A68 h62 h63 h64 h65 h51 h28 h29 h26 h66 h60 h67 h68) (lp_of (l := []) (by kernel_rfl) lp_nil)).weak (by
  intro us k h
  unfold q_readTokenA at h
  split at h
  · skip
    rename_i a0 a1
    rw [raw_readTokenA A62 A63 A64 A65 A51 A28 A29 A26 A66 A60 A67 A68 a0 a1 k]
    exact h
  · exact h.elim)

def C_token_Tokens_1A : CallT sg := tab []
theorem Cok_token_Tokens_1A (o0 : Nat → Prop) : CalOK sy Tryd.prog GT ovD o0 GL (C_token_Tokens_1A) := tab_nil o0

def F_token_eachToken_tA_l6 (A18 : T_input_Clean) (A37 : T_behindCommentsA) (A38 : T_readTokenA) : Nat → List UInt8 → Int → Int → List Tok → (List Tok → Prop) → (Int → List Tok → Prop) → Prop
  | 0, _, _, _, _, _, _ => False
  | n + 1, x5, x7, x8, b1, Ke, Kr => (((decide (x8 < (x5.length : Int))) = true → (((decide (x7 = (1500 : Int))) = true → Kr (4 : Int) b1) ∧ ((decide (x7 = (1500 : Int))) = false → (A38 x5 x8 (fun y1 y2 => ((b1.length + [(Tok.mk y1.kind y1.text y1.num y1.unit y1.flag)].length) * 56 ≤ 1099511627776 ∧ (I64 (x7 + (1 : Int)) ∧ (A37 x5 y2 (fun y3 => F_token_eachToken_tA_l6 A18 A37 A38 n x5 (x7 + (1 : Int)) y3 (b1 ++ [(Tok.mk y1.kind y1.text y1.num y1.unit y1.flag)]) Ke Kr))))))))) ∧ ((decide (x8 < (x5.length : Int))) = false → Ke b1))

def C_token_eachToken_tA (A18 : T_input_Clean) (A37 : T_behindCommentsA) (A38 : T_readTokenA) : CallT sg := tab [(18, con [none] (q_input_Clean A18)), (37, con [none, none] (q_behindCommentsA A37)), (38, con [none, none] (q_readTokenA A38)), (24, inl sy Tryd.prog GT (C_token_Tokens_1A) noL 1000 Tryd.f24.ntmps (bodyOf Tryd.f24) Tryd.f24.results.toList)]
theorem Cok_token_eachToken_tA (A18 : T_input_Clean) (A37 : T_behindCommentsA) (A38 : T_readTokenA) (h18 : FnOK sy Tryd.prog GT ovD GL 18 (q_input_Clean A18)) (h37 : FnOK sy Tryd.prog GT ovD GL 37 (q_behindCommentsA A37)) (h38 : FnOK sy Tryd.prog GT ovD GL 38 (q_readTokenA A38)) (o0 : Nat → Prop) : CalOK sy Tryd.prog GT ovD o0 GL (C_token_eachToken_tA A18 A37 A38) := (tab_cons (con_ok h18) (tab_cons (con_ok h37) (tab_cons (con_ok h38) (tab_cons (inl_ok (f := 24) (fn := Tryd.f24) (fun _ => rfl) Tryd.func24 (by kernel_rfl) rfl rfl (Cok_token_Tokens_1A) (lp_of (l := []) (by kernel_rfl) lp_nil)) tab_nil)))) o0

def ls_token_eachToken_tA_6 : LS sy ((Unit × Unit) × (List UInt8) × Int × Int × Unit) ((Unit × Unit) × List (sg.Den Cd.tok) × Unit) := ⟨[.cell 0 0 1 Cd.tok], fCons 1 (vFn 24 (lCons (vLit sy (.p 0 0)) (lNil sy))) (fCons 5 (vStr sy) (fCons 7 (vInt sy .i64) (fCons 8 (vInt sy .i64) (fNil sy)))), hCells 0 (lCons (vLit sy (.o 1)) (lNil sy)) (hBuf 1 Cd.tok (hNil sy)), 2, [1]⟩
def le_token_eachToken_tA_6 : LS sy Unit ((Unit × Unit) × List (sg.Den Cd.tok) × Unit) := ⟨[], fNil sy, hCells 0 (lCons (vLit sy (.o 1)) (lNil sy)) (hBuf 1 Cd.tok (hNil sy)), 2, [1]⟩
def lr_token_eachToken_tA_6 : LS sy (Int × Unit) ((Unit × Unit) × List (sg.Den Cd.tok) × Unit) := ⟨[], fCons 4 (vInt sy .i64) (fNil sy), hCells 0 (lCons (vLit sy (.o 1)) (lNil sy)) (hBuf 1 Cd.tok (hNil sy)), 2, [1]⟩
def FF_token_eachToken_tA_6 (A18 : T_input_Clean) (A37 : T_behindCommentsA) (A38 : T_readTokenA) (n : Nat) (x : ((Unit × Unit) × (List UInt8) × Int × Int × Unit) × ((Unit × Unit) × List (sg.Den Cd.tok) × Unit)) (K : Ex → Z sg → Prop) : Prop := F_token_eachToken_tA_l6 A18 A37 A38 n x.1.2.1 x.1.2.2.1 x.1.2.2.2.1 x.2.2.1 (fun y0 => K (.exit 0) (le_token_eachToken_tA_6.put ((), (((), ()), y0, ())))) (fun y0 y1 => K .ret (lr_token_eachToken_tA_6.put ((y0, ()), (((), ()), y1, ()))))
def h_token_eachToken_tA_6 (A18 : T_input_Clean) (A37 : T_behindCommentsA) (A38 : T_readTokenA) (z : Z sg) (K : Ex → Z sg → Prop) : Prop := ls_token_eachToken_tA_6.get z (fun x => ∃ n, FF_token_eachToken_tA_6 A18 A37 A38 n x K)
def L_token_eachToken_tA (A18 : T_input_Clean) (A37 : T_behindCommentsA) (A38 : T_readTokenA) : LoopT sg := tabL [(6, h_token_eachToken_tA_6 A18 A37 A38)]
theorem hs_token_eachToken_tA_6 (A18 : T_input_Clean) (A37 : T_behindCommentsA) (A38 : T_readTokenA) (n : Nat) (x : ((Unit × Unit) × (List UInt8) × Int × Int × Unit) × ((Unit × Unit) × List (sg.Den Cd.tok) × Unit)) (K : Ex → Z sg → Prop) : forceZ (ls_token_eachToken_tA_6.put x) (fun z => sC sy Tryd.prog GT (C_token_eachToken_tA A18 A37 A38) (L_token_eachToken_tA A18 A37 A38) Tryd.f23.ntmps (nthLoop (bodyOf Tryd.f23) 0) z (rnd ls_token_eachToken_tA_6 (czT 0 le_token_eachToken_tA_6 lr_token_eachToken_tA_6) (fun x => FF_token_eachToken_tA_6 A18 A37 A38 n x K) K)) = FF_token_eachToken_tA_6 A18 A37 A38 (n + 1) x K := by kernel_rfl
theorem hl_token_eachToken_tA_6 (A18 : T_input_Clean) (A37 : T_behindCommentsA) (A38 : T_readTokenA) (z : Z sg) (K : Ex → Z sg → Prop) : (L_token_eachToken_tA A18 A37 A38) (nthLoop (bodyOf Tryd.f23) 0) z K = ls_token_eachToken_tA_6.get z (fun x => ∃ n, FF_token_eachToken_tA_6 A18 A37 A38 n x K) := by kernel_rfl
theorem lo_token_eachToken_tA_6 (A18 : T_input_Clean) (A37 : T_behindCommentsA) (A38 : T_readTokenA) (h18 : FnOK sy Tryd.prog GT ovD GL 18 (q_input_Clean A18)) (h37 : FnOK sy Tryd.prog GT ovD GL 37 (q_behindCommentsA A37)) (h38 : FnOK sy Tryd.prog GT ovD GL 38 (q_readTokenA A38)) : ∀ (o0 : Nat → Prop) (B : Bs sg), B.E.length ≤ 1 → ∀ z K, (L_token_eachToken_tA A18 A37 A38) (nthLoop (bodyOf Tryd.f23) 0) z K → Sx.Sem sy Tryd.prog GT ovD o0 GL Tryd.f23.ntmps B (.loop (nthLoop (bodyOf Tryd.f23) 0)) z K :=
  loop_ok (Cok_token_eachToken_tA A18 A37 A38 h18 h37 h38) (lp_of (l := []) (by kernel_rfl) lp_nil) ls_token_eachToken_tA_6 (by decide) (czT 0 le_token_eachToken_tA_6 lr_token_eachToken_tA_6) (fun _ _ hB => czT_ok 0 le_token_eachToken_tA_6 lr_token_eachToken_tA_6 (Nat.le_trans hB (by decide)) (Nat.le_trans hB (by decide))) (fun _ _ h => h) (hs_token_eachToken_tA_6 A18 A37 A38) (hl_token_eachToken_tA_6 A18 A37 A38)
theorem Lp_token_eachToken_tA (A18 : T_input_Clean) (A37 : T_behindCommentsA) (A38 : T_readTokenA) (h18 : FnOK sy Tryd.prog GT ovD GL 18 (q_input_Clean A18)) (h37 : FnOK sy Tryd.prog GT ovD GL 37 (q_behindCommentsA A37)) (h38 : FnOK sy Tryd.prog GT ovD GL 38 (q_readTokenA A38)) : LpOK sy Tryd.prog GT ovD GL (L_token_eachToken_tA A18 A37 A38) 1 Tryd.f23.ntmps (bodyOf Tryd.f23) := lp_of (l := [(nthLoop (bodyOf Tryd.f23) 0)]) (by kernel_rfl) (lp_cons (lo_token_eachToken_tA_6 A18 A37 A38 h18 h37 h38) lp_nil)


abbrev T_TokensA := List UInt8 → (List Tok → Int → Prop) → Prop
def q_TokensA (A : T_TokensA) (us : List W) (k : W → Prop) : Prop := match us with
  | [.s a0] => A a0 (fun r0 r1 => k (.t [.l Cd.tok r0, .i .i64 r1]))
  | _ => False
theorem q_TokensA_weak {A A2 : T_TokensA} (h : FnOK sy Tryd.prog GT ovD GL 9 (q_TokensA A)) (hA : ∀ a0 K, A2 a0 K → A a0 K) : FnOK sy Tryd.prog GT ovD GL 9 (q_TokensA A2) := h.weak (by
  intro us k h
  unfold q_TokensA at h ⊢
  split at h
  · exact hA _ _ h
  · exact h.elim)

def F_TokensA (A18 : T_input_Clean) (A37 : T_behindCommentsA) (A38 : T_readTokenA) (a0 : List UInt8) (K : List Tok → Int → Prop) : Prop :=
  (A18 a0 (fun y1 y2 => (((decide (y2 ≠ (0 : Int))) = true → (((decide (y2 ≠ (0 : Int))) = true → K ([] : List Tok) y2) ∧ ((decide (y2 ≠ (0 : Int))) = false → K ([] : List Tok) (0 : Int)))) ∧ ((decide (y2 ≠ (0 : Int))) = false → (A37 y1 (0 : Int) (fun y3 => (∃ m, F_token_eachToken_tA_l6 A18 A37 A38 m y1 (0 : Int) y3 ([] : List Tok) (fun y4 => (((decide ((0 : Int) ≠ (0 : Int))) = true → K ([] : List Tok) (0 : Int)) ∧ ((decide ((0 : Int) ≠ (0 : Int))) = false → K y4 (0 : Int)))) (fun y5 y6 => (((decide (y5 ≠ (0 : Int))) = true → K ([] : List Tok) y5) ∧ ((decide (y5 ≠ (0 : Int))) = false → K y6 (0 : Int)))))))))))

def C_TokensA (A18 : T_input_Clean) (A37 : T_behindCommentsA) (A38 : T_readTokenA) : CallT sg := tab [(23, inl sy Tryd.prog GT (C_token_eachToken_tA A18 A37 A38) (L_token_eachToken_tA A18 A37 A38) 1 Tryd.f23.ntmps (bodyOf Tryd.f23) Tryd.f23.results.toList), (24, inl sy Tryd.prog GT (C_token_Tokens_1A) noL 1000 Tryd.f24.ntmps (bodyOf Tryd.f24) Tryd.f24.results.toList)]
theorem Cok_TokensA (A18 : T_input_Clean) (A37 : T_behindCommentsA) (A38 : T_readTokenA) (h18 : FnOK sy Tryd.prog GT ovD GL 18 (q_input_Clean A18)) (h37 : FnOK sy Tryd.prog GT ovD GL 37 (q_behindCommentsA A37)) (h38 : FnOK sy Tryd.prog GT ovD GL 38 (q_readTokenA A38)) (o0 : Nat → Prop) : CalOK sy Tryd.prog GT ovD o0 GL (C_TokensA A18 A37 A38) := (tab_cons (inl_ok (f := 23) (fn := Tryd.f23) (fun _ => rfl) Tryd.func23 (by kernel_rfl) rfl rfl (Cok_token_eachToken_tA A18 A37 A38 h18 h37 h38) (Lp_token_eachToken_tA A18 A37 A38 h18 h37 h38)) (tab_cons (inl_ok (f := 24) (fn := Tryd.f24) (fun _ => rfl) Tryd.func24 (by kernel_rfl) rfl rfl (Cok_token_Tokens_1A) (lp_of (l := []) (by kernel_rfl) lp_nil)) tab_nil)) o0

theorem raw_TokensA (A18 : T_input_Clean) (A37 : T_behindCommentsA) (A38 : T_readTokenA) (a0 : List UInt8) (k : W → Prop) : fnT sy Tryd.prog GT (C_TokensA A18 A37 A38) noL Tryd.f9.ntmps (bodyOf Tryd.f9) [some Cd.tok, none] Tryd.f9.results.toList [.s a0] k = F_TokensA A18 A37 A38 a0 (fun r0 r1 => k (.t [.l Cd.tok r0, .i .i64 r1])) := by kernel_rfl

theorem ok_TokensA (A18 : T_input_Clean) (A37 : T_behindCommentsA) (A38 : T_readTokenA) (h18 : FnOK sy Tryd.prog GT ovD GL 18 (q_input_Clean A18)) (h37 : FnOK sy Tryd.prog GT ovD GL 37 (q_behindCommentsA A37)) (h38 : FnOK sy Tryd.prog GT ovD GL 38 (q_readTokenA A38)) : FnOK sy Tryd.prog GT ovD GL 9 (q_TokensA (F_TokensA A18 A37 A38)) := (fn_ok (rc := [some Cd.tok, none]) (f := 9) (fn := Tryd.f9) (c := bodyOf Tryd.f9) (nt := Tryd.f9.ntmps) (res := Tryd.f9.results.toList) (C := C_TokensA A18 A37 A38) (L := noL) (fun _ => rfl) Tryd.func9 (by kernel_rfl) rfl rfl (Cok_TokensA A18 A37 A38 h18 h37 h38) (lp_of (l := []) (by kernel_rfl) lp_nil)).weak (by
  intro us k h
  unfold q_TokensA at h
  split at h
  · skip
    rename_i a0
    rw [raw_TokensA A18 A37 A38 a0 k]
    exact h
  · exact h.elim)

def C_token_Spans_1A : CallT sg := tab []
theorem Cok_token_Spans_1A (o0 : Nat → Prop) : CalOK sy Tryd.prog GT ovD o0 GL (C_token_Spans_1A) := tab_nil o0

def F_token_eachToken_sA_l6 (A18 : T_input_Clean) (A37 : T_behindCommentsA) (A38 : T_readTokenA) : Nat → List UInt8 → Int → Int → List (Int × Int) → (List (Int × Int) → Prop) → (Int → List (Int × Int) → Prop) → Prop
  | 0, _, _, _, _, _, _ => False
  | n + 1, x5, x7, x8, b1, Ke, Kr => (((decide (x8 < (x5.length : Int))) = true → (((decide (x7 = (1500 : Int))) = true → Kr (4 : Int) b1) ∧ ((decide (x7 = (1500 : Int))) = false → (A38 x5 x8 (fun y1 y2 => ((b1.length + [(x8, y2)].length) * 16 ≤ 1099511627776 ∧ (I64 (x7 + (1 : Int)) ∧ (A37 x5 y2 (fun y3 => F_token_eachToken_sA_l6 A18 A37 A38 n x5 (x7 + (1 : Int)) y3 (b1 ++ [(x8, y2)]) Ke Kr))))))))) ∧ ((decide (x8 < (x5.length : Int))) = false → Ke b1))

def C_token_eachToken_sA (A18 : T_input_Clean) (A37 : T_behindCommentsA) (A38 : T_readTokenA) : CallT sg := tab [(18, con [none] (q_input_Clean A18)), (37, con [none, none] (q_behindCommentsA A37)), (38, con [none, none] (q_readTokenA A38)), (25, inl sy Tryd.prog GT (C_token_Spans_1A) noL 1000 Tryd.f25.ntmps (bodyOf Tryd.f25) Tryd.f25.results.toList)]
theorem Cok_token_eachToken_sA (A18 : T_input_Clean) (A37 : T_behindCommentsA) (A38 : T_readTokenA) (h18 : FnOK sy Tryd.prog GT ovD GL 18 (q_input_Clean A18)) (h37 : FnOK sy Tryd.prog GT ovD GL 37 (q_behindCommentsA A37)) (h38 : FnOK sy Tryd.prog GT ovD GL 38 (q_readTokenA A38)) (o0 : Nat → Prop) : CalOK sy Tryd.prog GT ovD o0 GL (C_token_eachToken_sA A18 A37 A38) := (tab_cons (con_ok h18) (tab_cons (con_ok h37) (tab_cons (con_ok h38) (tab_cons (inl_ok (f := 25) (fn := Tryd.f25) (fun _ => rfl) Tryd.func25 (by kernel_rfl) rfl rfl (Cok_token_Spans_1A) (lp_of (l := []) (by kernel_rfl) lp_nil)) tab_nil)))) o0

def ls_token_eachToken_sA_6 : LS sy ((Unit × Unit) × (List UInt8) × Int × Int × Unit) ((Unit × Unit) × List (sg.Den Cd.span) × Unit) := ⟨[.cell 0 0 1 Cd.span], fCons 1 (vFn 25 (lCons (vLit sy (.p 0 0)) (lNil sy))) (fCons 5 (vStr sy) (fCons 7 (vInt sy .i64) (fCons 8 (vInt sy .i64) (fNil sy)))), hCells 0 (lCons (vLit sy (.o 1)) (lNil sy)) (hBuf 1 Cd.span (hNil sy)), 2, [1]⟩
def le_token_eachToken_sA_6 : LS sy Unit ((Unit × Unit) × List (sg.Den Cd.span) × Unit) := ⟨[], fNil sy, hCells 0 (lCons (vLit sy (.o 1)) (lNil sy)) (hBuf 1 Cd.span (hNil sy)), 2, [1]⟩
def lr_token_eachToken_sA_6 : LS sy (Int × Unit) ((Unit × Unit) × List (sg.Den Cd.span) × Unit) := ⟨[], fCons 4 (vInt sy .i64) (fNil sy), hCells 0 (lCons (vLit sy (.o 1)) (lNil sy)) (hBuf 1 Cd.span (hNil sy)), 2, [1]⟩
def FF_token_eachToken_sA_6 (A18 : T_input_Clean) (A37 : T_behindCommentsA) (A38 : T_readTokenA) (n : Nat) (x : ((Unit × Unit) × (List UInt8) × Int × Int × Unit) × ((Unit × Unit) × List (sg.Den Cd.span) × Unit)) (K : Ex → Z sg → Prop) : Prop := F_token_eachToken_sA_l6 A18 A37 A38 n x.1.2.1 x.1.2.2.1 x.1.2.2.2.1 x.2.2.1 (fun y0 => K (.exit 0) (le_token_eachToken_sA_6.put ((), (((), ()), y0, ())))) (fun y0 y1 => K .ret (lr_token_eachToken_sA_6.put ((y0, ()), (((), ()), y1, ()))))
def h_token_eachToken_sA_6 (A18 : T_input_Clean) (A37 : T_behindCommentsA) (A38 : T_readTokenA) (z : Z sg) (K : Ex → Z sg → Prop) : Prop := ls_token_eachToken_sA_6.get z (fun x => ∃ n, FF_token_eachToken_sA_6 A18 A37 A38 n x K)
def L_token_eachToken_sA (A18 : T_input_Clean) (A37 : T_behindCommentsA) (A38 : T_readTokenA) : LoopT sg := tabL [(6, h_token_eachToken_sA_6 A18 A37 A38)]
theorem hs_token_eachToken_sA_6 (A18 : T_input_Clean) (A37 : T_behindCommentsA) (A38 : T_readTokenA) (n : Nat) (x : ((Unit × Unit) × (List UInt8) × Int × Int × Unit) × ((Unit × Unit) × List (sg.Den Cd.span) × Unit)) (K : Ex → Z sg → Prop) : forceZ (ls_token_eachToken_sA_6.put x) (fun z => sC sy Tryd.prog GT (C_token_eachToken_sA A18 A37 A38) (L_token_eachToken_sA A18 A37 A38) Tryd.f23.ntmps (nthLoop (bodyOf Tryd.f23) 0) z (rnd ls_token_eachToken_sA_6 (czT 0 le_token_eachToken_sA_6 lr_token_eachToken_sA_6) (fun x => FF_token_eachToken_sA_6 A18 A37 A38 n x K) K)) = FF_token_eachToken_sA_6 A18 A37 A38 (n + 1) x K := by kernel_rfl
theorem hl_token_eachToken_sA_6 (A18 : T_input_Clean) (A37 : T_behindCommentsA) (A38 : T_readTokenA) (z : Z sg) (K : Ex → Z sg → Prop) : (L_token_eachToken_sA A18 A37 A38) (nthLoop (bodyOf Tryd.f23) 0) z K = ls_token_eachToken_sA_6.get z (fun x => ∃ n, FF_token_eachToken_sA_6 A18 A37 A38 n x K) := by kernel_rfl
theorem lo_token_eachToken_sA_6 (A18 : T_input_Clean) (A37 : T_behindCommentsA) (A38 : T_readTokenA) (h18 : FnOK sy Tryd.prog GT ovD GL 18 (q_input_Clean A18)) (h37 : FnOK sy Tryd.prog GT ovD GL 37 (q_behindCommentsA A37)) (h38 : FnOK sy Tryd.prog GT ovD GL 38 (q_readTokenA A38)) : ∀ (o0 : Nat → Prop) (B : Bs sg), B.E.length ≤ 1 → ∀ z K, (L_token_eachToken_sA A18 A37 A38) (nthLoop (bodyOf Tryd.f23) 0) z K → Sx.Sem sy Tryd.prog GT ovD o0 GL Tryd.f23.ntmps B (.loop (nthLoop (bodyOf Tryd.f23) 0)) z K :=
  loop_ok (Cok_token_eachToken_sA A18 A37 A38 h18 h37 h38) (lp_of (l := []) (by kernel_rfl) lp_nil) ls_token_eachToken_sA_6 (by decide) (czT 0 le_token_eachToken_sA_6 lr_token_eachToken_sA_6) (fun _ _ hB => czT_ok 0 le_token_eachToken_sA_6 lr_token_eachToken_sA_6 (Nat.le_trans hB (by decide)) (Nat.le_trans hB (by decide))) (fun _ _ h => h) (hs_token_eachToken_sA_6 A18 A37 A38) (hl_token_eachToken_sA_6 A18 A37 A38)
theorem Lp_token_eachToken_sA (A18 : T_input_Clean) (A37 : T_behindCommentsA) (A38 : T_readTokenA) (h18 : FnOK sy Tryd.prog GT ovD GL 18 (q_input_Clean A18)) (h37 : FnOK sy Tryd.prog GT ovD GL 37 (q_behindCommentsA A37)) (h38 : FnOK sy Tryd.prog GT ovD GL 38 (q_readTokenA A38)) : LpOK sy Tryd.prog GT ovD GL (L_token_eachToken_sA A18 A37 A38) 1 Tryd.f23.ntmps (bodyOf Tryd.f23) := lp_of (l := [(nthLoop (bodyOf Tryd.f23) 0)]) (by kernel_rfl) (lp_cons (lo_token_eachToken_sA_6 A18 A37 A38 h18 h37 h38) lp_nil)


abbrev T_SpansA := List UInt8 → (List (Int × Int) → Int → Prop) → Prop
def q_SpansA (A : T_SpansA) (us : List W) (k : W → Prop) : Prop := match us with
  | [.s a0] => A a0 (fun r0 r1 => k (.t [.l Cd.span r0, .i .i64 r1]))
  | _ => False
theorem q_SpansA_weak {A A2 : T_SpansA} (h : FnOK sy Tryd.prog GT ovD GL 10 (q_SpansA A)) (hA : ∀ a0 K, A2 a0 K → A a0 K) : FnOK sy Tryd.prog GT ovD GL 10 (q_SpansA A2) := h.weak (by
  intro us k h
  unfold q_SpansA at h ⊢
  split at h
  · exact hA _ _ h
  · exact h.elim)

def F_SpansA (A18 : T_input_Clean) (A37 : T_behindCommentsA) (A38 : T_readTokenA) (a0 : List UInt8) (K : List (Int × Int) → Int → Prop) : Prop :=
  (A18 a0 (fun y1 y2 => (((decide (y2 ≠ (0 : Int))) = true → (((decide (y2 ≠ (0 : Int))) = true → K ([] : List (Int × Int)) y2) ∧ ((decide (y2 ≠ (0 : Int))) = false → K ([] : List (Int × Int)) (0 : Int)))) ∧ ((decide (y2 ≠ (0 : Int))) = false → (A37 y1 (0 : Int) (fun y3 => (∃ m, F_token_eachToken_sA_l6 A18 A37 A38 m y1 (0 : Int) y3 ([] : List (Int × Int)) (fun y4 => (((decide ((0 : Int) ≠ (0 : Int))) = true → K ([] : List (Int × Int)) (0 : Int)) ∧ ((decide ((0 : Int) ≠ (0 : Int))) = false → K y4 (0 : Int)))) (fun y5 y6 => (((decide (y5 ≠ (0 : Int))) = true → K ([] : List (Int × Int)) y5) ∧ ((decide (y5 ≠ (0 : Int))) = false → K y6 (0 : Int)))))))))))

def C_SpansA (A18 : T_input_Clean) (A37 : T_behindCommentsA) (A38 : T_readTokenA) : CallT sg := tab [(23, inl sy Tryd.prog GT (C_token_eachToken_sA A18 A37 A38) (L_token_eachToken_sA A18 A37 A38) 1 Tryd.f23.ntmps (bodyOf Tryd.f23) Tryd.f23.results.toList), (25, inl sy Tryd.prog GT (C_token_Spans_1A) noL 1000 Tryd.f25.ntmps (bodyOf Tryd.f25) Tryd.f25.results.toList)]
theorem Cok_SpansA (A18 : T_input_Clean) (A37 : T_behindCommentsA) (A38 : T_readTokenA) (h18 : FnOK sy Tryd.prog GT ovD GL 18 (q_input_Clean A18)) (h37 : FnOK sy Tryd.prog GT ovD GL 37 (q_behindCommentsA A37)) (h38 : FnOK sy Tryd.prog GT ovD GL 38 (q_readTokenA A38)) (o0 : Nat → Prop) : CalOK sy Tryd.prog GT ovD o0 GL (C_SpansA A18 A37 A38) := (tab_cons (inl_ok (f := 23) (fn := Tryd.f23) (fun _ => rfl) Tryd.func23 (by kernel_rfl) rfl rfl (Cok_token_eachToken_sA A18 A37 A38 h18 h37 h38) (Lp_token_eachToken_sA A18 A37 A38 h18 h37 h38)) (tab_cons (inl_ok (f := 25) (fn := Tryd.f25) (fun _ => rfl) Tryd.func25 (by kernel_rfl) rfl rfl (Cok_token_Spans_1A) (lp_of (l := []) (by kernel_rfl) lp_nil)) tab_nil)) o0

theorem raw_SpansA (A18 : T_input_Clean) (A37 : T_behindCommentsA) (A38 : T_readTokenA) (a0 : List UInt8) (k : W → Prop) : fnT sy Tryd.prog GT (C_SpansA A18 A37 A38) noL Tryd.f10.ntmps (bodyOf Tryd.f10) [some Cd.span, none] Tryd.f10.results.toList [.s a0] k = F_SpansA A18 A37 A38 a0 (fun r0 r1 => k (.t [.l Cd.span r0, .i .i64 r1])) := by kernel_rfl

theorem ok_SpansA (A18 : T_input_Clean) (A37 : T_behindCommentsA) (A38 : T_readTokenA) (h18 : FnOK sy Tryd.prog GT ovD GL 18 (q_input_Clean A18)) (h37 : FnOK sy Tryd.prog GT ovD GL 37 (q_behindCommentsA A37)) (h38 : FnOK sy Tryd.prog GT ovD GL 38 (q_readTokenA A38)) : FnOK sy Tryd.prog GT ovD GL 10 (q_SpansA (F_SpansA A18 A37 A38)) := (fn_ok (rc := [some Cd.span, none]) (f := 10) (fn := Tryd.f10) (c := bodyOf Tryd.f10) (nt := Tryd.f10.ntmps) (res := Tryd.f10.results.toList) (C := C_SpansA A18 A37 A38) (L := noL) (fun _ => rfl) Tryd.func10 (by kernel_rfl) rfl rfl (Cok_SpansA A18 A37 A38 h18 h37 h38) (lp_of (l := []) (by kernel_rfl) lp_nil)).weak (by
  intro us k h
  unfold q_SpansA at h
  split at h
  · skip
    rename_i a0
    rw [raw_SpansA A18 A37 A38 a0 k]
    exact h
  · exact h.elim)

abbrev T_token_Name := List UInt8 → (List UInt8 → Int → Prop) → Prop
def q_token_Name (A : T_token_Name) (us : List W) (k : W → Prop) : Prop := match us with
  | [.s a0] => A a0 (fun r0 r1 => k (.t [.s r0, .i .i64 r1]))
  | _ => False
theorem q_token_Name_weak {A A2 : T_token_Name} (h : FnOK sy Tryd.prog GT ovD GL 12 (q_token_Name A)) (hA : ∀ a0 K, A2 a0 K → A a0 K) : FnOK sy Tryd.prog GT ovD GL 12 (q_token_Name A2) := h.weak (by
  intro us k h
  unfold q_token_Name at h ⊢
  split at h
  · exact hA _ _ h
  · exact h.elim)

def F_token_Name (A28 : T_token_nameStarts) (A29 : T_token_readName) (a0 : List UInt8) (K : List UInt8 → Int → Prop) : Prop :=
  (((decide ((4000 : Int) < (a0.length : Int))) = true → K ([] : List UInt8) (28 : Int)) ∧ ((decide ((4000 : Int) < (a0.length : Int))) = false → (A28 a0 (0 : Int) (fun y1 => (((!y1) = true → K ([] : List UInt8) (12 : Int)) ∧ ((!y1) = false → (A29 a0 (0 : Int) (fun y2 y3 => (((decide (y3 ≠ (a0.length : Int))) = true → K ([] : List UInt8) (12 : Int)) ∧ ((decide (y3 ≠ (a0.length : Int))) = false → K y2 (0 : Int)))))))))))

def C_token_Name (A28 : T_token_nameStarts) (A29 : T_token_readName) : CallT sg := tab [(28, con [none, none] (q_token_nameStarts A28)), (29, con [none, none] (q_token_readName A29))]
theorem Cok_token_Name (A28 : T_token_nameStarts) (A29 : T_token_readName) (h28 : FnOK sy Tryd.prog GT ovD GL 28 (q_token_nameStarts A28)) (h29 : FnOK sy Tryd.prog GT ovD GL 29 (q_token_readName A29)) (o0 : Nat → Prop) : CalOK sy Tryd.prog GT ovD o0 GL (C_token_Name A28 A29) := (tab_cons (con_ok h28) (tab_cons (con_ok h29) tab_nil)) o0

theorem raw_token_Name (A28 : T_token_nameStarts) (A29 : T_token_readName) (a0 : List UInt8) (k : W → Prop) : fnT sy Tryd.prog GT (C_token_Name A28 A29) noL Tryd.f12.ntmps (bodyOf Tryd.f12) [none, none] Tryd.f12.results.toList [.s a0] k = F_token_Name A28 A29 a0 (fun r0 r1 => k (.t [.s r0, .i .i64 r1])) := by kernel_rfl

theorem ok_token_Name (A28 : T_token_nameStarts) (A29 : T_token_readName) (h28 : FnOK sy Tryd.prog GT ovD GL 28 (q_token_nameStarts A28)) (h29 : FnOK sy Tryd.prog GT ovD GL 29 (q_token_readName A29)) : FnOK sy Tryd.prog GT ovD GL 12 (q_token_Name (F_token_Name A28 A29)) := (fn_ok (rc := [none, none]) (f := 12) (fn := Tryd.f12) (c := bodyOf Tryd.f12) (nt := Tryd.f12.ntmps) (res := Tryd.f12.results.toList) (C := C_token_Name A28 A29) (L := noL) (fun _ => rfl) Tryd.func12 (by kernel_rfl) rfl rfl (Cok_token_Name A28 A29 h28 h29) (lp_of (l := []) (by kernel_rfl) lp_nil)).weak (by
  intro us k h
  unfold q_token_Name at h
  split at h
  · skip
    rename_i a0
    rw [raw_token_Name A28 A29 a0 k]
    exact h
  · exact h.elim)

end Go.Proofs.YtcjoehlflbegpaaDoor
