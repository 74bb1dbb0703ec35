/-
  Functions of the tokenizer, followed: tokens of all kinds, all tokens. Nothing is claimed here.
-/
import Derived.Test.YthjnfeihngjchaaDoorTg
namespace Go.Proofs.YthjnfeihngjchaaDoor
open Go.Vm Go.Sx Go.RowKit

abbrev T_stringslite_Index := List UInt8 → List UInt8 → (Int → Prop) → Prop
def q_stringslite_Index (A : T_stringslite_Index) (us : List W) (k : W → Prop) : Prop := match us with
  | [.s a0, .s a1] => A a0 a1 (fun r0 => k (.i .i64 r0))
  | _ => False
theorem q_stringslite_Index_weak {A A2 : T_stringslite_Index} (h : FnOK sy Tryd.prog GT ovD GL 30 (q_stringslite_Index A)) (hA : ∀ a0 a1 K, A2 a0 a1 K → A a0 a1 K) : FnOK sy Tryd.prog GT ovD GL 30 (q_stringslite_Index A2) := h.weak (by
  intro us k h
  unfold q_stringslite_Index at h ⊢
  split at h
  · exact hA _ _ _ h
  · exact h.elim)

abbrev T_strings_Index := List UInt8 → List UInt8 → (Int → Prop) → Prop
def q_strings_Index (A : T_strings_Index) (us : List W) (k : W → Prop) : Prop := match us with
  | [.s a0, .s a1] => A a0 a1 (fun r0 => k (.i .i64 r0))
  | _ => False
theorem q_strings_Index_weak {A A2 : T_strings_Index} (h : FnOK sy Tryd.prog GT ovD GL 17 (q_strings_Index A)) (hA : ∀ a0 a1 K, A2 a0 a1 K → A a0 a1 K) : FnOK sy Tryd.prog GT ovD GL 17 (q_strings_Index A2) := h.weak (by
  intro us k h
  unfold q_strings_Index at h ⊢
  split at h
  · exact hA _ _ _ h
  · exact h.elim)

def F_strings_Index (A30 : T_stringslite_Index) (a0 : List UInt8) (a1 : List UInt8) (K : Int → Prop) : Prop :=
  (A30 a0 a1 (fun y1 => K y1))

def C_strings_Index (A30 : T_stringslite_Index) : CallT sg := tab [(30, con [none, none] (q_stringslite_Index A30))]
theorem Cok_strings_Index (A30 : T_stringslite_Index) (h30 : FnOK sy Tryd.prog GT ovD GL 30 (q_stringslite_Index A30)) (o0 : Nat → Prop) : CalOK sy Tryd.prog GT ovD o0 GL (C_strings_Index A30) := (tab_cons (con_ok h30) tab_nil) o0

theorem raw_strings_Index (A30 : T_stringslite_Index) (a0 : List UInt8) (a1 : List UInt8) (k : W → Prop) : fnT sy Tryd.prog GT (C_strings_Index A30) noL Tryd.f17.ntmps (bodyOf Tryd.f17) [none] Tryd.f17.results.toList [.s a0, .s a1] k = F_strings_Index A30 a0 a1 (fun r0 => k (.i .i64 r0)) := by kernel_rfl

theorem ok_strings_Index (A30 : T_stringslite_Index) (h30 : FnOK sy Tryd.prog GT ovD GL 30 (q_stringslite_Index A30)) : FnOK sy Tryd.prog GT ovD GL 17 (q_strings_Index (F_strings_Index A30)) := (fn_ok (rc := [none]) (f := 17) (fn := Tryd.f17) (c := bodyOf Tryd.f17) (nt := Tryd.f17.ntmps) (res := Tryd.f17.results.toList) (C := C_strings_Index A30) (L := noL) (fun _ _ => rfl) Tryd.func17 (by kernel_rfl) rfl rfl (Cok_strings_Index A30 h30) (lp_of (l := []) (by kernel_rfl) lp_nil)).weak (by
  intro us k h
  unfold q_strings_Index at h
  split at h
  · skip
    rename_i a0 a1
    rw [raw_strings_Index A30 a0 a1 k]
    exact h
  · exact h.elim)

abbrev T_token_isMark := Int → (Bool → Prop) → Prop
def q_token_isMark (A : T_token_isMark) (us : List W) (k : W → Prop) : Prop := match us with
  | [.i .u8 a0] => A a0 (fun r0 => k (.b r0))
  | _ => False
theorem q_token_isMark_weak {A A2 : T_token_isMark} (h : FnOK sy Tryd.prog GT ovD GL 28 (q_token_isMark A)) (hA : ∀ a0 K, A2 a0 K → A a0 K) : FnOK sy Tryd.prog GT ovD GL 28 (q_token_isMark A2) := h.weak (by
  intro us k h
  unfold q_token_isMark at h ⊢
  split at h
  · exact hA _ _ h
  · exact h.elim)

def F_token_isMark (a0 : Int) (K : Bool → Prop) : Prop :=
  (I64 a0 ∧ (((decide (a0 < (126 : Int))) = true → ((0 ≤ a0 ∧ a0 < (126 : Int)) ∧ (0 + a0.toNat * 1 < marksL.length ∧ K (decide ((marksL.getD (0 + a0.toNat * 1) 0) ≠ (0 : Int)))))) ∧ ((decide (a0 < (126 : Int))) = false → K false)))

def C_token_isMark : CallT sg := tab []
theorem Cok_token_isMark (o0 : Nat → Prop) : CalOK sy Tryd.prog GT ovD o0 GL (C_token_isMark) := tab_nil o0

theorem raw_token_isMark (a0 : Int) (k : W → Prop) : fnT sy Tryd.prog GT (C_token_isMark) noL Tryd.f28.ntmps (bodyOf Tryd.f28) [none] Tryd.f28.results.toList [.i .u8 a0] k = F_token_isMark a0 (fun r0 => k (.b r0)) := by kernel_rfl

theorem ok_token_isMark : FnOK sy Tryd.prog GT ovD GL 28 (q_token_isMark (F_token_isMark)) := (fn_ok (rc := [none]) (f := 28) (fn := Tryd.f28) (c := bodyOf Tryd.f28) (nt := Tryd.f28.ntmps) (res := Tryd.f28.results.toList) (C := C_token_isMark) (L := noL) (fun _ _ => rfl) Tryd.func28 (by kernel_rfl) rfl rfl (Cok_token_isMark) (lp_of (l := []) (by kernel_rfl) lp_nil)).weak (by
  intro us k h
  unfold q_token_isMark at h
  split at h
  · skip
    rename_i a0
    rw [raw_token_isMark a0 k]
    exact h
  · exact h.elim)

abbrev T_readNumericA := List UInt8 → Int → (Tok → Int → Prop) → Prop
def q_readNumericA (A : T_readNumericA) (us : List W) (k : W → Prop) : Prop := match us with
  | [.s a0, .i .i64 a1] => A a0 a1 (fun r0 r1 => k (.t [.a [.i .u8 r0.kind, .s r0.text, .i .i64 r0.num, .s r0.unit, .b r0.flag], .i .i64 r1]))
  | _ => False
theorem q_readNumericA_weak {A A2 : T_readNumericA} (h : FnOK sy Tryd.prog GT ovD GL 26 (q_readNumericA A)) (hA : ∀ a0 a1 K, A2 a0 a1 K → A a0 a1 K) : FnOK sy Tryd.prog GT ovD GL 26 (q_readNumericA A2) := h.weak (by
  intro us k h
  unfold q_readNumericA at h ⊢
  split at h
  · exact hA _ _ _ h
  · exact h.elim)

def F_readNumericA (A39 : T_token_readNumber) (A23 : T_token_nameStarts) (A24 : T_token_readName) (A31 : T_token_byteAt) (a0 : List UInt8) (a1 : Int) (K : Tok → Int → Prop) : Prop :=
  (A39 a0 a1 (fun y1 y2 y3 => (A23 a0 y3 (fun y4 => ((y4 = true → (A24 a0 y3 (fun y5 y6 => K (Tok.mk (12 : Int) ([] : List UInt8) y1 y5 y2) y6))) ∧ (y4 = false → (A31 a0 y3 (fun y7 => (((decide (y7 = (37 : Int))) = true → (I64 (y3 + (1 : Int)) ∧ K (Tok.mk (11 : Int) ([] : List UInt8) y1 ([] : List UInt8) false) (y3 + (1 : Int)))) ∧ ((decide (y7 = (37 : Int))) = false → K (Tok.mk (10 : Int) ([] : List UInt8) y1 ([] : List UInt8) y2) y3))))))))))

def C_readNumericA (A39 : T_token_readNumber) (A23 : T_token_nameStarts) (A24 : T_token_readName) (A31 : T_token_byteAt) : CallT sg := tab [(39, con [none, none] (q_token_readNumber A39)), (23, con [none, none] (q_token_nameStarts A23)), (24, con [none, none] (q_token_readName A24)), (31, con [none, none] (q_token_byteAt A31))]
theorem Cok_readNumericA (A39 : T_token_readNumber) (A23 : T_token_nameStarts) (A24 : T_token_readName) (A31 : T_token_byteAt) (h39 : FnOK sy Tryd.prog GT ovD GL 39 (q_token_readNumber A39)) (h23 : FnOK sy Tryd.prog GT ovD GL 23 (q_token_nameStarts A23)) (h24 : FnOK sy Tryd.prog GT ovD GL 24 (q_token_readName A24)) (h31 : FnOK sy Tryd.prog GT ovD GL 31 (q_token_byteAt A31)) (o0 : Nat → Prop) : CalOK sy Tryd.prog GT ovD o0 GL (C_readNumericA A39 A23 A24 A31) := (tab_cons (con_ok h39) (tab_cons (con_ok h23) (tab_cons (con_ok h24) (tab_cons (con_ok h31) tab_nil)))) o0

theorem raw_readNumericA (A39 : T_token_readNumber) (A23 : T_token_nameStarts) (A24 : T_token_readName) (A31 : T_token_byteAt) (a0 : List UInt8) (a1 : Int) (k : W → Prop) : fnT sy Tryd.prog GT (C_readNumericA A39 A23 A24 A31) noL Tryd.f26.ntmps (bodyOf Tryd.f26) [none, none] Tryd.f26.results.toList [.s a0, .i .i64 a1] k = F_readNumericA A39 A23 A24 A31 a0 a1 (fun r0 r1 => k (.t [.a [.i .u8 r0.kind, .s r0.text, .i .i64 r0.num, .s r0.unit, .b r0.flag], .i .i64 r1])) := by kernel_rfl

theorem ok_readNumericA (A39 : T_token_readNumber) (A23 : T_token_nameStarts) (A24 : T_token_readName) (A31 : T_token_byteAt) (h39 : FnOK sy Tryd.prog GT ovD GL 39 (q_token_readNumber A39)) (h23 : FnOK sy Tryd.prog GT ovD GL 23 (q_token_nameStarts A23)) (h24 : FnOK sy Tryd.prog GT ovD GL 24 (q_token_readName A24)) (h31 : FnOK sy Tryd.prog GT ovD GL 31 (q_token_byteAt A31)) : FnOK sy Tryd.prog GT ovD GL 26 (q_readNumericA (F_readNumericA A39 A23 A24 A31)) := (fn_ok (rc := [none, none]) (f := 26) (fn := Tryd.f26) (c := bodyOf Tryd.f26) (nt := Tryd.f26.ntmps) (res := Tryd.f26.results.toList) (C := C_readNumericA A39 A23 A24 A31) (L := noL) (fun _ _ => rfl) Tryd.func26 (by kernel_rfl) rfl rfl (Cok_readNumericA A39 A23 A24 A31 h39 h23 h24 h31) (lp_of (l := []) (by kernel_rfl) lp_nil)).weak (by
  intro us k h
  unfold q_readNumericA at h
  split at h
  · skip
    rename_i a0 a1
    rw [raw_readNumericA A39 A23 A24 A31 a0 a1 k]
    exact h
  · exact h.elim)

abbrev T_behindCommentsA := List UInt8 → Int → (Int → Prop) → Prop
def q_behindCommentsA (A : T_behindCommentsA) (us : List W) (k : W → Prop) : Prop := match us with
  | [.s a0, .i .i64 a1] => A a0 a1 (fun r0 => k (.i .i64 r0))
  | _ => False
theorem q_behindCommentsA_weak {A A2 : T_behindCommentsA} (h : FnOK sy Tryd.prog GT ovD GL 14 (q_behindCommentsA A)) (hA : ∀ a0 a1 K, A2 a0 a1 K → A a0 a1 K) : FnOK sy Tryd.prog GT ovD GL 14 (q_behindCommentsA A2) := h.weak (by
  intro us k h
  unfold q_behindCommentsA at h ⊢
  split at h
  · exact hA _ _ _ h
  · exact h.elim)

def F_behindCommentsA_l1 (A16 : T_strings_HasPrefix) (A17 : T_strings_Index) : Nat → List UInt8 → Int → (Int → Prop) → (Int → Prop) → Prop
  | 0, _, _, _, _ => False
  | n + 1, x0, x1, Ke, Kr => ((0 ≤ x1 ∧ x1 ≤ (x0.length : Int)) ∧ (A16 (x0.drop x1.toNat) ([47, 42] : List UInt8) (fun y1 => ((y1 = true → (I64 (x1 + (2 : Int)) ∧ ((0 ≤ (x1 + (2 : Int)) ∧ (x1 + (2 : Int)) ≤ (x0.length : Int)) ∧ (A17 (x0.drop (x1 + (2 : Int)).toNat) ([42, 47] : List UInt8) (fun y2 => (((decide (y2 < (0 : Int))) = true → Kr (x0.length : Int)) ∧ ((decide (y2 < (0 : Int))) = false → (I64 (y2 + (2 : Int)) ∧ (I64 ((x1 + (2 : Int)) + (y2 + (2 : Int))) ∧ F_behindCommentsA_l1 A16 A17 n x0 ((x1 + (2 : Int)) + (y2 + (2 : Int))) Ke Kr))))))))) ∧ (y1 = false → Ke x1)))))

def F_behindCommentsA (A16 : T_strings_HasPrefix) (A17 : T_strings_Index) (a0 : List UInt8) (a1 : Int) (K : Int → Prop) : Prop :=
  (∃ m, F_behindCommentsA_l1 A16 A17 m a0 a1 (fun y1 => K y1) (fun y2 => K y2))

def C_behindCommentsA (A16 : T_strings_HasPrefix) (A17 : T_strings_Index) : CallT sg := tab [(16, con [none, none] (q_strings_HasPrefix A16)), (17, con [none, none] (q_strings_Index A17))]
theorem Cok_behindCommentsA (A16 : T_strings_HasPrefix) (A17 : T_strings_Index) (h16 : FnOK sy Tryd.prog GT ovD GL 16 (q_strings_HasPrefix A16)) (h17 : FnOK sy Tryd.prog GT ovD GL 17 (q_strings_Index A17)) (o0 : Nat → Prop) : CalOK sy Tryd.prog GT ovD o0 GL (C_behindCommentsA A16 A17) := (tab_cons (con_ok h16) (tab_cons (con_ok h17) tab_nil)) o0

def ls_behindCommentsA_1 : LS sy ((List UInt8) × Int × Unit) Unit := ⟨[], fCons 0 (vStr sy) (fCons 1 (vInt sy .i64) (fNil sy)), hNil sy, 0, []⟩
def le_behindCommentsA_1 : LS sy (Int × Unit) Unit := ⟨[], fCons 1 (vInt sy .i64) (fNil sy), hNil sy, 0, []⟩
def lr_behindCommentsA_1 : LS sy (Int × Unit) Unit := ⟨[], fCons 4 (vInt sy .i64) (fNil sy), hNil sy, 0, []⟩
def FF_behindCommentsA_1 (A16 : T_strings_HasPrefix) (A17 : T_strings_Index) (n : Nat) (x : ((List UInt8) × Int × Unit) × Unit) (K : Ex → Z sg → Prop) : Prop := F_behindCommentsA_l1 A16 A17 n x.1.1 x.1.2.1 (fun y0 => K (.exit 0) (le_behindCommentsA_1.put ((y0, ()), ()))) (fun y0 => K .ret (lr_behindCommentsA_1.put ((y0, ()), ())))
def h_behindCommentsA_1 (A16 : T_strings_HasPrefix) (A17 : T_strings_Index) (z : Z sg) (K : Ex → Z sg → Prop) : Prop := ls_behindCommentsA_1.get z (fun x => ∃ n, FF_behindCommentsA_1 A16 A17 n x K)
def L_behindCommentsA (A16 : T_strings_HasPrefix) (A17 : T_strings_Index) : LoopT sg := tabL [(1, h_behindCommentsA_1 A16 A17)]
theorem hs_behindCommentsA_1 (A16 : T_strings_HasPrefix) (A17 : T_strings_Index) (n : Nat) (x : ((List UInt8) × Int × Unit) × Unit) (K : Ex → Z sg → Prop) : forceZ (ls_behindCommentsA_1.put x) (fun z => sC sy Tryd.prog GT (C_behindCommentsA A16 A17) (L_behindCommentsA A16 A17) Tryd.f14.ntmps (nthLoop (bodyOf Tryd.f14) 0) z (rnd ls_behindCommentsA_1 (czT 0 le_behindCommentsA_1 lr_behindCommentsA_1) (fun x => FF_behindCommentsA_1 A16 A17 n x K) K)) = FF_behindCommentsA_1 A16 A17 (n + 1) x K := by kernel_rfl
theorem hl_behindCommentsA_1 (A16 : T_strings_HasPrefix) (A17 : T_strings_Index) (z : Z sg) (K : Ex → Z sg → Prop) : (L_behindCommentsA A16 A17) (nthLoop (bodyOf Tryd.f14) 0) z K = ls_behindCommentsA_1.get z (fun x => ∃ n, FF_behindCommentsA_1 A16 A17 n x K) := by kernel_rfl
theorem lo_behindCommentsA_1 (A16 : T_strings_HasPrefix) (A17 : T_strings_Index) (h16 : FnOK sy Tryd.prog GT ovD GL 16 (q_strings_HasPrefix A16)) (h17 : FnOK sy Tryd.prog GT ovD GL 17 (q_strings_Index A17)) : ∀ (o0 : Nat → Prop) (B : Bs sg), B.E.length ≤ 0 → ∀ z K, (L_behindCommentsA A16 A17) (nthLoop (bodyOf Tryd.f14) 0) z K → Sx.Sem sy Tryd.prog GT ovD o0 GL Tryd.f14.ntmps B (.loop (nthLoop (bodyOf Tryd.f14) 0)) z K :=
  loop_ok (Cok_behindCommentsA A16 A17 h16 h17) (lp_of (l := []) (by kernel_rfl) lp_nil) ls_behindCommentsA_1 (by decide) (czT 0 le_behindCommentsA_1 lr_behindCommentsA_1) (fun _ _ hB => czT_ok 0 le_behindCommentsA_1 lr_behindCommentsA_1 (Nat.le_trans hB (by decide)) (Nat.le_trans hB (by decide))) (fun _ _ h => h) (hs_behindCommentsA_1 A16 A17) (hl_behindCommentsA_1 A16 A17)
theorem Lp_behindCommentsA (A16 : T_strings_HasPrefix) (A17 : T_strings_Index) (h16 : FnOK sy Tryd.prog GT ovD GL 16 (q_strings_HasPrefix A16)) (h17 : FnOK sy Tryd.prog GT ovD GL 17 (q_strings_Index A17)) : LpOK sy Tryd.prog GT ovD GL (L_behindCommentsA A16 A17) 0 Tryd.f14.ntmps (bodyOf Tryd.f14) := lp_of (l := [(nthLoop (bodyOf Tryd.f14) 0)]) (by kernel_rfl) (lp_cons (lo_behindCommentsA_1 A16 A17 h16 h17) lp_nil)


theorem raw_behindCommentsA (A16 : T_strings_HasPrefix) (A17 : T_strings_Index) (a0 : List UInt8) (a1 : Int) (k : W → Prop) : fnT sy Tryd.prog GT (C_behindCommentsA A16 A17) (L_behindCommentsA A16 A17) Tryd.f14.ntmps (bodyOf Tryd.f14) [none] Tryd.f14.results.toList [.s a0, .i .i64 a1] k = F_behindCommentsA A16 A17 a0 a1 (fun r0 => k (.i .i64 r0)) := by kernel_rfl

theorem ok_behindCommentsA (A16 : T_strings_HasPrefix) (A17 : T_strings_Index) (h16 : FnOK sy Tryd.prog GT ovD GL 16 (q_strings_HasPrefix A16)) (h17 : FnOK sy Tryd.prog GT ovD GL 17 (q_strings_Index A17)) : FnOK sy Tryd.prog GT ovD GL 14 (q_behindCommentsA (F_behindCommentsA A16 A17)) := (fn_ok (rc := [none]) (f := 14) (fn := Tryd.f14) (c := bodyOf Tryd.f14) (nt := Tryd.f14.ntmps) (res := Tryd.f14.results.toList) (C := C_behindCommentsA A16 A17) (L := (L_behindCommentsA A16 A17)) (fun _ _ => rfl) Tryd.func14 (by kernel_rfl) rfl rfl (Cok_behindCommentsA A16 A17 h16 h17) (Lp_behindCommentsA A16 A17 h16 h17)).weak (by
  intro us k h
  unfold q_behindCommentsA at h
  split at h
  · skip
    rename_i a0 a1
    rw [raw_behindCommentsA A16 A17 a0 a1 k]
    exact h
  · exact h.elim)

abbrev T_readTokenA := List UInt8 → Int → (Tok → Int → Prop) → Prop
def q_readTokenA (A : T_readTokenA) (us : List W) (k : W → Prop) : Prop := match us with
  | [.s a0, .i .i64 a1] => A a0 a1 (fun r0 r1 => k (.t [.a [.i .u8 r0.kind, .s r0.text, .i .i64 r0.num, .s r0.unit, .b r0.flag], .i .i64 r1]))
  | _ => False
theorem q_readTokenA_weak {A A2 : T_readTokenA} (h : FnOK sy Tryd.prog GT ovD GL 15 (q_readTokenA A)) (hA : ∀ a0 a1 K, A2 a0 a1 K → A a0 a1 K) : FnOK sy Tryd.prog GT ovD GL 15 (q_readTokenA A2) := h.weak (by
  intro us k h
  unfold q_readTokenA at h ⊢
  split at h
  · exact hA _ _ _ h
  · exact h.elim)

def F_readTokenA (A18 : T_char_IsSpace) (A19 : T_token_behindSpaces) (A20 : T_char_IsQuote) (A21 : T_token_readString) (A22 : T_token_nameGoesOn) (A23 : T_token_nameStarts) (A24 : T_token_readName) (A25 : T_token_numberStarts) (A26 : T_readNumericA) (A16 : T_strings_HasPrefix) (A27 : T_token_readNamed) (A28 : T_token_isMark) (a0 : List UInt8) (a1 : Int) (K : Tok → Int → Prop) : Prop :=
  ((0 ≤ a1 ∧ a1 < (a0.length : Int)) ∧ (A18 ((a0.getD a1.toNat 0).toNat : Int) (fun y1 => ((y1 = true → (A19 a0 a1 (fun y2 => K (Tok.mk (13 : Int) ([] : List UInt8) (0 : Int) ([] : List UInt8) false) y2))) ∧ (y1 = false → ((0 ≤ a1 ∧ a1 < (a0.length : Int)) ∧ (A20 ((a0.getD a1.toNat 0).toNat : Int) (fun y3 => ((y3 = true → (A21 a0 a1 (fun y4 y5 => K (Tok.mk y4.kind y4.text y4.num y4.unit y4.flag) y5))) ∧ (y3 = false → ((0 ≤ a1 ∧ a1 < (a0.length : Int)) ∧ (((decide (((a0.getD a1.toNat 0).toNat : Int) = (35 : Int))) = true → (I64 (a1 + (1 : Int)) ∧ (A22 a0 (a1 + (1 : Int)) (fun y6 => ((y6 = true → (I64 (a1 + (1 : Int)) ∧ (A23 a0 (a1 + (1 : Int)) (fun y7 => (I64 (a1 + (1 : Int)) ∧ (A24 a0 (a1 + (1 : Int)) (fun y8 y9 => K (Tok.mk (4 : Int) y8 (0 : Int) ([] : List UInt8) y7) y9))))))) ∧ (y6 = false → (A25 a0 a1 (fun y10 => ((y10 = true → (A26 a0 a1 (fun y11 y12 => K (Tok.mk y11.kind y11.text y11.num y11.unit y11.flag) y12))) ∧ (y10 = false → ((0 ≤ a1 ∧ a1 ≤ (a0.length : Int)) ∧ (A16 (a0.drop a1.toNat) ([45, 45, 62] : List UInt8) (fun y13 => ((y13 = true → (I64 (a1 + (3 : Int)) ∧ K (Tok.mk (15 : Int) ([] : List UInt8) (0 : Int) ([] : List UInt8) false) (a1 + (3 : Int)))) ∧ (y13 = false → ((0 ≤ a1 ∧ a1 ≤ (a0.length : Int)) ∧ (A16 (a0.drop a1.toNat) ([60, 33, 45, 45] : List UInt8) (fun y14 => ((y14 = true → (I64 (a1 + (4 : Int)) ∧ K (Tok.mk (14 : Int) ([] : List UInt8) (0 : Int) ([] : List UInt8) false) (a1 + (4 : Int)))) ∧ (y14 = false → ((0 ≤ a1 ∧ a1 < (a0.length : Int)) ∧ (((decide (((a0.getD a1.toNat 0).toNat : Int) = (64 : Int))) = true → (I64 (a1 + (1 : Int)) ∧ (A23 a0 (a1 + (1 : Int)) (fun y15 => ((y15 = true → (I64 (a1 + (1 : Int)) ∧ (A24 a0 (a1 + (1 : Int)) (fun y16 y17 => K (Tok.mk (3 : Int) y16 (0 : Int) ([] : List UInt8) false) y17)))) ∧ (y15 = false → (A23 a0 a1 (fun y18 => ((y18 = true → (A27 a0 a1 (fun y19 y20 => K (Tok.mk y19.kind y19.text y19.num y19.unit y19.flag) y20))) ∧ (y18 = false → ((0 ≤ a1 ∧ a1 < (a0.length : Int)) ∧ (A28 ((a0.getD a1.toNat 0).toNat : Int) (fun y21 => ((y21 = true → ((0 ≤ a1 ∧ a1 < (a0.length : Int)) ∧ ((0 ≤ ((a0.getD a1.toNat 0).toNat : Int) ∧ ((a0.getD a1.toNat 0).toNat : Int) < (126 : Int)) ∧ (0 + ((a0.getD a1.toNat 0).toNat : Int).toNat * 1 < marksL.length ∧ (I64 (a1 + (1 : Int)) ∧ K (Tok.mk (marksL.getD (0 + ((a0.getD a1.toNat 0).toNat : Int).toNat * 1) 0) ([] : List UInt8) (0 : Int) ([] : List UInt8) false) (a1 + (1 : Int))))))) ∧ (y21 = false → (I64 (a1 + (1 : Int)) ∧ ((0 ≤ a1 ∧ a1 ≤ (a1 + (1 : Int)) ∧ (a1 + (1 : Int)) ≤ (a0.length : Int)) ∧ (I64 (a1 + (1 : Int)) ∧ K (Tok.mk (9 : Int) ((a0.drop a1.toNat).take ((a1 + (1 : Int)).toNat - a1.toNat)) (0 : Int) ([] : List UInt8) false) (a1 + (1 : Int)))))))))))))))))))) ∧ ((decide (((a0.getD a1.toNat 0).toNat : Int) = (64 : Int))) = false → (A23 a0 a1 (fun y22 => ((y22 = true → (A27 a0 a1 (fun y23 y24 => K (Tok.mk y23.kind y23.text y23.num y23.unit y23.flag) y24))) ∧ (y22 = false → ((0 ≤ a1 ∧ a1 < (a0.length : Int)) ∧ (A28 ((a0.getD a1.toNat 0).toNat : Int) (fun y25 => ((y25 = true → ((0 ≤ a1 ∧ a1 < (a0.length : Int)) ∧ ((0 ≤ ((a0.getD a1.toNat 0).toNat : Int) ∧ ((a0.getD a1.toNat 0).toNat : Int) < (126 : Int)) ∧ (0 + ((a0.getD a1.toNat 0).toNat : Int).toNat * 1 < marksL.length ∧ (I64 (a1 + (1 : Int)) ∧ K (Tok.mk (marksL.getD (0 + ((a0.getD a1.toNat 0).toNat : Int).toNat * 1) 0) ([] : List UInt8) (0 : Int) ([] : List UInt8) false) (a1 + (1 : Int))))))) ∧ (y25 = false → (I64 (a1 + (1 : Int)) ∧ ((0 ≤ a1 ∧ a1 ≤ (a1 + (1 : Int)) ∧ (a1 + (1 : Int)) ≤ (a0.length : Int)) ∧ (I64 (a1 + (1 : Int)) ∧ K (Tok.mk (9 : Int) ((a0.drop a1.toNat).take ((a1 + (1 : Int)).toNat - a1.toNat)) (0 : Int) ([] : List UInt8) false) (a1 + (1 : Int))))))))))))))))))))))))))))))))))))) ∧ ((decide (((a0.getD a1.toNat 0).toNat : Int) = (35 : Int))) = false → (A25 a0 a1 (fun y26 => ((y26 = true → (A26 a0 a1 (fun y27 y28 => K (Tok.mk y27.kind y27.text y27.num y27.unit y27.flag) y28))) ∧ (y26 = false → ((0 ≤ a1 ∧ a1 ≤ (a0.length : Int)) ∧ (A16 (a0.drop a1.toNat) ([45, 45, 62] : List UInt8) (fun y29 => ((y29 = true → (I64 (a1 + (3 : Int)) ∧ K (Tok.mk (15 : Int) ([] : List UInt8) (0 : Int) ([] : List UInt8) false) (a1 + (3 : Int)))) ∧ (y29 = false → ((0 ≤ a1 ∧ a1 ≤ (a0.length : Int)) ∧ (A16 (a0.drop a1.toNat) ([60, 33, 45, 45] : List UInt8) (fun y30 => ((y30 = true → (I64 (a1 + (4 : Int)) ∧ K (Tok.mk (14 : Int) ([] : List UInt8) (0 : Int) ([] : List UInt8) false) (a1 + (4 : Int)))) ∧ (y30 = false → ((0 ≤ a1 ∧ a1 < (a0.length : Int)) ∧ (((decide (((a0.getD a1.toNat 0).toNat : Int) = (64 : Int))) = true → (I64 (a1 + (1 : Int)) ∧ (A23 a0 (a1 + (1 : Int)) (fun y31 => ((y31 = true → (I64 (a1 + (1 : Int)) ∧ (A24 a0 (a1 + (1 : Int)) (fun y32 y33 => K (Tok.mk (3 : Int) y32 (0 : Int) ([] : List UInt8) false) y33)))) ∧ (y31 = false → (A23 a0 a1 (fun y34 => ((y34 = true → (A27 a0 a1 (fun y35 y36 => K (Tok.mk y35.kind y35.text y35.num y35.unit y35.flag) y36))) ∧ (y34 = false → ((0 ≤ a1 ∧ a1 < (a0.length : Int)) ∧ (A28 ((a0.getD a1.toNat 0).toNat : Int) (fun y37 => ((y37 = true → ((0 ≤ a1 ∧ a1 < (a0.length : Int)) ∧ ((0 ≤ ((a0.getD a1.toNat 0).toNat : Int) ∧ ((a0.getD a1.toNat 0).toNat : Int) < (126 : Int)) ∧ (0 + ((a0.getD a1.toNat 0).toNat : Int).toNat * 1 < marksL.length ∧ (I64 (a1 + (1 : Int)) ∧ K (Tok.mk (marksL.getD (0 + ((a0.getD a1.toNat 0).toNat : Int).toNat * 1) 0) ([] : List UInt8) (0 : Int) ([] : List UInt8) false) (a1 + (1 : Int))))))) ∧ (y37 = false → (I64 (a1 + (1 : Int)) ∧ ((0 ≤ a1 ∧ a1 ≤ (a1 + (1 : Int)) ∧ (a1 + (1 : Int)) ≤ (a0.length : Int)) ∧ (I64 (a1 + (1 : Int)) ∧ K (Tok.mk (9 : Int) ((a0.drop a1.toNat).take ((a1 + (1 : Int)).toNat - a1.toNat)) (0 : Int) ([] : List UInt8) false) (a1 + (1 : Int)))))))))))))))))))) ∧ ((decide (((a0.getD a1.toNat 0).toNat : Int) = (64 : Int))) = false → (A23 a0 a1 (fun y38 => ((y38 = true → (A27 a0 a1 (fun y39 y40 => K (Tok.mk y39.kind y39.text y39.num y39.unit y39.flag) y40))) ∧ (y38 = false → ((0 ≤ a1 ∧ a1 < (a0.length : Int)) ∧ (A28 ((a0.getD a1.toNat 0).toNat : Int) (fun y41 => ((y41 = true → ((0 ≤ a1 ∧ a1 < (a0.length : Int)) ∧ ((0 ≤ ((a0.getD a1.toNat 0).toNat : Int) ∧ ((a0.getD a1.toNat 0).toNat : Int) < (126 : Int)) ∧ (0 + ((a0.getD a1.toNat 0).toNat : Int).toNat * 1 < marksL.length ∧ (I64 (a1 + (1 : Int)) ∧ K (Tok.mk (marksL.getD (0 + ((a0.getD a1.toNat 0).toNat : Int).toNat * 1) 0) ([] : List UInt8) (0 : Int) ([] : List UInt8) false) (a1 + (1 : Int))))))) ∧ (y41 = false → (I64 (a1 + (1 : Int)) ∧ ((0 ≤ a1 ∧ a1 ≤ (a1 + (1 : Int)) ∧ (a1 + (1 : Int)) ≤ (a0.length : Int)) ∧ (I64 (a1 + (1 : Int)) ∧ K (Tok.mk (9 : Int) ((a0.drop a1.toNat).take ((a1 + (1 : Int)).toNat - a1.toNat)) (0 : Int) ([] : List UInt8) false) (a1 + (1 : Int))))))))))))))))))))))))))))))))))))))))))))

def C_readTokenA (A18 : T_char_IsSpace) (A19 : T_token_behindSpaces) (A20 : T_char_IsQuote) (A21 : T_token_readString) (A22 : T_token_nameGoesOn) (A23 : T_token_nameStarts) (A24 : T_token_readName) (A25 : T_token_numberStarts) (A26 : T_readNumericA) (A16 : T_strings_HasPrefix) (A27 : T_token_readNamed) (A28 : T_token_isMark) : CallT sg := tab [(18, con [none] (q_char_IsSpace A18)), (19, con [none, none] (q_token_behindSpaces A19)), (20, con [none] (q_char_IsQuote A20)), (21, con [none, none] (q_token_readString A21)), (22, con [none, none] (q_token_nameGoesOn A22)), (23, con [none, none] (q_token_nameStarts A23)), (24, con [none, none] (q_token_readName A24)), (25, con [none, none] (q_token_numberStarts A25)), (26, con [none, none] (q_readNumericA A26)), (16, con [none, none] (q_strings_HasPrefix A16)), (27, con [none, none] (q_token_readNamed A27)), (28, con [none] (q_token_isMark A28))]
theorem Cok_readTokenA (A18 : T_char_IsSpace) (A19 : T_token_behindSpaces) (A20 : T_char_IsQuote) (A21 : T_token_readString) (A22 : T_token_nameGoesOn) (A23 : T_token_nameStarts) (A24 : T_token_readName) (A25 : T_token_numberStarts) (A26 : T_readNumericA) (A16 : T_strings_HasPrefix) (A27 : T_token_readNamed) (A28 : T_token_isMark) (h18 : FnOK sy Tryd.prog GT ovD GL 18 (q_char_IsSpace A18)) (h19 : FnOK sy Tryd.prog GT ovD GL 19 (q_token_behindSpaces A19)) (h20 : FnOK sy Tryd.prog GT ovD GL 20 (q_char_IsQuote A20)) (h21 : FnOK sy Tryd.prog GT ovD GL 21 (q_token_readString A21)) (h22 : FnOK sy Tryd.prog GT ovD GL 22 (q_token_nameGoesOn A22)) (h23 : FnOK sy Tryd.prog GT ovD GL 23 (q_token_nameStarts A23)) (h24 : FnOK sy Tryd.prog GT ovD GL 24 (q_token_readName A24)) (h25 : FnOK sy Tryd.prog GT ovD GL 25 (q_token_numberStarts A25)) (h26 : FnOK sy Tryd.prog GT ovD GL 26 (q_readNumericA A26)) (h16 : FnOK sy Tryd.prog GT ovD GL 16 (q_strings_HasPrefix A16)) (h27 : FnOK sy Tryd.prog GT ovD GL 27 (q_token_readNamed A27)) (h28 : FnOK sy Tryd.prog GT ovD GL 28 (q_token_isMark A28)) (o0 : Nat → Prop) : CalOK sy Tryd.prog GT ovD o0 GL (C_readTokenA A18 A19 A20 A21 A22 A23 A24 A25 A26 A16 A27 A28) := (tab_cons (con_ok h18) (tab_cons (con_ok h19) (tab_cons (con_ok h20) (tab_cons (con_ok h21) (tab_cons (con_ok h22) (tab_cons (con_ok h23) (tab_cons (con_ok h24) (tab_cons (con_ok h25) (tab_cons (con_ok h26) (tab_cons (con_ok h16) (tab_cons (con_ok h27) (tab_cons (con_ok h28) tab_nil)))))))))))) o0

theorem raw_readTokenA (A18 : T_char_IsSpace) (A19 : T_token_behindSpaces) (A20 : T_char_IsQuote) (A21 : T_token_readString) (A22 : T_token_nameGoesOn) (A23 : T_token_nameStarts) (A24 : T_token_readName) (A25 : T_token_numberStarts) (A26 : T_readNumericA) (A16 : T_strings_HasPrefix) (A27 : T_token_readNamed) (A28 : T_token_isMark) (a0 : List UInt8) (a1 : Int) (k : W → Prop) : fnT sy Tryd.prog GT (C_readTokenA A18 A19 A20 A21 A22 A23 A24 A25 A26 A16 A27 A28) noL Tryd.f15.ntmps (bodyOf Tryd.f15) [none, none] Tryd.f15.results.toList [.s a0, .i .i64 a1] k = F_readTokenA A18 A19 A20 A21 A22 A23 A24 A25 A26 A16 A27 A28 a0 a1 (fun r0 r1 => k (.t [.a [.i .u8 r0.kind, .s r0.text, .i .i64 r0.num, .s r0.unit, .b r0.flag], .i .i64 r1])) := by kernel_rfl

theorem ok_readTokenA (A18 : T_char_IsSpace) (A19 : T_token_behindSpaces) (A20 : T_char_IsQuote) (A21 : T_token_readString) (A22 : T_token_nameGoesOn) (A23 : T_token_nameStarts) (A24 : T_token_readName) (A25 : T_token_numberStarts) (A26 : T_readNumericA) (A16 : T_strings_HasPrefix) (A27 : T_token_readNamed) (A28 : T_token_isMark) (h18 : FnOK sy Tryd.prog GT ovD GL 18 (q_char_IsSpace A18)) (h19 : FnOK sy Tryd.prog GT ovD GL 19 (q_token_behindSpaces A19)) (h20 : FnOK sy Tryd.prog GT ovD GL 20 (q_char_IsQuote A20)) (h21 : FnOK sy Tryd.prog GT ovD GL 21 (q_token_readString A21)) (h22 : FnOK sy Tryd.prog GT ovD GL 22 (q_token_nameGoesOn A22)) (h23 : FnOK sy Tryd.prog GT ovD GL 23 (q_token_nameStarts A23)) (h24 : FnOK sy Tryd.prog GT ovD GL 24 (q_token_readName A24)) (h25 : FnOK sy Tryd.prog GT ovD GL 25 (q_token_numberStarts A25)) (h26 : FnOK sy Tryd.prog GT ovD GL 26 (q_readNumericA A26)) (h16 : FnOK sy Tryd.prog GT ovD GL 16 (q_strings_HasPrefix A16)) (h27 : FnOK sy Tryd.prog GT ovD GL 27 (q_token_readNamed A27)) (h28 : FnOK sy Tryd.prog GT ovD GL 28 (q_token_isMark A28)) : FnOK sy Tryd.prog GT ovD GL 15 (q_readTokenA (F_readTokenA A18 A19 A20 A21 A22 A23 A24 A25 A26 A16 A27 A28)) := (fn_ok (rc := [none, none]) (f := 15) (fn := Tryd.f15) (c := bodyOf Tryd.f15) (nt := Tryd.f15.ntmps) (res := Tryd.f15.results.toList) (C := C_readTokenA A18 A19 A20 A21 A22 A23 A24 A25 A26 A16 A27 A28) (L := noL) (fun _ _ => rfl) Tryd.func15 (by kernel_rfl) rfl rfl (Cok_readTokenA A18 A19 A20 A21 A22 A23 A24 A25 A26 A16 A27 A28 h18 h19 h20 h21 h22 h23 h24 h25 h26 h16 h27 h28) (lp_of (l := []) (by kernel_rfl) lp_nil)).weak (by
  intro us k h
  unfold q_readTokenA at h
  split at h
  · skip
    rename_i a0 a1
    rw [raw_readTokenA A18 A19 A20 A21 A22 A23 A24 A25 A26 A16 A27 A28 a0 a1 k]
    exact h
  · exact h.elim)

def C_token_Tokens_1A : CallT sg := tab []
theorem Cok_token_Tokens_1A (o0 : Nat → Prop) : CalOK sy Tryd.prog GT ovD o0 GL (C_token_Tokens_1A) := tab_nil o0

def F_token_eachToken_tA_l6 (A5 : T_input_Clean) (A14 : T_behindCommentsA) (A15 : T_readTokenA) : Nat → List UInt8 → Int → Int → List Tok → (List Tok → Prop) → (Int → List Tok → Prop) → Prop
  | 0, _, _, _, _, _, _ => False
  | n + 1, x5, x7, x8, b1, Ke, Kr => (((decide (x8 < (x5.length : Int))) = true → (((decide (x7 = (1500 : Int))) = true → Kr (4 : Int) b1) ∧ ((decide (x7 = (1500 : Int))) = false → (A15 x5 x8 (fun y1 y2 => ((b1.length + [(Tok.mk y1.kind y1.text y1.num y1.unit y1.flag)].length) * 56 ≤ 1099511627776 ∧ (I64 (x7 + (1 : Int)) ∧ (A14 x5 y2 (fun y3 => F_token_eachToken_tA_l6 A5 A14 A15 n x5 (x7 + (1 : Int)) y3 (b1 ++ [(Tok.mk y1.kind y1.text y1.num y1.unit y1.flag)]) Ke Kr))))))))) ∧ ((decide (x8 < (x5.length : Int))) = false → Ke b1))

def C_token_eachToken_tA (A5 : T_input_Clean) (A14 : T_behindCommentsA) (A15 : T_readTokenA) : CallT sg := tab [(5, con [none] (q_input_Clean A5)), (14, con [none, none] (q_behindCommentsA A14)), (15, con [none, none] (q_readTokenA A15)), (12, inl sy Tryd.prog GT (C_token_Tokens_1A) noL 1000 Tryd.f12.ntmps (bodyOf Tryd.f12) Tryd.f12.results.toList)]
theorem Cok_token_eachToken_tA (A5 : T_input_Clean) (A14 : T_behindCommentsA) (A15 : T_readTokenA) (h5 : FnOK sy Tryd.prog GT ovD GL 5 (q_input_Clean A5)) (h14 : FnOK sy Tryd.prog GT ovD GL 14 (q_behindCommentsA A14)) (h15 : FnOK sy Tryd.prog GT ovD GL 15 (q_readTokenA A15)) (o0 : Nat → Prop) : CalOK sy Tryd.prog GT ovD o0 GL (C_token_eachToken_tA A5 A14 A15) := (tab_cons (con_ok h5) (tab_cons (con_ok h14) (tab_cons (con_ok h15) (tab_cons (inl_ok (f := 12) (fn := Tryd.f12) (fun _ _ => rfl) Tryd.func12 (by kernel_rfl) rfl rfl (Cok_token_Tokens_1A) (lp_of (l := []) (by kernel_rfl) lp_nil)) tab_nil)))) o0

def ls_token_eachToken_tA_6 : LS sy ((Unit × Unit) × (List UInt8) × Int × Int × Unit) ((Unit × Unit) × List (sg.Den Cd.tok) × Unit) := ⟨[.cell 0 0 1 Cd.tok], fCons 1 (vFn 12 (lCons (vLit sy (.p 0 0)) (lNil sy))) (fCons 5 (vStr sy) (fCons 7 (vInt sy .i64) (fCons 8 (vInt sy .i64) (fNil sy)))), hCells 0 (lCons (vLit sy (.o 1)) (lNil sy)) (hBuf 1 Cd.tok (hNil sy)), 2, [1]⟩
def le_token_eachToken_tA_6 : LS sy Unit ((Unit × Unit) × List (sg.Den Cd.tok) × Unit) := ⟨[], fNil sy, hCells 0 (lCons (vLit sy (.o 1)) (lNil sy)) (hBuf 1 Cd.tok (hNil sy)), 2, [1]⟩
def lr_token_eachToken_tA_6 : LS sy (Int × Unit) ((Unit × Unit) × List (sg.Den Cd.tok) × Unit) := ⟨[], fCons 4 (vInt sy .i64) (fNil sy), hCells 0 (lCons (vLit sy (.o 1)) (lNil sy)) (hBuf 1 Cd.tok (hNil sy)), 2, [1]⟩
def FF_token_eachToken_tA_6 (A5 : T_input_Clean) (A14 : T_behindCommentsA) (A15 : T_readTokenA) (n : Nat) (x : ((Unit × Unit) × (List UInt8) × Int × Int × Unit) × ((Unit × Unit) × List (sg.Den Cd.tok) × Unit)) (K : Ex → Z sg → Prop) : Prop := F_token_eachToken_tA_l6 A5 A14 A15 n x.1.2.1 x.1.2.2.1 x.1.2.2.2.1 x.2.2.1 (fun y0 => K (.exit 0) (le_token_eachToken_tA_6.put ((), (((), ()), y0, ())))) (fun y0 y1 => K .ret (lr_token_eachToken_tA_6.put ((y0, ()), (((), ()), y1, ()))))
def h_token_eachToken_tA_6 (A5 : T_input_Clean) (A14 : T_behindCommentsA) (A15 : T_readTokenA) (z : Z sg) (K : Ex → Z sg → Prop) : Prop := ls_token_eachToken_tA_6.get z (fun x => ∃ n, FF_token_eachToken_tA_6 A5 A14 A15 n x K)
def L_token_eachToken_tA (A5 : T_input_Clean) (A14 : T_behindCommentsA) (A15 : T_readTokenA) : LoopT sg := tabL [(6, h_token_eachToken_tA_6 A5 A14 A15)]
theorem hs_token_eachToken_tA_6 (A5 : T_input_Clean) (A14 : T_behindCommentsA) (A15 : T_readTokenA) (n : Nat) (x : ((Unit × Unit) × (List UInt8) × Int × Int × Unit) × ((Unit × Unit) × List (sg.Den Cd.tok) × Unit)) (K : Ex → Z sg → Prop) : forceZ (ls_token_eachToken_tA_6.put x) (fun z => sC sy Tryd.prog GT (C_token_eachToken_tA A5 A14 A15) (L_token_eachToken_tA A5 A14 A15) Tryd.f11.ntmps (nthLoop (bodyOf Tryd.f11) 0) z (rnd ls_token_eachToken_tA_6 (czT 0 le_token_eachToken_tA_6 lr_token_eachToken_tA_6) (fun x => FF_token_eachToken_tA_6 A5 A14 A15 n x K) K)) = FF_token_eachToken_tA_6 A5 A14 A15 (n + 1) x K := by kernel_rfl
theorem hl_token_eachToken_tA_6 (A5 : T_input_Clean) (A14 : T_behindCommentsA) (A15 : T_readTokenA) (z : Z sg) (K : Ex → Z sg → Prop) : (L_token_eachToken_tA A5 A14 A15) (nthLoop (bodyOf Tryd.f11) 0) z K = ls_token_eachToken_tA_6.get z (fun x => ∃ n, FF_token_eachToken_tA_6 A5 A14 A15 n x K) := by kernel_rfl
theorem lo_token_eachToken_tA_6 (A5 : T_input_Clean) (A14 : T_behindCommentsA) (A15 : T_readTokenA) (h5 : FnOK sy Tryd.prog GT ovD GL 5 (q_input_Clean A5)) (h14 : FnOK sy Tryd.prog GT ovD GL 14 (q_behindCommentsA A14)) (h15 : FnOK sy Tryd.prog GT ovD GL 15 (q_readTokenA A15)) : ∀ (o0 : Nat → Prop) (B : Bs sg), B.E.length ≤ 1 → ∀ z K, (L_token_eachToken_tA A5 A14 A15) (nthLoop (bodyOf Tryd.f11) 0) z K → Sx.Sem sy Tryd.prog GT ovD o0 GL Tryd.f11.ntmps B (.loop (nthLoop (bodyOf Tryd.f11) 0)) z K :=
  loop_ok (Cok_token_eachToken_tA A5 A14 A15 h5 h14 h15) (lp_of (l := []) (by kernel_rfl) lp_nil) ls_token_eachToken_tA_6 (by decide) (czT 0 le_token_eachToken_tA_6 lr_token_eachToken_tA_6) (fun _ _ hB => czT_ok 0 le_token_eachToken_tA_6 lr_token_eachToken_tA_6 (Nat.le_trans hB (by decide)) (Nat.le_trans hB (by decide))) (fun _ _ h => h) (hs_token_eachToken_tA_6 A5 A14 A15) (hl_token_eachToken_tA_6 A5 A14 A15)
theorem Lp_token_eachToken_tA (A5 : T_input_Clean) (A14 : T_behindCommentsA) (A15 : T_readTokenA) (h5 : FnOK sy Tryd.prog GT ovD GL 5 (q_input_Clean A5)) (h14 : FnOK sy Tryd.prog GT ovD GL 14 (q_behindCommentsA A14)) (h15 : FnOK sy Tryd.prog GT ovD GL 15 (q_readTokenA A15)) : LpOK sy Tryd.prog GT ovD GL (L_token_eachToken_tA A5 A14 A15) 1 Tryd.f11.ntmps (bodyOf Tryd.f11) := lp_of (l := [(nthLoop (bodyOf Tryd.f11) 0)]) (by kernel_rfl) (lp_cons (lo_token_eachToken_tA_6 A5 A14 A15 h5 h14 h15) lp_nil)


abbrev T_TokensA := List UInt8 → (List Tok → Int → Prop) → Prop
def q_TokensA (A : T_TokensA) (us : List W) (k : W → Prop) : Prop := match us with
  | [.s a0] => A a0 (fun r0 r1 => k (.t [.l Cd.tok r0, .i .i64 r1]))
  | _ => False
theorem q_TokensA_weak {A A2 : T_TokensA} (h : FnOK sy Tryd.prog GT ovD GL 6 (q_TokensA A)) (hA : ∀ a0 K, A2 a0 K → A a0 K) : FnOK sy Tryd.prog GT ovD GL 6 (q_TokensA A2) := h.weak (by
  intro us k h
  unfold q_TokensA at h ⊢
  split at h
  · exact hA _ _ h
  · exact h.elim)

def F_TokensA (A5 : T_input_Clean) (A14 : T_behindCommentsA) (A15 : T_readTokenA) (a0 : List UInt8) (K : List Tok → Int → Prop) : Prop :=
  (A5 a0 (fun y1 y2 => (((decide (y2 ≠ (0 : Int))) = true → (((decide (y2 ≠ (0 : Int))) = true → K ([] : List Tok) y2) ∧ ((decide (y2 ≠ (0 : Int))) = false → K ([] : List Tok) (0 : Int)))) ∧ ((decide (y2 ≠ (0 : Int))) = false → (A14 y1 (0 : Int) (fun y3 => (∃ m, F_token_eachToken_tA_l6 A5 A14 A15 m y1 (0 : Int) y3 ([] : List Tok) (fun y4 => (((decide ((0 : Int) ≠ (0 : Int))) = true → K ([] : List Tok) (0 : Int)) ∧ ((decide ((0 : Int) ≠ (0 : Int))) = false → K y4 (0 : Int)))) (fun y5 y6 => (((decide (y5 ≠ (0 : Int))) = true → K ([] : List Tok) y5) ∧ ((decide (y5 ≠ (0 : Int))) = false → K y6 (0 : Int)))))))))))

def C_TokensA (A5 : T_input_Clean) (A14 : T_behindCommentsA) (A15 : T_readTokenA) : CallT sg := tab [(11, inl sy Tryd.prog GT (C_token_eachToken_tA A5 A14 A15) (L_token_eachToken_tA A5 A14 A15) 1 Tryd.f11.ntmps (bodyOf Tryd.f11) Tryd.f11.results.toList), (12, inl sy Tryd.prog GT (C_token_Tokens_1A) noL 1000 Tryd.f12.ntmps (bodyOf Tryd.f12) Tryd.f12.results.toList)]
theorem Cok_TokensA (A5 : T_input_Clean) (A14 : T_behindCommentsA) (A15 : T_readTokenA) (h5 : FnOK sy Tryd.prog GT ovD GL 5 (q_input_Clean A5)) (h14 : FnOK sy Tryd.prog GT ovD GL 14 (q_behindCommentsA A14)) (h15 : FnOK sy Tryd.prog GT ovD GL 15 (q_readTokenA A15)) (o0 : Nat → Prop) : CalOK sy Tryd.prog GT ovD o0 GL (C_TokensA A5 A14 A15) := (tab_cons (inl_ok (f := 11) (fn := Tryd.f11) (fun _ _ => rfl) Tryd.func11 (by kernel_rfl) rfl rfl (Cok_token_eachToken_tA A5 A14 A15 h5 h14 h15) (Lp_token_eachToken_tA A5 A14 A15 h5 h14 h15)) (tab_cons (inl_ok (f := 12) (fn := Tryd.f12) (fun _ _ => rfl) Tryd.func12 (by kernel_rfl) rfl rfl (Cok_token_Tokens_1A) (lp_of (l := []) (by kernel_rfl) lp_nil)) tab_nil)) o0

theorem raw_TokensA (A5 : T_input_Clean) (A14 : T_behindCommentsA) (A15 : T_readTokenA) (a0 : List UInt8) (k : W → Prop) : fnT sy Tryd.prog GT (C_TokensA A5 A14 A15) noL Tryd.f6.ntmps (bodyOf Tryd.f6) [some Cd.tok, none] Tryd.f6.results.toList [.s a0] k = F_TokensA A5 A14 A15 a0 (fun r0 r1 => k (.t [.l Cd.tok r0, .i .i64 r1])) := by kernel_rfl

theorem ok_TokensA (A5 : T_input_Clean) (A14 : T_behindCommentsA) (A15 : T_readTokenA) (h5 : FnOK sy Tryd.prog GT ovD GL 5 (q_input_Clean A5)) (h14 : FnOK sy Tryd.prog GT ovD GL 14 (q_behindCommentsA A14)) (h15 : FnOK sy Tryd.prog GT ovD GL 15 (q_readTokenA A15)) : FnOK sy Tryd.prog GT ovD GL 6 (q_TokensA (F_TokensA A5 A14 A15)) := (fn_ok (rc := [some Cd.tok, none]) (f := 6) (fn := Tryd.f6) (c := bodyOf Tryd.f6) (nt := Tryd.f6.ntmps) (res := Tryd.f6.results.toList) (C := C_TokensA A5 A14 A15) (L := noL) (fun _ _ => rfl) Tryd.func6 (by kernel_rfl) rfl rfl (Cok_TokensA A5 A14 A15 h5 h14 h15) (lp_of (l := []) (by kernel_rfl) lp_nil)).weak (by
  intro us k h
  unfold q_TokensA at h
  split at h
  · skip
    rename_i a0
    rw [raw_TokensA A5 A14 A15 a0 k]
    exact h
  · exact h.elim)

def C_token_Spans_1A : CallT sg := tab []
theorem Cok_token_Spans_1A (o0 : Nat → Prop) : CalOK sy Tryd.prog GT ovD o0 GL (C_token_Spans_1A) := tab_nil o0

def F_token_eachToken_sA_l6 (A5 : T_input_Clean) (A14 : T_behindCommentsA) (A15 : T_readTokenA) : Nat → List UInt8 → Int → Int → List (Int × Int) → (List (Int × Int) → Prop) → (Int → List (Int × Int) → Prop) → Prop
  | 0, _, _, _, _, _, _ => False
  | n + 1, x5, x7, x8, b1, Ke, Kr => (((decide (x8 < (x5.length : Int))) = true → (((decide (x7 = (1500 : Int))) = true → Kr (4 : Int) b1) ∧ ((decide (x7 = (1500 : Int))) = false → (A15 x5 x8 (fun y1 y2 => ((b1.length + [(x8, y2)].length) * 16 ≤ 1099511627776 ∧ (I64 (x7 + (1 : Int)) ∧ (A14 x5 y2 (fun y3 => F_token_eachToken_sA_l6 A5 A14 A15 n x5 (x7 + (1 : Int)) y3 (b1 ++ [(x8, y2)]) Ke Kr))))))))) ∧ ((decide (x8 < (x5.length : Int))) = false → Ke b1))

def C_token_eachToken_sA (A5 : T_input_Clean) (A14 : T_behindCommentsA) (A15 : T_readTokenA) : CallT sg := tab [(5, con [none] (q_input_Clean A5)), (14, con [none, none] (q_behindCommentsA A14)), (15, con [none, none] (q_readTokenA A15)), (13, inl sy Tryd.prog GT (C_token_Spans_1A) noL 1000 Tryd.f13.ntmps (bodyOf Tryd.f13) Tryd.f13.results.toList)]
theorem Cok_token_eachToken_sA (A5 : T_input_Clean) (A14 : T_behindCommentsA) (A15 : T_readTokenA) (h5 : FnOK sy Tryd.prog GT ovD GL 5 (q_input_Clean A5)) (h14 : FnOK sy Tryd.prog GT ovD GL 14 (q_behindCommentsA A14)) (h15 : FnOK sy Tryd.prog GT ovD GL 15 (q_readTokenA A15)) (o0 : Nat → Prop) : CalOK sy Tryd.prog GT ovD o0 GL (C_token_eachToken_sA A5 A14 A15) := (tab_cons (con_ok h5) (tab_cons (con_ok h14) (tab_cons (con_ok h15) (tab_cons (inl_ok (f := 13) (fn := Tryd.f13) (fun _ _ => rfl) Tryd.func13 (by kernel_rfl) rfl rfl (Cok_token_Spans_1A) (lp_of (l := []) (by kernel_rfl) lp_nil)) tab_nil)))) o0

def ls_token_eachToken_sA_6 : LS sy ((Unit × Unit) × (List UInt8) × Int × Int × Unit) ((Unit × Unit) × List (sg.Den Cd.span) × Unit) := ⟨[.cell 0 0 1 Cd.span], fCons 1 (vFn 13 (lCons (vLit sy (.p 0 0)) (lNil sy))) (fCons 5 (vStr sy) (fCons 7 (vInt sy .i64) (fCons 8 (vInt sy .i64) (fNil sy)))), hCells 0 (lCons (vLit sy (.o 1)) (lNil sy)) (hBuf 1 Cd.span (hNil sy)), 2, [1]⟩
def le_token_eachToken_sA_6 : LS sy Unit ((Unit × Unit) × List (sg.Den Cd.span) × Unit) := ⟨[], fNil sy, hCells 0 (lCons (vLit sy (.o 1)) (lNil sy)) (hBuf 1 Cd.span (hNil sy)), 2, [1]⟩
def lr_token_eachToken_sA_6 : LS sy (Int × Unit) ((Unit × Unit) × List (sg.Den Cd.span) × Unit) := ⟨[], fCons 4 (vInt sy .i64) (fNil sy), hCells 0 (lCons (vLit sy (.o 1)) (lNil sy)) (hBuf 1 Cd.span (hNil sy)), 2, [1]⟩
def FF_token_eachToken_sA_6 (A5 : T_input_Clean) (A14 : T_behindCommentsA) (A15 : T_readTokenA) (n : Nat) (x : ((Unit × Unit) × (List UInt8) × Int × Int × Unit) × ((Unit × Unit) × List (sg.Den Cd.span) × Unit)) (K : Ex → Z sg → Prop) : Prop := F_token_eachToken_sA_l6 A5 A14 A15 n x.1.2.1 x.1.2.2.1 x.1.2.2.2.1 x.2.2.1 (fun y0 => K (.exit 0) (le_token_eachToken_sA_6.put ((), (((), ()), y0, ())))) (fun y0 y1 => K .ret (lr_token_eachToken_sA_6.put ((y0, ()), (((), ()), y1, ()))))
def h_token_eachToken_sA_6 (A5 : T_input_Clean) (A14 : T_behindCommentsA) (A15 : T_readTokenA) (z : Z sg) (K : Ex → Z sg → Prop) : Prop := ls_token_eachToken_sA_6.get z (fun x => ∃ n, FF_token_eachToken_sA_6 A5 A14 A15 n x K)
def L_token_eachToken_sA (A5 : T_input_Clean) (A14 : T_behindCommentsA) (A15 : T_readTokenA) : LoopT sg := tabL [(6, h_token_eachToken_sA_6 A5 A14 A15)]
theorem hs_token_eachToken_sA_6 (A5 : T_input_Clean) (A14 : T_behindCommentsA) (A15 : T_readTokenA) (n : Nat) (x : ((Unit × Unit) × (List UInt8) × Int × Int × Unit) × ((Unit × Unit) × List (sg.Den Cd.span) × Unit)) (K : Ex → Z sg → Prop) : forceZ (ls_token_eachToken_sA_6.put x) (fun z => sC sy Tryd.prog GT (C_token_eachToken_sA A5 A14 A15) (L_token_eachToken_sA A5 A14 A15) Tryd.f11.ntmps (nthLoop (bodyOf Tryd.f11) 0) z (rnd ls_token_eachToken_sA_6 (czT 0 le_token_eachToken_sA_6 lr_token_eachToken_sA_6) (fun x => FF_token_eachToken_sA_6 A5 A14 A15 n x K) K)) = FF_token_eachToken_sA_6 A5 A14 A15 (n + 1) x K := by kernel_rfl
theorem hl_token_eachToken_sA_6 (A5 : T_input_Clean) (A14 : T_behindCommentsA) (A15 : T_readTokenA) (z : Z sg) (K : Ex → Z sg → Prop) : (L_token_eachToken_sA A5 A14 A15) (nthLoop (bodyOf Tryd.f11) 0) z K = ls_token_eachToken_sA_6.get z (fun x => ∃ n, FF_token_eachToken_sA_6 A5 A14 A15 n x K) := by kernel_rfl
theorem lo_token_eachToken_sA_6 (A5 : T_input_Clean) (A14 : T_behindCommentsA) (A15 : T_readTokenA) (h5 : FnOK sy Tryd.prog GT ovD GL 5 (q_input_Clean A5)) (h14 : FnOK sy Tryd.prog GT ovD GL 14 (q_behindCommentsA A14)) (h15 : FnOK sy Tryd.prog GT ovD GL 15 (q_readTokenA A15)) : ∀ (o0 : Nat → Prop) (B : Bs sg), B.E.length ≤ 1 → ∀ z K, (L_token_eachToken_sA A5 A14 A15) (nthLoop (bodyOf Tryd.f11) 0) z K → Sx.Sem sy Tryd.prog GT ovD o0 GL Tryd.f11.ntmps B (.loop (nthLoop (bodyOf Tryd.f11) 0)) z K :=
  loop_ok (Cok_token_eachToken_sA A5 A14 A15 h5 h14 h15) (lp_of (l := []) (by kernel_rfl) lp_nil) ls_token_eachToken_sA_6 (by decide) (czT 0 le_token_eachToken_sA_6 lr_token_eachToken_sA_6) (fun _ _ hB => czT_ok 0 le_token_eachToken_sA_6 lr_token_eachToken_sA_6 (Nat.le_trans hB (by decide)) (Nat.le_trans hB (by decide))) (fun _ _ h => h) (hs_token_eachToken_sA_6 A5 A14 A15) (hl_token_eachToken_sA_6 A5 A14 A15)
theorem Lp_token_eachToken_sA (A5 : T_input_Clean) (A14 : T_behindCommentsA) (A15 : T_readTokenA) (h5 : FnOK sy Tryd.prog GT ovD GL 5 (q_input_Clean A5)) (h14 : FnOK sy Tryd.prog GT ovD GL 14 (q_behindCommentsA A14)) (h15 : FnOK sy Tryd.prog GT ovD GL 15 (q_readTokenA A15)) : LpOK sy Tryd.prog GT ovD GL (L_token_eachToken_sA A5 A14 A15) 1 Tryd.f11.ntmps (bodyOf Tryd.f11) := lp_of (l := [(nthLoop (bodyOf Tryd.f11) 0)]) (by kernel_rfl) (lp_cons (lo_token_eachToken_sA_6 A5 A14 A15 h5 h14 h15) lp_nil)


abbrev T_SpansA := List UInt8 → (List (Int × Int) → Int → Prop) → Prop
def q_SpansA (A : T_SpansA) (us : List W) (k : W → Prop) : Prop := match us with
  | [.s a0] => A a0 (fun r0 r1 => k (.t [.l Cd.span r0, .i .i64 r1]))
  | _ => False
theorem q_SpansA_weak {A A2 : T_SpansA} (h : FnOK sy Tryd.prog GT ovD GL 7 (q_SpansA A)) (hA : ∀ a0 K, A2 a0 K → A a0 K) : FnOK sy Tryd.prog GT ovD GL 7 (q_SpansA A2) := h.weak (by
  intro us k h
  unfold q_SpansA at h ⊢
  split at h
  · exact hA _ _ h
  · exact h.elim)

def F_SpansA (A5 : T_input_Clean) (A14 : T_behindCommentsA) (A15 : T_readTokenA) (a0 : List UInt8) (K : List (Int × Int) → Int → Prop) : Prop :=
  (A5 a0 (fun y1 y2 => (((decide (y2 ≠ (0 : Int))) = true → (((decide (y2 ≠ (0 : Int))) = true → K ([] : List (Int × Int)) y2) ∧ ((decide (y2 ≠ (0 : Int))) = false → K ([] : List (Int × Int)) (0 : Int)))) ∧ ((decide (y2 ≠ (0 : Int))) = false → (A14 y1 (0 : Int) (fun y3 => (∃ m, F_token_eachToken_sA_l6 A5 A14 A15 m y1 (0 : Int) y3 ([] : List (Int × Int)) (fun y4 => (((decide ((0 : Int) ≠ (0 : Int))) = true → K ([] : List (Int × Int)) (0 : Int)) ∧ ((decide ((0 : Int) ≠ (0 : Int))) = false → K y4 (0 : Int)))) (fun y5 y6 => (((decide (y5 ≠ (0 : Int))) = true → K ([] : List (Int × Int)) y5) ∧ ((decide (y5 ≠ (0 : Int))) = false → K y6 (0 : Int)))))))))))

def C_SpansA (A5 : T_input_Clean) (A14 : T_behindCommentsA) (A15 : T_readTokenA) : CallT sg := tab [(11, inl sy Tryd.prog GT (C_token_eachToken_sA A5 A14 A15) (L_token_eachToken_sA A5 A14 A15) 1 Tryd.f11.ntmps (bodyOf Tryd.f11) Tryd.f11.results.toList), (13, inl sy Tryd.prog GT (C_token_Spans_1A) noL 1000 Tryd.f13.ntmps (bodyOf Tryd.f13) Tryd.f13.results.toList)]
theorem Cok_SpansA (A5 : T_input_Clean) (A14 : T_behindCommentsA) (A15 : T_readTokenA) (h5 : FnOK sy Tryd.prog GT ovD GL 5 (q_input_Clean A5)) (h14 : FnOK sy Tryd.prog GT ovD GL 14 (q_behindCommentsA A14)) (h15 : FnOK sy Tryd.prog GT ovD GL 15 (q_readTokenA A15)) (o0 : Nat → Prop) : CalOK sy Tryd.prog GT ovD o0 GL (C_SpansA A5 A14 A15) := (tab_cons (inl_ok (f := 11) (fn := Tryd.f11) (fun _ _ => rfl) Tryd.func11 (by kernel_rfl) rfl rfl (Cok_token_eachToken_sA A5 A14 A15 h5 h14 h15) (Lp_token_eachToken_sA A5 A14 A15 h5 h14 h15)) (tab_cons (inl_ok (f := 13) (fn := Tryd.f13) (fun _ _ => rfl) Tryd.func13 (by kernel_rfl) rfl rfl (Cok_token_Spans_1A) (lp_of (l := []) (by kernel_rfl) lp_nil)) tab_nil)) o0

theorem raw_SpansA (A5 : T_input_Clean) (A14 : T_behindCommentsA) (A15 : T_readTokenA) (a0 : List UInt8) (k : W → Prop) : fnT sy Tryd.prog GT (C_SpansA A5 A14 A15) noL Tryd.f7.ntmps (bodyOf Tryd.f7) [some Cd.span, none] Tryd.f7.results.toList [.s a0] k = F_SpansA A5 A14 A15 a0 (fun r0 r1 => k (.t [.l Cd.span r0, .i .i64 r1])) := by kernel_rfl

theorem ok_SpansA (A5 : T_input_Clean) (A14 : T_behindCommentsA) (A15 : T_readTokenA) (h5 : FnOK sy Tryd.prog GT ovD GL 5 (q_input_Clean A5)) (h14 : FnOK sy Tryd.prog GT ovD GL 14 (q_behindCommentsA A14)) (h15 : FnOK sy Tryd.prog GT ovD GL 15 (q_readTokenA A15)) : FnOK sy Tryd.prog GT ovD GL 7 (q_SpansA (F_SpansA A5 A14 A15)) := (fn_ok (rc := [some Cd.span, none]) (f := 7) (fn := Tryd.f7) (c := bodyOf Tryd.f7) (nt := Tryd.f7.ntmps) (res := Tryd.f7.results.toList) (C := C_SpansA A5 A14 A15) (L := noL) (fun _ _ => rfl) Tryd.func7 (by kernel_rfl) rfl rfl (Cok_SpansA A5 A14 A15 h5 h14 h15) (lp_of (l := []) (by kernel_rfl) lp_nil)).weak (by
  intro us k h
  unfold q_SpansA at h
  split at h
  · skip
    rename_i a0
    rw [raw_SpansA A5 A14 A15 a0 k]
    exact h
  · exact h.elim)

end Go.Proofs.YthjnfeihngjchaaDoor
