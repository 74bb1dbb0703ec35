/-
  Functions of the tokenizer, followed: tokens of all kinds, all tokens. Nothing is claimed here.
-/
import Derived.Test.YtcjoehlflbegpaaGreatDoorTg
namespace Go.Proofs.YtcjoehlflbegpaaGreatDoor
open Go.Vm Go.Sx Go.RowKit

abbrev T_gslIndex := Bt → Bt → (Int → Prop) → Prop
def q_gslIndex (A : T_gslIndex) (us : List W) (k : W → Prop) : Prop := match us with
  | [.s a0, .s a1] => A a0 a1 (fun r0 => k (.i .i64 r0))
  | _ => False
theorem q_gslIndex_weak {A A2 : T_gslIndex} (h : FO 48 (q_gslIndex A)) (hA : ∀ a0 a1 K, A2 a0 a1 K → A a0 a1 K) : FO 48 (q_gslIndex A2) := h.weak (by
  intro us k h
  unfold q_gslIndex at h ⊢
  split at h
  · exact hA _ _ _ h
  · exact h.elim)

abbrev T_gs_Index := Bt → Bt → (Int → Prop) → Prop
def q_gs_Index (A : T_gs_Index) (us : List W) (k : W → Prop) : Prop := match us with
  | [.s a0, .s a1] => A a0 a1 (fun r0 => k (.i .i64 r0))
  | _ => False
theorem q_gs_Index_weak {A A2 : T_gs_Index} (h : FO 23 (q_gs_Index A)) (hA : ∀ a0 a1 K, A2 a0 a1 K → A a0 a1 K) : FO 23 (q_gs_Index A2) := h.weak (by
  intro us k h
  unfold q_gs_Index at h ⊢
  split at h
  · exact hA _ _ _ h
  · exact h.elim)

def F_gs_Index (A48 : T_gslIndex) (a0 : Bt) (a1 : Bt) (K : Int → Prop) : Prop :=
  (A48 a0 a1 (fun y1 => K y1))

def C_gs_Index (A48 : T_gslIndex) : CallT sg := tab [(48, con [none, none] (q_gslIndex A48))]
theorem Cok_gs_Index (A48 : T_gslIndex) (h48 : FO 48 (q_gslIndex A48)) (o0 : Nat → Prop) : CalOK sy Tryz.prog GT ovD o0 GL (C_gs_Index A48) := (tab_cons (con_ok h48) tab_nil) o0

theorem raw_gs_Index (A48 : T_gslIndex) (a0 : Bt) (a1 : Bt) (k : W → Prop) : fnT sy Tryz.prog GT (C_gs_Index A48) noL Tryz.f23.ntmps (bodyOf Tryz.f23) [none] Tryz.f23.results.toList [.s a0, .s a1] k = F_gs_Index A48 a0 a1 (fun r0 => k (.i .i64 r0)) := by kernel_rfl

theorem ok_gs_Index (A48 : T_gslIndex) (h48 : FO 48 (q_gslIndex A48)) : FO 23 (q_gs_Index (F_gs_Index A48)) := (fn_ok (rc := [none]) (f := 23) (fn := Tryz.f23) (c := bodyOf Tryz.f23) (nt := Tryz.f23.ntmps) (res := Tryz.f23.results.toList) (C := C_gs_Index A48) (L := noL) (fun _ => rfl) Tryz.func23 (by kernel_rfl) rfl rfl (Cok_gs_Index A48 h48) (lp_of (l := []) (by kernel_rfl) lp_nil)).weak (by
  intro us k h
  unfold q_gs_Index at h
  split at h
  · skip
    rename_i a0 a1
    rw [raw_gs_Index A48 a0 a1 k]
    exact h
  · exact h.elim)

abbrev T_k_isMark := Int → (Bool → Prop) → Prop
def q_k_isMark (A : T_k_isMark) (us : List W) (k : W → Prop) : Prop := match us with
  | [.i .u8 a0] => A a0 (fun r0 => k (.b r0))
  | _ => False
theorem q_k_isMark_weak {A A2 : T_k_isMark} (h : FO 34 (q_k_isMark A)) (hA : ∀ a0 K, A2 a0 K → A a0 K) : FO 34 (q_k_isMark A2) := h.weak (by
  intro us k h
  unfold q_k_isMark at h ⊢
  split at h
  · exact hA _ _ h
  · exact h.elim)

def F_k_isMark (a0 : Int) (K : Bool → Prop) : Prop :=
  (I64 a0 ∧ (((decide (a0 < 126)) = true → ((0 ≤ a0 ∧ a0 < 126) ∧ (0 + a0.toNat * 1 < marksL.length ∧ K (decide ((marksL.getD (0 + a0.toNat * 1) 0) ≠ (0 : Int)))))) ∧ ((decide (a0 < 126)) = false → K false)))

def C_k_isMark : CallT sg := tab []
theorem Cok_k_isMark (o0 : Nat → Prop) : CalOK sy Tryz.prog GT ovD o0 GL (C_k_isMark) := tab_nil o0

theorem raw_k_isMark (a0 : Int) (k : W → Prop) : fnT sy Tryz.prog GT (C_k_isMark) noL Tryz.f34.ntmps (bodyOf Tryz.f34) [none] Tryz.f34.results.toList [.i .u8 a0] k = F_k_isMark a0 (fun r0 => k (.b r0)) := by kernel_rfl

theorem ok_k_isMark : FO 34 (q_k_isMark (F_k_isMark)) := (fn_ok (rc := [none]) (f := 34) (fn := Tryz.f34) (c := bodyOf Tryz.f34) (nt := Tryz.f34.ntmps) (res := Tryz.f34.results.toList) (C := C_k_isMark) (L := noL) (fun _ => rfl) Tryz.func34 (by kernel_rfl) rfl rfl (Cok_k_isMark) (lp_of (l := []) (by kernel_rfl) lp_nil)).weak (by
  intro us k h
  unfold q_k_isMark at h
  split at h
  · skip
    rename_i a0
    rw [raw_k_isMark a0 k]
    exact h
  · exact h.elim)

abbrev T_readNumericA := Bt → Int → (Tok → Int → Prop) → Prop
def q_readNumericA (A : T_readNumericA) (us : List W) (k : W → Prop) : Prop := match us with
  | [.s a0, .i .i64 a1] => A a0 a1 (fun r0 r1 => k (.t [.a [.i .u8 r0.kind, .s r0.text, .i .i64 r0.num, .s r0.unit, .b r0.flag], .i .i64 r1]))
  | _ => False
theorem q_readNumericA_weak {A A2 : T_readNumericA} (h : FO 32 (q_readNumericA A)) (hA : ∀ a0 a1 K, A2 a0 a1 K → A a0 a1 K) : FO 32 (q_readNumericA A2) := h.weak (by
  intro us k h
  unfold q_readNumericA at h ⊢
  split at h
  · exact hA _ _ _ h
  · exact h.elim)

def F_readNumericA (A57 : T_k_rNu) (A29 : T_k_nameStarts) (A30 : T_k_readName) (A49 : T_k_byteAt) (a0 : Bt) (a1 : Int) (K : Tok → Int → Prop) : Prop :=
  (A57 a0 a1 (fun y1 y2 y3 => (A29 a0 y3 (fun y4 => ((y4 = true → (A30 a0 y3 (fun y5 y6 => K (Tok.mk (12 : Int) ([] : Bt) y1 y5 y2) y6))) ∧ (y4 = false → (A49 a0 y3 (fun y7 => (((decide (y7 = 37)) = true → (I64 (y3 + 1) ∧ K (Tok.mk (11 : Int) ([] : Bt) y1 ([] : Bt) false) (y3 + 1))) ∧ ((decide (y7 = 37)) = false → K (Tok.mk (10 : Int) ([] : Bt) y1 ([] : Bt) y2) y3))))))))))

def C_readNumericA (A57 : T_k_rNu) (A29 : T_k_nameStarts) (A30 : T_k_readName) (A49 : T_k_byteAt) : CallT sg := tab [(57, con [none, none] (q_k_rNu A57)), (29, con [none, none] (q_k_nameStarts A29)), (30, con [none, none] (q_k_readName A30)), (49, con [none, none] (q_k_byteAt A49))]
theorem Cok_readNumericA (A57 : T_k_rNu) (A29 : T_k_nameStarts) (A30 : T_k_readName) (A49 : T_k_byteAt) (h57 : FO 57 (q_k_rNu A57)) (h29 : FO 29 (q_k_nameStarts A29)) (h30 : FO 30 (q_k_readName A30)) (h49 : FO 49 (q_k_byteAt A49)) (o0 : Nat → Prop) : CalOK sy Tryz.prog GT ovD o0 GL (C_readNumericA A57 A29 A30 A49) := (tab_cons (con_ok h57) (tab_cons (con_ok h29) (tab_cons (con_ok h30) (tab_cons (con_ok h49) tab_nil)))) o0

theorem raw_readNumericA (A57 : T_k_rNu) (A29 : T_k_nameStarts) (A30 : T_k_readName) (A49 : T_k_byteAt) (a0 : Bt) (a1 : Int) (k : W → Prop) : fnT sy Tryz.prog GT (C_readNumericA A57 A29 A30 A49) noL Tryz.f32.ntmps (bodyOf Tryz.f32) [none, none] Tryz.f32.results.toList [.s a0, .i .i64 a1] k = F_readNumericA A57 A29 A30 A49 a0 a1 (fun r0 r1 => k (.t [.a [.i .u8 r0.kind, .s r0.text, .i .i64 r0.num, .s r0.unit, .b r0.flag], .i .i64 r1])) := by kernel_rfl

theorem ok_readNumericA (A57 : T_k_rNu) (A29 : T_k_nameStarts) (A30 : T_k_readName) (A49 : T_k_byteAt) (h57 : FO 57 (q_k_rNu A57)) (h29 : FO 29 (q_k_nameStarts A29)) (h30 : FO 30 (q_k_readName A30)) (h49 : FO 49 (q_k_byteAt A49)) : FO 32 (q_readNumericA (F_readNumericA A57 A29 A30 A49)) := (fn_ok (rc := [none, none]) (f := 32) (fn := Tryz.f32) (c := bodyOf Tryz.f32) (nt := Tryz.f32.ntmps) (res := Tryz.f32.results.toList) (C := C_readNumericA A57 A29 A30 A49) (L := noL) (fun _ => rfl) Tryz.func32 (by kernel_rfl) rfl rfl (Cok_readNumericA A57 A29 A30 A49 h57 h29 h30 h49) (lp_of (l := []) (by kernel_rfl) lp_nil)).weak (by
  intro us k h
  unfold q_readNumericA at h
  split at h
  · skip
    rename_i a0 a1
    rw [raw_readNumericA A57 A29 A30 A49 a0 a1 k]
    exact h
  · exact h.elim)

abbrev T_behindCommentsA := Bt → Int → (Int → Prop) → Prop
def q_behindCommentsA (A : T_behindCommentsA) (us : List W) (k : W → Prop) : Prop := match us with
  | [.s a0, .i .i64 a1] => A a0 a1 (fun r0 => k (.i .i64 r0))
  | _ => False
theorem q_behindCommentsA_weak {A A2 : T_behindCommentsA} (h : FO 16 (q_behindCommentsA A)) (hA : ∀ a0 a1 K, A2 a0 a1 K → A a0 a1 K) : FO 16 (q_behindCommentsA A2) := h.weak (by
  intro us k h
  unfold q_behindCommentsA at h ⊢
  split at h
  · exact hA _ _ _ h
  · exact h.elim)

def F_behindCommentsA_l1 (A22 : T_gs_HasPrefix) (A23 : T_gs_Index) : Nat → Bt → Int → (Int → Prop) → (Int → Prop) → Prop
  | 0, _, _, _, _ => False
  | n + 1, x0, x1, Ke, Kr => ((0 ≤ x1 ∧ x1 ≤ (x0.length : Int)) ∧ (A22 (x0.drop x1.toNat) ([47, 42] : Bt) (fun y1 => ((y1 = true → (I64 (x1 + 2) ∧ ((0 ≤ (x1 + 2) ∧ (x1 + 2) ≤ (x0.length : Int)) ∧ (A23 (x0.drop (x1 + 2).toNat) ([42, 47] : Bt) (fun y2 => (((decide (y2 < 0)) = true → Kr (x0.length : Int)) ∧ ((decide (y2 < 0)) = false → (I64 (y2 + 2) ∧ (I64 ((x1 + 2) + (y2 + 2)) ∧ F_behindCommentsA_l1 A22 A23 n x0 ((x1 + 2) + (y2 + 2)) Ke Kr))))))))) ∧ (y1 = false → Ke x1)))))

def F_behindCommentsA (A22 : T_gs_HasPrefix) (A23 : T_gs_Index) (a0 : Bt) (a1 : Int) (K : Int → Prop) : Prop :=
  (∃ m, F_behindCommentsA_l1 A22 A23 m a0 a1 (fun y1 => K y1) (fun y2 => K y2))

def C_behindCommentsA (A22 : T_gs_HasPrefix) (A23 : T_gs_Index) : CallT sg := tab [(22, con [none, none] (q_gs_HasPrefix A22)), (23, con [none, none] (q_gs_Index A23))]
theorem Cok_behindCommentsA (A22 : T_gs_HasPrefix) (A23 : T_gs_Index) (h22 : FO 22 (q_gs_HasPrefix A22)) (h23 : FO 23 (q_gs_Index A23)) (o0 : Nat → Prop) : CalOK sy Tryz.prog GT ovD o0 GL (C_behindCommentsA A22 A23) := (tab_cons (con_ok h22) (tab_cons (con_ok h23) tab_nil)) o0

def ls_behindCommentsA_1 : LS sy ((Bt) × Int × Unit) Unit := ⟨[], fCons 0 (vStr sy) (fCons 1 (vInt sy .i64) (fNil sy)), hNil sy, 0, []⟩
def le_behindCommentsA_1 : LS sy (Int × Unit) Unit := ⟨[], fCons 1 (vInt sy .i64) (fNil sy), hNil sy, 0, []⟩
def lr_behindCommentsA_1 : LS sy (Int × Unit) Unit := ⟨[], fCons 4 (vInt sy .i64) (fNil sy), hNil sy, 0, []⟩
def FF_behindCommentsA_1 (A22 : T_gs_HasPrefix) (A23 : T_gs_Index) (n : Nat) (x : ((Bt) × Int × Unit) × Unit) (K : Ex → Z sg → Prop) : Prop := F_behindCommentsA_l1 A22 A23 n x.1.1 x.1.2.1 (fun y0 => K (.exit 0) (le_behindCommentsA_1.put ((y0, ()), ()))) (fun y0 => K .ret (lr_behindCommentsA_1.put ((y0, ()), ())))
def h_behindCommentsA_1 (A22 : T_gs_HasPrefix) (A23 : T_gs_Index) (z : Z sg) (K : Ex → Z sg → Prop) : Prop := ls_behindCommentsA_1.get z (fun x => ∃ n, FF_behindCommentsA_1 A22 A23 n x K)
def L_behindCommentsA (A22 : T_gs_HasPrefix) (A23 : T_gs_Index) : LoopT sg := tabL [(1, h_behindCommentsA_1 A22 A23)]
theorem hs_behindCommentsA_1 (A22 : T_gs_HasPrefix) (A23 : T_gs_Index) (n : Nat) (x : ((Bt) × Int × Unit) × Unit) (K : Ex → Z sg → Prop) : forceZ (ls_behindCommentsA_1.put x) (fun z => sC sy Tryz.prog GT (C_behindCommentsA A22 A23) (L_behindCommentsA A22 A23) Tryz.f16.ntmps (nthLoop (bodyOf Tryz.f16) 0) z (rnd ls_behindCommentsA_1 (czT 0 le_behindCommentsA_1 lr_behindCommentsA_1) (fun x => FF_behindCommentsA_1 A22 A23 n x K) K)) = FF_behindCommentsA_1 A22 A23 (n + 1) x K := by kernel_rfl
theorem hl_behindCommentsA_1 (A22 : T_gs_HasPrefix) (A23 : T_gs_Index) (z : Z sg) (K : Ex → Z sg → Prop) : (L_behindCommentsA A22 A23) (nthLoop (bodyOf Tryz.f16) 0) z K = ls_behindCommentsA_1.get z (fun x => ∃ n, FF_behindCommentsA_1 A22 A23 n x K) := by kernel_rfl
theorem lo_behindCommentsA_1 (A22 : T_gs_HasPrefix) (A23 : T_gs_Index) (h22 : FO 22 (q_gs_HasPrefix A22)) (h23 : FO 23 (q_gs_Index A23)) : ∀ (o0 : Nat → Prop) (B : Bs sg), B.E.length ≤ 0 → ∀ z K, (L_behindCommentsA A22 A23) (nthLoop (bodyOf Tryz.f16) 0) z K → Sx.Sem sy Tryz.prog GT ovD o0 GL Tryz.f16.ntmps B (.loop (nthLoop (bodyOf Tryz.f16) 0)) z K :=
  loop_ok (Cok_behindCommentsA A22 A23 h22 h23) (lp_of (l := []) (by kernel_rfl) lp_nil) ls_behindCommentsA_1 (by decide) (czT 0 le_behindCommentsA_1 lr_behindCommentsA_1) (fun _ _ hB => czT_ok 0 le_behindCommentsA_1 lr_behindCommentsA_1 (Nat.le_trans hB (by decide)) (Nat.le_trans hB (by decide))) (fun _ _ h => h) (hs_behindCommentsA_1 A22 A23) (hl_behindCommentsA_1 A22 A23)
theorem Lp_behindCommentsA (A22 : T_gs_HasPrefix) (A23 : T_gs_Index) (h22 : FO 22 (q_gs_HasPrefix A22)) (h23 : FO 23 (q_gs_Index A23)) : LpOK sy Tryz.prog GT ovD GL (L_behindCommentsA A22 A23) 0 Tryz.f16.ntmps (bodyOf Tryz.f16) := lp_of (l := [(nthLoop (bodyOf Tryz.f16) 0)]) (by kernel_rfl) (lp_cons (lo_behindCommentsA_1 A22 A23 h22 h23) lp_nil)


theorem raw_behindCommentsA (A22 : T_gs_HasPrefix) (A23 : T_gs_Index) (a0 : Bt) (a1 : Int) (k : W → Prop) : fnT sy Tryz.prog GT (C_behindCommentsA A22 A23) (L_behindCommentsA A22 A23) Tryz.f16.ntmps (bodyOf Tryz.f16) [none] Tryz.f16.results.toList [.s a0, .i .i64 a1] k = F_behindCommentsA A22 A23 a0 a1 (fun r0 => k (.i .i64 r0)) := by kernel_rfl

theorem ok_behindCommentsA (A22 : T_gs_HasPrefix) (A23 : T_gs_Index) (h22 : FO 22 (q_gs_HasPrefix A22)) (h23 : FO 23 (q_gs_Index A23)) : FO 16 (q_behindCommentsA (F_behindCommentsA A22 A23)) := (fn_ok (rc := [none]) (f := 16) (fn := Tryz.f16) (c := bodyOf Tryz.f16) (nt := Tryz.f16.ntmps) (res := Tryz.f16.results.toList) (C := C_behindCommentsA A22 A23) (L := (L_behindCommentsA A22 A23)) (fun _ => rfl) Tryz.func16 (by kernel_rfl) rfl rfl (Cok_behindCommentsA A22 A23 h22 h23) (Lp_behindCommentsA A22 A23 h22 h23)).weak (by
  intro us k h
  unfold q_behindCommentsA at h
  split at h
  · skip
    rename_i a0 a1
    rw [raw_behindCommentsA A22 A23 a0 a1 k]
    exact h
  · exact h.elim)

abbrev T_readTokenA := Bt → Int → (Tok → Int → Prop) → Prop
def q_readTokenA (A : T_readTokenA) (us : List W) (k : W → Prop) : Prop := match us with
  | [.s a0, .i .i64 a1] => A a0 a1 (fun r0 r1 => k (.t [.a [.i .u8 r0.kind, .s r0.text, .i .i64 r0.num, .s r0.unit, .b r0.flag], .i .i64 r1]))
  | _ => False
theorem q_readTokenA_weak {A A2 : T_readTokenA} (h : FO 17 (q_readTokenA A)) (hA : ∀ a0 a1 K, A2 a0 a1 K → A a0 a1 K) : FO 17 (q_readTokenA A2) := h.weak (by
  intro us k h
  unfold q_readTokenA at h ⊢
  split at h
  · exact hA _ _ _ h
  · exact h.elim)

def F_readTokenA (A24 : T_char_IsSpace) (A25 : T_k_behindSpaces) (A26 : T_char_IsQuote) (A27 : T_k_rSt) (A28 : T_k_nameGoesOn) (A29 : T_k_nameStarts) (A30 : T_k_readName) (A31 : T_k_nSt) (A32 : T_readNumericA) (A22 : T_gs_HasPrefix) (A33 : T_k_readNamed) (A34 : T_k_isMark) (a0 : Bt) (a1 : Int) (K : Tok → Int → Prop) : Prop :=
  ((0 ≤ a1 ∧ a1 < (a0.length : Int)) ∧ (A24 ((a0.getD a1.toNat 0).toNat : Int) (fun y1 => ((y1 = true → (A25 a0 a1 (fun y2 => K (Tok.mk (13 : Int) ([] : Bt) (0 : Int) ([] : Bt) false) y2))) ∧ (y1 = false → ((0 ≤ a1 ∧ a1 < (a0.length : Int)) ∧ (A26 ((a0.getD a1.toNat 0).toNat : Int) (fun y3 => ((y3 = true → (A27 a0 a1 (fun y4 y5 => K (Tok.mk y4.kind y4.text y4.num y4.unit y4.flag) y5))) ∧ (y3 = false → ((0 ≤ a1 ∧ a1 < (a0.length : Int)) ∧ (((decide (((a0.getD a1.toNat 0).toNat : Int) = (35 : Int))) = true → (I64 (a1 + 1) ∧ (A28 a0 (a1 + 1) (fun y6 => ((y6 = true → (I64 (a1 + 1) ∧ (A29 a0 (a1 + 1) (fun y7 => (I64 (a1 + 1) ∧ (A30 a0 (a1 + 1) (fun y8 y9 => K (Tok.mk (4 : Int) y8 (0 : Int) ([] : Bt) y7) y9))))))) ∧ (y6 = false → (A31 a0 a1 (fun y10 => ((y10 = true → (A32 a0 a1 (fun y11 y12 => K (Tok.mk y11.kind y11.text y11.num y11.unit y11.flag) y12))) ∧ (y10 = false → ((0 ≤ a1 ∧ a1 ≤ (a0.length : Int)) ∧ (A22 (a0.drop a1.toNat) ([45, 45, 62] : Bt) (fun y13 => ((y13 = true → (I64 (a1 + 3) ∧ K (Tok.mk (15 : Int) ([] : Bt) (0 : Int) ([] : Bt) false) (a1 + 3))) ∧ (y13 = false → ((0 ≤ a1 ∧ a1 ≤ (a0.length : Int)) ∧ (A22 (a0.drop a1.toNat) ([60, 33, 45, 45] : Bt) (fun y14 => ((y14 = true → (I64 (a1 + 4) ∧ K (Tok.mk (14 : Int) ([] : Bt) (0 : Int) ([] : Bt) false) (a1 + 4))) ∧ (y14 = false → ((0 ≤ a1 ∧ a1 < (a0.length : Int)) ∧ (((decide (((a0.getD a1.toNat 0).toNat : Int) = (64 : Int))) = true → (I64 (a1 + 1) ∧ (A29 a0 (a1 + 1) (fun y15 => ((y15 = true → (I64 (a1 + 1) ∧ (A30 a0 (a1 + 1) (fun y16 y17 => K (Tok.mk (3 : Int) y16 (0 : Int) ([] : Bt) false) y17)))) ∧ (y15 = false → (A29 a0 a1 (fun y18 => ((y18 = true → (A33 a0 a1 (fun y19 y20 => K (Tok.mk y19.kind y19.text y19.num y19.unit y19.flag) y20))) ∧ (y18 = false → ((0 ≤ a1 ∧ a1 < (a0.length : Int)) ∧ (A34 ((a0.getD a1.toNat 0).toNat : Int) (fun y21 => ((y21 = true → ((0 ≤ a1 ∧ a1 < (a0.length : Int)) ∧ ((0 ≤ ((a0.getD a1.toNat 0).toNat : Int) ∧ ((a0.getD a1.toNat 0).toNat : Int) < (126 : Int)) ∧ (0 + ((a0.getD a1.toNat 0).toNat : Int).toNat * 1 < marksL.length ∧ (I64 (a1 + 1) ∧ K (Tok.mk (marksL.getD (0 + ((a0.getD a1.toNat 0).toNat : Int).toNat * 1) 0) ([] : Bt) (0 : Int) ([] : Bt) false) (a1 + 1)))))) ∧ (y21 = false → (I64 (a1 + 1) ∧ ((0 ≤ a1 ∧ a1 ≤ (a1 + 1) ∧ (a1 + 1) ≤ (a0.length : Int)) ∧ (I64 (a1 + 1) ∧ K (Tok.mk (9 : Int) ((a0.drop a1.toNat).take ((a1 + 1).toNat - a1.toNat)) (0 : Int) ([] : Bt) false) (a1 + 1))))))))))))))))))) ∧ ((decide (((a0.getD a1.toNat 0).toNat : Int) = (64 : Int))) = false → (A29 a0 a1 (fun y22 => ((y22 = true → (A33 a0 a1 (fun y23 y24 => K (Tok.mk y23.kind y23.text y23.num y23.unit y23.flag) y24))) ∧ (y22 = false → ((0 ≤ a1 ∧ a1 < (a0.length : Int)) ∧ (A34 ((a0.getD a1.toNat 0).toNat : Int) (fun y25 => ((y25 = true → ((0 ≤ a1 ∧ a1 < (a0.length : Int)) ∧ ((0 ≤ ((a0.getD a1.toNat 0).toNat : Int) ∧ ((a0.getD a1.toNat 0).toNat : Int) < (126 : Int)) ∧ (0 + ((a0.getD a1.toNat 0).toNat : Int).toNat * 1 < marksL.length ∧ (I64 (a1 + 1) ∧ K (Tok.mk (marksL.getD (0 + ((a0.getD a1.toNat 0).toNat : Int).toNat * 1) 0) ([] : Bt) (0 : Int) ([] : Bt) false) (a1 + 1)))))) ∧ (y25 = false → (I64 (a1 + 1) ∧ ((0 ≤ a1 ∧ a1 ≤ (a1 + 1) ∧ (a1 + 1) ≤ (a0.length : Int)) ∧ (I64 (a1 + 1) ∧ K (Tok.mk (9 : Int) ((a0.drop a1.toNat).take ((a1 + 1).toNat - a1.toNat)) (0 : Int) ([] : Bt) false) (a1 + 1)))))))))))))))))))))))))))))))))))) ∧ ((decide (((a0.getD a1.toNat 0).toNat : Int) = (35 : Int))) = false → (A31 a0 a1 (fun y26 => ((y26 = true → (A32 a0 a1 (fun y27 y28 => K (Tok.mk y27.kind y27.text y27.num y27.unit y27.flag) y28))) ∧ (y26 = false → ((0 ≤ a1 ∧ a1 ≤ (a0.length : Int)) ∧ (A22 (a0.drop a1.toNat) ([45, 45, 62] : Bt) (fun y29 => ((y29 = true → (I64 (a1 + 3) ∧ K (Tok.mk (15 : Int) ([] : Bt) (0 : Int) ([] : Bt) false) (a1 + 3))) ∧ (y29 = false → ((0 ≤ a1 ∧ a1 ≤ (a0.length : Int)) ∧ (A22 (a0.drop a1.toNat) ([60, 33, 45, 45] : Bt) (fun y30 => ((y30 = true → (I64 (a1 + 4) ∧ K (Tok.mk (14 : Int) ([] : Bt) (0 : Int) ([] : Bt) false) (a1 + 4))) ∧ (y30 = false → ((0 ≤ a1 ∧ a1 < (a0.length : Int)) ∧ (((decide (((a0.getD a1.toNat 0).toNat : Int) = (64 : Int))) = true → (I64 (a1 + 1) ∧ (A29 a0 (a1 + 1) (fun y31 => ((y31 = true → (I64 (a1 + 1) ∧ (A30 a0 (a1 + 1) (fun y32 y33 => K (Tok.mk (3 : Int) y32 (0 : Int) ([] : Bt) false) y33)))) ∧ (y31 = false → (A29 a0 a1 (fun y34 => ((y34 = true → (A33 a0 a1 (fun y35 y36 => K (Tok.mk y35.kind y35.text y35.num y35.unit y35.flag) y36))) ∧ (y34 = false → ((0 ≤ a1 ∧ a1 < (a0.length : Int)) ∧ (A34 ((a0.getD a1.toNat 0).toNat : Int) (fun y37 => ((y37 = true → ((0 ≤ a1 ∧ a1 < (a0.length : Int)) ∧ ((0 ≤ ((a0.getD a1.toNat 0).toNat : Int) ∧ ((a0.getD a1.toNat 0).toNat : Int) < (126 : Int)) ∧ (0 + ((a0.getD a1.toNat 0).toNat : Int).toNat * 1 < marksL.length ∧ (I64 (a1 + 1) ∧ K (Tok.mk (marksL.getD (0 + ((a0.getD a1.toNat 0).toNat : Int).toNat * 1) 0) ([] : Bt) (0 : Int) ([] : Bt) false) (a1 + 1)))))) ∧ (y37 = false → (I64 (a1 + 1) ∧ ((0 ≤ a1 ∧ a1 ≤ (a1 + 1) ∧ (a1 + 1) ≤ (a0.length : Int)) ∧ (I64 (a1 + 1) ∧ K (Tok.mk (9 : Int) ((a0.drop a1.toNat).take ((a1 + 1).toNat - a1.toNat)) (0 : Int) ([] : Bt) false) (a1 + 1))))))))))))))))))) ∧ ((decide (((a0.getD a1.toNat 0).toNat : Int) = (64 : Int))) = false → (A29 a0 a1 (fun y38 => ((y38 = true → (A33 a0 a1 (fun y39 y40 => K (Tok.mk y39.kind y39.text y39.num y39.unit y39.flag) y40))) ∧ (y38 = false → ((0 ≤ a1 ∧ a1 < (a0.length : Int)) ∧ (A34 ((a0.getD a1.toNat 0).toNat : Int) (fun y41 => ((y41 = true → ((0 ≤ a1 ∧ a1 < (a0.length : Int)) ∧ ((0 ≤ ((a0.getD a1.toNat 0).toNat : Int) ∧ ((a0.getD a1.toNat 0).toNat : Int) < (126 : Int)) ∧ (0 + ((a0.getD a1.toNat 0).toNat : Int).toNat * 1 < marksL.length ∧ (I64 (a1 + 1) ∧ K (Tok.mk (marksL.getD (0 + ((a0.getD a1.toNat 0).toNat : Int).toNat * 1) 0) ([] : Bt) (0 : Int) ([] : Bt) false) (a1 + 1)))))) ∧ (y41 = false → (I64 (a1 + 1) ∧ ((0 ≤ a1 ∧ a1 ≤ (a1 + 1) ∧ (a1 + 1) ≤ (a0.length : Int)) ∧ (I64 (a1 + 1) ∧ K (Tok.mk (9 : Int) ((a0.drop a1.toNat).take ((a1 + 1).toNat - a1.toNat)) (0 : Int) ([] : Bt) false) (a1 + 1)))))))))))))))))))))))))))))))))))))))))))

def C_readTokenA (A24 : T_char_IsSpace) (A25 : T_k_behindSpaces) (A26 : T_char_IsQuote) (A27 : T_k_rSt) (A28 : T_k_nameGoesOn) (A29 : T_k_nameStarts) (A30 : T_k_readName) (A31 : T_k_nSt) (A32 : T_readNumericA) (A22 : T_gs_HasPrefix) (A33 : T_k_readNamed) (A34 : T_k_isMark) : CallT sg := tab [(24, con [none] (q_char_IsSpace A24)), (25, con [none, none] (q_k_behindSpaces A25)), (26, con [none] (q_char_IsQuote A26)), (27, con [none, none] (q_k_rSt A27)), (28, con [none, none] (q_k_nameGoesOn A28)), (29, con [none, none] (q_k_nameStarts A29)), (30, con [none, none] (q_k_readName A30)), (31, con [none, none] (q_k_nSt A31)), (32, con [none, none] (q_readNumericA A32)), (22, con [none, none] (q_gs_HasPrefix A22)), (33, con [none, none] (q_k_readNamed A33)), (34, con [none] (q_k_isMark A34))]
theorem Cok_readTokenA (A24 : T_char_IsSpace) (A25 : T_k_behindSpaces) (A26 : T_char_IsQuote) (A27 : T_k_rSt) (A28 : T_k_nameGoesOn) (A29 : T_k_nameStarts) (A30 : T_k_readName) (A31 : T_k_nSt) (A32 : T_readNumericA) (A22 : T_gs_HasPrefix) (A33 : T_k_readNamed) (A34 : T_k_isMark) (h24 : FO 24 (q_char_IsSpace A24)) (h25 : FO 25 (q_k_behindSpaces A25)) (h26 : FO 26 (q_char_IsQuote A26)) (h27 : FO 27 (q_k_rSt A27)) (h28 : FO 28 (q_k_nameGoesOn A28)) (h29 : FO 29 (q_k_nameStarts A29)) (h30 : FO 30 (q_k_readName A30)) (h31 : FO 31 (q_k_nSt A31)) (h32 : FO 32 (q_readNumericA A32)) (h22 : FO 22 (q_gs_HasPrefix A22)) (h33 : FO 33 (q_k_readNamed A33)) (h34 : FO 34 (q_k_isMark A34)) (o0 : Nat → Prop) : CalOK sy Tryz.prog GT ovD o0 GL (C_readTokenA A24 A25 A26 A27 A28 A29 A30 A31 A32 A22 A33 A34) := (tab_cons (con_ok h24) (tab_cons (con_ok h25) (tab_cons (con_ok h26) (tab_cons (con_ok h27) (tab_cons (con_ok h28) (tab_cons (con_ok h29) (tab_cons (con_ok h30) (tab_cons (con_ok h31) (tab_cons (con_ok h32) (tab_cons (con_ok h22) (tab_cons (con_ok h33) (tab_cons (con_ok h34) tab_nil)))))))))))) o0

theorem raw_readTokenA (A24 : T_char_IsSpace) (A25 : T_k_behindSpaces) (A26 : T_char_IsQuote) (A27 : T_k_rSt) (A28 : T_k_nameGoesOn) (A29 : T_k_nameStarts) (A30 : T_k_readName) (A31 : T_k_nSt) (A32 : T_readNumericA) (A22 : T_gs_HasPrefix) (A33 : T_k_readNamed) (A34 : T_k_isMark) (a0 : Bt) (a1 : Int) (k : W → Prop) : fnT sy Tryz.prog GT (C_readTokenA A24 A25 A26 A27 A28 A29 A30 A31 A32 A22 A33 A34) noL Tryz.f17.ntmps (bodyOf Tryz.f17) [none, none] Tryz.f17.results.toList [.s a0, .i .i64 a1] k = F_readTokenA A24 A25 A26 A27 A28 A29 A30 A31 A32 A22 A33 A34 a0 a1 (fun r0 r1 => k (.t [.a [.i .u8 r0.kind, .s r0.text, .i .i64 r0.num, .s r0.unit, .b r0.flag], .i .i64 r1])) := by kernel_rfl

theorem ok_readTokenA (A24 : T_char_IsSpace) (A25 : T_k_behindSpaces) (A26 : T_char_IsQuote) (A27 : T_k_rSt) (A28 : T_k_nameGoesOn) (A29 : T_k_nameStarts) (A30 : T_k_readName) (A31 : T_k_nSt) (A32 : T_readNumericA) (A22 : T_gs_HasPrefix) (A33 : T_k_readNamed) (A34 : T_k_isMark) (h24 : FO 24 (q_char_IsSpace A24)) (h25 : FO 25 (q_k_behindSpaces A25)) (h26 : FO 26 (q_char_IsQuote A26)) (h27 : FO 27 (q_k_rSt A27)) (h28 : FO 28 (q_k_nameGoesOn A28)) (h29 : FO 29 (q_k_nameStarts A29)) (h30 : FO 30 (q_k_readName A30)) (h31 : FO 31 (q_k_nSt A31)) (h32 : FO 32 (q_readNumericA A32)) (h22 : FO 22 (q_gs_HasPrefix A22)) (h33 : FO 33 (q_k_readNamed A33)) (h34 : FO 34 (q_k_isMark A34)) : FO 17 (q_readTokenA (F_readTokenA A24 A25 A26 A27 A28 A29 A30 A31 A32 A22 A33 A34)) := (fn_ok (rc := [none, none]) (f := 17) (fn := Tryz.f17) (c := bodyOf Tryz.f17) (nt := Tryz.f17.ntmps) (res := Tryz.f17.results.toList) (C := C_readTokenA A24 A25 A26 A27 A28 A29 A30 A31 A32 A22 A33 A34) (L := noL) (fun _ => rfl) Tryz.func17 (by kernel_rfl) rfl rfl (Cok_readTokenA A24 A25 A26 A27 A28 A29 A30 A31 A32 A22 A33 A34 h24 h25 h26 h27 h28 h29 h30 h31 h32 h22 h33 h34) (lp_of (l := []) (by kernel_rfl) lp_nil)).weak (by
  intro us k h
  unfold q_readTokenA at h
  split at h
  · skip
    rename_i a0 a1
    rw [raw_readTokenA A24 A25 A26 A27 A28 A29 A30 A31 A32 A22 A33 A34 a0 a1 k]
    exact h
  · exact h.elim)

def C_k_Tokens_1A : CallT sg := tab []
theorem Cok_k_Tokens_1A (o0 : Nat → Prop) : CalOK sy Tryz.prog GT ovD o0 GL (C_k_Tokens_1A) := tab_nil o0

def F_k_eachToken_tA_l6 (A15 : T_input_Clean) (A16 : T_behindCommentsA) (A17 : T_readTokenA) : Nat → Bt → Int → Int → List Tok → (List Tok → Prop) → (Int → List Tok → Prop) → Prop
  | 0, _, _, _, _, _, _ => False
  | n + 1, x5, x7, x8, b1, Ke, Kr => (((decide (x8 < (x5.length : Int))) = true → (((decide (x7 = 1500)) = true → Kr (4 : Int) b1) ∧ ((decide (x7 = 1500)) = false → (A17 x5 x8 (fun y1 y2 => ((b1.length + [(Tok.mk y1.kind y1.text y1.num y1.unit y1.flag)].length) * 56 ≤ 1099511627776 ∧ (I64 (x7 + 1) ∧ (A16 x5 y2 (fun y3 => F_k_eachToken_tA_l6 A15 A16 A17 n x5 (x7 + 1) y3 (b1 ++ [(Tok.mk y1.kind y1.text y1.num y1.unit y1.flag)]) Ke Kr))))))))) ∧ ((decide (x8 < (x5.length : Int))) = false → Ke b1))

def C_k_eachToken_tA (A15 : T_input_Clean) (A16 : T_behindCommentsA) (A17 : T_readTokenA) : CallT sg := tab [(15, con [none] (q_input_Clean A15)), (16, con [none, none] (q_behindCommentsA A16)), (17, con [none, none] (q_readTokenA A17)), (11, inl sy Tryz.prog GT (C_k_Tokens_1A) noL 1000 Tryz.f11.ntmps (bodyOf Tryz.f11) Tryz.f11.results.toList)]
theorem Cok_k_eachToken_tA (A15 : T_input_Clean) (A16 : T_behindCommentsA) (A17 : T_readTokenA) (h15 : FO 15 (q_input_Clean A15)) (h16 : FO 16 (q_behindCommentsA A16)) (h17 : FO 17 (q_readTokenA A17)) (o0 : Nat → Prop) : CalOK sy Tryz.prog GT ovD o0 GL (C_k_eachToken_tA A15 A16 A17) := (tab_cons (con_ok h15) (tab_cons (con_ok h16) (tab_cons (con_ok h17) (tab_cons (inl_ok (f := 11) (fn := Tryz.f11) (fun _ => rfl) Tryz.func11 (by kernel_rfl) rfl rfl (Cok_k_Tokens_1A) (lp_of (l := []) (by kernel_rfl) lp_nil)) tab_nil)))) o0

def ls_k_eachToken_tA_6 : LS sy ((Unit × Unit) × (Bt) × Int × Int × Unit) ((Unit × Unit) × List (sg.Den Cd.tok) × Unit) := ⟨[.cell 0 0 1 Cd.tok], fCons 1 (vFn 11 (lCons (vLit sy (.p 0 0)) (lNil sy))) (fCons 5 (vStr sy) (fCons 7 (vInt sy .i64) (fCons 8 (vInt sy .i64) (fNil sy)))), hCells 0 (lCons (vLit sy (.o 1)) (lNil sy)) (hBuf 1 Cd.tok (hNil sy)), 2, [1]⟩
def le_k_eachToken_tA_6 : LS sy Unit ((Unit × Unit) × List (sg.Den Cd.tok) × Unit) := ⟨[], fNil sy, hCells 0 (lCons (vLit sy (.o 1)) (lNil sy)) (hBuf 1 Cd.tok (hNil sy)), 2, [1]⟩
def lr_k_eachToken_tA_6 : LS sy (Int × Unit) ((Unit × Unit) × List (sg.Den Cd.tok) × Unit) := ⟨[], fCons 4 (vInt sy .i64) (fNil sy), hCells 0 (lCons (vLit sy (.o 1)) (lNil sy)) (hBuf 1 Cd.tok (hNil sy)), 2, [1]⟩
def FF_k_eachToken_tA_6 (A15 : T_input_Clean) (A16 : T_behindCommentsA) (A17 : T_readTokenA) (n : Nat) (x : ((Unit × Unit) × (Bt) × Int × Int × Unit) × ((Unit × Unit) × List (sg.Den Cd.tok) × Unit)) (K : Ex → Z sg → Prop) : Prop := F_k_eachToken_tA_l6 A15 A16 A17 n x.1.2.1 x.1.2.2.1 x.1.2.2.2.1 x.2.2.1 (fun y0 => K (.exit 0) (le_k_eachToken_tA_6.put ((), (((), ()), y0, ())))) (fun y0 y1 => K .ret (lr_k_eachToken_tA_6.put ((y0, ()), (((), ()), y1, ()))))
def h_k_eachToken_tA_6 (A15 : T_input_Clean) (A16 : T_behindCommentsA) (A17 : T_readTokenA) (z : Z sg) (K : Ex → Z sg → Prop) : Prop := ls_k_eachToken_tA_6.get z (fun x => ∃ n, FF_k_eachToken_tA_6 A15 A16 A17 n x K)
def L_k_eachToken_tA (A15 : T_input_Clean) (A16 : T_behindCommentsA) (A17 : T_readTokenA) : LoopT sg := tabL [(6, h_k_eachToken_tA_6 A15 A16 A17)]
theorem hs_k_eachToken_tA_6 (A15 : T_input_Clean) (A16 : T_behindCommentsA) (A17 : T_readTokenA) (n : Nat) (x : ((Unit × Unit) × (Bt) × Int × Int × Unit) × ((Unit × Unit) × List (sg.Den Cd.tok) × Unit)) (K : Ex → Z sg → Prop) : forceZ (ls_k_eachToken_tA_6.put x) (fun z => sC sy Tryz.prog GT (C_k_eachToken_tA A15 A16 A17) (L_k_eachToken_tA A15 A16 A17) Tryz.f10.ntmps (nthLoop (bodyOf Tryz.f10) 0) z (rnd ls_k_eachToken_tA_6 (czT 0 le_k_eachToken_tA_6 lr_k_eachToken_tA_6) (fun x => FF_k_eachToken_tA_6 A15 A16 A17 n x K) K)) = FF_k_eachToken_tA_6 A15 A16 A17 (n + 1) x K := by kernel_rfl
theorem hl_k_eachToken_tA_6 (A15 : T_input_Clean) (A16 : T_behindCommentsA) (A17 : T_readTokenA) (z : Z sg) (K : Ex → Z sg → Prop) : (L_k_eachToken_tA A15 A16 A17) (nthLoop (bodyOf Tryz.f10) 0) z K = ls_k_eachToken_tA_6.get z (fun x => ∃ n, FF_k_eachToken_tA_6 A15 A16 A17 n x K) := by kernel_rfl
theorem lo_k_eachToken_tA_6 (A15 : T_input_Clean) (A16 : T_behindCommentsA) (A17 : T_readTokenA) (h15 : FO 15 (q_input_Clean A15)) (h16 : FO 16 (q_behindCommentsA A16)) (h17 : FO 17 (q_readTokenA A17)) : ∀ (o0 : Nat → Prop) (B : Bs sg), B.E.length ≤ 1 → ∀ z K, (L_k_eachToken_tA A15 A16 A17) (nthLoop (bodyOf Tryz.f10) 0) z K → Sx.Sem sy Tryz.prog GT ovD o0 GL Tryz.f10.ntmps B (.loop (nthLoop (bodyOf Tryz.f10) 0)) z K :=
  loop_ok (Cok_k_eachToken_tA A15 A16 A17 h15 h16 h17) (lp_of (l := []) (by kernel_rfl) lp_nil) ls_k_eachToken_tA_6 (by decide) (czT 0 le_k_eachToken_tA_6 lr_k_eachToken_tA_6) (fun _ _ hB => czT_ok 0 le_k_eachToken_tA_6 lr_k_eachToken_tA_6 (Nat.le_trans hB (by decide)) (Nat.le_trans hB (by decide))) (fun _ _ h => h) (hs_k_eachToken_tA_6 A15 A16 A17) (hl_k_eachToken_tA_6 A15 A16 A17)
theorem Lp_k_eachToken_tA (A15 : T_input_Clean) (A16 : T_behindCommentsA) (A17 : T_readTokenA) (h15 : FO 15 (q_input_Clean A15)) (h16 : FO 16 (q_behindCommentsA A16)) (h17 : FO 17 (q_readTokenA A17)) : LpOK sy Tryz.prog GT ovD GL (L_k_eachToken_tA A15 A16 A17) 1 Tryz.f10.ntmps (bodyOf Tryz.f10) := lp_of (l := [(nthLoop (bodyOf Tryz.f10) 0)]) (by kernel_rfl) (lp_cons (lo_k_eachToken_tA_6 A15 A16 A17 h15 h16 h17) lp_nil)


abbrev T_TokensA := Bt → (List Tok → Int → Prop) → Prop
def q_TokensA (A : T_TokensA) (us : List W) (k : W → Prop) : Prop := match us with
  | [.s a0] => A a0 (fun r0 r1 => k (.t [.l Cd.tok r0, .i .i64 r1]))
  | _ => False
theorem q_TokensA_weak {A A2 : T_TokensA} (h : FO 4 (q_TokensA A)) (hA : ∀ a0 K, A2 a0 K → A a0 K) : FO 4 (q_TokensA A2) := h.weak (by
  intro us k h
  unfold q_TokensA at h ⊢
  split at h
  · exact hA _ _ h
  · exact h.elim)

def F_TokensA (A15 : T_input_Clean) (A16 : T_behindCommentsA) (A17 : T_readTokenA) (a0 : Bt) (K : List Tok → Int → Prop) : Prop :=
  (A15 a0 (fun y1 y2 => (((decide (y2 ≠ 0)) = true → (((decide (y2 ≠ 0)) = true → K ([] : List Tok) y2) ∧ ((decide (y2 ≠ 0)) = false → K ([] : List Tok) (0 : Int)))) ∧ ((decide (y2 ≠ 0)) = false → (A16 y1 (0 : Int) (fun y3 => (∃ m, F_k_eachToken_tA_l6 A15 A16 A17 m y1 (0 : Int) y3 ([] : List Tok) (fun y4 => (((decide ((0 : Int) ≠ (0 : Int))) = true → K ([] : List Tok) (0 : Int)) ∧ ((decide ((0 : Int) ≠ (0 : Int))) = false → K y4 (0 : Int)))) (fun y5 y6 => (((decide (y5 ≠ 0)) = true → K ([] : List Tok) y5) ∧ ((decide (y5 ≠ 0)) = false → K y6 (0 : Int)))))))))))

def C_TokensA (A15 : T_input_Clean) (A16 : T_behindCommentsA) (A17 : T_readTokenA) : CallT sg := tab [(10, inl sy Tryz.prog GT (C_k_eachToken_tA A15 A16 A17) (L_k_eachToken_tA A15 A16 A17) 1 Tryz.f10.ntmps (bodyOf Tryz.f10) Tryz.f10.results.toList), (11, inl sy Tryz.prog GT (C_k_Tokens_1A) noL 1000 Tryz.f11.ntmps (bodyOf Tryz.f11) Tryz.f11.results.toList)]
theorem Cok_TokensA (A15 : T_input_Clean) (A16 : T_behindCommentsA) (A17 : T_readTokenA) (h15 : FO 15 (q_input_Clean A15)) (h16 : FO 16 (q_behindCommentsA A16)) (h17 : FO 17 (q_readTokenA A17)) (o0 : Nat → Prop) : CalOK sy Tryz.prog GT ovD o0 GL (C_TokensA A15 A16 A17) := (tab_cons (inl_ok (f := 10) (fn := Tryz.f10) (fun _ => rfl) Tryz.func10 (by kernel_rfl) rfl rfl (Cok_k_eachToken_tA A15 A16 A17 h15 h16 h17) (Lp_k_eachToken_tA A15 A16 A17 h15 h16 h17)) (tab_cons (inl_ok (f := 11) (fn := Tryz.f11) (fun _ => rfl) Tryz.func11 (by kernel_rfl) rfl rfl (Cok_k_Tokens_1A) (lp_of (l := []) (by kernel_rfl) lp_nil)) tab_nil)) o0

theorem raw_TokensA (A15 : T_input_Clean) (A16 : T_behindCommentsA) (A17 : T_readTokenA) (a0 : Bt) (k : W → Prop) : fnT sy Tryz.prog GT (C_TokensA A15 A16 A17) noL Tryz.f4.ntmps (bodyOf Tryz.f4) [some Cd.tok, none] Tryz.f4.results.toList [.s a0] k = F_TokensA A15 A16 A17 a0 (fun r0 r1 => k (.t [.l Cd.tok r0, .i .i64 r1])) := by kernel_rfl

theorem ok_TokensA (A15 : T_input_Clean) (A16 : T_behindCommentsA) (A17 : T_readTokenA) (h15 : FO 15 (q_input_Clean A15)) (h16 : FO 16 (q_behindCommentsA A16)) (h17 : FO 17 (q_readTokenA A17)) : FO 4 (q_TokensA (F_TokensA A15 A16 A17)) := (fn_ok (rc := [some Cd.tok, none]) (f := 4) (fn := Tryz.f4) (c := bodyOf Tryz.f4) (nt := Tryz.f4.ntmps) (res := Tryz.f4.results.toList) (C := C_TokensA A15 A16 A17) (L := noL) (fun _ => rfl) Tryz.func4 (by kernel_rfl) rfl rfl (Cok_TokensA A15 A16 A17 h15 h16 h17) (lp_of (l := []) (by kernel_rfl) lp_nil)).weak (by
  intro us k h
  unfold q_TokensA at h
  split at h
  · skip
    rename_i a0
    rw [raw_TokensA A15 A16 A17 a0 k]
    exact h
  · exact h.elim)

def C_k_Spans_1A : CallT sg := tab []
theorem Cok_k_Spans_1A (o0 : Nat → Prop) : CalOK sy Tryz.prog GT ovD o0 GL (C_k_Spans_1A) := tab_nil o0

def F_k_eachToken_sA_l6 (A15 : T_input_Clean) (A16 : T_behindCommentsA) (A17 : T_readTokenA) : Nat → Bt → Int → Int → List (Int × Int) → (List (Int × Int) → Prop) → (Int → List (Int × Int) → Prop) → Prop
  | 0, _, _, _, _, _, _ => False
  | n + 1, x5, x7, x8, b1, Ke, Kr => (((decide (x8 < (x5.length : Int))) = true → (((decide (x7 = 1500)) = true → Kr (4 : Int) b1) ∧ ((decide (x7 = 1500)) = false → (A17 x5 x8 (fun y1 y2 => ((b1.length + [(x8, y2)].length) * 16 ≤ 1099511627776 ∧ (I64 (x7 + 1) ∧ (A16 x5 y2 (fun y3 => F_k_eachToken_sA_l6 A15 A16 A17 n x5 (x7 + 1) y3 (b1 ++ [(x8, y2)]) Ke Kr))))))))) ∧ ((decide (x8 < (x5.length : Int))) = false → Ke b1))

def C_k_eachToken_sA (A15 : T_input_Clean) (A16 : T_behindCommentsA) (A17 : T_readTokenA) : CallT sg := tab [(15, con [none] (q_input_Clean A15)), (16, con [none, none] (q_behindCommentsA A16)), (17, con [none, none] (q_readTokenA A17)), (14, inl sy Tryz.prog GT (C_k_Spans_1A) noL 1000 Tryz.f14.ntmps (bodyOf Tryz.f14) Tryz.f14.results.toList)]
theorem Cok_k_eachToken_sA (A15 : T_input_Clean) (A16 : T_behindCommentsA) (A17 : T_readTokenA) (h15 : FO 15 (q_input_Clean A15)) (h16 : FO 16 (q_behindCommentsA A16)) (h17 : FO 17 (q_readTokenA A17)) (o0 : Nat → Prop) : CalOK sy Tryz.prog GT ovD o0 GL (C_k_eachToken_sA A15 A16 A17) := (tab_cons (con_ok h15) (tab_cons (con_ok h16) (tab_cons (con_ok h17) (tab_cons (inl_ok (f := 14) (fn := Tryz.f14) (fun _ => rfl) Tryz.func14 (by kernel_rfl) rfl rfl (Cok_k_Spans_1A) (lp_of (l := []) (by kernel_rfl) lp_nil)) tab_nil)))) o0

def ls_k_eachToken_sA_6 : LS sy ((Unit × Unit) × (Bt) × Int × Int × Unit) ((Unit × Unit) × List (sg.Den Cd.span) × Unit) := ⟨[.cell 0 0 1 Cd.span], fCons 1 (vFn 14 (lCons (vLit sy (.p 0 0)) (lNil sy))) (fCons 5 (vStr sy) (fCons 7 (vInt sy .i64) (fCons 8 (vInt sy .i64) (fNil sy)))), hCells 0 (lCons (vLit sy (.o 1)) (lNil sy)) (hBuf 1 Cd.span (hNil sy)), 2, [1]⟩
def le_k_eachToken_sA_6 : LS sy Unit ((Unit × Unit) × List (sg.Den Cd.span) × Unit) := ⟨[], fNil sy, hCells 0 (lCons (vLit sy (.o 1)) (lNil sy)) (hBuf 1 Cd.span (hNil sy)), 2, [1]⟩
def lr_k_eachToken_sA_6 : LS sy (Int × Unit) ((Unit × Unit) × List (sg.Den Cd.span) × Unit) := ⟨[], fCons 4 (vInt sy .i64) (fNil sy), hCells 0 (lCons (vLit sy (.o 1)) (lNil sy)) (hBuf 1 Cd.span (hNil sy)), 2, [1]⟩
def FF_k_eachToken_sA_6 (A15 : T_input_Clean) (A16 : T_behindCommentsA) (A17 : T_readTokenA) (n : Nat) (x : ((Unit × Unit) × (Bt) × Int × Int × Unit) × ((Unit × Unit) × List (sg.Den Cd.span) × Unit)) (K : Ex → Z sg → Prop) : Prop := F_k_eachToken_sA_l6 A15 A16 A17 n x.1.2.1 x.1.2.2.1 x.1.2.2.2.1 x.2.2.1 (fun y0 => K (.exit 0) (le_k_eachToken_sA_6.put ((), (((), ()), y0, ())))) (fun y0 y1 => K .ret (lr_k_eachToken_sA_6.put ((y0, ()), (((), ()), y1, ()))))
def h_k_eachToken_sA_6 (A15 : T_input_Clean) (A16 : T_behindCommentsA) (A17 : T_readTokenA) (z : Z sg) (K : Ex → Z sg → Prop) : Prop := ls_k_eachToken_sA_6.get z (fun x => ∃ n, FF_k_eachToken_sA_6 A15 A16 A17 n x K)
def L_k_eachToken_sA (A15 : T_input_Clean) (A16 : T_behindCommentsA) (A17 : T_readTokenA) : LoopT sg := tabL [(6, h_k_eachToken_sA_6 A15 A16 A17)]
theorem hs_k_eachToken_sA_6 (A15 : T_input_Clean) (A16 : T_behindCommentsA) (A17 : T_readTokenA) (n : Nat) (x : ((Unit × Unit) × (Bt) × Int × Int × Unit) × ((Unit × Unit) × List (sg.Den Cd.span) × Unit)) (K : Ex → Z sg → Prop) : forceZ (ls_k_eachToken_sA_6.put x) (fun z => sC sy Tryz.prog GT (C_k_eachToken_sA A15 A16 A17) (L_k_eachToken_sA A15 A16 A17) Tryz.f10.ntmps (nthLoop (bodyOf Tryz.f10) 0) z (rnd ls_k_eachToken_sA_6 (czT 0 le_k_eachToken_sA_6 lr_k_eachToken_sA_6) (fun x => FF_k_eachToken_sA_6 A15 A16 A17 n x K) K)) = FF_k_eachToken_sA_6 A15 A16 A17 (n + 1) x K := by kernel_rfl
theorem hl_k_eachToken_sA_6 (A15 : T_input_Clean) (A16 : T_behindCommentsA) (A17 : T_readTokenA) (z : Z sg) (K : Ex → Z sg → Prop) : (L_k_eachToken_sA A15 A16 A17) (nthLoop (bodyOf Tryz.f10) 0) z K = ls_k_eachToken_sA_6.get z (fun x => ∃ n, FF_k_eachToken_sA_6 A15 A16 A17 n x K) := by kernel_rfl
theorem lo_k_eachToken_sA_6 (A15 : T_input_Clean) (A16 : T_behindCommentsA) (A17 : T_readTokenA) (h15 : FO 15 (q_input_Clean A15)) (h16 : FO 16 (q_behindCommentsA A16)) (h17 : FO 17 (q_readTokenA A17)) : ∀ (o0 : Nat → Prop) (B : Bs sg), B.E.length ≤ 1 → ∀ z K, (L_k_eachToken_sA A15 A16 A17) (nthLoop (bodyOf Tryz.f10) 0) z K → Sx.Sem sy Tryz.prog GT ovD o0 GL Tryz.f10.ntmps B (.loop (nthLoop (bodyOf Tryz.f10) 0)) z K :=
  loop_ok (Cok_k_eachToken_sA A15 A16 A17 h15 h16 h17) (lp_of (l := []) (by kernel_rfl) lp_nil) ls_k_eachToken_sA_6 (by decide) (czT 0 le_k_eachToken_sA_6 lr_k_eachToken_sA_6) (fun _ _ hB => czT_ok 0 le_k_eachToken_sA_6 lr_k_eachToken_sA_6 (Nat.le_trans hB (by decide)) (Nat.le_trans hB (by decide))) (fun _ _ h => h) (hs_k_eachToken_sA_6 A15 A16 A17) (hl_k_eachToken_sA_6 A15 A16 A17)
theorem Lp_k_eachToken_sA (A15 : T_input_Clean) (A16 : T_behindCommentsA) (A17 : T_readTokenA) (h15 : FO 15 (q_input_Clean A15)) (h16 : FO 16 (q_behindCommentsA A16)) (h17 : FO 17 (q_readTokenA A17)) : LpOK sy Tryz.prog GT ovD GL (L_k_eachToken_sA A15 A16 A17) 1 Tryz.f10.ntmps (bodyOf Tryz.f10) := lp_of (l := [(nthLoop (bodyOf Tryz.f10) 0)]) (by kernel_rfl) (lp_cons (lo_k_eachToken_sA_6 A15 A16 A17 h15 h16 h17) lp_nil)


abbrev T_SpansA := Bt → (List (Int × Int) → Int → Prop) → Prop
def q_SpansA (A : T_SpansA) (us : List W) (k : W → Prop) : Prop := match us with
  | [.s a0] => A a0 (fun r0 r1 => k (.t [.l Cd.span r0, .i .i64 r1]))
  | _ => False
theorem q_SpansA_weak {A A2 : T_SpansA} (h : FO 6 (q_SpansA A)) (hA : ∀ a0 K, A2 a0 K → A a0 K) : FO 6 (q_SpansA A2) := h.weak (by
  intro us k h
  unfold q_SpansA at h ⊢
  split at h
  · exact hA _ _ h
  · exact h.elim)

def F_SpansA (A15 : T_input_Clean) (A16 : T_behindCommentsA) (A17 : T_readTokenA) (a0 : Bt) (K : List (Int × Int) → Int → Prop) : Prop :=
  (A15 a0 (fun y1 y2 => (((decide (y2 ≠ 0)) = true → (((decide (y2 ≠ 0)) = true → K ([] : List (Int × Int)) y2) ∧ ((decide (y2 ≠ 0)) = false → K ([] : List (Int × Int)) (0 : Int)))) ∧ ((decide (y2 ≠ 0)) = false → (A16 y1 (0 : Int) (fun y3 => (∃ m, F_k_eachToken_sA_l6 A15 A16 A17 m y1 (0 : Int) y3 ([] : List (Int × Int)) (fun y4 => (((decide ((0 : Int) ≠ (0 : Int))) = true → K ([] : List (Int × Int)) (0 : Int)) ∧ ((decide ((0 : Int) ≠ (0 : Int))) = false → K y4 (0 : Int)))) (fun y5 y6 => (((decide (y5 ≠ 0)) = true → K ([] : List (Int × Int)) y5) ∧ ((decide (y5 ≠ 0)) = false → K y6 (0 : Int)))))))))))

def C_SpansA (A15 : T_input_Clean) (A16 : T_behindCommentsA) (A17 : T_readTokenA) : CallT sg := tab [(10, inl sy Tryz.prog GT (C_k_eachToken_sA A15 A16 A17) (L_k_eachToken_sA A15 A16 A17) 1 Tryz.f10.ntmps (bodyOf Tryz.f10) Tryz.f10.results.toList), (14, inl sy Tryz.prog GT (C_k_Spans_1A) noL 1000 Tryz.f14.ntmps (bodyOf Tryz.f14) Tryz.f14.results.toList)]
theorem Cok_SpansA (A15 : T_input_Clean) (A16 : T_behindCommentsA) (A17 : T_readTokenA) (h15 : FO 15 (q_input_Clean A15)) (h16 : FO 16 (q_behindCommentsA A16)) (h17 : FO 17 (q_readTokenA A17)) (o0 : Nat → Prop) : CalOK sy Tryz.prog GT ovD o0 GL (C_SpansA A15 A16 A17) := (tab_cons (inl_ok (f := 10) (fn := Tryz.f10) (fun _ => rfl) Tryz.func10 (by kernel_rfl) rfl rfl (Cok_k_eachToken_sA A15 A16 A17 h15 h16 h17) (Lp_k_eachToken_sA A15 A16 A17 h15 h16 h17)) (tab_cons (inl_ok (f := 14) (fn := Tryz.f14) (fun _ => rfl) Tryz.func14 (by kernel_rfl) rfl rfl (Cok_k_Spans_1A) (lp_of (l := []) (by kernel_rfl) lp_nil)) tab_nil)) o0

theorem raw_SpansA (A15 : T_input_Clean) (A16 : T_behindCommentsA) (A17 : T_readTokenA) (a0 : Bt) (k : W → Prop) : fnT sy Tryz.prog GT (C_SpansA A15 A16 A17) noL Tryz.f6.ntmps (bodyOf Tryz.f6) [some Cd.span, none] Tryz.f6.results.toList [.s a0] k = F_SpansA A15 A16 A17 a0 (fun r0 r1 => k (.t [.l Cd.span r0, .i .i64 r1])) := by kernel_rfl

theorem ok_SpansA (A15 : T_input_Clean) (A16 : T_behindCommentsA) (A17 : T_readTokenA) (h15 : FO 15 (q_input_Clean A15)) (h16 : FO 16 (q_behindCommentsA A16)) (h17 : FO 17 (q_readTokenA A17)) : FO 6 (q_SpansA (F_SpansA A15 A16 A17)) := (fn_ok (rc := [some Cd.span, none]) (f := 6) (fn := Tryz.f6) (c := bodyOf Tryz.f6) (nt := Tryz.f6.ntmps) (res := Tryz.f6.results.toList) (C := C_SpansA A15 A16 A17) (L := noL) (fun _ => rfl) Tryz.func6 (by kernel_rfl) rfl rfl (Cok_SpansA A15 A16 A17 h15 h16 h17) (lp_of (l := []) (by kernel_rfl) lp_nil)).weak (by
  intro us k h
  unfold q_SpansA at h
  split at h
  · skip
    rename_i a0
    rw [raw_SpansA A15 A16 A17 a0 k]
    exact h
  · exact h.elim)

end Go.Proofs.YtcjoehlflbegpaaGreatDoor
