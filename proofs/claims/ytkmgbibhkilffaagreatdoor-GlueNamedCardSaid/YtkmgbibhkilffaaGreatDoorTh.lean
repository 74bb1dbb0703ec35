/-
  Functions of the tokenizer, followed: tokens of all kinds, all tokens. Nothing is claimed here.
-/
import Derived.Test.YtkmgbibhkilffaaGreatDoorTg
namespace Go.Proofs.YtkmgbibhkilffaaGreatDoor
open Go.Vm Go.Sx Go.RowKit
variable {ro : Nat}

abbrev T_gslIndex := Bt → Bt → (Int → Prop) → Prop
def q_gslIndex (A : T_gslIndex) (us : List W) (k : W → Prop) : Prop := match us with
  | [.s a0, .s a1] => A a0 a1 (fun r0 => k (.i .i64 r0))
  | _ => False
abbrev T_gs_Index := Bt → Bt → (Int → Prop) → Prop
def q_gs_Index (A : T_gs_Index) (us : List W) (k : W → Prop) : Prop := match us with
  | [.s a0, .s a1] => A a0 a1 (fun r0 => k (.i .i64 r0))
  | _ => False
theorem q_gs_Index_weak {A A2 : T_gs_Index} (h : FO ro 116 (q_gs_Index A)) (hA : ∀ a0 a1 K, A2 a0 a1 K → A a0 a1 K) : FO ro 116 (q_gs_Index A2) := h.weak (by
  intro us k h
  unfold q_gs_Index at h ⊢
  split at h
  · exact hA _ _ _ h
  · exact h.elim)

def F_gs_Index (A141 : T_gslIndex) (a0 : Bt) (a1 : Bt) (K : Int → Prop) : Prop :=
  (A141 a0 a1 (fun y1 => K y1))

def C_gs_Index (A141 : T_gslIndex) : CallT sg := tab [(141, con [none, none] (q_gslIndex A141))]
theorem Cok_gs_Index (A141 : T_gslIndex) (h141 : FO ro 141 (q_gslIndex A141)) (o0 : Nat → Prop) : CalOK sy Tryz.prog GT (ovD ro) o0 ro (C_gs_Index A141) := (tab_cons (con_ok h141) tab_nil) o0

theorem raw_gs_Index (A141 : T_gslIndex) (a0 : Bt) (a1 : Bt) (k : W → Prop) : fnT sy Tryz.prog GT (C_gs_Index A141) noL Tryz.f116.ntmps (bodyOf Tryz.f116) [none] Tryz.f116.results.toList [.s a0, .s a1] k = F_gs_Index A141 a0 a1 (fun r0 => k (.i .i64 r0)) := by kernel_rfl

theorem ok_gs_Index (A141 : T_gslIndex) (h141 : FO ro 141 (q_gslIndex A141)) : FO ro 116 (q_gs_Index (F_gs_Index A141)) := (fn_ok (rc := [none]) (f := 116) (fn := Tryz.f116) (c := bodyOf Tryz.f116) (nt := Tryz.f116.ntmps) (res := Tryz.f116.results.toList) (C := C_gs_Index A141) (L := noL) (fun _ _ => rfl) Tryz.func116 (by kernel_rfl) rfl rfl (Cok_gs_Index A141 h141) (lp_of (l := []) (by kernel_rfl) lp_nil)).weak (by
  intro us k h
  unfold q_gs_Index at h
  split at h
  · skip
    rename_i a0 a1
    rw [raw_gs_Index A141 a0 a1 k]
    exact h
  · exact h.elim)

abbrev T_k_isMark := Int → (Bool → Prop) → Prop
def q_k_isMark (A : T_k_isMark) (us : List W) (k : W → Prop) : Prop := match us with
  | [.i .u8 a0] => A a0 (fun r0 => k (.b r0))
  | _ => False
theorem q_k_isMark_weak {A A2 : T_k_isMark} (h : FO ro 121 (q_k_isMark A)) (hA : ∀ a0 K, A2 a0 K → A a0 K) : FO ro 121 (q_k_isMark A2) := h.weak (by
  intro us k h
  unfold q_k_isMark at h ⊢
  split at h
  · exact hA _ _ h
  · exact h.elim)

def F_k_isMark (a0 : Int) (K : Bool → Prop) : Prop :=
  (I64 a0 ∧ (((decide (a0 < 126)) = true → ((0 ≤ a0 ∧ a0 < 126) ∧ (0 + a0.toNat * 1 < marksL.length ∧ K (decide ((marksL.getD (0 + a0.toNat * 1) 0) ≠ (0 : Int)))))) ∧ ((decide (a0 < 126)) = false → K false)))

def C_k_isMark : CallT sg := tab []
theorem Cok_k_isMark (o0 : Nat → Prop) : CalOK sy Tryz.prog GT (ovD ro) o0 ro (C_k_isMark) := tab_nil o0

theorem raw_k_isMark (a0 : Int) (k : W → Prop) : fnT sy Tryz.prog GT (C_k_isMark) noL Tryz.f121.ntmps (bodyOf Tryz.f121) [none] Tryz.f121.results.toList [.i .u8 a0] k = F_k_isMark a0 (fun r0 => k (.b r0)) := by kernel_rfl

theorem ok_k_isMark : FO ro 121 (q_k_isMark (F_k_isMark)) := (fn_ok (rc := [none]) (f := 121) (fn := Tryz.f121) (c := bodyOf Tryz.f121) (nt := Tryz.f121.ntmps) (res := Tryz.f121.results.toList) (C := C_k_isMark) (L := noL) (fun _ _ => rfl) Tryz.func121 (by kernel_rfl) rfl rfl (Cok_k_isMark) (lp_of (l := []) (by kernel_rfl) lp_nil)).weak (by
  intro us k h
  unfold q_k_isMark at h
  split at h
  · skip
    rename_i a0
    rw [raw_k_isMark a0 k]
    exact h
  · exact h.elim)

abbrev T_readNumericA := Bt → Int → (Tok → Int → Prop) → Prop
def q_readNumericA (A : T_readNumericA) (us : List W) (k : W → Prop) : Prop := match us with
  | [.s a0, .i .i64 a1] => A a0 a1 (fun r0 r1 => k (.t [.a [.i .u8 r0.kind, .s r0.text, .i .i64 r0.num, .s r0.unit, .b r0.flag], .i .i64 r1]))
  | _ => False
theorem q_readNumericA_weak {A A2 : T_readNumericA} (h : FO ro 119 (q_readNumericA A)) (hA : ∀ a0 a1 K, A2 a0 a1 K → A a0 a1 K) : FO ro 119 (q_readNumericA A2) := h.weak (by
  intro us k h
  unfold q_readNumericA at h ⊢
  split at h
  · exact hA _ _ _ h
  · exact h.elim)

def F_readNumericA (A48 : T_k_rNu) (A45 : T_k_nameStarts) (A46 : T_k_readName) (A81 : T_k_byteAt) (a0 : Bt) (a1 : Int) (K : Tok → Int → Prop) : Prop :=
  (A48 a0 a1 (fun y1 y2 y3 => (A45 a0 y3 (fun y4 => ((y4 = true → (A46 a0 y3 (fun y5 y6 => K (Tok.mk (12 : Int) ([] : Bt) y1 y5 y2) y6))) ∧ (y4 = false → (A81 a0 y3 (fun y7 => (((decide (y7 = 37)) = true → (I64 (y3 + 1) ∧ K (Tok.mk (11 : Int) ([] : Bt) y1 ([] : Bt) false) (y3 + 1))) ∧ ((decide (y7 = 37)) = false → K (Tok.mk (10 : Int) ([] : Bt) y1 ([] : Bt) y2) y3))))))))))

def C_readNumericA (A48 : T_k_rNu) (A45 : T_k_nameStarts) (A46 : T_k_readName) (A81 : T_k_byteAt) : CallT sg := tab [(48, con [none, none] (q_k_rNu A48)), (45, con [none, none] (q_k_nameStarts A45)), (46, con [none, none] (q_k_readName A46)), (81, con [none, none] (q_k_byteAt A81))]
theorem Cok_readNumericA (A48 : T_k_rNu) (A45 : T_k_nameStarts) (A46 : T_k_readName) (A81 : T_k_byteAt) (h48 : FO ro 48 (q_k_rNu A48)) (h45 : FO ro 45 (q_k_nameStarts A45)) (h46 : FO ro 46 (q_k_readName A46)) (h81 : FO ro 81 (q_k_byteAt A81)) (o0 : Nat → Prop) : CalOK sy Tryz.prog GT (ovD ro) o0 ro (C_readNumericA A48 A45 A46 A81) := (tab_cons (con_ok h48) (tab_cons (con_ok h45) (tab_cons (con_ok h46) (tab_cons (con_ok h81) tab_nil)))) o0

theorem raw_readNumericA (A48 : T_k_rNu) (A45 : T_k_nameStarts) (A46 : T_k_readName) (A81 : T_k_byteAt) (a0 : Bt) (a1 : Int) (k : W → Prop) : fnT sy Tryz.prog GT (C_readNumericA A48 A45 A46 A81) noL Tryz.f119.ntmps (bodyOf Tryz.f119) [none, none] Tryz.f119.results.toList [.s a0, .i .i64 a1] k = F_readNumericA A48 A45 A46 A81 a0 a1 (fun r0 r1 => k (.t [.a [.i .u8 r0.kind, .s r0.text, .i .i64 r0.num, .s r0.unit, .b r0.flag], .i .i64 r1])) := by kernel_rfl

theorem ok_readNumericA (A48 : T_k_rNu) (A45 : T_k_nameStarts) (A46 : T_k_readName) (A81 : T_k_byteAt) (h48 : FO ro 48 (q_k_rNu A48)) (h45 : FO ro 45 (q_k_nameStarts A45)) (h46 : FO ro 46 (q_k_readName A46)) (h81 : FO ro 81 (q_k_byteAt A81)) : FO ro 119 (q_readNumericA (F_readNumericA A48 A45 A46 A81)) := (fn_ok (rc := [none, none]) (f := 119) (fn := Tryz.f119) (c := bodyOf Tryz.f119) (nt := Tryz.f119.ntmps) (res := Tryz.f119.results.toList) (C := C_readNumericA A48 A45 A46 A81) (L := noL) (fun _ _ => rfl) Tryz.func119 (by kernel_rfl) rfl rfl (Cok_readNumericA A48 A45 A46 A81 h48 h45 h46 h81) (lp_of (l := []) (by kernel_rfl) lp_nil)).weak (by
  intro us k h
  unfold q_readNumericA at h
  split at h
  · skip
    rename_i a0 a1
    rw [raw_readNumericA A48 A45 A46 A81 a0 a1 k]
    exact h
  · exact h.elim)

abbrev T_behindCommentsA := Bt → Int → (Int → Prop) → Prop
def q_behindCommentsA (A : T_behindCommentsA) (us : List W) (k : W → Prop) : Prop := match us with
  | [.s a0, .i .i64 a1] => A a0 a1 (fun r0 => k (.i .i64 r0))
  | _ => False
theorem q_behindCommentsA_weak {A A2 : T_behindCommentsA} (h : FO ro 79 (q_behindCommentsA A)) (hA : ∀ a0 a1 K, A2 a0 a1 K → A a0 a1 K) : FO ro 79 (q_behindCommentsA A2) := h.weak (by
  intro us k h
  unfold q_behindCommentsA at h ⊢
  split at h
  · exact hA _ _ _ h
  · exact h.elim)

def F_behindCommentsA_l1 (A115 : T_gs_HPx) (A116 : T_gs_Index) : Nat → Bt → Int → (Int → Prop) → (Int → Prop) → Prop
  | 0, _, _, _, _ => False
  | n + 1, x0, x1, Ke, Kr => ((0 ≤ x1 ∧ x1 ≤ (x0.length : Int)) ∧ (A115 (x0.drop x1.toNat) ([47, 42] : Bt) (fun y1 => ((y1 = true → (I64 (x1 + 2) ∧ ((0 ≤ (x1 + 2) ∧ (x1 + 2) ≤ (x0.length : Int)) ∧ (A116 (x0.drop (x1 + 2).toNat) ([42, 47] : Bt) (fun y2 => (((decide (y2 < 0)) = true → Kr (x0.length : Int)) ∧ ((decide (y2 < 0)) = false → (I64 (y2 + 2) ∧ (I64 ((x1 + 2) + (y2 + 2)) ∧ F_behindCommentsA_l1 A115 A116 n x0 ((x1 + 2) + (y2 + 2)) Ke Kr))))))))) ∧ (y1 = false → Ke x1)))))

def F_behindCommentsA (A115 : T_gs_HPx) (A116 : T_gs_Index) (a0 : Bt) (a1 : Int) (K : Int → Prop) : Prop :=
  (∃ m, F_behindCommentsA_l1 A115 A116 m a0 a1 (fun y1 => K y1) (fun y2 => K y2))

def C_behindCommentsA (A115 : T_gs_HPx) (A116 : T_gs_Index) : CallT sg := tab [(115, con [none, none] (q_gs_HPx A115)), (116, con [none, none] (q_gs_Index A116))]
theorem Cok_behindCommentsA (A115 : T_gs_HPx) (A116 : T_gs_Index) (h115 : FO ro 115 (q_gs_HPx A115)) (h116 : FO ro 116 (q_gs_Index A116)) (o0 : Nat → Prop) : CalOK sy Tryz.prog GT (ovD ro) o0 ro (C_behindCommentsA A115 A116) := (tab_cons (con_ok h115) (tab_cons (con_ok h116) tab_nil)) o0

def ls_behindCommentsA_1 : LS sy ((Bt) × Int × Unit) Unit := ⟨[], fCons 0 (vStr sy) (fCons 1 (vInt sy .i64) (fNil sy)), hNil sy, 0, []⟩
def le_behindCommentsA_1 : LS sy (Int × Unit) Unit := ⟨[], fCons 1 (vInt sy .i64) (fNil sy), hNil sy, 0, []⟩
def lr_behindCommentsA_1 : LS sy (Int × Unit) Unit := ⟨[], fCons 4 (vInt sy .i64) (fNil sy), hNil sy, 0, []⟩
def FF_behindCommentsA_1 (A115 : T_gs_HPx) (A116 : T_gs_Index) (n : Nat) (x : ((Bt) × Int × Unit) × Unit) (K : Ex → Z sg → Prop) : Prop := F_behindCommentsA_l1 A115 A116 n x.1.1 x.1.2.1 (fun y0 => K (.exit 0) (le_behindCommentsA_1.put ((y0, ()), ()))) (fun y0 => K .ret (lr_behindCommentsA_1.put ((y0, ()), ())))
def h_behindCommentsA_1 (A115 : T_gs_HPx) (A116 : T_gs_Index) (z : Z sg) (K : Ex → Z sg → Prop) : Prop := ls_behindCommentsA_1.get z (fun x => ∃ n, FF_behindCommentsA_1 A115 A116 n x K)
def L_behindCommentsA (A115 : T_gs_HPx) (A116 : T_gs_Index) : LoopT sg := tabL [(1, h_behindCommentsA_1 A115 A116)]
theorem hs_behindCommentsA_1 (A115 : T_gs_HPx) (A116 : T_gs_Index) (n : Nat) (x : ((Bt) × Int × Unit) × Unit) (K : Ex → Z sg → Prop) : forceZ (ls_behindCommentsA_1.put x) (fun z => sC sy Tryz.prog GT (C_behindCommentsA A115 A116) (L_behindCommentsA A115 A116) Tryz.f79.ntmps (nthLoop (bodyOf Tryz.f79) 0) z (rnd ls_behindCommentsA_1 (czT 0 le_behindCommentsA_1 lr_behindCommentsA_1) (fun x => FF_behindCommentsA_1 A115 A116 n x K) K)) = FF_behindCommentsA_1 A115 A116 (n + 1) x K := by kernel_rfl
theorem hl_behindCommentsA_1 (A115 : T_gs_HPx) (A116 : T_gs_Index) (z : Z sg) (K : Ex → Z sg → Prop) : (L_behindCommentsA A115 A116) (nthLoop (bodyOf Tryz.f79) 0) z K = ls_behindCommentsA_1.get z (fun x => ∃ n, FF_behindCommentsA_1 A115 A116 n x K) := by kernel_rfl
theorem lo_behindCommentsA_1 (A115 : T_gs_HPx) (A116 : T_gs_Index) (h115 : FO ro 115 (q_gs_HPx A115)) (h116 : FO ro 116 (q_gs_Index A116)) : ∀ (o0 : Nat → Prop) (B : Bs sg), B.E.length ≤ 0 → ∀ z K, (L_behindCommentsA A115 A116) (nthLoop (bodyOf Tryz.f79) 0) z K → Sx.Sem sy Tryz.prog GT (ovD ro) o0 ro Tryz.f79.ntmps B (.loop (nthLoop (bodyOf Tryz.f79) 0)) z K :=
  loop_ok (Cok_behindCommentsA A115 A116 h115 h116) (lp_of (l := []) (by kernel_rfl) lp_nil) ls_behindCommentsA_1 (by decide) (czT 0 le_behindCommentsA_1 lr_behindCommentsA_1) (fun _ _ hB => czT_ok 0 le_behindCommentsA_1 lr_behindCommentsA_1 (Nat.le_trans hB (by decide)) (Nat.le_trans hB (by decide))) (fun _ _ h => h) (hs_behindCommentsA_1 A115 A116) (hl_behindCommentsA_1 A115 A116)
theorem Lp_behindCommentsA (A115 : T_gs_HPx) (A116 : T_gs_Index) (h115 : FO ro 115 (q_gs_HPx A115)) (h116 : FO ro 116 (q_gs_Index A116)) : LpOK sy Tryz.prog GT (ovD ro) ro (L_behindCommentsA A115 A116) 0 Tryz.f79.ntmps (bodyOf Tryz.f79) := lp_of (l := [(nthLoop (bodyOf Tryz.f79) 0)]) (by kernel_rfl) (lp_cons (lo_behindCommentsA_1 A115 A116 h115 h116) lp_nil)


theorem raw_behindCommentsA (A115 : T_gs_HPx) (A116 : T_gs_Index) (a0 : Bt) (a1 : Int) (k : W → Prop) : fnT sy Tryz.prog GT (C_behindCommentsA A115 A116) (L_behindCommentsA A115 A116) Tryz.f79.ntmps (bodyOf Tryz.f79) [none] Tryz.f79.results.toList [.s a0, .i .i64 a1] k = F_behindCommentsA A115 A116 a0 a1 (fun r0 => k (.i .i64 r0)) := by kernel_rfl

theorem ok_behindCommentsA (A115 : T_gs_HPx) (A116 : T_gs_Index) (h115 : FO ro 115 (q_gs_HPx A115)) (h116 : FO ro 116 (q_gs_Index A116)) : FO ro 79 (q_behindCommentsA (F_behindCommentsA A115 A116)) := (fn_ok (rc := [none]) (f := 79) (fn := Tryz.f79) (c := bodyOf Tryz.f79) (nt := Tryz.f79.ntmps) (res := Tryz.f79.results.toList) (C := C_behindCommentsA A115 A116) (L := (L_behindCommentsA A115 A116)) (fun _ _ => rfl) Tryz.func79 (by kernel_rfl) rfl rfl (Cok_behindCommentsA A115 A116 h115 h116) (Lp_behindCommentsA A115 A116 h115 h116)).weak (by
  intro us k h
  unfold q_behindCommentsA at h
  split at h
  · skip
    rename_i a0 a1
    rw [raw_behindCommentsA A115 A116 a0 a1 k]
    exact h
  · exact h.elim)

abbrev T_readTokenA := Bt → Int → (Tok → Int → Prop) → Prop
def q_readTokenA (A : T_readTokenA) (us : List W) (k : W → Prop) : Prop := match us with
  | [.s a0, .i .i64 a1] => A a0 a1 (fun r0 r1 => k (.t [.a [.i .u8 r0.kind, .s r0.text, .i .i64 r0.num, .s r0.unit, .b r0.flag], .i .i64 r1]))
  | _ => False
theorem q_readTokenA_weak {A A2 : T_readTokenA} (h : FO ro 80 (q_readTokenA A)) (hA : ∀ a0 a1 K, A2 a0 a1 K → A a0 a1 K) : FO ro 80 (q_readTokenA A2) := h.weak (by
  intro us k h
  unfold q_readTokenA at h ⊢
  split at h
  · exact hA _ _ _ h
  · exact h.elim)

def F_readTokenA (A97 : T_c_IsSpace) (A117 : T_k_bSp) (A98 : T_c_IsQuote) (A118 : T_k_rSt) (A84 : T_k_nGO) (A45 : T_k_nameStarts) (A46 : T_k_readName) (A47 : T_k_nSt) (A119 : T_readNumericA) (A115 : T_gs_HPx) (A120 : T_k_readNamed) (A121 : T_k_isMark) (a0 : Bt) (a1 : Int) (K : Tok → Int → Prop) : Prop :=
  ((0 ≤ a1 ∧ a1 < (a0.length : Int)) ∧ (A97 ((a0.getD a1.toNat 0).toNat : Int) (fun y1 => ((y1 = true → (A117 a0 a1 (fun y2 => K (Tok.mk (13 : Int) ([] : Bt) (0 : Int) ([] : Bt) false) y2))) ∧ (y1 = false → ((0 ≤ a1 ∧ a1 < (a0.length : Int)) ∧ (A98 ((a0.getD a1.toNat 0).toNat : Int) (fun y3 => ((y3 = true → (A118 a0 a1 (fun y4 y5 => K (Tok.mk y4.kind y4.text y4.num y4.unit y4.flag) y5))) ∧ (y3 = false → ((0 ≤ a1 ∧ a1 < (a0.length : Int)) ∧ (((decide (((a0.getD a1.toNat 0).toNat : Int) = (35 : Int))) = true → (I64 (a1 + 1) ∧ (A84 a0 (a1 + 1) (fun y6 => ((y6 = true → (I64 (a1 + 1) ∧ (A45 a0 (a1 + 1) (fun y7 => (I64 (a1 + 1) ∧ (A46 a0 (a1 + 1) (fun y8 y9 => K (Tok.mk (4 : Int) y8 (0 : Int) ([] : Bt) y7) y9))))))) ∧ (y6 = false → (A47 a0 a1 (fun y10 => ((y10 = true → (A119 a0 a1 (fun y11 y12 => K (Tok.mk y11.kind y11.text y11.num y11.unit y11.flag) y12))) ∧ (y10 = false → ((0 ≤ a1 ∧ a1 ≤ (a0.length : Int)) ∧ (A115 (a0.drop a1.toNat) ([45, 45, 62] : Bt) (fun y13 => ((y13 = true → (I64 (a1 + 3) ∧ K (Tok.mk (15 : Int) ([] : Bt) (0 : Int) ([] : Bt) false) (a1 + 3))) ∧ (y13 = false → ((0 ≤ a1 ∧ a1 ≤ (a0.length : Int)) ∧ (A115 (a0.drop a1.toNat) ([60, 33, 45, 45] : Bt) (fun y14 => ((y14 = true → (I64 (a1 + 4) ∧ K (Tok.mk (14 : Int) ([] : Bt) (0 : Int) ([] : Bt) false) (a1 + 4))) ∧ (y14 = false → ((0 ≤ a1 ∧ a1 < (a0.length : Int)) ∧ (((decide (((a0.getD a1.toNat 0).toNat : Int) = (64 : Int))) = true → (I64 (a1 + 1) ∧ (A45 a0 (a1 + 1) (fun y15 => ((y15 = true → (I64 (a1 + 1) ∧ (A46 a0 (a1 + 1) (fun y16 y17 => K (Tok.mk (3 : Int) y16 (0 : Int) ([] : Bt) false) y17)))) ∧ (y15 = false → (A45 a0 a1 (fun y18 => ((y18 = true → (A120 a0 a1 (fun y19 y20 => K (Tok.mk y19.kind y19.text y19.num y19.unit y19.flag) y20))) ∧ (y18 = false → ((0 ≤ a1 ∧ a1 < (a0.length : Int)) ∧ (A121 ((a0.getD a1.toNat 0).toNat : Int) (fun y21 => ((y21 = true → ((0 ≤ a1 ∧ a1 < (a0.length : Int)) ∧ ((0 ≤ ((a0.getD a1.toNat 0).toNat : Int) ∧ ((a0.getD a1.toNat 0).toNat : Int) < (126 : Int)) ∧ (0 + ((a0.getD a1.toNat 0).toNat : Int).toNat * 1 < marksL.length ∧ (I64 (a1 + 1) ∧ K (Tok.mk (marksL.getD (0 + ((a0.getD a1.toNat 0).toNat : Int).toNat * 1) 0) ([] : Bt) (0 : Int) ([] : Bt) false) (a1 + 1)))))) ∧ (y21 = false → (I64 (a1 + 1) ∧ ((0 ≤ a1 ∧ a1 ≤ (a1 + 1) ∧ (a1 + 1) ≤ (a0.length : Int)) ∧ (I64 (a1 + 1) ∧ K (Tok.mk (9 : Int) ((a0.drop a1.toNat).take ((a1 + 1).toNat - a1.toNat)) (0 : Int) ([] : Bt) false) (a1 + 1))))))))))))))))))) ∧ ((decide (((a0.getD a1.toNat 0).toNat : Int) = (64 : Int))) = false → (A45 a0 a1 (fun y22 => ((y22 = true → (A120 a0 a1 (fun y23 y24 => K (Tok.mk y23.kind y23.text y23.num y23.unit y23.flag) y24))) ∧ (y22 = false → ((0 ≤ a1 ∧ a1 < (a0.length : Int)) ∧ (A121 ((a0.getD a1.toNat 0).toNat : Int) (fun y25 => ((y25 = true → ((0 ≤ a1 ∧ a1 < (a0.length : Int)) ∧ ((0 ≤ ((a0.getD a1.toNat 0).toNat : Int) ∧ ((a0.getD a1.toNat 0).toNat : Int) < (126 : Int)) ∧ (0 + ((a0.getD a1.toNat 0).toNat : Int).toNat * 1 < marksL.length ∧ (I64 (a1 + 1) ∧ K (Tok.mk (marksL.getD (0 + ((a0.getD a1.toNat 0).toNat : Int).toNat * 1) 0) ([] : Bt) (0 : Int) ([] : Bt) false) (a1 + 1)))))) ∧ (y25 = false → (I64 (a1 + 1) ∧ ((0 ≤ a1 ∧ a1 ≤ (a1 + 1) ∧ (a1 + 1) ≤ (a0.length : Int)) ∧ (I64 (a1 + 1) ∧ K (Tok.mk (9 : Int) ((a0.drop a1.toNat).take ((a1 + 1).toNat - a1.toNat)) (0 : Int) ([] : Bt) false) (a1 + 1)))))))))))))))))))))))))))))))))))) ∧ ((decide (((a0.getD a1.toNat 0).toNat : Int) = (35 : Int))) = false → (A47 a0 a1 (fun y26 => ((y26 = true → (A119 a0 a1 (fun y27 y28 => K (Tok.mk y27.kind y27.text y27.num y27.unit y27.flag) y28))) ∧ (y26 = false → ((0 ≤ a1 ∧ a1 ≤ (a0.length : Int)) ∧ (A115 (a0.drop a1.toNat) ([45, 45, 62] : Bt) (fun y29 => ((y29 = true → (I64 (a1 + 3) ∧ K (Tok.mk (15 : Int) ([] : Bt) (0 : Int) ([] : Bt) false) (a1 + 3))) ∧ (y29 = false → ((0 ≤ a1 ∧ a1 ≤ (a0.length : Int)) ∧ (A115 (a0.drop a1.toNat) ([60, 33, 45, 45] : Bt) (fun y30 => ((y30 = true → (I64 (a1 + 4) ∧ K (Tok.mk (14 : Int) ([] : Bt) (0 : Int) ([] : Bt) false) (a1 + 4))) ∧ (y30 = false → ((0 ≤ a1 ∧ a1 < (a0.length : Int)) ∧ (((decide (((a0.getD a1.toNat 0).toNat : Int) = (64 : Int))) = true → (I64 (a1 + 1) ∧ (A45 a0 (a1 + 1) (fun y31 => ((y31 = true → (I64 (a1 + 1) ∧ (A46 a0 (a1 + 1) (fun y32 y33 => K (Tok.mk (3 : Int) y32 (0 : Int) ([] : Bt) false) y33)))) ∧ (y31 = false → (A45 a0 a1 (fun y34 => ((y34 = true → (A120 a0 a1 (fun y35 y36 => K (Tok.mk y35.kind y35.text y35.num y35.unit y35.flag) y36))) ∧ (y34 = false → ((0 ≤ a1 ∧ a1 < (a0.length : Int)) ∧ (A121 ((a0.getD a1.toNat 0).toNat : Int) (fun y37 => ((y37 = true → ((0 ≤ a1 ∧ a1 < (a0.length : Int)) ∧ ((0 ≤ ((a0.getD a1.toNat 0).toNat : Int) ∧ ((a0.getD a1.toNat 0).toNat : Int) < (126 : Int)) ∧ (0 + ((a0.getD a1.toNat 0).toNat : Int).toNat * 1 < marksL.length ∧ (I64 (a1 + 1) ∧ K (Tok.mk (marksL.getD (0 + ((a0.getD a1.toNat 0).toNat : Int).toNat * 1) 0) ([] : Bt) (0 : Int) ([] : Bt) false) (a1 + 1)))))) ∧ (y37 = false → (I64 (a1 + 1) ∧ ((0 ≤ a1 ∧ a1 ≤ (a1 + 1) ∧ (a1 + 1) ≤ (a0.length : Int)) ∧ (I64 (a1 + 1) ∧ K (Tok.mk (9 : Int) ((a0.drop a1.toNat).take ((a1 + 1).toNat - a1.toNat)) (0 : Int) ([] : Bt) false) (a1 + 1))))))))))))))))))) ∧ ((decide (((a0.getD a1.toNat 0).toNat : Int) = (64 : Int))) = false → (A45 a0 a1 (fun y38 => ((y38 = true → (A120 a0 a1 (fun y39 y40 => K (Tok.mk y39.kind y39.text y39.num y39.unit y39.flag) y40))) ∧ (y38 = false → ((0 ≤ a1 ∧ a1 < (a0.length : Int)) ∧ (A121 ((a0.getD a1.toNat 0).toNat : Int) (fun y41 => ((y41 = true → ((0 ≤ a1 ∧ a1 < (a0.length : Int)) ∧ ((0 ≤ ((a0.getD a1.toNat 0).toNat : Int) ∧ ((a0.getD a1.toNat 0).toNat : Int) < (126 : Int)) ∧ (0 + ((a0.getD a1.toNat 0).toNat : Int).toNat * 1 < marksL.length ∧ (I64 (a1 + 1) ∧ K (Tok.mk (marksL.getD (0 + ((a0.getD a1.toNat 0).toNat : Int).toNat * 1) 0) ([] : Bt) (0 : Int) ([] : Bt) false) (a1 + 1)))))) ∧ (y41 = false → (I64 (a1 + 1) ∧ ((0 ≤ a1 ∧ a1 ≤ (a1 + 1) ∧ (a1 + 1) ≤ (a0.length : Int)) ∧ (I64 (a1 + 1) ∧ K (Tok.mk (9 : Int) ((a0.drop a1.toNat).take ((a1 + 1).toNat - a1.toNat)) (0 : Int) ([] : Bt) false) (a1 + 1)))))))))))))))))))))))))))))))))))))))))))

def C_readTokenA (A97 : T_c_IsSpace) (A117 : T_k_bSp) (A98 : T_c_IsQuote) (A118 : T_k_rSt) (A84 : T_k_nGO) (A45 : T_k_nameStarts) (A46 : T_k_readName) (A47 : T_k_nSt) (A119 : T_readNumericA) (A115 : T_gs_HPx) (A120 : T_k_readNamed) (A121 : T_k_isMark) : CallT sg := tab [(97, con [none] (q_c_IsSpace A97)), (117, con [none, none] (q_k_bSp A117)), (98, con [none] (q_c_IsQuote A98)), (118, con [none, none] (q_k_rSt A118)), (84, con [none, none] (q_k_nGO A84)), (45, con [none, none] (q_k_nameStarts A45)), (46, con [none, none] (q_k_readName A46)), (47, con [none, none] (q_k_nSt A47)), (119, con [none, none] (q_readNumericA A119)), (115, con [none, none] (q_gs_HPx A115)), (120, con [none, none] (q_k_readNamed A120)), (121, con [none] (q_k_isMark A121))]
theorem Cok_readTokenA (A97 : T_c_IsSpace) (A117 : T_k_bSp) (A98 : T_c_IsQuote) (A118 : T_k_rSt) (A84 : T_k_nGO) (A45 : T_k_nameStarts) (A46 : T_k_readName) (A47 : T_k_nSt) (A119 : T_readNumericA) (A115 : T_gs_HPx) (A120 : T_k_readNamed) (A121 : T_k_isMark) (h97 : FO ro 97 (q_c_IsSpace A97)) (h117 : FO ro 117 (q_k_bSp A117)) (h98 : FO ro 98 (q_c_IsQuote A98)) (h118 : FO ro 118 (q_k_rSt A118)) (h84 : FO ro 84 (q_k_nGO A84)) (h45 : FO ro 45 (q_k_nameStarts A45)) (h46 : FO ro 46 (q_k_readName A46)) (h47 : FO ro 47 (q_k_nSt A47)) (h119 : FO ro 119 (q_readNumericA A119)) (h115 : FO ro 115 (q_gs_HPx A115)) (h120 : FO ro 120 (q_k_readNamed A120)) (h121 : FO ro 121 (q_k_isMark A121)) (o0 : Nat → Prop) : CalOK sy Tryz.prog GT (ovD ro) o0 ro (C_readTokenA A97 A117 A98 A118 A84 A45 A46 A47 A119 A115 A120 A121) := (tab_cons (con_ok h97) (tab_cons (con_ok h117) (tab_cons (con_ok h98) (tab_cons (con_ok h118) (tab_cons (con_ok h84) (tab_cons (con_ok h45) (tab_cons (con_ok h46) (tab_cons (con_ok h47) (tab_cons (con_ok h119) (tab_cons (con_ok h115) (tab_cons (con_ok h120) (tab_cons (con_ok h121) tab_nil)))))))))))) o0

theorem raw_readTokenA (A97 : T_c_IsSpace) (A117 : T_k_bSp) (A98 : T_c_IsQuote) (A118 : T_k_rSt) (A84 : T_k_nGO) (A45 : T_k_nameStarts) (A46 : T_k_readName) (A47 : T_k_nSt) (A119 : T_readNumericA) (A115 : T_gs_HPx) (A120 : T_k_readNamed) (A121 : T_k_isMark) (a0 : Bt) (a1 : Int) (k : W → Prop) : fnT sy Tryz.prog GT (C_readTokenA A97 A117 A98 A118 A84 A45 A46 A47 A119 A115 A120 A121) noL Tryz.f80.ntmps (bodyOf Tryz.f80) [none, none] Tryz.f80.results.toList [.s a0, .i .i64 a1] k = F_readTokenA A97 A117 A98 A118 A84 A45 A46 A47 A119 A115 A120 A121 a0 a1 (fun r0 r1 => k (.t [.a [.i .u8 r0.kind, .s r0.text, .i .i64 r0.num, .s r0.unit, .b r0.flag], .i .i64 r1])) := by kernel_rfl

theorem ok_readTokenA (A97 : T_c_IsSpace) (A117 : T_k_bSp) (A98 : T_c_IsQuote) (A118 : T_k_rSt) (A84 : T_k_nGO) (A45 : T_k_nameStarts) (A46 : T_k_readName) (A47 : T_k_nSt) (A119 : T_readNumericA) (A115 : T_gs_HPx) (A120 : T_k_readNamed) (A121 : T_k_isMark) (h97 : FO ro 97 (q_c_IsSpace A97)) (h117 : FO ro 117 (q_k_bSp A117)) (h98 : FO ro 98 (q_c_IsQuote A98)) (h118 : FO ro 118 (q_k_rSt A118)) (h84 : FO ro 84 (q_k_nGO A84)) (h45 : FO ro 45 (q_k_nameStarts A45)) (h46 : FO ro 46 (q_k_readName A46)) (h47 : FO ro 47 (q_k_nSt A47)) (h119 : FO ro 119 (q_readNumericA A119)) (h115 : FO ro 115 (q_gs_HPx A115)) (h120 : FO ro 120 (q_k_readNamed A120)) (h121 : FO ro 121 (q_k_isMark A121)) : FO ro 80 (q_readTokenA (F_readTokenA A97 A117 A98 A118 A84 A45 A46 A47 A119 A115 A120 A121)) := (fn_ok (rc := [none, none]) (f := 80) (fn := Tryz.f80) (c := bodyOf Tryz.f80) (nt := Tryz.f80.ntmps) (res := Tryz.f80.results.toList) (C := C_readTokenA A97 A117 A98 A118 A84 A45 A46 A47 A119 A115 A120 A121) (L := noL) (fun _ _ => rfl) Tryz.func80 (by kernel_rfl) rfl rfl (Cok_readTokenA A97 A117 A98 A118 A84 A45 A46 A47 A119 A115 A120 A121 h97 h117 h98 h118 h84 h45 h46 h47 h119 h115 h120 h121) (lp_of (l := []) (by kernel_rfl) lp_nil)).weak (by
  intro us k h
  unfold q_readTokenA at h
  split at h
  · skip
    rename_i a0 a1
    rw [raw_readTokenA A97 A117 A98 A118 A84 A45 A46 A47 A119 A115 A120 A121 a0 a1 k]
    exact h
  · exact h.elim)

def C_k_Tokens_1A : CallT sg := tab []
theorem Cok_k_Tokens_1A (o0 : Nat → Prop) : CalOK sy Tryz.prog GT (ovD ro) o0 ro (C_k_Tokens_1A) := tab_nil o0

def F_k_eachToken_tA_l6 (A78 : T_i_Clean) (A79 : T_behindCommentsA) (A80 : T_readTokenA) : Nat → Bt → Int → Int → List Tok → (List Tok → Prop) → (Int → List Tok → Prop) → Prop
  | 0, _, _, _, _, _, _ => False
  | n + 1, x5, x7, x8, b1, Ke, Kr => (((decide (x8 < (x5.length : Int))) = true → (((decide (x7 = 1500)) = true → Kr (4 : Int) b1) ∧ ((decide (x7 = 1500)) = false → (A80 x5 x8 (fun y1 y2 => ((b1.length + [(Tok.mk y1.kind y1.text y1.num y1.unit y1.flag)].length) * 56 ≤ 1099511627776 ∧ (I64 (x7 + 1) ∧ (A79 x5 y2 (fun y3 => F_k_eachToken_tA_l6 A78 A79 A80 n x5 (x7 + 1) y3 (b1 ++ [(Tok.mk y1.kind y1.text y1.num y1.unit y1.flag)]) Ke Kr))))))))) ∧ ((decide (x8 < (x5.length : Int))) = false → Ke b1))

def C_k_eachToken_tA (A78 : T_i_Clean) (A79 : T_behindCommentsA) (A80 : T_readTokenA) : CallT sg := tab [(78, con [none] (q_i_Clean A78)), (79, con [none, none] (q_behindCommentsA A79)), (80, con [none, none] (q_readTokenA A80)), (44, inl sy Tryz.prog GT (C_k_Tokens_1A) noL 1000 Tryz.f44.ntmps (bodyOf Tryz.f44) Tryz.f44.results.toList)]
theorem Cok_k_eachToken_tA (A78 : T_i_Clean) (A79 : T_behindCommentsA) (A80 : T_readTokenA) (h78 : FO ro 78 (q_i_Clean A78)) (h79 : FO ro 79 (q_behindCommentsA A79)) (h80 : FO ro 80 (q_readTokenA A80)) (o0 : Nat → Prop) : CalOK sy Tryz.prog GT (ovD ro) o0 ro (C_k_eachToken_tA A78 A79 A80) := (tab_cons (con_ok h78) (tab_cons (con_ok h79) (tab_cons (con_ok h80) (tab_cons (inl_ok (f := 44) (fn := Tryz.f44) (fun _ _ => rfl) Tryz.func44 (by kernel_rfl) rfl rfl (Cok_k_Tokens_1A) (lp_of (l := []) (by kernel_rfl) lp_nil)) tab_nil)))) o0

def ls_k_eachToken_tA_6 : LS sy ((Unit × Unit) × (Bt) × Int × Int × Unit) ((Unit × Unit) × List (sg.Den Cd.tok) × Unit) := ⟨[.cell 0 0 1 Cd.tok], fCons 1 (vFn 44 (lCons (vLit sy (.p 0 0)) (lNil sy))) (fCons 5 (vStr sy) (fCons 7 (vInt sy .i64) (fCons 8 (vInt sy .i64) (fNil sy)))), hCells 0 (lCons (vLit sy (.o 1)) (lNil sy)) (hBuf 1 Cd.tok (hNil sy)), 2, [1]⟩
def le_k_eachToken_tA_6 : LS sy Unit ((Unit × Unit) × List (sg.Den Cd.tok) × Unit) := ⟨[], fNil sy, hCells 0 (lCons (vLit sy (.o 1)) (lNil sy)) (hBuf 1 Cd.tok (hNil sy)), 2, [1]⟩
def lr_k_eachToken_tA_6 : LS sy (Int × Unit) ((Unit × Unit) × List (sg.Den Cd.tok) × Unit) := ⟨[], fCons 4 (vInt sy .i64) (fNil sy), hCells 0 (lCons (vLit sy (.o 1)) (lNil sy)) (hBuf 1 Cd.tok (hNil sy)), 2, [1]⟩
def FF_k_eachToken_tA_6 (A78 : T_i_Clean) (A79 : T_behindCommentsA) (A80 : T_readTokenA) (n : Nat) (x : ((Unit × Unit) × (Bt) × Int × Int × Unit) × ((Unit × Unit) × List (sg.Den Cd.tok) × Unit)) (K : Ex → Z sg → Prop) : Prop := F_k_eachToken_tA_l6 A78 A79 A80 n x.1.2.1 x.1.2.2.1 x.1.2.2.2.1 x.2.2.1 (fun y0 => K (.exit 0) (le_k_eachToken_tA_6.put ((), (((), ()), y0, ())))) (fun y0 y1 => K .ret (lr_k_eachToken_tA_6.put ((y0, ()), (((), ()), y1, ()))))
def h_k_eachToken_tA_6 (A78 : T_i_Clean) (A79 : T_behindCommentsA) (A80 : T_readTokenA) (z : Z sg) (K : Ex → Z sg → Prop) : Prop := ls_k_eachToken_tA_6.get z (fun x => ∃ n, FF_k_eachToken_tA_6 A78 A79 A80 n x K)
def L_k_eachToken_tA (A78 : T_i_Clean) (A79 : T_behindCommentsA) (A80 : T_readTokenA) : LoopT sg := tabL [(6, h_k_eachToken_tA_6 A78 A79 A80)]
theorem hs_k_eachToken_tA_6 (A78 : T_i_Clean) (A79 : T_behindCommentsA) (A80 : T_readTokenA) (n : Nat) (x : ((Unit × Unit) × (Bt) × Int × Int × Unit) × ((Unit × Unit) × List (sg.Den Cd.tok) × Unit)) (K : Ex → Z sg → Prop) : forceZ (ls_k_eachToken_tA_6.put x) (fun z => sC sy Tryz.prog GT (C_k_eachToken_tA A78 A79 A80) (L_k_eachToken_tA A78 A79 A80) Tryz.f43.ntmps (nthLoop (bodyOf Tryz.f43) 0) z (rnd ls_k_eachToken_tA_6 (czT 0 le_k_eachToken_tA_6 lr_k_eachToken_tA_6) (fun x => FF_k_eachToken_tA_6 A78 A79 A80 n x K) K)) = FF_k_eachToken_tA_6 A78 A79 A80 (n + 1) x K := by kernel_rfl
theorem hl_k_eachToken_tA_6 (A78 : T_i_Clean) (A79 : T_behindCommentsA) (A80 : T_readTokenA) (z : Z sg) (K : Ex → Z sg → Prop) : (L_k_eachToken_tA A78 A79 A80) (nthLoop (bodyOf Tryz.f43) 0) z K = ls_k_eachToken_tA_6.get z (fun x => ∃ n, FF_k_eachToken_tA_6 A78 A79 A80 n x K) := by kernel_rfl
theorem lo_k_eachToken_tA_6 (A78 : T_i_Clean) (A79 : T_behindCommentsA) (A80 : T_readTokenA) (h78 : FO ro 78 (q_i_Clean A78)) (h79 : FO ro 79 (q_behindCommentsA A79)) (h80 : FO ro 80 (q_readTokenA A80)) : ∀ (o0 : Nat → Prop) (B : Bs sg), B.E.length ≤ 1 → ∀ z K, (L_k_eachToken_tA A78 A79 A80) (nthLoop (bodyOf Tryz.f43) 0) z K → Sx.Sem sy Tryz.prog GT (ovD ro) o0 ro Tryz.f43.ntmps B (.loop (nthLoop (bodyOf Tryz.f43) 0)) z K :=
  loop_ok (Cok_k_eachToken_tA A78 A79 A80 h78 h79 h80) (lp_of (l := []) (by kernel_rfl) lp_nil) ls_k_eachToken_tA_6 (by decide) (czT 0 le_k_eachToken_tA_6 lr_k_eachToken_tA_6) (fun _ _ hB => czT_ok 0 le_k_eachToken_tA_6 lr_k_eachToken_tA_6 (Nat.le_trans hB (by decide)) (Nat.le_trans hB (by decide))) (fun _ _ h => h) (hs_k_eachToken_tA_6 A78 A79 A80) (hl_k_eachToken_tA_6 A78 A79 A80)
theorem Lp_k_eachToken_tA (A78 : T_i_Clean) (A79 : T_behindCommentsA) (A80 : T_readTokenA) (h78 : FO ro 78 (q_i_Clean A78)) (h79 : FO ro 79 (q_behindCommentsA A79)) (h80 : FO ro 80 (q_readTokenA A80)) : LpOK sy Tryz.prog GT (ovD ro) ro (L_k_eachToken_tA A78 A79 A80) 1 Tryz.f43.ntmps (bodyOf Tryz.f43) := lp_of (l := [(nthLoop (bodyOf Tryz.f43) 0)]) (by kernel_rfl) (lp_cons (lo_k_eachToken_tA_6 A78 A79 A80 h78 h79 h80) lp_nil)


abbrev T_TokensA := Bt → (List Tok → Int → Prop) → Prop
def q_TokensA (A : T_TokensA) (us : List W) (k : W → Prop) : Prop := match us with
  | [.s a0] => A a0 (fun r0 r1 => k (.t [.l Cd.tok r0, .i .i64 r1]))
  | _ => False
theorem q_TokensA_weak {A A2 : T_TokensA} (h : FO ro 25 (q_TokensA A)) (hA : ∀ a0 K, A2 a0 K → A a0 K) : FO ro 25 (q_TokensA A2) := h.weak (by
  intro us k h
  unfold q_TokensA at h ⊢
  split at h
  · exact hA _ _ h
  · exact h.elim)

def F_TokensA (A78 : T_i_Clean) (A79 : T_behindCommentsA) (A80 : T_readTokenA) (a0 : Bt) (K : List Tok → Int → Prop) : Prop :=
  (A78 a0 (fun y1 y2 => (((decide (y2 ≠ 0)) = true → (((decide (y2 ≠ 0)) = true → K ([] : List Tok) y2) ∧ ((decide (y2 ≠ 0)) = false → K ([] : List Tok) (0 : Int)))) ∧ ((decide (y2 ≠ 0)) = false → (A79 y1 (0 : Int) (fun y3 => (∃ m, F_k_eachToken_tA_l6 A78 A79 A80 m y1 (0 : Int) y3 ([] : List Tok) (fun y4 => (((decide ((0 : Int) ≠ (0 : Int))) = true → K ([] : List Tok) (0 : Int)) ∧ ((decide ((0 : Int) ≠ (0 : Int))) = false → K y4 (0 : Int)))) (fun y5 y6 => (((decide (y5 ≠ 0)) = true → K ([] : List Tok) y5) ∧ ((decide (y5 ≠ 0)) = false → K y6 (0 : Int)))))))))))

def C_TokensA (A78 : T_i_Clean) (A79 : T_behindCommentsA) (A80 : T_readTokenA) : CallT sg := tab [(43, inl sy Tryz.prog GT (C_k_eachToken_tA A78 A79 A80) (L_k_eachToken_tA A78 A79 A80) 1 Tryz.f43.ntmps (bodyOf Tryz.f43) Tryz.f43.results.toList), (44, inl sy Tryz.prog GT (C_k_Tokens_1A) noL 1000 Tryz.f44.ntmps (bodyOf Tryz.f44) Tryz.f44.results.toList)]
theorem Cok_TokensA (A78 : T_i_Clean) (A79 : T_behindCommentsA) (A80 : T_readTokenA) (h78 : FO ro 78 (q_i_Clean A78)) (h79 : FO ro 79 (q_behindCommentsA A79)) (h80 : FO ro 80 (q_readTokenA A80)) (o0 : Nat → Prop) : CalOK sy Tryz.prog GT (ovD ro) o0 ro (C_TokensA A78 A79 A80) := (tab_cons (inl_ok (f := 43) (fn := Tryz.f43) (fun _ _ => rfl) Tryz.func43 (by kernel_rfl) rfl rfl (Cok_k_eachToken_tA A78 A79 A80 h78 h79 h80) (Lp_k_eachToken_tA A78 A79 A80 h78 h79 h80)) (tab_cons (inl_ok (f := 44) (fn := Tryz.f44) (fun _ _ => rfl) Tryz.func44 (by kernel_rfl) rfl rfl (Cok_k_Tokens_1A) (lp_of (l := []) (by kernel_rfl) lp_nil)) tab_nil)) o0

theorem raw_TokensA (A78 : T_i_Clean) (A79 : T_behindCommentsA) (A80 : T_readTokenA) (a0 : Bt) (k : W → Prop) : fnT sy Tryz.prog GT (C_TokensA A78 A79 A80) noL Tryz.f25.ntmps (bodyOf Tryz.f25) [some Cd.tok, none] Tryz.f25.results.toList [.s a0] k = F_TokensA A78 A79 A80 a0 (fun r0 r1 => k (.t [.l Cd.tok r0, .i .i64 r1])) := by kernel_rfl

theorem ok_TokensA (A78 : T_i_Clean) (A79 : T_behindCommentsA) (A80 : T_readTokenA) (h78 : FO ro 78 (q_i_Clean A78)) (h79 : FO ro 79 (q_behindCommentsA A79)) (h80 : FO ro 80 (q_readTokenA A80)) : FO ro 25 (q_TokensA (F_TokensA A78 A79 A80)) := (fn_ok (rc := [some Cd.tok, none]) (f := 25) (fn := Tryz.f25) (c := bodyOf Tryz.f25) (nt := Tryz.f25.ntmps) (res := Tryz.f25.results.toList) (C := C_TokensA A78 A79 A80) (L := noL) (fun _ _ => rfl) Tryz.func25 (by kernel_rfl) rfl rfl (Cok_TokensA A78 A79 A80 h78 h79 h80) (lp_of (l := []) (by kernel_rfl) lp_nil)).weak (by
  intro us k h
  unfold q_TokensA at h
  split at h
  · skip
    rename_i a0
    rw [raw_TokensA A78 A79 A80 a0 k]
    exact h
  · exact h.elim)

end Go.Proofs.YtkmgbibhkilffaaGreatDoor
