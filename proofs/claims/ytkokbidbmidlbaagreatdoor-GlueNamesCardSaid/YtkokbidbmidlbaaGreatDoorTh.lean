/-
 Functions of the tokenizer, followed: tokens of all kinds, all tokens. Nothing is claimed here.
-/
import Derived.Test.YtkokbidbmidlbaaGreatDoorTg
namespace Go.Proofs.YtkokbidbmidlbaaGreatDoor
open Go.Vm Go.Sx Go.RowKit
variable {ro : Nat}
abbrev T_gslIndex := Bt → Bt → (Int → Prop) → Prop
def ZaB (A : T_gslIndex) (us : List W) (k : W → Prop) : Prop := match us with
 | [.s a0, .s a1] => A a0 a1 (fun r0 => k (.i .i64 r0))
 | _ => False
abbrev T_gs_Index := Bt → Bt → (Int → Prop) → Prop
def ZF (A : T_gs_Index) (us : List W) (k : W → Prop) : Prop := match us with
 | [.s a0, .s a1] => A a0 a1 (fun r0 => k (.i .i64 r0))
 | _ => False
theorem Jcs {A A2 : T_gs_Index} (h : FO ro 116 (ZF A)) (hA : ∀ a0 a1 K, A2 a0 a1 K → A a0 a1 K) : FO ro 116 (ZF A2) := h.weak (by
 intro us k h
 unfold ZF at h ⊢
 split at h
 ·exact hA _ _ _ h
 ·exact h.elim)
def zbM (A141 : T_gslIndex) (a0 : Bt) (a1 : Bt) (K : Int → Prop) : Prop :=
 (A141 a0 a1 (fun y1 => K y1))
def jbM (A141 : T_gslIndex) : jg sg := tab [(141, con [none, none] (ZaB A141))]
theorem jdz (A141 : T_gslIndex) (h141 : FO ro 141 (ZaB A141)) (o0 : Nat → Prop) : zh sy Tryz.prog GT (ovD ro) o0 ro (jbM A141) := (ja (Zb h141) jc) o0
theorem Zdz (A141 : T_gslIndex) (a0 : Bt) (a1 : Bt) (k : W → Prop) : fnT sy Tryz.prog GT (jbM A141) noL Tryz.f116.ntmps (za Tryz.f116) [none] Tryz.f116.results.toList [.s a0, .s a1] k = zbM A141 a0 a1 (fun r0 => k (.i .i64 r0)) := by kernel_rfl
theorem JdT (A141 : T_gslIndex) (h141 : FO ro 141 (ZaB A141)) : FO ro 116 (ZF (zbM A141)) := (Zq (rc := [none]) (f := 116) (fn := Tryz.f116) (c := za Tryz.f116) (nt := Tryz.f116.ntmps) (res := Tryz.f116.results.toList) (C := jbM A141) (L := noL) (fun _ _ => rfl) Tryz.func116 (by kernel_rfl) rfl rfl (jdz A141 h141) (Jf (l := []) (by kernel_rfl) Jc)).weak (by
 intro us k h
 unfold ZF at h
 split at h
 ·skip
  rename_i a0 a1
  rw [Zdz A141 a0 a1 k]
  exact h
 ·exact h.elim)
abbrev T_k_isMark := Int → (Bool → Prop) → Prop
def jR (A : T_k_isMark) (us : List W) (k : W → Prop) : Prop := match us with
 | [.i .u8 a0] => A a0 (fun r0 => k (.b r0))
 | _ => False
theorem zct {A A2 : T_k_isMark} (h : FO ro 121 (jR A)) (hA : ∀ a0 K, A2 a0 K → A a0 K) : FO ro 121 (jR A2) := h.weak (by
 intro us k h
 unfold jR at h ⊢
 split at h
 ·exact hA _ _ h
 ·exact h.elim)
def ZbM (a0 : Int) (K : Bool → Prop) : Prop :=
 (I64 a0 ∧ (((decide (a0 < 126)) = true → ((0 ≤ a0 ∧ a0 < 126) ∧ (0 + a0.toNat * 1 < marksL.length ∧ K (decide ((marksL.getD (0 + a0.toNat * 1) 0) ≠ (0 : Int)))))) ∧ ((decide (a0 < 126)) = false → K false)))
def JbM : jg sg := tab []
theorem Jdz (o0 : Nat → Prop) : zh sy Tryz.prog GT (ovD ro) o0 ro (JbM) := jc o0
theorem zdA (a0 : Int) (k : W → Prop) : fnT sy Tryz.prog GT (JbM) noL Tryz.f121.ntmps (za Tryz.f121) [none] Tryz.f121.results.toList [.i .u8 a0] k = ZbM a0 (fun r0 => k (.b r0)) := by kernel_rfl
theorem zdU : FO ro 121 (jR (ZbM)) := (Zq (rc := [none]) (f := 121) (fn := Tryz.f121) (c := za Tryz.f121) (nt := Tryz.f121.ntmps) (res := Tryz.f121.results.toList) (C := JbM) (L := noL) (fun _ _ => rfl) Tryz.func121 (by kernel_rfl) rfl rfl (Jdz) (Jf (l := []) (by kernel_rfl) Jc)).weak (by
 intro us k h
 unfold jR at h
 split at h
 ·skip
  rename_i a0
  rw [zdA a0 k]
  exact h
 ·exact h.elim)
abbrev T_readNumericA := Bt → Int → (Tok → Int → Prop) → Prop
def zu (A : T_readNumericA) (us : List W) (k : W → Prop) : Prop := match us with
 | [.s a0, .i .i64 a1] => A a0 a1 (fun r0 r1 => k (.t [.a [.i .u8 r0.kind, .s r0.text, .i .i64 r0.num, .s r0.unit, .b r0.flag], .i .i64 r1]))
 | _ => False
theorem jbn {A A2 : T_readNumericA} (h : FO ro 119 (zu A)) (hA : ∀ a0 a1 K, A2 a0 a1 K → A a0 a1 K) : FO ro 119 (zu A2) := h.weak (by
 intro us k h
 unfold zu at h ⊢
 split at h
 ·exact hA _ _ _ h
 ·exact h.elim)
def Jat (A48 : T_k_rNu) (A45 : T_k_nameStarts) (A46 : T_k_readName) (A81 : T_k_byteAt) (a0 : Bt) (a1 : Int) (K : Tok → Int → Prop) : Prop :=
 (A48 a0 a1 (fun y1 y2 y3 => (A45 a0 y3 (fun y4 => ((y4 = true → (A46 a0 y3 (fun y5 y6 => K (Tok.mk (12 : Int) ([] : Bt) y1 y5 y2) y6))) ∧ (y4 = false → (A81 a0 y3 (fun y7 => (((decide (y7 = 37)) = true → (I64 (y3 + 1) ∧ K (Tok.mk (11 : Int) ([] : Bt) y1 ([] : Bt) false) (y3 + 1))) ∧ ((decide (y7 = 37)) = false → K (Tok.mk (10 : Int) ([] : Bt) y1 ([] : Bt) y2) y3))))))))))
def zau (A48 : T_k_rNu) (A45 : T_k_nameStarts) (A46 : T_k_readName) (A81 : T_k_byteAt) : jg sg := tab [(48, con [none, none] (jaI A48)), (45, con [none, none] (Zm A45)), (46, con [none, none] (Jl A46)), (81, con [none, none] (zb A81))]
theorem jb2 (A48 : T_k_rNu) (A45 : T_k_nameStarts) (A46 : T_k_readName) (A81 : T_k_byteAt) (h48 : FO ro 48 (jaI A48)) (h45 : FO ro 45 (Zm A45)) (h46 : FO ro 46 (Jl A46)) (h81 : FO ro 81 (zb A81)) (o0 : Nat → Prop) : zh sy Tryz.prog GT (ovD ro) o0 ro (zau A48 A45 A46 A81) := (ja (Zb h48) (ja (Zb h45) (ja (Zb h46) (ja (Zb h81) jc)))) o0
theorem Zb2 (A48 : T_k_rNu) (A45 : T_k_nameStarts) (A46 : T_k_readName) (A81 : T_k_byteAt) (a0 : Bt) (a1 : Int) (k : W → Prop) : fnT sy Tryz.prog GT (zau A48 A45 A46 A81) noL Tryz.f119.ntmps (za Tryz.f119) [none, none] Tryz.f119.results.toList [.s a0, .i .i64 a1] k = Jat A48 A45 A46 A81 a0 a1 (fun r0 r1 => k (.t [.a [.i .u8 r0.kind, .s r0.text, .i .i64 r0.num, .s r0.unit, .b r0.flag], .i .i64 r1])) := by kernel_rfl
theorem jct (A48 : T_k_rNu) (A45 : T_k_nameStarts) (A46 : T_k_readName) (A81 : T_k_byteAt) (h48 : FO ro 48 (jaI A48)) (h45 : FO ro 45 (Zm A45)) (h46 : FO ro 46 (Jl A46)) (h81 : FO ro 81 (zb A81)) : FO ro 119 (zu (Jat A48 A45 A46 A81)) := (Zq (rc := [none, none]) (f := 119) (fn := Tryz.f119) (c := za Tryz.f119) (nt := Tryz.f119.ntmps) (res := Tryz.f119.results.toList) (C := zau A48 A45 A46 A81) (L := noL) (fun _ _ => rfl) Tryz.func119 (by kernel_rfl) rfl rfl (jb2 A48 A45 A46 A81 h48 h45 h46 h81) (Jf (l := []) (by kernel_rfl) Jc)).weak (by
 intro us k h
 unfold zu at h
 split at h
 ·skip
  rename_i a0 a1
  rw [Zb2 A48 A45 A46 A81 a0 a1 k]
  exact h
 ·exact h.elim)
abbrev T_behindCommentsA := Bt → Int → (Int → Prop) → Prop
def Jh (A : T_behindCommentsA) (us : List W) (k : W → Prop) : Prop := match us with
 | [.s a0, .i .i64 a1] => A a0 a1 (fun r0 => k (.i .i64 r0))
 | _ => False
theorem zaQ {A A2 : T_behindCommentsA} (h : FO ro 79 (Jh A)) (hA : ∀ a0 a1 K, A2 a0 a1 K → A a0 a1 K) : FO ro 79 (Jh A2) := h.weak (by
 intro us k h
 unfold Jh at h ⊢
 split at h
 ·exact hA _ _ _ h
 ·exact h.elim)
def jD (A115 : T_gs_HPx) (A116 : T_gs_Index) : Nat → Bt → Int → (Int → Prop) → (Int → Prop) → Prop
 | 0, _, _, _, _ => False
 | n + 1, x0, x1, Ke, Kr => ((0 ≤ x1 ∧ x1 ≤ (x0.length : Int)) ∧ (A115 (x0.drop x1.toNat) ([47, 42] : Bt) (fun y1 => ((y1 = true → (I64 (x1 + 2) ∧ ((0 ≤ (x1 + 2) ∧ (x1 + 2) ≤ (x0.length : Int)) ∧ (A116 (x0.drop (x1 + 2).toNat) ([42, 47] : Bt) (fun y2 => (((decide (y2 < 0)) = true → Kr (x0.length : Int)) ∧ ((decide (y2 < 0)) = false → (I64 (y2 + 2) ∧ (I64 ((x1 + 2) + (y2 + 2)) ∧ jD A115 A116 n x0 ((x1 + 2) + (y2 + 2)) Ke Kr))))))))) ∧ (y1 = false → Ke x1)))))
def Z9 (A115 : T_gs_HPx) (A116 : T_gs_Index) (a0 : Bt) (a1 : Int) (K : Int → Prop) : Prop :=
 (∃ m, jD A115 A116 m a0 a1 (fun y1 => K y1) (fun y2 => K y2))
def ZR (A115 : T_gs_HPx) (A116 : T_gs_Index) : jg sg := tab [(115, con [none, none] (ZB A115)), (116, con [none, none] (ZF A116))]
theorem Jak (A115 : T_gs_HPx) (A116 : T_gs_Index) (h115 : FO ro 115 (ZB A115)) (h116 : FO ro 116 (ZF A116)) (o0 : Nat → Prop) : zh sy Tryz.prog GT (ovD ro) o0 ro (ZR A115 A116) := (ja (Zb h115) (ja (Zb h116) jc)) o0
def ls_behindCommentsA_1 : LS sy ((Bt) × Int × Unit) Unit := ⟨[], Jb 0 (zw sy) (Jb 1 (Ji sy .i64) (jz sy)), Zz sy, 0, []⟩
def le_behindCommentsA_1 : LS sy (Int × Unit) Unit := ⟨[], Jb 1 (Ji sy .i64) (jz sy), Zz sy, 0, []⟩
def lr_behindCommentsA_1 : LS sy (Int × Unit) Unit := ⟨[], Jb 4 (Ji sy .i64) (jz sy), Zz sy, 0, []⟩
def ZD (A115 : T_gs_HPx) (A116 : T_gs_Index) (n : Nat) (x : ((Bt) × Int × Unit) × Unit) (K : Ex → Z sg → Prop) : Prop := jD A115 A116 n x.1.1 x.1.2.1 (fun y0 => K (.exit 0) (le_behindCommentsA_1.put ((y0, ()), ()))) (fun y0 => K .ret (lr_behindCommentsA_1.put ((y0, ()), ())))
def Zbn (A115 : T_gs_HPx) (A116 : T_gs_Index) (z : Z sg) (K : Ex → Z sg → Prop) : Prop := ls_behindCommentsA_1.get z (fun x => ∃ n, ZD A115 A116 n x K)
def Jx (A115 : T_gs_HPx) (A116 : T_gs_Index) : zK sg := Zb8 [(1, Zbn A115 A116)]
theorem jbc (A115 : T_gs_HPx) (A116 : T_gs_Index) (n : Nat) (x : ((Bt) × Int × Unit) × Unit) (K : Ex → Z sg → Prop) : Jp (ls_behindCommentsA_1.put x) (fun z => sC sy Tryz.prog GT (ZR A115 A116) (Jx A115 A116) Tryz.f79.ntmps (Ja (za Tryz.f79) 0) z (rnd ls_behindCommentsA_1 (czT 0 le_behindCommentsA_1 lr_behindCommentsA_1) (fun x => ZD A115 A116 n x K) K)) = ZD A115 A116 (n + 1) x K := by kernel_rfl
theorem Zbc (A115 : T_gs_HPx) (A116 : T_gs_Index) (z : Z sg) (K : Ex → Z sg → Prop) : (Jx A115 A116) (Ja (za Tryz.f79) 0) z K = ls_behindCommentsA_1.get z (fun x => ∃ n, ZD A115 A116 n x K) := by kernel_rfl
theorem Jbc (A115 : T_gs_HPx) (A116 : T_gs_Index) (h115 : FO ro 115 (ZB A115)) (h116 : FO ro 116 (ZF A116)) : ∀ (o0 : Nat → Prop) (B : Bs sg), B.E.length ≤ 0 → ∀ z K, (Jx A115 A116) (Ja (za Tryz.f79) 0) z K → Sx.Sem sy Tryz.prog GT (ovD ro) o0 ro Tryz.f79.ntmps B (.loop (Ja (za Tryz.f79) 0)) z K :=
 Jy (Jak A115 A116 h115 h116) (Jf (l := []) (by kernel_rfl) Jc) ls_behindCommentsA_1 (by decide) (czT 0 le_behindCommentsA_1 lr_behindCommentsA_1) (fun _ _ hB => ZO 0 le_behindCommentsA_1 lr_behindCommentsA_1 (Nat.le_trans hB (by decide)) (Nat.le_trans hB (by decide))) (fun _ _ h => h) (jbc A115 A116) (Zbc A115 A116)
theorem ZbB (A115 : T_gs_HPx) (A116 : T_gs_Index) (h115 : FO ro 115 (ZB A115)) (h116 : FO ro 116 (ZF A116)) : jbH sy Tryz.prog GT (ovD ro) ro (Jx A115 A116) 0 Tryz.f79.ntmps (za Tryz.f79) := Jf (l := [(Ja (za Tryz.f79) 0)]) (by kernel_rfl) (Zy (Jbc A115 A116 h115 h116) Jc)
theorem Jbn (A115 : T_gs_HPx) (A116 : T_gs_Index) (a0 : Bt) (a1 : Int) (k : W → Prop) : fnT sy Tryz.prog GT (ZR A115 A116) (Jx A115 A116) Tryz.f79.ntmps (za Tryz.f79) [none] Tryz.f79.results.toList [.s a0, .i .i64 a1] k = Z9 A115 A116 a0 a1 (fun r0 => k (.i .i64 r0)) := by kernel_rfl
theorem JbB (A115 : T_gs_HPx) (A116 : T_gs_Index) (h115 : FO ro 115 (ZB A115)) (h116 : FO ro 116 (ZF A116)) : FO ro 79 (Jh (Z9 A115 A116)) := (Zq (rc := [none]) (f := 79) (fn := Tryz.f79) (c := za Tryz.f79) (nt := Tryz.f79.ntmps) (res := Tryz.f79.results.toList) (C := ZR A115 A116) (L := (Jx A115 A116)) (fun _ _ => rfl) Tryz.func79 (by kernel_rfl) rfl rfl (Jak A115 A116 h115 h116) (ZbB A115 A116 h115 h116)).weak (by
 intro us k h
 unfold Jh at h
 split at h
 ·skip
  rename_i a0 a1
  rw [Jbn A115 A116 a0 a1 k]
  exact h
 ·exact h.elim)
abbrev T_readTokenA := Bt → Int → (Tok → Int → Prop) → Prop
def Zs (A : T_readTokenA) (us : List W) (k : W → Prop) : Prop := match us with
 | [.s a0, .i .i64 a1] => A a0 a1 (fun r0 r1 => k (.t [.a [.i .u8 r0.kind, .s r0.text, .i .i64 r0.num, .s r0.unit, .b r0.flag], .i .i64 r1]))
 | _ => False
theorem zbN {A A2 : T_readTokenA} (h : FO ro 80 (Zs A)) (hA : ∀ a0 a1 K, A2 a0 a1 K → A a0 a1 K) : FO ro 80 (Zs A2) := h.weak (by
 intro us k h
 unfold Zs at h ⊢
 split at h
 ·exact hA _ _ _ h
 ·exact h.elim)
def za0 (A97 : T_c_IsSpace) (A117 : T_k_bSp) (A98 : T_c_IsQuote) (A118 : T_k_rSt) (A84 : T_k_nGO) (A45 : T_k_nameStarts) (A46 : T_k_readName) (A47 : T_k_nSt) (A119 : T_readNumericA) (A115 : T_gs_HPx) (A120 : T_k_readNamed) (A121 : T_k_isMark) (a0 : Bt) (a1 : Int) (K : Tok → Int → Prop) : Prop :=
 ((0 ≤ a1 ∧ a1 < (a0.length : Int)) ∧ (A97 ((a0.getD a1.toNat 0).toNat : Int) (fun y1 => ((y1 = true → (A117 a0 a1 (fun y2 => K (Tok.mk (13 : Int) ([] : Bt) (0 : Int) ([] : Bt) false) y2))) ∧ (y1 = false → ((0 ≤ a1 ∧ a1 < (a0.length : Int)) ∧ (A98 ((a0.getD a1.toNat 0).toNat : Int) (fun y3 => ((y3 = true → (A118 a0 a1 (fun y4 y5 => K (Tok.mk y4.kind y4.text y4.num y4.unit y4.flag) y5))) ∧ (y3 = false → ((0 ≤ a1 ∧ a1 < (a0.length : Int)) ∧ (((decide (((a0.getD a1.toNat 0).toNat : Int) = (35 : Int))) = true → (I64 (a1 + 1) ∧ (A84 a0 (a1 + 1) (fun y6 => ((y6 = true → (I64 (a1 + 1) ∧ (A45 a0 (a1 + 1) (fun y7 => (I64 (a1 + 1) ∧ (A46 a0 (a1 + 1) (fun y8 y9 => K (Tok.mk (4 : Int) y8 (0 : Int) ([] : Bt) y7) y9))))))) ∧ (y6 = false → (A47 a0 a1 (fun y10 => ((y10 = true → (A119 a0 a1 (fun y11 y12 => K (Tok.mk y11.kind y11.text y11.num y11.unit y11.flag) y12))) ∧ (y10 = false → ((0 ≤ a1 ∧ a1 ≤ (a0.length : Int)) ∧ (A115 (a0.drop a1.toNat) ([45, 45, 62] : Bt) (fun y13 => ((y13 = true → (I64 (a1 + 3) ∧ K (Tok.mk (15 : Int) ([] : Bt) (0 : Int) ([] : Bt) false) (a1 + 3))) ∧ (y13 = false → ((0 ≤ a1 ∧ a1 ≤ (a0.length : Int)) ∧ (A115 (a0.drop a1.toNat) ([60, 33, 45, 45] : Bt) (fun y14 => ((y14 = true → (I64 (a1 + 4) ∧ K (Tok.mk (14 : Int) ([] : Bt) (0 : Int) ([] : Bt) false) (a1 + 4))) ∧ (y14 = false → ((0 ≤ a1 ∧ a1 < (a0.length : Int)) ∧ (((decide (((a0.getD a1.toNat 0).toNat : Int) = (64 : Int))) = true → (I64 (a1 + 1) ∧ (A45 a0 (a1 + 1) (fun y15 => ((y15 = true → (I64 (a1 + 1) ∧ (A46 a0 (a1 + 1) (fun y16 y17 => K (Tok.mk (3 : Int) y16 (0 : Int) ([] : Bt) false) y17)))) ∧ (y15 = false → (A45 a0 a1 (fun y18 => ((y18 = true → (A120 a0 a1 (fun y19 y20 => K (Tok.mk y19.kind y19.text y19.num y19.unit y19.flag) y20))) ∧ (y18 = false → ((0 ≤ a1 ∧ a1 < (a0.length : Int)) ∧ (A121 ((a0.getD a1.toNat 0).toNat : Int) (fun y21 => ((y21 = true → ((0 ≤ a1 ∧ a1 < (a0.length : Int)) ∧ ((0 ≤ ((a0.getD a1.toNat 0).toNat : Int) ∧ ((a0.getD a1.toNat 0).toNat : Int) < (126 : Int)) ∧ (0 + ((a0.getD a1.toNat 0).toNat : Int).toNat * 1 < marksL.length ∧ (I64 (a1 + 1) ∧ K (Tok.mk (marksL.getD (0 + ((a0.getD a1.toNat 0).toNat : Int).toNat * 1) 0) ([] : Bt) (0 : Int) ([] : Bt) false) (a1 + 1)))))) ∧ (y21 = false → (I64 (a1 + 1) ∧ ((0 ≤ a1 ∧ a1 ≤ (a1 + 1) ∧ (a1 + 1) ≤ (a0.length : Int)) ∧ (I64 (a1 + 1) ∧ K (Tok.mk (9 : Int) ((a0.drop a1.toNat).take ((a1 + 1).toNat - a1.toNat)) (0 : Int) ([] : Bt) false) (a1 + 1))))))))))))))))))) ∧ ((decide (((a0.getD a1.toNat 0).toNat : Int) = (64 : Int))) = false → (A45 a0 a1 (fun y22 => ((y22 = true → (A120 a0 a1 (fun y23 y24 => K (Tok.mk y23.kind y23.text y23.num y23.unit y23.flag) y24))) ∧ (y22 = false → ((0 ≤ a1 ∧ a1 < (a0.length : Int)) ∧ (A121 ((a0.getD a1.toNat 0).toNat : Int) (fun y25 => ((y25 = true → ((0 ≤ a1 ∧ a1 < (a0.length : Int)) ∧ ((0 ≤ ((a0.getD a1.toNat 0).toNat : Int) ∧ ((a0.getD a1.toNat 0).toNat : Int) < (126 : Int)) ∧ (0 + ((a0.getD a1.toNat 0).toNat : Int).toNat * 1 < marksL.length ∧ (I64 (a1 + 1) ∧ K (Tok.mk (marksL.getD (0 + ((a0.getD a1.toNat 0).toNat : Int).toNat * 1) 0) ([] : Bt) (0 : Int) ([] : Bt) false) (a1 + 1)))))) ∧ (y25 = false → (I64 (a1 + 1) ∧ ((0 ≤ a1 ∧ a1 ≤ (a1 + 1) ∧ (a1 + 1) ≤ (a0.length : Int)) ∧ (I64 (a1 + 1) ∧ K (Tok.mk (9 : Int) ((a0.drop a1.toNat).take ((a1 + 1).toNat - a1.toNat)) (0 : Int) ([] : Bt) false) (a1 + 1)))))))))))))))))))))))))))))))))))) ∧ ((decide (((a0.getD a1.toNat 0).toNat : Int) = (35 : Int))) = false → (A47 a0 a1 (fun y26 => ((y26 = true → (A119 a0 a1 (fun y27 y28 => K (Tok.mk y27.kind y27.text y27.num y27.unit y27.flag) y28))) ∧ (y26 = false → ((0 ≤ a1 ∧ a1 ≤ (a0.length : Int)) ∧ (A115 (a0.drop a1.toNat) ([45, 45, 62] : Bt) (fun y29 => ((y29 = true → (I64 (a1 + 3) ∧ K (Tok.mk (15 : Int) ([] : Bt) (0 : Int) ([] : Bt) false) (a1 + 3))) ∧ (y29 = false → ((0 ≤ a1 ∧ a1 ≤ (a0.length : Int)) ∧ (A115 (a0.drop a1.toNat) ([60, 33, 45, 45] : Bt) (fun y30 => ((y30 = true → (I64 (a1 + 4) ∧ K (Tok.mk (14 : Int) ([] : Bt) (0 : Int) ([] : Bt) false) (a1 + 4))) ∧ (y30 = false → ((0 ≤ a1 ∧ a1 < (a0.length : Int)) ∧ (((decide (((a0.getD a1.toNat 0).toNat : Int) = (64 : Int))) = true → (I64 (a1 + 1) ∧ (A45 a0 (a1 + 1) (fun y31 => ((y31 = true → (I64 (a1 + 1) ∧ (A46 a0 (a1 + 1) (fun y32 y33 => K (Tok.mk (3 : Int) y32 (0 : Int) ([] : Bt) false) y33)))) ∧ (y31 = false → (A45 a0 a1 (fun y34 => ((y34 = true → (A120 a0 a1 (fun y35 y36 => K (Tok.mk y35.kind y35.text y35.num y35.unit y35.flag) y36))) ∧ (y34 = false → ((0 ≤ a1 ∧ a1 < (a0.length : Int)) ∧ (A121 ((a0.getD a1.toNat 0).toNat : Int) (fun y37 => ((y37 = true → ((0 ≤ a1 ∧ a1 < (a0.length : Int)) ∧ ((0 ≤ ((a0.getD a1.toNat 0).toNat : Int) ∧ ((a0.getD a1.toNat 0).toNat : Int) < (126 : Int)) ∧ (0 + ((a0.getD a1.toNat 0).toNat : Int).toNat * 1 < marksL.length ∧ (I64 (a1 + 1) ∧ K (Tok.mk (marksL.getD (0 + ((a0.getD a1.toNat 0).toNat : Int).toNat * 1) 0) ([] : Bt) (0 : Int) ([] : Bt) false) (a1 + 1)))))) ∧ (y37 = false → (I64 (a1 + 1) ∧ ((0 ≤ a1 ∧ a1 ≤ (a1 + 1) ∧ (a1 + 1) ≤ (a0.length : Int)) ∧ (I64 (a1 + 1) ∧ K (Tok.mk (9 : Int) ((a0.drop a1.toNat).take ((a1 + 1).toNat - a1.toNat)) (0 : Int) ([] : Bt) false) (a1 + 1))))))))))))))))))) ∧ ((decide (((a0.getD a1.toNat 0).toNat : Int) = (64 : Int))) = false → (A45 a0 a1 (fun y38 => ((y38 = true → (A120 a0 a1 (fun y39 y40 => K (Tok.mk y39.kind y39.text y39.num y39.unit y39.flag) y40))) ∧ (y38 = false → ((0 ≤ a1 ∧ a1 < (a0.length : Int)) ∧ (A121 ((a0.getD a1.toNat 0).toNat : Int) (fun y41 => ((y41 = true → ((0 ≤ a1 ∧ a1 < (a0.length : Int)) ∧ ((0 ≤ ((a0.getD a1.toNat 0).toNat : Int) ∧ ((a0.getD a1.toNat 0).toNat : Int) < (126 : Int)) ∧ (0 + ((a0.getD a1.toNat 0).toNat : Int).toNat * 1 < marksL.length ∧ (I64 (a1 + 1) ∧ K (Tok.mk (marksL.getD (0 + ((a0.getD a1.toNat 0).toNat : Int).toNat * 1) 0) ([] : Bt) (0 : Int) ([] : Bt) false) (a1 + 1)))))) ∧ (y41 = false → (I64 (a1 + 1) ∧ ((0 ≤ a1 ∧ a1 ≤ (a1 + 1) ∧ (a1 + 1) ≤ (a0.length : Int)) ∧ (I64 (a1 + 1) ∧ K (Tok.mk (9 : Int) ((a0.drop a1.toNat).take ((a1 + 1).toNat - a1.toNat)) (0 : Int) ([] : Bt) false) (a1 + 1)))))))))))))))))))))))))))))))))))))))))))
def ja0 (A97 : T_c_IsSpace) (A117 : T_k_bSp) (A98 : T_c_IsQuote) (A118 : T_k_rSt) (A84 : T_k_nGO) (A45 : T_k_nameStarts) (A46 : T_k_readName) (A47 : T_k_nSt) (A119 : T_readNumericA) (A115 : T_gs_HPx) (A120 : T_k_readNamed) (A121 : T_k_isMark) : jg sg := tab [(97, con [none] (zc A97)), (117, con [none, none] (zP A117)), (98, con [none] (jp A98)), (118, con [none, none] (ZaJ A118)), (84, con [none, none] (Z0 A84)), (45, con [none, none] (Zm A45)), (46, con [none, none] (Jl A46)), (47, con [none, none] (jaG A47)), (119, con [none, none] (zu A119)), (115, con [none, none] (ZB A115)), (120, con [none, none] (Zw A120)), (121, con [none] (jR A121))]
theorem ZcI (A97 : T_c_IsSpace) (A117 : T_k_bSp) (A98 : T_c_IsQuote) (A118 : T_k_rSt) (A84 : T_k_nGO) (A45 : T_k_nameStarts) (A46 : T_k_readName) (A47 : T_k_nSt) (A119 : T_readNumericA) (A115 : T_gs_HPx) (A120 : T_k_readNamed) (A121 : T_k_isMark) (h97 : FO ro 97 (zc A97)) (h117 : FO ro 117 (zP A117)) (h98 : FO ro 98 (jp A98)) (h118 : FO ro 118 (ZaJ A118)) (h84 : FO ro 84 (Z0 A84)) (h45 : FO ro 45 (Zm A45)) (h46 : FO ro 46 (Jl A46)) (h47 : FO ro 47 (jaG A47)) (h119 : FO ro 119 (zu A119)) (h115 : FO ro 115 (ZB A115)) (h120 : FO ro 120 (Zw A120)) (h121 : FO ro 121 (jR A121)) (o0 : Nat → Prop) : zh sy Tryz.prog GT (ovD ro) o0 ro (ja0 A97 A117 A98 A118 A84 A45 A46 A47 A119 A115 A120 A121) := (ja (Zb h97) (ja (Zb h117) (ja (Zb h98) (ja (Zb h118) (ja (Zb h84) (ja (Zb h45) (ja (Zb h46) (ja (Zb h47) (ja (Zb h119) (ja (Zb h115) (ja (Zb h120) (ja (Zb h121) jc)))))))))))) o0
theorem JcI (A97 : T_c_IsSpace) (A117 : T_k_bSp) (A98 : T_c_IsQuote) (A118 : T_k_rSt) (A84 : T_k_nGO) (A45 : T_k_nameStarts) (A46 : T_k_readName) (A47 : T_k_nSt) (A119 : T_readNumericA) (A115 : T_gs_HPx) (A120 : T_k_readNamed) (A121 : T_k_isMark) (a0 : Bt) (a1 : Int) (k : W → Prop) : fnT sy Tryz.prog GT (ja0 A97 A117 A98 A118 A84 A45 A46 A47 A119 A115 A120 A121) noL Tryz.f80.ntmps (za Tryz.f80) [none, none] Tryz.f80.results.toList [.s a0, .i .i64 a1] k = za0 A97 A117 A98 A118 A84 A45 A46 A47 A119 A115 A120 A121 a0 a1 (fun r0 r1 => k (.t [.a [.i .u8 r0.kind, .s r0.text, .i .i64 r0.num, .s r0.unit, .b r0.flag], .i .i64 r1])) := by kernel_rfl
theorem jda (A97 : T_c_IsSpace) (A117 : T_k_bSp) (A98 : T_c_IsQuote) (A118 : T_k_rSt) (A84 : T_k_nGO) (A45 : T_k_nameStarts) (A46 : T_k_readName) (A47 : T_k_nSt) (A119 : T_readNumericA) (A115 : T_gs_HPx) (A120 : T_k_readNamed) (A121 : T_k_isMark) (h97 : FO ro 97 (zc A97)) (h117 : FO ro 117 (zP A117)) (h98 : FO ro 98 (jp A98)) (h118 : FO ro 118 (ZaJ A118)) (h84 : FO ro 84 (Z0 A84)) (h45 : FO ro 45 (Zm A45)) (h46 : FO ro 46 (Jl A46)) (h47 : FO ro 47 (jaG A47)) (h119 : FO ro 119 (zu A119)) (h115 : FO ro 115 (ZB A115)) (h120 : FO ro 120 (Zw A120)) (h121 : FO ro 121 (jR A121)) : FO ro 80 (Zs (za0 A97 A117 A98 A118 A84 A45 A46 A47 A119 A115 A120 A121)) := (Zq (rc := [none, none]) (f := 80) (fn := Tryz.f80) (c := za Tryz.f80) (nt := Tryz.f80.ntmps) (res := Tryz.f80.results.toList) (C := ja0 A97 A117 A98 A118 A84 A45 A46 A47 A119 A115 A120 A121) (L := noL) (fun _ _ => rfl) Tryz.func80 (by kernel_rfl) rfl rfl (ZcI A97 A117 A98 A118 A84 A45 A46 A47 A119 A115 A120 A121 h97 h117 h98 h118 h84 h45 h46 h47 h119 h115 h120 h121) (Jf (l := []) (by kernel_rfl) Jc)).weak (by
 intro us k h
 unfold Zs at h
 split at h
 ·skip
  rename_i a0 a1
  rw [JcI A97 A117 A98 A118 A84 A45 A46 A47 A119 A115 A120 A121 a0 a1 k]
  exact h
 ·exact h.elim)
def zaL : jg sg := tab []
theorem Za0 (o0 : Nat → Prop) : zh sy Tryz.prog GT (ovD ro) o0 ro (zaL) := jc o0
def JH (A78 : T_i_Clean) (A79 : T_behindCommentsA) (A80 : T_readTokenA) : Nat → Bt → Int → Int → List Tok → (List Tok → Prop) → (Int → List Tok → Prop) → Prop
 | 0, _, _, _, _, _, _ => False
 | n + 1, x5, x7, x8, b1, Ke, Kr => (((decide (x8 < (x5.length : Int))) = true → (((decide (x7 = 1500)) = true → Kr (4 : Int) b1) ∧ ((decide (x7 = 1500)) = false → (A80 x5 x8 (fun y1 y2 => ((b1.length + [(Tok.mk y1.kind y1.text y1.num y1.unit y1.flag)].length) * 56 ≤ 1099511627776 ∧ (I64 (x7 + 1) ∧ (A79 x5 y2 (fun y3 => JH A78 A79 A80 n x5 (x7 + 1) y3 (b1 ++ [(Tok.mk y1.kind y1.text y1.num y1.unit y1.flag)]) Ke Kr))))))))) ∧ ((decide (x8 < (x5.length : Int))) = false → Ke b1))
def zae (A78 : T_i_Clean) (A79 : T_behindCommentsA) (A80 : T_readTokenA) : jg sg := tab [(78, con [none] (ZK A78)), (79, con [none, none] (Jh A79)), (80, con [none, none] (Zs A80)), (44, inl sy Tryz.prog GT (zaL) noL 1000 Tryz.f44.ntmps (za Tryz.f44) Tryz.f44.results.toList)]
theorem Jaq (A78 : T_i_Clean) (A79 : T_behindCommentsA) (A80 : T_readTokenA) (h78 : FO ro 78 (ZK A78)) (h79 : FO ro 79 (Jh A79)) (h80 : FO ro 80 (Zs A80)) (o0 : Nat → Prop) : zh sy Tryz.prog GT (ovD ro) o0 ro (zae A78 A79 A80) := (ja (Zb h78) (ja (Zb h79) (ja (Zb h80) (ja (Jbf (f := 44) (fn := Tryz.f44) (fun _ _ => rfl) Tryz.func44 (by kernel_rfl) rfl rfl (Za0) (Jf (l := []) (by kernel_rfl) Jc)) jc)))) o0
def ls_k_eachToken_tA_6 : LS sy ((Unit × Unit) × (Bt) × Int × Int × Unit) ((Unit × Unit) × List (sg.Den Cd.tok) × Unit) := ⟨[.cell 0 0 1 Cd.tok], Jb 1 (vFn 44 (Za (JL sy (.p 0 0)) (ZS sy))) (Jb 5 (zw sy) (Jb 7 (Ji sy .i64) (Jb 8 (Ji sy .i64) (jz sy)))), Zg 0 (Za (JL sy (.o 1)) (ZS sy)) (ZV 1 Cd.tok (Zz sy)), 2, [1]⟩
def le_k_eachToken_tA_6 : LS sy Unit ((Unit × Unit) × List (sg.Den Cd.tok) × Unit) := ⟨[], jz sy, Zg 0 (Za (JL sy (.o 1)) (ZS sy)) (ZV 1 Cd.tok (Zz sy)), 2, [1]⟩
def lr_k_eachToken_tA_6 : LS sy (Int × Unit) ((Unit × Unit) × List (sg.Den Cd.tok) × Unit) := ⟨[], Jb 4 (Ji sy .i64) (jz sy), Zg 0 (Za (JL sy (.o 1)) (ZS sy)) (ZV 1 Cd.tok (Zz sy)), 2, [1]⟩
def zI (A78 : T_i_Clean) (A79 : T_behindCommentsA) (A80 : T_readTokenA) (n : Nat) (x : ((Unit × Unit) × (Bt) × Int × Int × Unit) × ((Unit × Unit) × List (sg.Den Cd.tok) × Unit)) (K : Ex → Z sg → Prop) : Prop := JH A78 A79 A80 n x.1.2.1 x.1.2.2.1 x.1.2.2.2.1 x.2.2.1 (fun y0 => K (.exit 0) (le_k_eachToken_tA_6.put ((), (((), ()), y0, ())))) (fun y0 y1 => K .ret (lr_k_eachToken_tA_6.put ((y0, ()), (((), ()), y1, ()))))
def zbC (A78 : T_i_Clean) (A79 : T_behindCommentsA) (A80 : T_readTokenA) (z : Z sg) (K : Ex → Z sg → Prop) : Prop := ls_k_eachToken_tA_6.get z (fun x => ∃ n, zI A78 A79 A80 n x K)
def zL (A78 : T_i_Clean) (A79 : T_behindCommentsA) (A80 : T_readTokenA) : zK sg := Zb8 [(6, zbC A78 A79 A80)]
theorem zbo (A78 : T_i_Clean) (A79 : T_behindCommentsA) (A80 : T_readTokenA) (n : Nat) (x : ((Unit × Unit) × (Bt) × Int × Int × Unit) × ((Unit × Unit) × List (sg.Den Cd.tok) × Unit)) (K : Ex → Z sg → Prop) : Jp (ls_k_eachToken_tA_6.put x) (fun z => sC sy Tryz.prog GT (zae A78 A79 A80) (zL A78 A79 A80) Tryz.f43.ntmps (Ja (za Tryz.f43) 0) z (rnd ls_k_eachToken_tA_6 (czT 0 le_k_eachToken_tA_6 lr_k_eachToken_tA_6) (fun x => zI A78 A79 A80 n x K) K)) = zI A78 A79 A80 (n + 1) x K := by kernel_rfl
theorem jbo (A78 : T_i_Clean) (A79 : T_behindCommentsA) (A80 : T_readTokenA) (z : Z sg) (K : Ex → Z sg → Prop) : (zL A78 A79 A80) (Ja (za Tryz.f43) 0) z K = ls_k_eachToken_tA_6.get z (fun x => ∃ n, zI A78 A79 A80 n x K) := by kernel_rfl
theorem Zbo (A78 : T_i_Clean) (A79 : T_behindCommentsA) (A80 : T_readTokenA) (h78 : FO ro 78 (ZK A78)) (h79 : FO ro 79 (Jh A79)) (h80 : FO ro 80 (Zs A80)) : ∀ (o0 : Nat → Prop) (B : Bs sg), B.E.length ≤ 1 → ∀ z K, (zL A78 A79 A80) (Ja (za Tryz.f43) 0) z K → Sx.Sem sy Tryz.prog GT (ovD ro) o0 ro Tryz.f43.ntmps B (.loop (Ja (za Tryz.f43) 0)) z K :=
 Jy (Jaq A78 A79 A80 h78 h79 h80) (Jf (l := []) (by kernel_rfl) Jc) ls_k_eachToken_tA_6 (by decide) (czT 0 le_k_eachToken_tA_6 lr_k_eachToken_tA_6) (fun _ _ hB => ZO 0 le_k_eachToken_tA_6 lr_k_eachToken_tA_6 (Nat.le_trans hB (by decide)) (Nat.le_trans hB (by decide))) (fun _ _ h => h) (zbo A78 A79 A80) (jbo A78 A79 A80)
theorem jbN (A78 : T_i_Clean) (A79 : T_behindCommentsA) (A80 : T_readTokenA) (h78 : FO ro 78 (ZK A78)) (h79 : FO ro 79 (Jh A79)) (h80 : FO ro 80 (Zs A80)) : jbH sy Tryz.prog GT (ovD ro) ro (zL A78 A79 A80) 1 Tryz.f43.ntmps (za Tryz.f43) := Jf (l := [(Ja (za Tryz.f43) 0)]) (by kernel_rfl) (Zy (Zbo A78 A79 A80 h78 h79 h80) Jc)
abbrev T_TokensA := Bt → (List Tok → Int → Prop) → Prop
def Z2 (A : T_TokensA) (us : List W) (k : W → Prop) : Prop := match us with
 | [.s a0] => A a0 (fun r0 r1 => k (.t [.l Cd.tok r0, .i .i64 r1]))
 | _ => False
theorem zcJ {A A2 : T_TokensA} (h : FO ro 25 (Z2 A)) (hA : ∀ a0 K, A2 a0 K → A a0 K) : FO ro 25 (Z2 A2) := h.weak (by
 intro us k h
 unfold Z2 at h ⊢
 split at h
 ·exact hA _ _ h
 ·exact h.elim)
def Zct (A78 : T_i_Clean) (A79 : T_behindCommentsA) (A80 : T_readTokenA) (a0 : Bt) (K : List Tok → Int → Prop) : Prop :=
 (A78 a0 (fun y1 y2 => (((decide (y2 ≠ 0)) = true → (((decide (y2 ≠ 0)) = true → K ([] : List Tok) y2) ∧ ((decide (y2 ≠ 0)) = false → K ([] : List Tok) (0 : Int)))) ∧ ((decide (y2 ≠ 0)) = false → (A79 y1 (0 : Int) (fun y3 => (∃ m, JH A78 A79 A80 m y1 (0 : Int) y3 ([] : List Tok) (fun y4 => (((decide ((0 : Int) ≠ (0 : Int))) = true → K ([] : List Tok) (0 : Int)) ∧ ((decide ((0 : Int) ≠ (0 : Int))) = false → K y4 (0 : Int)))) (fun y5 y6 => (((decide (y5 ≠ 0)) = true → K ([] : List Tok) y5) ∧ ((decide (y5 ≠ 0)) = false → K y6 (0 : Int)))))))))))
def Jct (A78 : T_i_Clean) (A79 : T_behindCommentsA) (A80 : T_readTokenA) : jg sg := tab [(43, inl sy Tryz.prog GT (zae A78 A79 A80) (zL A78 A79 A80) 1 Tryz.f43.ntmps (za Tryz.f43) Tryz.f43.results.toList), (44, inl sy Tryz.prog GT (zaL) noL 1000 Tryz.f44.ntmps (za Tryz.f44) Tryz.f44.results.toList)]
theorem jdU (A78 : T_i_Clean) (A79 : T_behindCommentsA) (A80 : T_readTokenA) (h78 : FO ro 78 (ZK A78)) (h79 : FO ro 79 (Jh A79)) (h80 : FO ro 80 (Zs A80)) (o0 : Nat → Prop) : zh sy Tryz.prog GT (ovD ro) o0 ro (Jct A78 A79 A80) := (ja (Jbf (f := 43) (fn := Tryz.f43) (fun _ _ => rfl) Tryz.func43 (by kernel_rfl) rfl rfl (Jaq A78 A79 A80 h78 h79 h80) (jbN A78 A79 A80 h78 h79 h80)) (ja (Jbf (f := 44) (fn := Tryz.f44) (fun _ _ => rfl) Tryz.func44 (by kernel_rfl) rfl rfl (Za0) (Jf (l := []) (by kernel_rfl) Jc)) jc)) o0
theorem ZdU (A78 : T_i_Clean) (A79 : T_behindCommentsA) (A80 : T_readTokenA) (a0 : Bt) (k : W → Prop) : fnT sy Tryz.prog GT (Jct A78 A79 A80) noL Tryz.f25.ntmps (za Tryz.f25) [some Cd.tok, none] Tryz.f25.results.toList [.s a0] k = Zct A78 A79 A80 a0 (fun r0 r1 => k (.t [.l Cd.tok r0, .i .i64 r1])) := by kernel_rfl
theorem Jeq (A78 : T_i_Clean) (A79 : T_behindCommentsA) (A80 : T_readTokenA) (h78 : FO ro 78 (ZK A78)) (h79 : FO ro 79 (Jh A79)) (h80 : FO ro 80 (Zs A80)) : FO ro 25 (Z2 (Zct A78 A79 A80)) := (Zq (rc := [some Cd.tok, none]) (f := 25) (fn := Tryz.f25) (c := za Tryz.f25) (nt := Tryz.f25.ntmps) (res := Tryz.f25.results.toList) (C := Jct A78 A79 A80) (L := noL) (fun _ _ => rfl) Tryz.func25 (by kernel_rfl) rfl rfl (jdU A78 A79 A80 h78 h79 h80) (Jf (l := []) (by kernel_rfl) Jc)).weak (by
 intro us k h
 unfold Z2 at h
 split at h
 ·skip
  rename_i a0
  rw [ZdU A78 A79 A80 a0 k]
  exact h
 ·exact h.elim)
end Go.Proofs.YtkokbidbmidlbaaGreatDoor
