/-
 Functions of the tokenizer, followed: tokens of all kinds, all tokens. Nothing is claimed here.
-/
import Derived.Test.YtbpbaicbaehhjaaGreatDoorTg
namespace Go.Proofs.YtbpbaicbaehhjaaGreatDoor
open Go.Vm Go.Sx Go.RowKit
variable {ro : Nat}
abbrev Jan := Bt → Bt → (Int → Prop) → Prop
def jaU (A : Jan) (us : List W) (k : W → Prop) : Prop := match us with
 | [.s a0, .s a1] => A a0 a1 (fun r0 => k (.i .i64 r0))
 | _ => False
abbrev zz := Bt → Bt → (Int → Prop) → Prop
def ZS (A : zz) (us : List W) (k : W → Prop) : Prop := match us with
 | [.s a0, .s a1] => A a0 a1 (fun r0 => k (.i .i64 r0))
 | _ => False
theorem JcR {A A2 : zz} (h : FO ro 48 (ZS A)) (hA : ∀ a0 a1 K, A2 a0 a1 K → A a0 a1 K) : FO ro 48 (ZS A2) := h.weak (by
 intro us k h
 unfold ZS at h ⊢
 split at h
 ·exact hA _ _ _ h
 ·exact h.elim)
def zcc (A67 : Jan) (a0 : Bt) (a1 : Bt) (K : Int → Prop) : Prop :=
 (A67 a0 a1 (fun y1 => K y1))
def jcc (A67 : Jan) : ji sg := tab [(67, con [none, none] (jaU A67))]
theorem Jd6 (A67 : Jan) (h67 : FO ro 67 (jaU A67)) (o0 : Nat → Prop) : Zj sy Tryz.prog GT (ovD ro) o0 ro (jcc A67) := (ja (zc h67) Jc) o0
theorem zd7 (A67 : Jan) (a0 : Bt) (a1 : Bt) (k : W → Prop) : fnT sy Tryz.prog GT (jcc A67) noL Tryz.f48.ntmps (za Tryz.f48) [none] Tryz.f48.results.toList [.s a0, .s a1] k = zcc A67 a0 a1 (fun r0 => k (.i .i64 r0)) := by kernel_rfl
theorem Jey (A67 : Jan) (h67 : FO ro 67 (jaU A67)) : FO ro 48 (ZS (zcc A67)) := (zt (rc := [none]) (f := 48) (fn := Tryz.f48) (c := za Tryz.f48) (nt := Tryz.f48.ntmps) (res := Tryz.f48.results.toList) (C := jcc A67) (L := noL) (fun _ _ => rfl) Tryz.func48 (by kernel_rfl) rfl rfl (Jd6 A67 h67) (zi (l := []) (by kernel_rfl) Zd)).weak (by
 intro us k h
 unfold ZS at h
 split at h
 ·rw [zd7]; exact h
 ·exact h.elim)
abbrev zah := Int → (Bool → Prop) → Prop
def zaa (A : zah) (us : List W) (k : W → Prop) : Prop := match us with
 | [.i .u8 a0] => A a0 (fun r0 => k (.b r0))
 | _ => False
theorem zcS {A A2 : zah} (h : FO ro 59 (zaa A)) (hA : ∀ a0 K, A2 a0 K → A a0 K) : FO ro 59 (zaa A2) := h.weak (by
 intro us k h
 unfold zaa at h ⊢
 split at h
 ·exact hA _ _ h
 ·exact h.elim)
def Zcc (a0 : Int) (K : Bool → Prop) : Prop :=
 (I64 a0 ∧ (((decide (a0 < 126)) = true → ((0 ≤ a0 ∧ a0 < 126) ∧ (0 + a0.toNat * 1 < marksL.length ∧ K (decide ((marksL.getD (0 + a0.toNat * 1) 0) ≠ (0 : Int)))))) ∧ ((decide (a0 < 126)) = false → K false)))
def Jcc : ji sg := tab []
theorem jd7 (o0 : Nat → Prop) : Zj sy Tryz.prog GT (ovD ro) o0 ro (Jcc) := Jc o0
theorem Zd7 (a0 : Int) (k : W → Prop) : fnT sy Tryz.prog GT (Jcc) noL Tryz.f59.ntmps (za Tryz.f59) [none] Tryz.f59.results.toList [.i .u8 a0] k = Zcc a0 (fun r0 => k (.b r0)) := by kernel_rfl
theorem zez : FO ro 59 (zaa (Zcc)) := (zt (rc := [none]) (f := 59) (fn := Tryz.f59) (c := za Tryz.f59) (nt := Tryz.f59.ntmps) (res := Tryz.f59.results.toList) (C := Jcc) (L := noL) (fun _ _ => rfl) Tryz.func59 (by kernel_rfl) rfl rfl (jd7) (zi (l := []) (by kernel_rfl) Zd)).weak (by
 intro us k h
 unfold zaa at h
 split at h
 ·rw [Zd7]; exact h
 ·exact h.elim)
abbrev zG := Bt → Int → (Tok → Int → Prop) → Prop
def JC (A : zG) (us : List W) (k : W → Prop) : Prop := match us with
 | [.s a0, .i .i64 a1] => A a0 a1 (fun r0 r1 => k (.t [.a [.i .u8 r0.kind, .s r0.text, .i .i64 r0.num, .s r0.unit, .b r0.flag], .i .i64 r1]))
 | _ => False
theorem jbG {A A2 : zG} (h : FO ro 57 (JC A)) (hA : ∀ a0 a1 K, A2 a0 a1 K → A a0 a1 K) : FO ro 57 (JC A2) := h.weak (by
 intro us k h
 unfold JC at h ⊢
 split at h
 ·exact hA _ _ _ h
 ·exact h.elim)
def jaL (A75 : jbf) (A54 : zn) (A55 : jk) (A68 : Za) (a0 : Bt) (a1 : Int) (K : Tok → Int → Prop) : Prop :=
 (A75 a0 a1 (fun y1 y2 y3 => (A54 a0 y3 (fun y4 => ((y4 = true → (A55 a0 y3 (fun y5 y6 => K (Tok.mk (12 : Int) ([] : Bt) y1 y5 y2) y6))) ∧ (y4 = false → (A68 a0 y3 (fun y7 => (((decide (y7 = 37)) = true → (I64 (y3 + 1) ∧ K (Tok.mk (11 : Int) ([] : Bt) y1 ([] : Bt) false) (y3 + 1))) ∧ ((decide (y7 = 37)) = false → K (Tok.mk (10 : Int) ([] : Bt) y1 ([] : Bt) y2) y3))))))))))
def ZaL (A75 : jbf) (A54 : zn) (A55 : jk) (A68 : Za) : ji sg := tab [(75, con [none, none] (ja0 A75)), (54, con [none, none] (zq A54)), (55, con [none, none] (jp A55)), (68, con [none, none] (jc A68))]
theorem jcr (A75 : jbf) (A54 : zn) (A55 : jk) (A68 : Za) (h75 : FO ro 75 (ja0 A75)) (h54 : FO ro 54 (zq A54)) (h55 : FO ro 55 (jp A55)) (h68 : FO ro 68 (jc A68)) (o0 : Nat → Prop) : Zj sy Tryz.prog GT (ovD ro) o0 ro (ZaL A75 A54 A55 A68) := (ja (zc h75) (ja (zc h54) (ja (zc h55) (ja (zc h68) Jc)))) o0
theorem Zcr (A75 : jbf) (A54 : zn) (A55 : jk) (A68 : Za) (a0 : Bt) (a1 : Int) (k : W → Prop) : fnT sy Tryz.prog GT (ZaL A75 A54 A55 A68) noL Tryz.f57.ntmps (za Tryz.f57) [none, none] Tryz.f57.results.toList [.s a0, .i .i64 a1] k = jaL A75 A54 A55 A68 a0 a1 (fun r0 r1 => k (.t [.a [.i .u8 r0.kind, .s r0.text, .i .i64 r0.num, .s r0.unit, .b r0.flag], .i .i64 r1])) := by kernel_rfl
theorem jcS (A75 : jbf) (A54 : zn) (A55 : jk) (A68 : Za) (h75 : FO ro 75 (ja0 A75)) (h54 : FO ro 54 (zq A54)) (h55 : FO ro 55 (jp A55)) (h68 : FO ro 68 (jc A68)) : FO ro 57 (JC (jaL A75 A54 A55 A68)) := (zt (rc := [none, none]) (f := 57) (fn := Tryz.f57) (c := za Tryz.f57) (nt := Tryz.f57.ntmps) (res := Tryz.f57.results.toList) (C := ZaL A75 A54 A55 A68) (L := noL) (fun _ _ => rfl) Tryz.func57 (by kernel_rfl) rfl rfl (jcr A75 A54 A55 A68 h75 h54 h55 h68) (zi (l := []) (by kernel_rfl) Zd)).weak (by
 intro us k h
 unfold JC at h
 split at h
 ·rw [Zcr]; exact h
 ·exact h.elim)
abbrev Je := Bt → Int → (Int → Prop) → Prop
def zj (A : Je) (us : List W) (k : W → Prop) : Prop := match us with
 | [.s a0, .i .i64 a1] => A a0 a1 (fun r0 => k (.i .i64 r0))
 | _ => False
theorem Ja8 {A A2 : Je} (h : FO ro 33 (zj A)) (hA : ∀ a0 a1 K, A2 a0 a1 K → A a0 a1 K) : FO ro 33 (zj A2) := h.weak (by
 intro us k h
 unfold zj at h ⊢
 split at h
 ·exact hA _ _ _ h
 ·exact h.elim)
def ZP (A47 : ZC) (A48 : zz) : Nat → Bt → Int → (Int → Prop) → (Int → Prop) → Prop
 | 0, _, _, _, _ => False
 | n + 1, x0, x1, Ke, Kr => ((0 ≤ x1 ∧ x1 ≤ (x0.length : Int)) ∧ (A47 (x0.drop x1.toNat) ([47, 42] : Bt) (fun y1 => ((y1 = true → (I64 (x1 + 2) ∧ ((0 ≤ (x1 + 2) ∧ (x1 + 2) ≤ (x0.length : Int)) ∧ (A48 (x0.drop (x1 + 2).toNat) ([42, 47] : Bt) (fun y2 => (((decide (y2 < 0)) = true → Kr (x0.length : Int)) ∧ ((decide (y2 < 0)) = false → (I64 (y2 + 2) ∧ (I64 ((x1 + 2) + (y2 + 2)) ∧ ZP A47 A48 n x0 ((x1 + 2) + (y2 + 2)) Ke Kr))))))))) ∧ (y1 = false → Ke x1)))))
def zao (A47 : ZC) (A48 : zz) (a0 : Bt) (a1 : Int) (K : Int → Prop) : Prop :=
 (∃ m, ZP A47 A48 m a0 a1 (fun y1 => K y1) (fun y2 => K y2))
def jaa (A47 : ZC) (A48 : zz) : ji sg := tab [(47, con [none, none] (Z2 A47)), (48, con [none, none] (ZS A48))]
theorem ZaC (A47 : ZC) (A48 : zz) (h47 : FO ro 47 (Z2 A47)) (h48 : FO ro 48 (ZS A48)) (o0 : Nat → Prop) : Zj sy Tryz.prog GT (ovD ro) o0 ro (jaa A47 A48) := (ja (zc h47) (ja (zc h48) Jc)) o0
abbrev zac : Type := ((Bt) × Int × Unit)
abbrev Yb_behindCommentsA_1 : Type := Unit
def ls_behindCommentsA_1 : LS sy zac Yb_behindCommentsA_1 := ⟨[], Zf 0 (jax sy) (Zf 1 (jP sy .i64) (jab sy)), Zab sy, 0, []⟩
def le_behindCommentsA_1 : LS sy (Int × Unit) Unit := ⟨[], Zf 1 (jP sy .i64) (jab sy), Zab sy, 0, []⟩
def lr_behindCommentsA_1 : LS sy (Int × Unit) Unit := ⟨[], Zf 4 (jP sy .i64) (jab sy), Zab sy, 0, []⟩
def JP (A47 : ZC) (A48 : zz) (n : Nat) (x : zac × Yb_behindCommentsA_1) (K : Ex → Z sg → Prop) : Prop := ZP A47 A48 n x.1.1 x.1.2.1 (fun y0 => K (.exit 0) (le_behindCommentsA_1.put ((y0, ()), ()))) (fun y0 => K .ret (lr_behindCommentsA_1.put ((y0, ()), ())))
def ZbG (A47 : ZC) (A48 : zz) (z : Z sg) (K : Ex → Z sg → Prop) : Prop := ls_behindCommentsA_1.get z (fun x => ∃ n, JP A47 A48 n x K)
def zH (A47 : ZC) (A48 : zz) : Z5 sg := Zc4 [(1, ZbG A47 A48)]
theorem Zbx (A47 : ZC) (A48 : zz) (n : Nat) (x : zac × Yb_behindCommentsA_1) (K : Ex → Z sg → Prop) : zJ (ls_behindCommentsA_1.put x) (fun z => sC sy Tryz.prog GT (jaa A47 A48) (zH A47 A48) Tryz.f33.ntmps (Zb (za Tryz.f33) 0) z (rnd ls_behindCommentsA_1 (czT 0 le_behindCommentsA_1 lr_behindCommentsA_1) (fun x => JP A47 A48 n x K) K)) = JP A47 A48 (n + 1) x K := by kernel_rfl
theorem Jbx (A47 : ZC) (A48 : zz) (z : Z sg) (K : Ex → Z sg → Prop) : (zH A47 A48) (Zb (za Tryz.f33) 0) z K = ls_behindCommentsA_1.get z (fun x => ∃ n, JP A47 A48 n x K) := by kernel_rfl
theorem zby (A47 : ZC) (A48 : zz) (h47 : FO ro 47 (Z2 A47)) (h48 : FO ro 48 (ZS A48)) : ∀ (o0 : Nat → Prop) (B : Bs sg), B.E.length ≤ 0 → ∀ z K, (zH A47 A48) (Zb (za Tryz.f33) 0) z K → Sx.Sem sy Tryz.prog GT (ovD ro) o0 ro Tryz.f33.ntmps B (.loop (Zb (za Tryz.f33) 0)) z K :=
 jS (ZaC A47 A48 h47 h48) (zi (l := []) (by kernel_rfl) Zd) ls_behindCommentsA_1 (by decide) (czT 0 le_behindCommentsA_1 lr_behindCommentsA_1) (fun _ _ hB => Zag 0 le_behindCommentsA_1 lr_behindCommentsA_1 (Nat.le_trans hB (by decide)) (Nat.le_trans hB (by decide))) (fun _ _ h => h) (Zbx A47 A48) (Jbx A47 A48)
theorem JbW (A47 : ZC) (A48 : zz) (h47 : FO ro 47 (Z2 A47)) (h48 : FO ro 48 (ZS A48)) : Zcx sy Tryz.prog GT (ovD ro) ro (zH A47 A48) 0 Tryz.f33.ntmps (za Tryz.f33) := zi (l := [(Zb (za Tryz.f33) 0)]) (by kernel_rfl) (zS (zby A47 A48 h47 h48) Zd)
theorem JbG (A47 : ZC) (A48 : zz) (a0 : Bt) (a1 : Int) (k : W → Prop) : fnT sy Tryz.prog GT (jaa A47 A48) (zH A47 A48) Tryz.f33.ntmps (za Tryz.f33) [none] Tryz.f33.results.toList [.s a0, .i .i64 a1] k = zao A47 A48 a0 a1 (fun r0 => k (.i .i64 r0)) := by kernel_rfl
theorem zbX (A47 : ZC) (A48 : zz) (h47 : FO ro 47 (Z2 A47)) (h48 : FO ro 48 (ZS A48)) : FO ro 33 (zj (zao A47 A48)) := (zt (rc := [none]) (f := 33) (fn := Tryz.f33) (c := za Tryz.f33) (nt := Tryz.f33.ntmps) (res := Tryz.f33.results.toList) (C := jaa A47 A48) (L := (zH A47 A48)) (fun _ _ => rfl) Tryz.func33 (by kernel_rfl) rfl rfl (ZaC A47 A48 h47 h48) (JbW A47 A48 h47 h48)).weak (by
 intro us k h
 unfold zj at h
 split at h
 ·rw [JbG]; exact h
 ·exact h.elim)
abbrev Zk := Bt → Int → (Tok → Int → Prop) → Prop
def Jz (A : Zk) (us : List W) (k : W → Prop) : Prop := match us with
 | [.s a0, .i .i64 a1] => A a0 a1 (fun r0 r1 => k (.t [.a [.i .u8 r0.kind, .s r0.text, .i .i64 r0.num, .s r0.unit, .b r0.flag], .i .i64 r1]))
 | _ => False
theorem zcd {A A2 : Zk} (h : FO ro 34 (Jz A)) (hA : ∀ a0 a1 K, A2 a0 a1 K → A a0 a1 K) : FO ro 34 (Jz A2) := h.weak (by
 intro us k h
 unfold Jz at h ⊢
 split at h
 ·exact hA _ _ _ h
 ·exact h.elim)
def zbi (A49 : Ja) (A50 : JD) (A51 : zC) (A52 : Jbh) (A53 : jO) (A54 : zn) (A55 : jk) (A56 : Jbd) (A57 : zG) (A47 : ZC) (A58 : zM) (A59 : zah) (a0 : Bt) (a1 : Int) (K : Tok → Int → Prop) : Prop :=
 ((0 ≤ a1 ∧ a1 < (a0.length : Int)) ∧ (A49 ((a0.getD a1.toNat 0).toNat : Int) (fun y1 => ((y1 = true → (A50 a0 a1 (fun y2 => K (Tok.mk (13 : Int) ([] : Bt) (0 : Int) ([] : Bt) false) y2))) ∧ (y1 = false → ((0 ≤ a1 ∧ a1 < (a0.length : Int)) ∧ (A51 ((a0.getD a1.toNat 0).toNat : Int) (fun y3 => ((y3 = true → (A52 a0 a1 (fun y4 y5 => K (Tok.mk y4.kind y4.text y4.num y4.unit y4.flag) y5))) ∧ (y3 = false → ((0 ≤ a1 ∧ a1 < (a0.length : Int)) ∧ (((decide (((a0.getD a1.toNat 0).toNat : Int) = (35 : Int))) = true → (I64 (a1 + 1) ∧ (A53 a0 (a1 + 1) (fun y6 => ((y6 = true → (I64 (a1 + 1) ∧ (A54 a0 (a1 + 1) (fun y7 => (I64 (a1 + 1) ∧ (A55 a0 (a1 + 1) (fun y8 y9 => K (Tok.mk (4 : Int) y8 (0 : Int) ([] : Bt) y7) y9))))))) ∧ (y6 = false → (A56 a0 a1 (fun y10 => ((y10 = true → (A57 a0 a1 (fun y11 y12 => K (Tok.mk y11.kind y11.text y11.num y11.unit y11.flag) y12))) ∧ (y10 = false → ((0 ≤ a1 ∧ a1 ≤ (a0.length : Int)) ∧ (A47 (a0.drop a1.toNat) ([45, 45, 62] : Bt) (fun y13 => ((y13 = true → (I64 (a1 + 3) ∧ K (Tok.mk (15 : Int) ([] : Bt) (0 : Int) ([] : Bt) false) (a1 + 3))) ∧ (y13 = false → ((0 ≤ a1 ∧ a1 ≤ (a0.length : Int)) ∧ (A47 (a0.drop a1.toNat) ([60, 33, 45, 45] : Bt) (fun y14 => ((y14 = true → (I64 (a1 + 4) ∧ K (Tok.mk (14 : Int) ([] : Bt) (0 : Int) ([] : Bt) false) (a1 + 4))) ∧ (y14 = false → ((0 ≤ a1 ∧ a1 < (a0.length : Int)) ∧ (((decide (((a0.getD a1.toNat 0).toNat : Int) = (64 : Int))) = true → (I64 (a1 + 1) ∧ (A54 a0 (a1 + 1) (fun y15 => ((y15 = true → (I64 (a1 + 1) ∧ (A55 a0 (a1 + 1) (fun y16 y17 => K (Tok.mk (3 : Int) y16 (0 : Int) ([] : Bt) false) y17)))) ∧ (y15 = false → (A54 a0 a1 (fun y18 => ((y18 = true → (A58 a0 a1 (fun y19 y20 => K (Tok.mk y19.kind y19.text y19.num y19.unit y19.flag) y20))) ∧ (y18 = false → ((0 ≤ a1 ∧ a1 < (a0.length : Int)) ∧ (A59 ((a0.getD a1.toNat 0).toNat : Int) (fun y21 => ((y21 = true → ((0 ≤ a1 ∧ a1 < (a0.length : Int)) ∧ ((0 ≤ ((a0.getD a1.toNat 0).toNat : Int) ∧ ((a0.getD a1.toNat 0).toNat : Int) < (126 : Int)) ∧ (0 + ((a0.getD a1.toNat 0).toNat : Int).toNat * 1 < marksL.length ∧ (I64 (a1 + 1) ∧ K (Tok.mk (marksL.getD (0 + ((a0.getD a1.toNat 0).toNat : Int).toNat * 1) 0) ([] : Bt) (0 : Int) ([] : Bt) false) (a1 + 1)))))) ∧ (y21 = false → (I64 (a1 + 1) ∧ ((0 ≤ a1 ∧ a1 ≤ (a1 + 1) ∧ (a1 + 1) ≤ (a0.length : Int)) ∧ (I64 (a1 + 1) ∧ K (Tok.mk (9 : Int) ((a0.drop a1.toNat).take ((a1 + 1).toNat - a1.toNat)) (0 : Int) ([] : Bt) false) (a1 + 1))))))))))))))))))) ∧ ((decide (((a0.getD a1.toNat 0).toNat : Int) = (64 : Int))) = false → (A54 a0 a1 (fun y22 => ((y22 = true → (A58 a0 a1 (fun y23 y24 => K (Tok.mk y23.kind y23.text y23.num y23.unit y23.flag) y24))) ∧ (y22 = false → ((0 ≤ a1 ∧ a1 < (a0.length : Int)) ∧ (A59 ((a0.getD a1.toNat 0).toNat : Int) (fun y25 => ((y25 = true → ((0 ≤ a1 ∧ a1 < (a0.length : Int)) ∧ ((0 ≤ ((a0.getD a1.toNat 0).toNat : Int) ∧ ((a0.getD a1.toNat 0).toNat : Int) < (126 : Int)) ∧ (0 + ((a0.getD a1.toNat 0).toNat : Int).toNat * 1 < marksL.length ∧ (I64 (a1 + 1) ∧ K (Tok.mk (marksL.getD (0 + ((a0.getD a1.toNat 0).toNat : Int).toNat * 1) 0) ([] : Bt) (0 : Int) ([] : Bt) false) (a1 + 1)))))) ∧ (y25 = false → (I64 (a1 + 1) ∧ ((0 ≤ a1 ∧ a1 ≤ (a1 + 1) ∧ (a1 + 1) ≤ (a0.length : Int)) ∧ (I64 (a1 + 1) ∧ K (Tok.mk (9 : Int) ((a0.drop a1.toNat).take ((a1 + 1).toNat - a1.toNat)) (0 : Int) ([] : Bt) false) (a1 + 1)))))))))))))))))))))))))))))))))))) ∧ ((decide (((a0.getD a1.toNat 0).toNat : Int) = (35 : Int))) = false → (A56 a0 a1 (fun y26 => ((y26 = true → (A57 a0 a1 (fun y27 y28 => K (Tok.mk y27.kind y27.text y27.num y27.unit y27.flag) y28))) ∧ (y26 = false → ((0 ≤ a1 ∧ a1 ≤ (a0.length : Int)) ∧ (A47 (a0.drop a1.toNat) ([45, 45, 62] : Bt) (fun y29 => ((y29 = true → (I64 (a1 + 3) ∧ K (Tok.mk (15 : Int) ([] : Bt) (0 : Int) ([] : Bt) false) (a1 + 3))) ∧ (y29 = false → ((0 ≤ a1 ∧ a1 ≤ (a0.length : Int)) ∧ (A47 (a0.drop a1.toNat) ([60, 33, 45, 45] : Bt) (fun y30 => ((y30 = true → (I64 (a1 + 4) ∧ K (Tok.mk (14 : Int) ([] : Bt) (0 : Int) ([] : Bt) false) (a1 + 4))) ∧ (y30 = false → ((0 ≤ a1 ∧ a1 < (a0.length : Int)) ∧ (((decide (((a0.getD a1.toNat 0).toNat : Int) = (64 : Int))) = true → (I64 (a1 + 1) ∧ (A54 a0 (a1 + 1) (fun y31 => ((y31 = true → (I64 (a1 + 1) ∧ (A55 a0 (a1 + 1) (fun y32 y33 => K (Tok.mk (3 : Int) y32 (0 : Int) ([] : Bt) false) y33)))) ∧ (y31 = false → (A54 a0 a1 (fun y34 => ((y34 = true → (A58 a0 a1 (fun y35 y36 => K (Tok.mk y35.kind y35.text y35.num y35.unit y35.flag) y36))) ∧ (y34 = false → ((0 ≤ a1 ∧ a1 < (a0.length : Int)) ∧ (A59 ((a0.getD a1.toNat 0).toNat : Int) (fun y37 => ((y37 = true → ((0 ≤ a1 ∧ a1 < (a0.length : Int)) ∧ ((0 ≤ ((a0.getD a1.toNat 0).toNat : Int) ∧ ((a0.getD a1.toNat 0).toNat : Int) < (126 : Int)) ∧ (0 + ((a0.getD a1.toNat 0).toNat : Int).toNat * 1 < marksL.length ∧ (I64 (a1 + 1) ∧ K (Tok.mk (marksL.getD (0 + ((a0.getD a1.toNat 0).toNat : Int).toNat * 1) 0) ([] : Bt) (0 : Int) ([] : Bt) false) (a1 + 1)))))) ∧ (y37 = false → (I64 (a1 + 1) ∧ ((0 ≤ a1 ∧ a1 ≤ (a1 + 1) ∧ (a1 + 1) ≤ (a0.length : Int)) ∧ (I64 (a1 + 1) ∧ K (Tok.mk (9 : Int) ((a0.drop a1.toNat).take ((a1 + 1).toNat - a1.toNat)) (0 : Int) ([] : Bt) false) (a1 + 1))))))))))))))))))) ∧ ((decide (((a0.getD a1.toNat 0).toNat : Int) = (64 : Int))) = false → (A54 a0 a1 (fun y38 => ((y38 = true → (A58 a0 a1 (fun y39 y40 => K (Tok.mk y39.kind y39.text y39.num y39.unit y39.flag) y40))) ∧ (y38 = false → ((0 ≤ a1 ∧ a1 < (a0.length : Int)) ∧ (A59 ((a0.getD a1.toNat 0).toNat : Int) (fun y41 => ((y41 = true → ((0 ≤ a1 ∧ a1 < (a0.length : Int)) ∧ ((0 ≤ ((a0.getD a1.toNat 0).toNat : Int) ∧ ((a0.getD a1.toNat 0).toNat : Int) < (126 : Int)) ∧ (0 + ((a0.getD a1.toNat 0).toNat : Int).toNat * 1 < marksL.length ∧ (I64 (a1 + 1) ∧ K (Tok.mk (marksL.getD (0 + ((a0.getD a1.toNat 0).toNat : Int).toNat * 1) 0) ([] : Bt) (0 : Int) ([] : Bt) false) (a1 + 1)))))) ∧ (y41 = false → (I64 (a1 + 1) ∧ ((0 ≤ a1 ∧ a1 ≤ (a1 + 1) ∧ (a1 + 1) ≤ (a0.length : Int)) ∧ (I64 (a1 + 1) ∧ K (Tok.mk (9 : Int) ((a0.drop a1.toNat).take ((a1 + 1).toNat - a1.toNat)) (0 : Int) ([] : Bt) false) (a1 + 1)))))))))))))))))))))))))))))))))))))))))))
def jbi (A49 : Ja) (A50 : JD) (A51 : zC) (A52 : Jbh) (A53 : jO) (A54 : zn) (A55 : jk) (A56 : Jbd) (A57 : zG) (A47 : ZC) (A58 : zM) (A59 : zah) : ji sg := tab [(49, con [none] (zg A49)), (50, con [none, none] (z6 A50)), (51, con [none] (jE A51)), (52, con [none, none] (ja2 A52)), (53, con [none, none] (jak A53)), (54, con [none, none] (zq A54)), (55, con [none, none] (jp A55)), (56, con [none, none] (jaY A56)), (57, con [none, none] (JC A57)), (47, con [none, none] (Z2 A47)), (58, con [none, none] (jF A58)), (59, con [none] (zaa A59))]
theorem jda (A49 : Ja) (A50 : JD) (A51 : zC) (A52 : Jbh) (A53 : jO) (A54 : zn) (A55 : jk) (A56 : Jbd) (A57 : zG) (A47 : ZC) (A58 : zM) (A59 : zah) (h49 : FO ro 49 (zg A49)) (h50 : FO ro 50 (z6 A50)) (h51 : FO ro 51 (jE A51)) (h52 : FO ro 52 (ja2 A52)) (h53 : FO ro 53 (jak A53)) (h54 : FO ro 54 (zq A54)) (h55 : FO ro 55 (jp A55)) (h56 : FO ro 56 (jaY A56)) (h57 : FO ro 57 (JC A57)) (h47 : FO ro 47 (Z2 A47)) (h58 : FO ro 58 (jF A58)) (h59 : FO ro 59 (zaa A59)) (o0 : Nat → Prop) : Zj sy Tryz.prog GT (ovD ro) o0 ro (jbi A49 A50 A51 A52 A53 A54 A55 A56 A57 A47 A58 A59) := (ja (zc h49) (ja (zc h50) (ja (zc h51) (ja (zc h52) (ja (zc h53) (ja (zc h54) (ja (zc h55) (ja (zc h56) (ja (zc h57) (ja (zc h47) (ja (zc h58) (ja (zc h59) Jc)))))))))))) o0
theorem Zda (A49 : Ja) (A50 : JD) (A51 : zC) (A52 : Jbh) (A53 : jO) (A54 : zn) (A55 : jk) (A56 : Jbd) (A57 : zG) (A47 : ZC) (A58 : zM) (A59 : zah) (a0 : Bt) (a1 : Int) (k : W → Prop) : fnT sy Tryz.prog GT (jbi A49 A50 A51 A52 A53 A54 A55 A56 A57 A47 A58 A59) noL Tryz.f34.ntmps (za Tryz.f34) [none, none] Tryz.f34.results.toList [.s a0, .i .i64 a1] k = zbi A49 A50 A51 A52 A53 A54 A55 A56 A57 A47 A58 A59 a0 a1 (fun r0 r1 => k (.t [.a [.i .u8 r0.kind, .s r0.text, .i .i64 r0.num, .s r0.unit, .b r0.flag], .i .i64 r1])) := by kernel_rfl
theorem ZdD (A49 : Ja) (A50 : JD) (A51 : zC) (A52 : Jbh) (A53 : jO) (A54 : zn) (A55 : jk) (A56 : Jbd) (A57 : zG) (A47 : ZC) (A58 : zM) (A59 : zah) (h49 : FO ro 49 (zg A49)) (h50 : FO ro 50 (z6 A50)) (h51 : FO ro 51 (jE A51)) (h52 : FO ro 52 (ja2 A52)) (h53 : FO ro 53 (jak A53)) (h54 : FO ro 54 (zq A54)) (h55 : FO ro 55 (jp A55)) (h56 : FO ro 56 (jaY A56)) (h57 : FO ro 57 (JC A57)) (h47 : FO ro 47 (Z2 A47)) (h58 : FO ro 58 (jF A58)) (h59 : FO ro 59 (zaa A59)) : FO ro 34 (Jz (zbi A49 A50 A51 A52 A53 A54 A55 A56 A57 A47 A58 A59)) := (zt (rc := [none, none]) (f := 34) (fn := Tryz.f34) (c := za Tryz.f34) (nt := Tryz.f34.ntmps) (res := Tryz.f34.results.toList) (C := jbi A49 A50 A51 A52 A53 A54 A55 A56 A57 A47 A58 A59) (L := noL) (fun _ _ => rfl) Tryz.func34 (by kernel_rfl) rfl rfl (jda A49 A50 A51 A52 A53 A54 A55 A56 A57 A47 A58 A59 h49 h50 h51 h52 h53 h54 h55 h56 h57 h47 h58 h59) (zi (l := []) (by kernel_rfl) Zd)).weak (by
 intro us k h
 unfold Jz at h
 split at h
 ·rw [Zda]; exact h
 ·exact h.elim)
def za3 : ji sg := tab []
theorem Zbi (o0 : Nat → Prop) : Zj sy Tryz.prog GT (ovD ro) o0 ro (za3) := Jc o0
def zW (A32 : jB) (A33 : Je) (A34 : Zk) : Nat → Bt → Int → Int → List Tok → (List Tok → Prop) → (Int → List Tok → Prop) → Prop
 | 0, _, _, _, _, _, _ => False
 | n + 1, x5, x7, x8, b1, Ke, Kr => (((decide (x8 < (x5.length : Int))) = true → (((decide (x7 = 1500)) = true → Kr (4 : Int) b1) ∧ ((decide (x7 = 1500)) = false → (A34 x5 x8 (fun y1 y2 => ((b1.length + [(Tok.mk y1.kind y1.text y1.num y1.unit y1.flag)].length) * 56 ≤ 1099511627776 ∧ (I64 (x7 + 1) ∧ (A33 x5 y2 (fun y3 => zW A32 A33 A34 n x5 (x7 + 1) y3 (b1 ++ [(Tok.mk y1.kind y1.text y1.num y1.unit y1.flag)]) Ke Kr))))))))) ∧ ((decide (x8 < (x5.length : Int))) = false → Ke b1))
def Jas (A32 : jB) (A33 : Je) (A34 : Zk) : ji sg := tab [(32, con [none] (JY A32)), (33, con [none, none] (zj A33)), (34, con [none, none] (Jz A34)), (25, inl sy Tryz.prog GT (za3) noL 1000 Tryz.f25.ntmps (za Tryz.f25) Tryz.f25.results.toList)]
theorem JaH (A32 : jB) (A33 : Je) (A34 : Zk) (h32 : FO ro 32 (JY A32)) (h33 : FO ro 33 (zj A33)) (h34 : FO ro 34 (Jz A34)) (o0 : Nat → Prop) : Zj sy Tryz.prog GT (ovD ro) o0 ro (Jas A32 A33 A34) := (ja (zc h32) (ja (zc h33) (ja (zc h34) (ja (jcJ (f := 25) (fn := Tryz.f25) (fun _ _ => rfl) Tryz.func25 (by kernel_rfl) rfl rfl (Zbi) (zi (l := []) (by kernel_rfl) Zd)) Jc)))) o0
abbrev zaf : Type := ((Unit × Unit) × (Bt) × Int × Int × Unit)
abbrev Yb_k_eachToken_tA_6 : Type := ((Unit × Unit) × List (sg.Den Cd.tok) × Unit)
def ls_k_eachToken_tA_6 : LS sy zaf Yb_k_eachToken_tA_6 := ⟨[.cell 0 0 1 Cd.tok], Zf 1 (vFn 25 (zs (Ja7 sy (.p 0 0)) (jc4 sy))) (Zf 5 (jax sy) (Zf 7 (jP sy .i64) (Zf 8 (jP sy .i64) (jab sy)))), jag 0 (zs (Ja7 sy (.o 1)) (jc4 sy)) (Zco 1 Cd.tok (Zab sy)), 2, [1]⟩
def le_k_eachToken_tA_6 : LS sy Unit ((Unit × Unit) × List (sg.Den Cd.tok) × Unit) := ⟨[], jab sy, jag 0 (zs (Ja7 sy (.o 1)) (jc4 sy)) (Zco 1 Cd.tok (Zab sy)), 2, [1]⟩
def lr_k_eachToken_tA_6 : LS sy (Int × Unit) ((Unit × Unit) × List (sg.Den Cd.tok) × Unit) := ⟨[], Zf 4 (jP sy .i64) (jab sy), jag 0 (zs (Ja7 sy (.o 1)) (jc4 sy)) (Zco 1 Cd.tok (Zab sy)), 2, [1]⟩
def jW (A32 : jB) (A33 : Je) (A34 : Zk) (n : Nat) (x : zaf × Yb_k_eachToken_tA_6) (K : Ex → Z sg → Prop) : Prop := zW A32 A33 A34 n x.1.2.1 x.1.2.2.1 x.1.2.2.2.1 x.2.2.1 (fun y0 => K (.exit 0) (le_k_eachToken_tA_6.put ((), (((), ()), y0, ())))) (fun y0 y1 => K .ret (lr_k_eachToken_tA_6.put ((y0, ()), (((), ()), y1, ()))))
def jbX (A32 : jB) (A33 : Je) (A34 : Zk) (z : Z sg) (K : Ex → Z sg → Prop) : Prop := ls_k_eachToken_tA_6.get z (fun x => ∃ n, jW A32 A33 A34 n x K)
def zZ (A32 : jB) (A33 : Je) (A34 : Zk) : Z5 sg := Zc4 [(6, jbX A32 A33 A34)]
theorem zbH (A32 : jB) (A33 : Je) (A34 : Zk) (n : Nat) (x : zaf × Yb_k_eachToken_tA_6) (K : Ex → Z sg → Prop) : zJ (ls_k_eachToken_tA_6.put x) (fun z => sC sy Tryz.prog GT (Jas A32 A33 A34) (zZ A32 A33 A34) Tryz.f24.ntmps (Zb (za Tryz.f24) 0) z (rnd ls_k_eachToken_tA_6 (czT 0 le_k_eachToken_tA_6 lr_k_eachToken_tA_6) (fun x => jW A32 A33 A34 n x K) K)) = jW A32 A33 A34 (n + 1) x K := by kernel_rfl
theorem jbH (A32 : jB) (A33 : Je) (A34 : Zk) (z : Z sg) (K : Ex → Z sg → Prop) : (zZ A32 A33 A34) (Zb (za Tryz.f24) 0) z K = ls_k_eachToken_tA_6.get z (fun x => ∃ n, jW A32 A33 A34 n x K) := by kernel_rfl
theorem ZbH (A32 : jB) (A33 : Je) (A34 : Zk) (h32 : FO ro 32 (JY A32)) (h33 : FO ro 33 (zj A33)) (h34 : FO ro 34 (Jz A34)) : ∀ (o0 : Nat → Prop) (B : Bs sg), B.E.length ≤ 1 → ∀ z K, (zZ A32 A33 A34) (Zb (za Tryz.f24) 0) z K → Sx.Sem sy Tryz.prog GT (ovD ro) o0 ro Tryz.f24.ntmps B (.loop (Zb (za Tryz.f24) 0)) z K :=
 jS (JaH A32 A33 A34 h32 h33 h34) (zi (l := []) (by kernel_rfl) Zd) ls_k_eachToken_tA_6 (by decide) (czT 0 le_k_eachToken_tA_6 lr_k_eachToken_tA_6) (fun _ _ hB => Zag 0 le_k_eachToken_tA_6 lr_k_eachToken_tA_6 (Nat.le_trans hB (by decide)) (Nat.le_trans hB (by decide))) (fun _ _ h => h) (zbH A32 A33 A34) (jbH A32 A33 A34)
theorem jcd (A32 : jB) (A33 : Je) (A34 : Zk) (h32 : FO ro 32 (JY A32)) (h33 : FO ro 33 (zj A33)) (h34 : FO ro 34 (Jz A34)) : Zcx sy Tryz.prog GT (ovD ro) ro (zZ A32 A33 A34) 1 Tryz.f24.ntmps (za Tryz.f24) := zi (l := [(Zb (za Tryz.f24) 0)]) (by kernel_rfl) (zS (ZbH A32 A33 A34 h32 h33 h34) Zd)
abbrev Jt := Bt → (List Tok → Int → Prop) → Prop
def jM (A : Jt) (us : List W) (k : W → Prop) : Prop := match us with
 | [.s a0] => A a0 (fun r0 r1 => k (.t [.l Cd.tok r0, .i .i64 r1]))
 | _ => False
theorem Jda {A A2 : Jt} (h : FO ro 17 (jM A)) (hA : ∀ a0 K, A2 a0 K → A a0 K) : FO ro 17 (jM A2) := h.weak (by
 intro us k h
 unfold jM at h ⊢
 split at h
 ·exact hA _ _ h
 ·exact h.elim)
def ZcS (A32 : jB) (A33 : Je) (A34 : Zk) (a0 : Bt) (K : List Tok → Int → Prop) : Prop :=
 (A32 a0 (fun y1 y2 => (((decide (y2 ≠ 0)) = true → (((decide (y2 ≠ 0)) = true → K ([] : List Tok) y2) ∧ ((decide (y2 ≠ 0)) = false → K ([] : List Tok) (0 : Int)))) ∧ ((decide (y2 ≠ 0)) = false → (A33 y1 (0 : Int) (fun y3 => (∃ m, zW A32 A33 A34 m y1 (0 : Int) y3 ([] : List Tok) (fun y4 => (((decide ((0 : Int) ≠ (0 : Int))) = true → K ([] : List Tok) (0 : Int)) ∧ ((decide ((0 : Int) ≠ (0 : Int))) = false → K y4 (0 : Int)))) (fun y5 y6 => (((decide (y5 ≠ 0)) = true → K ([] : List Tok) y5) ∧ ((decide (y5 ≠ 0)) = false → K y6 (0 : Int)))))))))))
def JcS (A32 : jB) (A33 : Je) (A34 : Zk) : ji sg := tab [(24, inl sy Tryz.prog GT (Jas A32 A33 A34) (zZ A32 A33 A34) 1 Tryz.f24.ntmps (za Tryz.f24) Tryz.f24.results.toList), (25, inl sy Tryz.prog GT (za3) noL 1000 Tryz.f25.ntmps (za Tryz.f25) Tryz.f25.results.toList)]
theorem jez (A32 : jB) (A33 : Je) (A34 : Zk) (h32 : FO ro 32 (JY A32)) (h33 : FO ro 33 (zj A33)) (h34 : FO ro 34 (Jz A34)) (o0 : Nat → Prop) : Zj sy Tryz.prog GT (ovD ro) o0 ro (JcS A32 A33 A34) := (ja (jcJ (f := 24) (fn := Tryz.f24) (fun _ _ => rfl) Tryz.func24 (by kernel_rfl) rfl rfl (JaH A32 A33 A34 h32 h33 h34) (jcd A32 A33 A34 h32 h33 h34)) (ja (jcJ (f := 25) (fn := Tryz.f25) (fun _ _ => rfl) Tryz.func25 (by kernel_rfl) rfl rfl (Zbi) (zi (l := []) (by kernel_rfl) Zd)) Jc)) o0
theorem Zez (A32 : jB) (A33 : Je) (A34 : Zk) (a0 : Bt) (k : W → Prop) : fnT sy Tryz.prog GT (JcS A32 A33 A34) noL Tryz.f17.ntmps (za Tryz.f17) [some Cd.tok, none] Tryz.f17.results.toList [.s a0] k = ZcS A32 A33 A34 a0 (fun r0 r1 => k (.t [.l Cd.tok r0, .i .i64 r1])) := by kernel_rfl
theorem Ze7 (A32 : jB) (A33 : Je) (A34 : Zk) (h32 : FO ro 32 (JY A32)) (h33 : FO ro 33 (zj A33)) (h34 : FO ro 34 (Jz A34)) : FO ro 17 (jM (ZcS A32 A33 A34)) := (zt (rc := [some Cd.tok, none]) (f := 17) (fn := Tryz.f17) (c := za Tryz.f17) (nt := Tryz.f17.ntmps) (res := Tryz.f17.results.toList) (C := JcS A32 A33 A34) (L := noL) (fun _ _ => rfl) Tryz.func17 (by kernel_rfl) rfl rfl (jez A32 A33 A34 h32 h33 h34) (zi (l := []) (by kernel_rfl) Zd)).weak (by
 intro us k h
 unfold jM at h
 split at h
 ·rw [Zez]; exact h
 ·exact h.elim)
end Go.Proofs.YtbpbaicbaehhjaaGreatDoor
