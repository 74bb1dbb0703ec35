/-
  The reference, followed: tokens; the law. Nothing is claimed here.
-/
import Derived.Test.YtcjoehlflbegpaaGreatDoorTj
namespace Go.Proofs.YtcjoehlflbegpaaGreatDoor
open Go.Vm Go.Sx Go.RowKit

abbrev T_ref_numeric := Bt → Int → (Tok → Int → Prop) → Prop
def q_ref_numeric (A : T_ref_numeric) (us : List W) (k : W → Prop) : Prop := match us with
  | [.s a0, .i .i64 a1] => A a0 a1 (fun r0 r1 => k (.t [.a [.i .u8 r0.kind, .s r0.text, .i .i64 r0.num, .s r0.unit, .b r0.flag], .i .i64 r1]))
  | _ => False
theorem q_ref_numeric_weak {A A2 : T_ref_numeric} (h : FO 44 (q_ref_numeric A)) (hA : ∀ a0 a1 K, A2 a0 a1 K → A a0 a1 K) : FO 44 (q_ref_numeric A2) := h.weak (by
  intro us k h
  unfold q_ref_numeric at h ⊢
  split at h
  · exact hA _ _ _ h
  · exact h.elim)

def F_ref_numeric (A64 : T_ref_NumberEnd) (A65 : T_ref_T) (A42 : T_ref_NameAt) (A41 : T_ref_Named) (A60 : T_ref_At) (a0 : Bt) (a1 : Int) (K : Tok → Int → Prop) : Prop :=
  (A64 a0 a1 (fun y1 y2 => ((0 ≤ a1 ∧ a1 ≤ y1 ∧ y1 ≤ (a0.length : Int)) ∧ (A65 ((a0.drop a1.toNat).take (y1.toNat - a1.toNat)) (fun y3 => (A42 a0 y1 (fun y4 => ((y4 = true → (A41 a0 y1 (fun y5 y6 => K (Tok.mk (12 : Int) ([] : Bt) y3 y5 y2) y6))) ∧ (y4 = false → (A60 a0 y1 (fun y7 => (((decide (y7 = 37)) = true → (I64 (y1 + 1) ∧ K (Tok.mk (11 : Int) ([] : Bt) y3 ([] : Bt) false) (y1 + 1))) ∧ ((decide (y7 = 37)) = false → K (Tok.mk (10 : Int) ([] : Bt) y3 ([] : Bt) y2) y1)))))))))))))

def C_ref_numeric (A64 : T_ref_NumberEnd) (A65 : T_ref_T) (A42 : T_ref_NameAt) (A41 : T_ref_Named) (A60 : T_ref_At) : CallT sg := tab [(64, con [none, none] (q_ref_NumberEnd A64)), (65, con [none] (q_ref_T A65)), (42, con [none, none] (q_ref_NameAt A42)), (41, con [none, none] (q_ref_Named A41)), (60, con [none, none] (q_ref_At A60))]
theorem Cok_ref_numeric (A64 : T_ref_NumberEnd) (A65 : T_ref_T) (A42 : T_ref_NameAt) (A41 : T_ref_Named) (A60 : T_ref_At) (h64 : FO 64 (q_ref_NumberEnd A64)) (h65 : FO 65 (q_ref_T A65)) (h42 : FO 42 (q_ref_NameAt A42)) (h41 : FO 41 (q_ref_Named A41)) (h60 : FO 60 (q_ref_At A60)) (o0 : Nat → Prop) : CalOK sy Tryz.prog GT ovD o0 GL (C_ref_numeric A64 A65 A42 A41 A60) := (tab_cons (con_ok h64) (tab_cons (con_ok h65) (tab_cons (con_ok h42) (tab_cons (con_ok h41) (tab_cons (con_ok h60) tab_nil))))) o0

theorem raw_ref_numeric (A64 : T_ref_NumberEnd) (A65 : T_ref_T) (A42 : T_ref_NameAt) (A41 : T_ref_Named) (A60 : T_ref_At) (a0 : Bt) (a1 : Int) (k : W → Prop) : fnT sy Tryz.prog GT (C_ref_numeric A64 A65 A42 A41 A60) noL Tryz.f44.ntmps (bodyOf Tryz.f44) [none, none] Tryz.f44.results.toList [.s a0, .i .i64 a1] k = F_ref_numeric A64 A65 A42 A41 A60 a0 a1 (fun r0 r1 => k (.t [.a [.i .u8 r0.kind, .s r0.text, .i .i64 r0.num, .s r0.unit, .b r0.flag], .i .i64 r1])) := by kernel_rfl

theorem ok_ref_numeric (A64 : T_ref_NumberEnd) (A65 : T_ref_T) (A42 : T_ref_NameAt) (A41 : T_ref_Named) (A60 : T_ref_At) (h64 : FO 64 (q_ref_NumberEnd A64)) (h65 : FO 65 (q_ref_T A65)) (h42 : FO 42 (q_ref_NameAt A42)) (h41 : FO 41 (q_ref_Named A41)) (h60 : FO 60 (q_ref_At A60)) : FO 44 (q_ref_numeric (F_ref_numeric A64 A65 A42 A41 A60)) := (fn_ok (rc := [none, none]) (f := 44) (fn := Tryz.f44) (c := bodyOf Tryz.f44) (nt := Tryz.f44.ntmps) (res := Tryz.f44.results.toList) (C := C_ref_numeric A64 A65 A42 A41 A60) (L := noL) (fun _ => rfl) Tryz.func44 (by kernel_rfl) rfl rfl (Cok_ref_numeric A64 A65 A42 A41 A60 h64 h65 h42 h41 h60) (lp_of (l := []) (by kernel_rfl) lp_nil)).weak (by
  intro us k h
  unfold q_ref_numeric at h
  split at h
  · skip
    rename_i a0 a1
    rw [raw_ref_numeric A64 A65 A42 A41 A60 a0 a1 k]
    exact h
  · exact h.elim)

abbrev T_ref_quoted := Bt → Int → (Tok → Int → Prop) → Prop
def q_ref_quoted (A : T_ref_quoted) (us : List W) (k : W → Prop) : Prop := match us with
  | [.s a0, .i .i64 a1] => A a0 a1 (fun r0 r1 => k (.t [.a [.i .u8 r0.kind, .s r0.text, .i .i64 r0.num, .s r0.unit, .b r0.flag], .i .i64 r1]))
  | _ => False
theorem q_ref_quoted_weak {A A2 : T_ref_quoted} (h : FO 38 (q_ref_quoted A)) (hA : ∀ a0 a1 K, A2 a0 a1 K → A a0 a1 K) : FO 38 (q_ref_quoted A2) := h.weak (by
  intro us k h
  unfold q_ref_quoted at h ⊢
  split at h
  · exact hA _ _ _ h
  · exact h.elim)

def F_ref_quoted_l4 (A61 : T_ref_Ed) : Nat → Bt → Int → Int → Int → Bt → Int → Bt → Bool → Int → Bt → Int → Bt → Bool → (Int → Int → Bt → Int → Bt → Bool → Int → Bt → Int → Bt → Bool → Prop) → (Int → Int → Bt → Int → Bt → Bool → Prop) → Prop
  | 0, _, _, _, _, _, _, _, _, _, _, _, _, _, _, _ => False
  | n + 1, x0, x1, x6, c0_0, c0_1, c0_2, c0_3, c0_4, c1_0, c1_1, c1_2, c1_3, c1_4, Ke, Kr => (((decide (x1 < (x0.length : Int))) = true → ((0 ≤ x1 ∧ x1 < (x0.length : Int)) ∧ (((decide (((x0.getD x1.toNat 0).toNat : Int) = x6)) = true → (I64 (x1 + 1) ∧ Kr (x1 + 1) c1_0 c1_1 c1_2 c1_3 c1_4)) ∧ ((decide (((x0.getD x1.toNat 0).toNat : Int) = x6)) = false → ((0 ≤ x1 ∧ x1 < (x0.length : Int)) ∧ (((decide (((x0.getD x1.toNat 0).toNat : Int) = (10 : Int))) = true → Kr x1 (6 : Int) ([] : Bt) (0 : Int) ([] : Bt) false) ∧ ((decide (((x0.getD x1.toNat 0).toNat : Int) = (10 : Int))) = false → ((0 ≤ x1 ∧ x1 < (x0.length : Int)) ∧ (((decide (((x0.getD x1.toNat 0).toNat : Int) = (92 : Int))) = true → (I64 (x1 + 1) ∧ (((decide ((x1 + 1) = (x0.length : Int))) = true → (I64 (x1 + 1) ∧ F_ref_quoted_l4 A61 n x0 (x1 + 1) x6 c0_0 c0_1 c0_2 c0_3 c0_4 c1_0 c1_1 c1_2 c1_3 c1_4 Ke Kr)) ∧ ((decide ((x1 + 1) = (x0.length : Int))) = false → ((0 ≤ x1 ∧ x1 < (x0.length : Int)) ∧ (((decide (((x0.getD x1.toNat 0).toNat : Int) = (92 : Int))) = true → (I64 (x1 + 1) ∧ ((0 ≤ (x1 + 1) ∧ (x1 + 1) < (x0.length : Int)) ∧ (((decide (((x0.getD (x1 + 1).toNat 0).toNat : Int) = (10 : Int))) = true → (I64 (x1 + 2) ∧ F_ref_quoted_l4 A61 n x0 (x1 + 2) x6 c0_0 c0_1 c0_2 c0_3 c0_4 c1_0 c1_1 c1_2 c1_3 c1_4 Ke Kr)) ∧ ((decide (((x0.getD (x1 + 1).toNat 0).toNat : Int) = (10 : Int))) = false → ((0 ≤ x1 ∧ x1 < (x0.length : Int)) ∧ (((decide (((x0.getD x1.toNat 0).toNat : Int) = (92 : Int))) = true → (A61 x0 x1 (fun y1 y2 => (c1_1.length + y1.length ≤ 1099511627776 ∧ F_ref_quoted_l4 A61 n x0 y2 x6 c0_0 c0_1 c0_2 c0_3 c0_4 c1_0 (c1_1 ++ y1) c1_2 c1_3 c1_4 Ke Kr)))) ∧ ((decide (((x0.getD x1.toNat 0).toNat : Int) = (92 : Int))) = false → (I64 (x1 + 1) ∧ ((0 ≤ x1 ∧ x1 ≤ (x1 + 1) ∧ (x1 + 1) ≤ (x0.length : Int)) ∧ (c1_1.length + ((x0.drop x1.toNat).take ((x1 + 1).toNat - x1.toNat)).length ≤ 1099511627776 ∧ (I64 (x1 + 1) ∧ F_ref_quoted_l4 A61 n x0 (x1 + 1) x6 c0_0 c0_1 c0_2 c0_3 c0_4 c1_0 (c1_1 ++ ((x0.drop x1.toNat).take ((x1 + 1).toNat - x1.toNat))) c1_2 c1_3 c1_4 Ke Kr)))))))))))) ∧ ((decide (((x0.getD x1.toNat 0).toNat : Int) = (92 : Int))) = false → ((0 ≤ x1 ∧ x1 < (x0.length : Int)) ∧ (((decide (((x0.getD x1.toNat 0).toNat : Int) = (92 : Int))) = true → (A61 x0 x1 (fun y3 y4 => (c1_1.length + y3.length ≤ 1099511627776 ∧ F_ref_quoted_l4 A61 n x0 y4 x6 c0_0 c0_1 c0_2 c0_3 c0_4 c1_0 (c1_1 ++ y3) c1_2 c1_3 c1_4 Ke Kr)))) ∧ ((decide (((x0.getD x1.toNat 0).toNat : Int) = (92 : Int))) = false → (I64 (x1 + 1) ∧ ((0 ≤ x1 ∧ x1 ≤ (x1 + 1) ∧ (x1 + 1) ≤ (x0.length : Int)) ∧ (c1_1.length + ((x0.drop x1.toNat).take ((x1 + 1).toNat - x1.toNat)).length ≤ 1099511627776 ∧ (I64 (x1 + 1) ∧ F_ref_quoted_l4 A61 n x0 (x1 + 1) x6 c0_0 c0_1 c0_2 c0_3 c0_4 c1_0 (c1_1 ++ ((x0.drop x1.toNat).take ((x1 + 1).toNat - x1.toNat))) c1_2 c1_3 c1_4 Ke Kr)))))))))))))) ∧ ((decide (((x0.getD x1.toNat 0).toNat : Int) = (92 : Int))) = false → ((0 ≤ x1 ∧ x1 < (x0.length : Int)) ∧ (((decide (((x0.getD x1.toNat 0).toNat : Int) = (92 : Int))) = true → (I64 (x1 + 1) ∧ ((0 ≤ (x1 + 1) ∧ (x1 + 1) < (x0.length : Int)) ∧ (((decide (((x0.getD (x1 + 1).toNat 0).toNat : Int) = (10 : Int))) = true → (I64 (x1 + 2) ∧ F_ref_quoted_l4 A61 n x0 (x1 + 2) x6 c0_0 c0_1 c0_2 c0_3 c0_4 c1_0 c1_1 c1_2 c1_3 c1_4 Ke Kr)) ∧ ((decide (((x0.getD (x1 + 1).toNat 0).toNat : Int) = (10 : Int))) = false → ((0 ≤ x1 ∧ x1 < (x0.length : Int)) ∧ (((decide (((x0.getD x1.toNat 0).toNat : Int) = (92 : Int))) = true → (A61 x0 x1 (fun y5 y6 => (c1_1.length + y5.length ≤ 1099511627776 ∧ F_ref_quoted_l4 A61 n x0 y6 x6 c0_0 c0_1 c0_2 c0_3 c0_4 c1_0 (c1_1 ++ y5) c1_2 c1_3 c1_4 Ke Kr)))) ∧ ((decide (((x0.getD x1.toNat 0).toNat : Int) = (92 : Int))) = false → (I64 (x1 + 1) ∧ ((0 ≤ x1 ∧ x1 ≤ (x1 + 1) ∧ (x1 + 1) ≤ (x0.length : Int)) ∧ (c1_1.length + ((x0.drop x1.toNat).take ((x1 + 1).toNat - x1.toNat)).length ≤ 1099511627776 ∧ (I64 (x1 + 1) ∧ F_ref_quoted_l4 A61 n x0 (x1 + 1) x6 c0_0 c0_1 c0_2 c0_3 c0_4 c1_0 (c1_1 ++ ((x0.drop x1.toNat).take ((x1 + 1).toNat - x1.toNat))) c1_2 c1_3 c1_4 Ke Kr)))))))))))) ∧ ((decide (((x0.getD x1.toNat 0).toNat : Int) = (92 : Int))) = false → ((0 ≤ x1 ∧ x1 < (x0.length : Int)) ∧ (((decide (((x0.getD x1.toNat 0).toNat : Int) = (92 : Int))) = true → (A61 x0 x1 (fun y7 y8 => (c1_1.length + y7.length ≤ 1099511627776 ∧ F_ref_quoted_l4 A61 n x0 y8 x6 c0_0 c0_1 c0_2 c0_3 c0_4 c1_0 (c1_1 ++ y7) c1_2 c1_3 c1_4 Ke Kr)))) ∧ ((decide (((x0.getD x1.toNat 0).toNat : Int) = (92 : Int))) = false → (I64 (x1 + 1) ∧ ((0 ≤ x1 ∧ x1 ≤ (x1 + 1) ∧ (x1 + 1) ≤ (x0.length : Int)) ∧ (c1_1.length + ((x0.drop x1.toNat).take ((x1 + 1).toNat - x1.toNat)).length ≤ 1099511627776 ∧ (I64 (x1 + 1) ∧ F_ref_quoted_l4 A61 n x0 (x1 + 1) x6 c0_0 c0_1 c0_2 c0_3 c0_4 c1_0 (c1_1 ++ ((x0.drop x1.toNat).take ((x1 + 1).toNat - x1.toNat))) c1_2 c1_3 c1_4 Ke Kr)))))))))))))))))))) ∧ ((decide (x1 < (x0.length : Int))) = false → Ke x1 c0_0 c0_1 c0_2 c0_3 c0_4 c1_0 c1_1 c1_2 c1_3 c1_4))

def F_ref_quoted (A61 : T_ref_Ed) (a0 : Bt) (a1 : Int) (K : Tok → Int → Prop) : Prop :=
  ((0 ≤ a1 ∧ a1 < (a0.length : Int)) ∧ (I64 (a1 + 1) ∧ (∃ m, F_ref_quoted_l4 A61 m a0 (a1 + 1) ((a0.getD a1.toNat 0).toNat : Int) (0 : Int) ([] : Bt) (0 : Int) ([] : Bt) false (5 : Int) ([] : Bt) (0 : Int) ([] : Bt) false (fun y1 y2 y3 y4 y5 y6 y7 y8 y9 y10 y11 => K (Tok.mk y7 y8 y9 y10 y11) y1) (fun y12 y13 y14 y15 y16 y17 => K (Tok.mk y13 y14 y15 y16 y17) y12))))

def C_ref_quoted (A61 : T_ref_Ed) : CallT sg := tab [(61, con [none, none] (q_ref_Ed A61))]
theorem Cok_ref_quoted (A61 : T_ref_Ed) (h61 : FO 61 (q_ref_Ed A61)) (o0 : Nat → Prop) : CalOK sy Tryz.prog GT ovD o0 GL (C_ref_quoted A61) := (tab_cons (con_ok h61) tab_nil) o0

def ls_ref_quoted_4 : LS sy ((Bt) × Int × Unit × Int × Unit × Unit) ((Int × (Bt) × Int × (Bt) × Bool × Unit) × (Int × (Bt) × Int × (Bt) × Bool × Unit) × Unit) := ⟨[], fCons 0 (vStr sy) (fCons 1 (vInt sy .i64) (fCons 4 (vLit sy (.p 0 0)) (fCons 6 (vInt sy .u8) (fCons 7 (vLit sy (.p 1 0)) (fNil sy))))), hCells 0 (lCons (vInt sy .u8) (lCons (vStr sy) (lCons (vInt sy .i64) (lCons (vStr sy) (lCons (vBool sy) (lNil sy)))))) (hCells 1 (lCons (vInt sy .u8) (lCons (vStr sy) (lCons (vInt sy .i64) (lCons (vStr sy) (lCons (vBool sy) (lNil sy)))))) (hNil sy)), 2, []⟩
def le_ref_quoted_4 : LS sy (Int × Unit × Unit × Unit) ((Int × (Bt) × Int × (Bt) × Bool × Unit) × (Int × (Bt) × Int × (Bt) × Bool × Unit) × Unit) := ⟨[], fCons 1 (vInt sy .i64) (fCons 4 (vLit sy (.p 0 0)) (fCons 7 (vLit sy (.p 1 0)) (fNil sy))), hCells 0 (lCons (vInt sy .u8) (lCons (vStr sy) (lCons (vInt sy .i64) (lCons (vStr sy) (lCons (vBool sy) (lNil sy)))))) (hCells 1 (lCons (vInt sy .u8) (lCons (vStr sy) (lCons (vInt sy .i64) (lCons (vStr sy) (lCons (vBool sy) (lNil sy)))))) (hNil sy)), 2, []⟩
def lr_ref_quoted_4 : LS sy (Unit × Int × Unit) ((Int × (Bt) × Int × (Bt) × Bool × Unit) × Unit) := ⟨[], fCons 4 (vLit sy (.p 0 0)) (fCons 5 (vInt sy .i64) (fNil sy)), hCells 0 (lCons (vInt sy .u8) (lCons (vStr sy) (lCons (vInt sy .i64) (lCons (vStr sy) (lCons (vBool sy) (lNil sy)))))) (hNil sy), 1, []⟩
def FF_ref_quoted_4 (A61 : T_ref_Ed) (n : Nat) (x : ((Bt) × Int × Unit × Int × Unit × Unit) × ((Int × (Bt) × Int × (Bt) × Bool × Unit) × (Int × (Bt) × Int × (Bt) × Bool × Unit) × Unit)) (K : Ex → Z sg → Prop) : Prop := F_ref_quoted_l4 A61 n x.1.1 x.1.2.1 x.1.2.2.2.1 x.2.1.1 x.2.1.2.1 x.2.1.2.2.1 x.2.1.2.2.2.1 x.2.1.2.2.2.2.1 x.2.2.1.1 x.2.2.1.2.1 x.2.2.1.2.2.1 x.2.2.1.2.2.2.1 x.2.2.1.2.2.2.2.1 (fun y0 y1 y2 y3 y4 y5 y6 y7 y8 y9 y10 => K (.exit 0) (le_ref_quoted_4.put ((y0, (), (), ()), ((y1, y2, y3, y4, y5, ()), (y6, y7, y8, y9, y10, ()), ())))) (fun y0 y1 y2 y3 y4 y5 => K .ret (lr_ref_quoted_4.put (((), y0, ()), ((y1, y2, y3, y4, y5, ()), ()))))
def h_ref_quoted_4 (A61 : T_ref_Ed) (z : Z sg) (K : Ex → Z sg → Prop) : Prop := ls_ref_quoted_4.get z (fun x => ∃ n, FF_ref_quoted_4 A61 n x K)
def L_ref_quoted (A61 : T_ref_Ed) : LoopT sg := tabL [(4, h_ref_quoted_4 A61)]
theorem hs_ref_quoted_4 (A61 : T_ref_Ed) (n : Nat) (x : ((Bt) × Int × Unit × Int × Unit × Unit) × ((Int × (Bt) × Int × (Bt) × Bool × Unit) × (Int × (Bt) × Int × (Bt) × Bool × Unit) × Unit)) (K : Ex → Z sg → Prop) : forceZ (ls_ref_quoted_4.put x) (fun z => sC sy Tryz.prog GT (C_ref_quoted A61) (L_ref_quoted A61) Tryz.f38.ntmps (nthLoop (bodyOf Tryz.f38) 0) z (rnd ls_ref_quoted_4 (czT 0 le_ref_quoted_4 lr_ref_quoted_4) (fun x => FF_ref_quoted_4 A61 n x K) K)) = FF_ref_quoted_4 A61 (n + 1) x K := by kernel_rfl
theorem hl_ref_quoted_4 (A61 : T_ref_Ed) (z : Z sg) (K : Ex → Z sg → Prop) : (L_ref_quoted A61) (nthLoop (bodyOf Tryz.f38) 0) z K = ls_ref_quoted_4.get z (fun x => ∃ n, FF_ref_quoted_4 A61 n x K) := by kernel_rfl
theorem lo_ref_quoted_4 (A61 : T_ref_Ed) (h61 : FO 61 (q_ref_Ed A61)) : ∀ (o0 : Nat → Prop) (B : Bs sg), B.E.length ≤ 0 → ∀ z K, (L_ref_quoted A61) (nthLoop (bodyOf Tryz.f38) 0) z K → Sx.Sem sy Tryz.prog GT ovD o0 GL Tryz.f38.ntmps B (.loop (nthLoop (bodyOf Tryz.f38) 0)) z K :=
  loop_ok (Cok_ref_quoted A61 h61) (lp_of (l := []) (by kernel_rfl) lp_nil) ls_ref_quoted_4 (by decide) (czT 0 le_ref_quoted_4 lr_ref_quoted_4) (fun _ _ hB => czT_ok 0 le_ref_quoted_4 lr_ref_quoted_4 (Nat.le_trans hB (by decide)) (Nat.le_trans hB (by decide))) (fun _ _ h => h) (hs_ref_quoted_4 A61) (hl_ref_quoted_4 A61)
theorem Lp_ref_quoted (A61 : T_ref_Ed) (h61 : FO 61 (q_ref_Ed A61)) : LpOK sy Tryz.prog GT ovD GL (L_ref_quoted A61) 0 Tryz.f38.ntmps (bodyOf Tryz.f38) := lp_of (l := [(nthLoop (bodyOf Tryz.f38) 0)]) (by kernel_rfl) (lp_cons (lo_ref_quoted_4 A61 h61) lp_nil)


theorem raw_ref_quoted (A61 : T_ref_Ed) (a0 : Bt) (a1 : Int) (k : W → Prop) : fnT sy Tryz.prog GT (C_ref_quoted A61) (L_ref_quoted A61) Tryz.f38.ntmps (bodyOf Tryz.f38) [none, none] Tryz.f38.results.toList [.s a0, .i .i64 a1] k = F_ref_quoted A61 a0 a1 (fun r0 r1 => k (.t [.a [.i .u8 r0.kind, .s r0.text, .i .i64 r0.num, .s r0.unit, .b r0.flag], .i .i64 r1])) := by kernel_rfl

theorem ok_ref_quoted (A61 : T_ref_Ed) (h61 : FO 61 (q_ref_Ed A61)) : FO 38 (q_ref_quoted (F_ref_quoted A61)) := (fn_ok (rc := [none, none]) (f := 38) (fn := Tryz.f38) (c := bodyOf Tryz.f38) (nt := Tryz.f38.ntmps) (res := Tryz.f38.results.toList) (C := C_ref_quoted A61) (L := (L_ref_quoted A61)) (fun _ => rfl) Tryz.func38 (by kernel_rfl) rfl rfl (Cok_ref_quoted A61 h61) (Lp_ref_quoted A61 h61)).weak (by
  intro us k h
  unfold q_ref_quoted at h
  split at h
  · skip
    rename_i a0 a1
    rw [raw_ref_quoted A61 a0 a1 k]
    exact h
  · exact h.elim)

abbrev T_ref_spaces := Bt → Int → (Int → Prop) → Prop
def q_ref_spaces (A : T_ref_spaces) (us : List W) (k : W → Prop) : Prop := match us with
  | [.s a0, .i .i64 a1] => A a0 a1 (fun r0 => k (.i .i64 r0))
  | _ => False
theorem q_ref_spaces_weak {A A2 : T_ref_spaces} (h : FO 37 (q_ref_spaces A)) (hA : ∀ a0 a1 K, A2 a0 a1 K → A a0 a1 K) : FO 37 (q_ref_spaces A2) := h.weak (by
  intro us k h
  unfold q_ref_spaces at h ⊢
  split at h
  · exact hA _ _ _ h
  · exact h.elim)

def F_ref_spaces_l1 (A60 : T_ref_At) (A36 : T_ref_Space) : Nat → Bt → Int → (Int → Prop) → Prop
  | 0, _, _, _ => False
  | n + 1, x0, x1, Ke => (A60 x0 x1 (fun y1 => (A36 y1 (fun y2 => ((y2 = true → (I64 (x1 + 1) ∧ F_ref_spaces_l1 A60 A36 n x0 (x1 + 1) Ke)) ∧ (y2 = false → Ke x1))))))

def F_ref_spaces (A60 : T_ref_At) (A36 : T_ref_Space) (a0 : Bt) (a1 : Int) (K : Int → Prop) : Prop :=
  (∃ m, F_ref_spaces_l1 A60 A36 m a0 a1 (fun y1 => K y1))

def C_ref_spaces (A60 : T_ref_At) (A36 : T_ref_Space) : CallT sg := tab [(60, con [none, none] (q_ref_At A60)), (36, con [none] (q_ref_Space A36))]
theorem Cok_ref_spaces (A60 : T_ref_At) (A36 : T_ref_Space) (h60 : FO 60 (q_ref_At A60)) (h36 : FO 36 (q_ref_Space A36)) (o0 : Nat → Prop) : CalOK sy Tryz.prog GT ovD o0 GL (C_ref_spaces A60 A36) := (tab_cons (con_ok h60) (tab_cons (con_ok h36) tab_nil)) o0

def ls_ref_spaces_1 : LS sy ((Bt) × Int × Unit) Unit := ⟨[], fCons 0 (vStr sy) (fCons 1 (vInt sy .i64) (fNil sy)), hNil sy, 0, []⟩
def le_ref_spaces_1 : LS sy (Int × Unit) Unit := ⟨[], fCons 1 (vInt sy .i64) (fNil sy), hNil sy, 0, []⟩
def lr_ref_spaces_1 : LS sy Unit Unit := ⟨[], fNil sy, hNil sy, 0, []⟩
def FF_ref_spaces_1 (A60 : T_ref_At) (A36 : T_ref_Space) (n : Nat) (x : ((Bt) × Int × Unit) × Unit) (K : Ex → Z sg → Prop) : Prop := F_ref_spaces_l1 A60 A36 n x.1.1 x.1.2.1 (fun y0 => K (.exit 0) (le_ref_spaces_1.put ((y0, ()), ())))
def h_ref_spaces_1 (A60 : T_ref_At) (A36 : T_ref_Space) (z : Z sg) (K : Ex → Z sg → Prop) : Prop := ls_ref_spaces_1.get z (fun x => ∃ n, FF_ref_spaces_1 A60 A36 n x K)
def L_ref_spaces (A60 : T_ref_At) (A36 : T_ref_Space) : LoopT sg := tabL [(1, h_ref_spaces_1 A60 A36)]
theorem hs_ref_spaces_1 (A60 : T_ref_At) (A36 : T_ref_Space) (n : Nat) (x : ((Bt) × Int × Unit) × Unit) (K : Ex → Z sg → Prop) : forceZ (ls_ref_spaces_1.put x) (fun z => sC sy Tryz.prog GT (C_ref_spaces A60 A36) (L_ref_spaces A60 A36) Tryz.f37.ntmps (nthLoop (bodyOf Tryz.f37) 0) z (rnd ls_ref_spaces_1 (czT 0 le_ref_spaces_1 lr_ref_spaces_1) (fun x => FF_ref_spaces_1 A60 A36 n x K) K)) = FF_ref_spaces_1 A60 A36 (n + 1) x K := by kernel_rfl
theorem hl_ref_spaces_1 (A60 : T_ref_At) (A36 : T_ref_Space) (z : Z sg) (K : Ex → Z sg → Prop) : (L_ref_spaces A60 A36) (nthLoop (bodyOf Tryz.f37) 0) z K = ls_ref_spaces_1.get z (fun x => ∃ n, FF_ref_spaces_1 A60 A36 n x K) := by kernel_rfl
theorem lo_ref_spaces_1 (A60 : T_ref_At) (A36 : T_ref_Space) (h60 : FO 60 (q_ref_At A60)) (h36 : FO 36 (q_ref_Space A36)) : ∀ (o0 : Nat → Prop) (B : Bs sg), B.E.length ≤ 0 → ∀ z K, (L_ref_spaces A60 A36) (nthLoop (bodyOf Tryz.f37) 0) z K → Sx.Sem sy Tryz.prog GT ovD o0 GL Tryz.f37.ntmps B (.loop (nthLoop (bodyOf Tryz.f37) 0)) z K :=
  loop_ok (Cok_ref_spaces A60 A36 h60 h36) (lp_of (l := []) (by kernel_rfl) lp_nil) ls_ref_spaces_1 (by decide) (czT 0 le_ref_spaces_1 lr_ref_spaces_1) (fun _ _ hB => czT_ok 0 le_ref_spaces_1 lr_ref_spaces_1 (Nat.le_trans hB (by decide)) (Nat.le_trans hB (by decide))) (fun _ _ h => h) (hs_ref_spaces_1 A60 A36) (hl_ref_spaces_1 A60 A36)
theorem Lp_ref_spaces (A60 : T_ref_At) (A36 : T_ref_Space) (h60 : FO 60 (q_ref_At A60)) (h36 : FO 36 (q_ref_Space A36)) : LpOK sy Tryz.prog GT ovD GL (L_ref_spaces A60 A36) 0 Tryz.f37.ntmps (bodyOf Tryz.f37) := lp_of (l := [(nthLoop (bodyOf Tryz.f37) 0)]) (by kernel_rfl) (lp_cons (lo_ref_spaces_1 A60 A36 h60 h36) lp_nil)


theorem raw_ref_spaces (A60 : T_ref_At) (A36 : T_ref_Space) (a0 : Bt) (a1 : Int) (k : W → Prop) : fnT sy Tryz.prog GT (C_ref_spaces A60 A36) (L_ref_spaces A60 A36) Tryz.f37.ntmps (bodyOf Tryz.f37) [none] Tryz.f37.results.toList [.s a0, .i .i64 a1] k = F_ref_spaces A60 A36 a0 a1 (fun r0 => k (.i .i64 r0)) := by kernel_rfl

theorem ok_ref_spaces (A60 : T_ref_At) (A36 : T_ref_Space) (h60 : FO 60 (q_ref_At A60)) (h36 : FO 36 (q_ref_Space A36)) : FO 37 (q_ref_spaces (F_ref_spaces A60 A36)) := (fn_ok (rc := [none]) (f := 37) (fn := Tryz.f37) (c := bodyOf Tryz.f37) (nt := Tryz.f37.ntmps) (res := Tryz.f37.results.toList) (C := C_ref_spaces A60 A36) (L := (L_ref_spaces A60 A36)) (fun _ => rfl) Tryz.func37 (by kernel_rfl) rfl rfl (Cok_ref_spaces A60 A36 h60 h36) (Lp_ref_spaces A60 A36 h60 h36)).weak (by
  intro us k h
  unfold q_ref_spaces at h
  split at h
  · skip
    rename_i a0 a1
    rw [raw_ref_spaces A60 A36 a0 a1 k]
    exact h
  · exact h.elim)

abbrev T_ref_Unprintable := Int → (Bool → Prop) → Prop
def q_ref_Unprintable (A : T_ref_Unprintable) (us : List W) (k : W → Prop) : Prop := match us with
  | [.i .u8 a0] => A a0 (fun r0 => k (.b r0))
  | _ => False
theorem q_ref_Unprintable_weak {A A2 : T_ref_Unprintable} (h : FO 91 (q_ref_Unprintable A)) (hA : ∀ a0 K, A2 a0 K → A a0 K) : FO 91 (q_ref_Unprintable A2) := h.weak (by
  intro us k h
  unfold q_ref_Unprintable at h ⊢
  split at h
  · exact hA _ _ h
  · exact h.elim)

def F_ref_Unprintable (a0 : Int) (K : Bool → Prop) : Prop :=
  (((decide (a0 ≤ 8)) = false → (((decide (a0 = 11)) = false → (((decide ((14 : Int) ≤ a0)) = true → (((decide (a0 ≤ 31)) = false → K (decide (a0 = 127))) ∧ ((decide (a0 ≤ 31)) = true → K true))) ∧ ((decide ((14 : Int) ≤ a0)) = false → K (decide (a0 = 127))))) ∧ ((decide (a0 = 11)) = true → K true))) ∧ ((decide (a0 ≤ 8)) = true → K true))

def C_ref_Unprintable : CallT sg := tab []
theorem Cok_ref_Unprintable (o0 : Nat → Prop) : CalOK sy Tryz.prog GT ovD o0 GL (C_ref_Unprintable) := tab_nil o0

theorem raw_ref_Unprintable (a0 : Int) (k : W → Prop) : fnT sy Tryz.prog GT (C_ref_Unprintable) noL Tryz.f91.ntmps (bodyOf Tryz.f91) [none] Tryz.f91.results.toList [.i .u8 a0] k = F_ref_Unprintable a0 (fun r0 => k (.b r0)) := by kernel_rfl

theorem ok_ref_Unprintable : FO 91 (q_ref_Unprintable (F_ref_Unprintable)) := (fn_ok (rc := [none]) (f := 91) (fn := Tryz.f91) (c := bodyOf Tryz.f91) (nt := Tryz.f91.ntmps) (res := Tryz.f91.results.toList) (C := C_ref_Unprintable) (L := noL) (fun _ => rfl) Tryz.func91 (by kernel_rfl) rfl rfl (Cok_ref_Unprintable) (lp_of (l := []) (by kernel_rfl) lp_nil)).weak (by
  intro us k h
  unfold q_ref_Unprintable at h
  split at h
  · skip
    rename_i a0
    rw [raw_ref_Unprintable a0 k]
    exact h
  · exact h.elim)

abbrev T_ref_bad := Bt → Int → (Tok → Int → Prop) → Prop
def q_ref_bad (A : T_ref_bad) (us : List W) (k : W → Prop) : Prop := match us with
  | [.s a0, .i .i64 a1] => A a0 a1 (fun r0 r1 => k (.t [.a [.i .u8 r0.kind, .s r0.text, .i .i64 r0.num, .s r0.unit, .b r0.flag], .i .i64 r1]))
  | _ => False
theorem q_ref_bad_weak {A A2 : T_ref_bad} (h : FO 90 (q_ref_bad A)) (hA : ∀ a0 a1 K, A2 a0 a1 K → A a0 a1 K) : FO 90 (q_ref_bad A2) := h.weak (by
  intro us k h
  unfold q_ref_bad at h ⊢
  split at h
  · exact hA _ _ _ h
  · exact h.elim)

def F_ref_bad_l1 (A40 : T_ref_Escape) (A61 : T_ref_Ed) : Nat → Bt → Int → Int → Bt → Int → Bt → Bool → (Bt → Int → Int → Bt → Int → Bt → Bool → Prop) → Prop
  | 0, _, _, _, _, _, _, _, _ => False
  | n + 1, x0, x1, c0_0, c0_1, c0_2, c0_3, c0_4, Ke => (((decide (x1 < (x0.length : Int))) = true → ((0 ≤ x1 ∧ x1 < (x0.length : Int)) ∧ (((decide (((x0.getD x1.toNat 0).toNat : Int) ≠ (41 : Int))) = true → (A40 x0 x1 (fun y1 => ((y1 = true → (A61 x0 x1 (fun y2 y3 => F_ref_bad_l1 A40 A61 n x0 y3 c0_0 c0_1 c0_2 c0_3 c0_4 Ke))) ∧ (y1 = false → (I64 (x1 + 1) ∧ F_ref_bad_l1 A40 A61 n x0 (x1 + 1) c0_0 c0_1 c0_2 c0_3 c0_4 Ke)))))) ∧ ((decide (((x0.getD x1.toNat 0).toNat : Int) ≠ (41 : Int))) = false → Ke x0 x1 c0_0 c0_1 c0_2 c0_3 c0_4)))) ∧ ((decide (x1 < (x0.length : Int))) = false → Ke x0 x1 c0_0 c0_1 c0_2 c0_3 c0_4))

def F_ref_bad (A40 : T_ref_Escape) (A61 : T_ref_Ed) (a0 : Bt) (a1 : Int) (K : Tok → Int → Prop) : Prop :=
  (∃ m, F_ref_bad_l1 A40 A61 m a0 a1 (0 : Int) ([] : Bt) (0 : Int) ([] : Bt) false (fun y1 y2 y3 y4 y5 y6 y7 => (I64 (y2 + 1) ∧ K (Tok.mk (8 : Int) ([] : Bt) (0 : Int) ([] : Bt) false) (if (y2 + 1) < (y1.length : Int) then (y2 + 1) else (y1.length : Int)))))

def C_ref_bad (A40 : T_ref_Escape) (A61 : T_ref_Ed) : CallT sg := tab [(40, con [none, none] (q_ref_Escape A40)), (61, con [none, none] (q_ref_Ed A61))]
theorem Cok_ref_bad (A40 : T_ref_Escape) (A61 : T_ref_Ed) (h40 : FO 40 (q_ref_Escape A40)) (h61 : FO 61 (q_ref_Ed A61)) (o0 : Nat → Prop) : CalOK sy Tryz.prog GT ovD o0 GL (C_ref_bad A40 A61) := (tab_cons (con_ok h40) (tab_cons (con_ok h61) tab_nil)) o0

def ls_ref_bad_1 : LS sy ((Bt) × Int × Unit × Unit) ((Int × (Bt) × Int × (Bt) × Bool × Unit) × Unit) := ⟨[], fCons 0 (vStr sy) (fCons 1 (vInt sy .i64) (fCons 4 (vLit sy (.p 0 0)) (fNil sy))), hCells 0 (lCons (vInt sy .u8) (lCons (vStr sy) (lCons (vInt sy .i64) (lCons (vStr sy) (lCons (vBool sy) (lNil sy)))))) (hNil sy), 1, []⟩
def le_ref_bad_1 : LS sy ((Bt) × Int × Unit × Unit) ((Int × (Bt) × Int × (Bt) × Bool × Unit) × Unit) := ⟨[], fCons 0 (vStr sy) (fCons 1 (vInt sy .i64) (fCons 4 (vLit sy (.p 0 0)) (fNil sy))), hCells 0 (lCons (vInt sy .u8) (lCons (vStr sy) (lCons (vInt sy .i64) (lCons (vStr sy) (lCons (vBool sy) (lNil sy)))))) (hNil sy), 1, []⟩
def lr_ref_bad_1 : LS sy Unit Unit := ⟨[], fNil sy, hNil sy, 0, []⟩
def FF_ref_bad_1 (A40 : T_ref_Escape) (A61 : T_ref_Ed) (n : Nat) (x : ((Bt) × Int × Unit × Unit) × ((Int × (Bt) × Int × (Bt) × Bool × Unit) × Unit)) (K : Ex → Z sg → Prop) : Prop := F_ref_bad_l1 A40 A61 n x.1.1 x.1.2.1 x.2.1.1 x.2.1.2.1 x.2.1.2.2.1 x.2.1.2.2.2.1 x.2.1.2.2.2.2.1 (fun y0 y1 y2 y3 y4 y5 y6 => K (.exit 0) (le_ref_bad_1.put ((y0, y1, (), ()), ((y2, y3, y4, y5, y6, ()), ()))))
def h_ref_bad_1 (A40 : T_ref_Escape) (A61 : T_ref_Ed) (z : Z sg) (K : Ex → Z sg → Prop) : Prop := ls_ref_bad_1.get z (fun x => ∃ n, FF_ref_bad_1 A40 A61 n x K)
def L_ref_bad (A40 : T_ref_Escape) (A61 : T_ref_Ed) : LoopT sg := tabL [(1, h_ref_bad_1 A40 A61)]
theorem hs_ref_bad_1 (A40 : T_ref_Escape) (A61 : T_ref_Ed) (n : Nat) (x : ((Bt) × Int × Unit × Unit) × ((Int × (Bt) × Int × (Bt) × Bool × Unit) × Unit)) (K : Ex → Z sg → Prop) : forceZ (ls_ref_bad_1.put x) (fun z => sC sy Tryz.prog GT (C_ref_bad A40 A61) (L_ref_bad A40 A61) Tryz.f90.ntmps (nthLoop (bodyOf Tryz.f90) 0) z (rnd ls_ref_bad_1 (czT 0 le_ref_bad_1 lr_ref_bad_1) (fun x => FF_ref_bad_1 A40 A61 n x K) K)) = FF_ref_bad_1 A40 A61 (n + 1) x K := by kernel_rfl
theorem hl_ref_bad_1 (A40 : T_ref_Escape) (A61 : T_ref_Ed) (z : Z sg) (K : Ex → Z sg → Prop) : (L_ref_bad A40 A61) (nthLoop (bodyOf Tryz.f90) 0) z K = ls_ref_bad_1.get z (fun x => ∃ n, FF_ref_bad_1 A40 A61 n x K) := by kernel_rfl
theorem lo_ref_bad_1 (A40 : T_ref_Escape) (A61 : T_ref_Ed) (h40 : FO 40 (q_ref_Escape A40)) (h61 : FO 61 (q_ref_Ed A61)) : ∀ (o0 : Nat → Prop) (B : Bs sg), B.E.length ≤ 0 → ∀ z K, (L_ref_bad A40 A61) (nthLoop (bodyOf Tryz.f90) 0) z K → Sx.Sem sy Tryz.prog GT ovD o0 GL Tryz.f90.ntmps B (.loop (nthLoop (bodyOf Tryz.f90) 0)) z K :=
  loop_ok (Cok_ref_bad A40 A61 h40 h61) (lp_of (l := []) (by kernel_rfl) lp_nil) ls_ref_bad_1 (by decide) (czT 0 le_ref_bad_1 lr_ref_bad_1) (fun _ _ hB => czT_ok 0 le_ref_bad_1 lr_ref_bad_1 (Nat.le_trans hB (by decide)) (Nat.le_trans hB (by decide))) (fun _ _ h => h) (hs_ref_bad_1 A40 A61) (hl_ref_bad_1 A40 A61)
theorem Lp_ref_bad (A40 : T_ref_Escape) (A61 : T_ref_Ed) (h40 : FO 40 (q_ref_Escape A40)) (h61 : FO 61 (q_ref_Ed A61)) : LpOK sy Tryz.prog GT ovD GL (L_ref_bad A40 A61) 0 Tryz.f90.ntmps (bodyOf Tryz.f90) := lp_of (l := [(nthLoop (bodyOf Tryz.f90) 0)]) (by kernel_rfl) (lp_cons (lo_ref_bad_1 A40 A61 h40 h61) lp_nil)


theorem raw_ref_bad (A40 : T_ref_Escape) (A61 : T_ref_Ed) (a0 : Bt) (a1 : Int) (k : W → Prop) : fnT sy Tryz.prog GT (C_ref_bad A40 A61) (L_ref_bad A40 A61) Tryz.f90.ntmps (bodyOf Tryz.f90) [none, none] Tryz.f90.results.toList [.s a0, .i .i64 a1] k = F_ref_bad A40 A61 a0 a1 (fun r0 r1 => k (.t [.a [.i .u8 r0.kind, .s r0.text, .i .i64 r0.num, .s r0.unit, .b r0.flag], .i .i64 r1])) := by kernel_rfl

theorem ok_ref_bad (A40 : T_ref_Escape) (A61 : T_ref_Ed) (h40 : FO 40 (q_ref_Escape A40)) (h61 : FO 61 (q_ref_Ed A61)) : FO 90 (q_ref_bad (F_ref_bad A40 A61)) := (fn_ok (rc := [none, none]) (f := 90) (fn := Tryz.f90) (c := bodyOf Tryz.f90) (nt := Tryz.f90.ntmps) (res := Tryz.f90.results.toList) (C := C_ref_bad A40 A61) (L := (L_ref_bad A40 A61)) (fun _ => rfl) Tryz.func90 (by kernel_rfl) rfl rfl (Cok_ref_bad A40 A61 h40 h61) (Lp_ref_bad A40 A61 h40 h61)).weak (by
  intro us k h
  unfold q_ref_bad at h
  split at h
  · skip
    rename_i a0 a1
    rw [raw_ref_bad A40 A61 a0 a1 k]
    exact h
  · exact h.elim)

abbrev T_ref_url := Bt → Int → (Tok → Int → Prop) → Prop
def q_ref_url (A : T_ref_url) (us : List W) (k : W → Prop) : Prop := match us with
  | [.s a0, .i .i64 a1] => A a0 a1 (fun r0 r1 => k (.t [.a [.i .u8 r0.kind, .s r0.text, .i .i64 r0.num, .s r0.unit, .b r0.flag], .i .i64 r1]))
  | _ => False
theorem q_ref_url_weak {A A2 : T_ref_url} (h : FO 67 (q_ref_url A)) (hA : ∀ a0 a1 K, A2 a0 a1 K → A a0 a1 K) : FO 67 (q_ref_url A2) := h.weak (by
  intro us k h
  unfold q_ref_url at h ⊢
  split at h
  · exact hA _ _ _ h
  · exact h.elim)

def F_ref_url_l3 (A37 : T_ref_spaces) (A36 : T_ref_Space) (A90 : T_ref_bad) (A91 : T_ref_Unprintable) (A40 : T_ref_Escape) (A61 : T_ref_Ed) : Nat → Bt → Int → Int → Bt → Int → Bt → Bool → Int → Bt → Int → Bt → Bool → (Bt → Int → Int → Bt → Int → Bt → Bool → Int → Bt → Int → Bt → Bool → Prop) → (Int → Int → Bt → Int → Bt → Bool → Prop) → Prop
  | 0, _, _, _, _, _, _, _, _, _, _, _, _, _, _ => False
  | n + 1, x0, x1, c0_0, c0_1, c0_2, c0_3, c0_4, c1_0, c1_1, c1_2, c1_3, c1_4, Ke, Kr => (((decide (x1 < (x0.length : Int))) = true → ((0 ≤ x1 ∧ x1 < (x0.length : Int)) ∧ (((decide (((x0.getD x1.toNat 0).toNat : Int) ≠ (41 : Int))) = true → ((0 ≤ x1 ∧ x1 < (x0.length : Int)) ∧ (A36 ((x0.getD x1.toNat 0).toNat : Int) (fun y1 => ((y1 = true → (A37 x0 x1 (fun y2 => (((decide (y2 < (x0.length : Int))) = true → ((0 ≤ y2 ∧ y2 < (x0.length : Int)) ∧ (((decide (((x0.getD y2.toNat 0).toNat : Int) ≠ (41 : Int))) = true → (A90 x0 y2 (fun y3 y4 => Kr y4 y3.kind y3.text y3.num y3.unit y3.flag))) ∧ ((decide (((x0.getD y2.toNat 0).toNat : Int) ≠ (41 : Int))) = false → F_ref_url_l3 A37 A36 A90 A91 A40 A61 n x0 y2 c0_0 c0_1 c0_2 c0_3 c0_4 c1_0 c1_1 c1_2 c1_3 c1_4 Ke Kr)))) ∧ ((decide (y2 < (x0.length : Int))) = false → F_ref_url_l3 A37 A36 A90 A91 A40 A61 n x0 y2 c0_0 c0_1 c0_2 c0_3 c0_4 c1_0 c1_1 c1_2 c1_3 c1_4 Ke Kr))))) ∧ (y1 = false → (((decide (((x0.getD x1.toNat 0).toNat : Int) = (34 : Int))) = false → (((decide (((x0.getD x1.toNat 0).toNat : Int) = (39 : Int))) = false → (((decide (((x0.getD x1.toNat 0).toNat : Int) = (40 : Int))) = false → (A91 ((x0.getD x1.toNat 0).toNat : Int) (fun y5 => ((y5 = false → (((decide (((x0.getD x1.toNat 0).toNat : Int) = (92 : Int))) = true → (A40 x0 x1 (fun y6 => (((!y6) = true → (A90 x0 x1 (fun y7 y8 => Kr y8 y7.kind y7.text y7.num y7.unit y7.flag))) ∧ ((!y6) = false → (((decide (((x0.getD x1.toNat 0).toNat : Int) = (92 : Int))) = true → (A61 x0 x1 (fun y9 y10 => (c1_1.length + y9.length ≤ 1099511627776 ∧ F_ref_url_l3 A37 A36 A90 A91 A40 A61 n x0 y10 c0_0 c0_1 c0_2 c0_3 c0_4 c1_0 (c1_1 ++ y9) c1_2 c1_3 c1_4 Ke Kr)))) ∧ ((decide (((x0.getD x1.toNat 0).toNat : Int) = (92 : Int))) = false → (I64 (x1 + 1) ∧ ((0 ≤ x1 ∧ x1 ≤ (x1 + 1) ∧ (x1 + 1) ≤ (x0.length : Int)) ∧ (c1_1.length + ((x0.drop x1.toNat).take ((x1 + 1).toNat - x1.toNat)).length ≤ 1099511627776 ∧ (I64 (x1 + 1) ∧ F_ref_url_l3 A37 A36 A90 A91 A40 A61 n x0 (x1 + 1) c0_0 c0_1 c0_2 c0_3 c0_4 c1_0 (c1_1 ++ ((x0.drop x1.toNat).take ((x1 + 1).toNat - x1.toNat))) c1_2 c1_3 c1_4 Ke Kr))))))))))) ∧ ((decide (((x0.getD x1.toNat 0).toNat : Int) = (92 : Int))) = false → (((decide (((x0.getD x1.toNat 0).toNat : Int) = (92 : Int))) = true → (A61 x0 x1 (fun y11 y12 => (c1_1.length + y11.length ≤ 1099511627776 ∧ F_ref_url_l3 A37 A36 A90 A91 A40 A61 n x0 y12 c0_0 c0_1 c0_2 c0_3 c0_4 c1_0 (c1_1 ++ y11) c1_2 c1_3 c1_4 Ke Kr)))) ∧ ((decide (((x0.getD x1.toNat 0).toNat : Int) = (92 : Int))) = false → (I64 (x1 + 1) ∧ ((0 ≤ x1 ∧ x1 ≤ (x1 + 1) ∧ (x1 + 1) ≤ (x0.length : Int)) ∧ (c1_1.length + ((x0.drop x1.toNat).take ((x1 + 1).toNat - x1.toNat)).length ≤ 1099511627776 ∧ (I64 (x1 + 1) ∧ F_ref_url_l3 A37 A36 A90 A91 A40 A61 n x0 (x1 + 1) c0_0 c0_1 c0_2 c0_3 c0_4 c1_0 (c1_1 ++ ((x0.drop x1.toNat).take ((x1 + 1).toNat - x1.toNat))) c1_2 c1_3 c1_4 Ke Kr))))))))) ∧ (y5 = true → (A90 x0 x1 (fun y13 y14 => Kr y14 y13.kind y13.text y13.num y13.unit y13.flag))))))) ∧ ((decide (((x0.getD x1.toNat 0).toNat : Int) = (40 : Int))) = true → (A90 x0 x1 (fun y15 y16 => Kr y16 y15.kind y15.text y15.num y15.unit y15.flag))))) ∧ ((decide (((x0.getD x1.toNat 0).toNat : Int) = (39 : Int))) = true → (A90 x0 x1 (fun y17 y18 => Kr y18 y17.kind y17.text y17.num y17.unit y17.flag))))) ∧ ((decide (((x0.getD x1.toNat 0).toNat : Int) = (34 : Int))) = true → (A90 x0 x1 (fun y19 y20 => Kr y20 y19.kind y19.text y19.num y19.unit y19.flag)))))))))) ∧ ((decide (((x0.getD x1.toNat 0).toNat : Int) ≠ (41 : Int))) = false → Ke x0 x1 c0_0 c0_1 c0_2 c0_3 c0_4 c1_0 c1_1 c1_2 c1_3 c1_4)))) ∧ ((decide (x1 < (x0.length : Int))) = false → Ke x0 x1 c0_0 c0_1 c0_2 c0_3 c0_4 c1_0 c1_1 c1_2 c1_3 c1_4))

def F_ref_url (A37 : T_ref_spaces) (A36 : T_ref_Space) (A90 : T_ref_bad) (A91 : T_ref_Unprintable) (A40 : T_ref_Escape) (A61 : T_ref_Ed) (a0 : Bt) (a1 : Int) (K : Tok → Int → Prop) : Prop :=
  (A37 a0 a1 (fun y1 => (∃ m, F_ref_url_l3 A37 A36 A90 A91 A40 A61 m a0 y1 (0 : Int) ([] : Bt) (0 : Int) ([] : Bt) false (7 : Int) ([] : Bt) (0 : Int) ([] : Bt) false (fun y2 y3 y4 y5 y6 y7 y8 y9 y10 y11 y12 y13 => (I64 (y3 + 1) ∧ K (Tok.mk y9 y10 y11 y12 y13) (if (y3 + 1) < (y2.length : Int) then (y3 + 1) else (y2.length : Int)))) (fun y14 y15 y16 y17 y18 y19 => K (Tok.mk y15 y16 y17 y18 y19) y14))))

def C_ref_url (A37 : T_ref_spaces) (A36 : T_ref_Space) (A90 : T_ref_bad) (A91 : T_ref_Unprintable) (A40 : T_ref_Escape) (A61 : T_ref_Ed) : CallT sg := tab [(37, con [none, none] (q_ref_spaces A37)), (36, con [none] (q_ref_Space A36)), (90, con [none, none] (q_ref_bad A90)), (91, con [none] (q_ref_Unprintable A91)), (40, con [none, none] (q_ref_Escape A40)), (61, con [none, none] (q_ref_Ed A61))]
theorem Cok_ref_url (A37 : T_ref_spaces) (A36 : T_ref_Space) (A90 : T_ref_bad) (A91 : T_ref_Unprintable) (A40 : T_ref_Escape) (A61 : T_ref_Ed) (h37 : FO 37 (q_ref_spaces A37)) (h36 : FO 36 (q_ref_Space A36)) (h90 : FO 90 (q_ref_bad A90)) (h91 : FO 91 (q_ref_Unprintable A91)) (h40 : FO 40 (q_ref_Escape A40)) (h61 : FO 61 (q_ref_Ed A61)) (o0 : Nat → Prop) : CalOK sy Tryz.prog GT ovD o0 GL (C_ref_url A37 A36 A90 A91 A40 A61) := (tab_cons (con_ok h37) (tab_cons (con_ok h36) (tab_cons (con_ok h90) (tab_cons (con_ok h91) (tab_cons (con_ok h40) (tab_cons (con_ok h61) tab_nil)))))) o0

def ls_ref_url_3 : LS sy ((Bt) × Int × Unit × Unit × Unit) ((Int × (Bt) × Int × (Bt) × Bool × Unit) × (Int × (Bt) × Int × (Bt) × Bool × Unit) × Unit) := ⟨[], fCons 0 (vStr sy) (fCons 1 (vInt sy .i64) (fCons 4 (vLit sy (.p 0 0)) (fCons 6 (vLit sy (.p 1 0)) (fNil sy)))), hCells 0 (lCons (vInt sy .u8) (lCons (vStr sy) (lCons (vInt sy .i64) (lCons (vStr sy) (lCons (vBool sy) (lNil sy)))))) (hCells 1 (lCons (vInt sy .u8) (lCons (vStr sy) (lCons (vInt sy .i64) (lCons (vStr sy) (lCons (vBool sy) (lNil sy)))))) (hNil sy)), 2, []⟩
def le_ref_url_3 : LS sy ((Bt) × Int × Unit × Unit × Unit) ((Int × (Bt) × Int × (Bt) × Bool × Unit) × (Int × (Bt) × Int × (Bt) × Bool × Unit) × Unit) := ⟨[], fCons 0 (vStr sy) (fCons 1 (vInt sy .i64) (fCons 4 (vLit sy (.p 0 0)) (fCons 6 (vLit sy (.p 1 0)) (fNil sy)))), hCells 0 (lCons (vInt sy .u8) (lCons (vStr sy) (lCons (vInt sy .i64) (lCons (vStr sy) (lCons (vBool sy) (lNil sy)))))) (hCells 1 (lCons (vInt sy .u8) (lCons (vStr sy) (lCons (vInt sy .i64) (lCons (vStr sy) (lCons (vBool sy) (lNil sy)))))) (hNil sy)), 2, []⟩
def lr_ref_url_3 : LS sy (Unit × Int × Unit) ((Int × (Bt) × Int × (Bt) × Bool × Unit) × Unit) := ⟨[], fCons 4 (vLit sy (.p 0 0)) (fCons 5 (vInt sy .i64) (fNil sy)), hCells 0 (lCons (vInt sy .u8) (lCons (vStr sy) (lCons (vInt sy .i64) (lCons (vStr sy) (lCons (vBool sy) (lNil sy)))))) (hNil sy), 1, []⟩
def FF_ref_url_3 (A37 : T_ref_spaces) (A36 : T_ref_Space) (A90 : T_ref_bad) (A91 : T_ref_Unprintable) (A40 : T_ref_Escape) (A61 : T_ref_Ed) (n : Nat) (x : ((Bt) × Int × Unit × Unit × Unit) × ((Int × (Bt) × Int × (Bt) × Bool × Unit) × (Int × (Bt) × Int × (Bt) × Bool × Unit) × Unit)) (K : Ex → Z sg → Prop) : Prop := F_ref_url_l3 A37 A36 A90 A91 A40 A61 n x.1.1 x.1.2.1 x.2.1.1 x.2.1.2.1 x.2.1.2.2.1 x.2.1.2.2.2.1 x.2.1.2.2.2.2.1 x.2.2.1.1 x.2.2.1.2.1 x.2.2.1.2.2.1 x.2.2.1.2.2.2.1 x.2.2.1.2.2.2.2.1 (fun y0 y1 y2 y3 y4 y5 y6 y7 y8 y9 y10 y11 => K (.exit 0) (le_ref_url_3.put ((y0, y1, (), (), ()), ((y2, y3, y4, y5, y6, ()), (y7, y8, y9, y10, y11, ()), ())))) (fun y0 y1 y2 y3 y4 y5 => K .ret (lr_ref_url_3.put (((), y0, ()), ((y1, y2, y3, y4, y5, ()), ()))))
def h_ref_url_3 (A37 : T_ref_spaces) (A36 : T_ref_Space) (A90 : T_ref_bad) (A91 : T_ref_Unprintable) (A40 : T_ref_Escape) (A61 : T_ref_Ed) (z : Z sg) (K : Ex → Z sg → Prop) : Prop := ls_ref_url_3.get z (fun x => ∃ n, FF_ref_url_3 A37 A36 A90 A91 A40 A61 n x K)
def L_ref_url (A37 : T_ref_spaces) (A36 : T_ref_Space) (A90 : T_ref_bad) (A91 : T_ref_Unprintable) (A40 : T_ref_Escape) (A61 : T_ref_Ed) : LoopT sg := tabL [(3, h_ref_url_3 A37 A36 A90 A91 A40 A61)]
theorem hs_ref_url_3 (A37 : T_ref_spaces) (A36 : T_ref_Space) (A90 : T_ref_bad) (A91 : T_ref_Unprintable) (A40 : T_ref_Escape) (A61 : T_ref_Ed) (n : Nat) (x : ((Bt) × Int × Unit × Unit × Unit) × ((Int × (Bt) × Int × (Bt) × Bool × Unit) × (Int × (Bt) × Int × (Bt) × Bool × Unit) × Unit)) (K : Ex → Z sg → Prop) : forceZ (ls_ref_url_3.put x) (fun z => sC sy Tryz.prog GT (C_ref_url A37 A36 A90 A91 A40 A61) (L_ref_url A37 A36 A90 A91 A40 A61) Tryz.f67.ntmps (nthLoop (bodyOf Tryz.f67) 0) z (rnd ls_ref_url_3 (czT 0 le_ref_url_3 lr_ref_url_3) (fun x => FF_ref_url_3 A37 A36 A90 A91 A40 A61 n x K) K)) = FF_ref_url_3 A37 A36 A90 A91 A40 A61 (n + 1) x K := by kernel_rfl
theorem hl_ref_url_3 (A37 : T_ref_spaces) (A36 : T_ref_Space) (A90 : T_ref_bad) (A91 : T_ref_Unprintable) (A40 : T_ref_Escape) (A61 : T_ref_Ed) (z : Z sg) (K : Ex → Z sg → Prop) : (L_ref_url A37 A36 A90 A91 A40 A61) (nthLoop (bodyOf Tryz.f67) 0) z K = ls_ref_url_3.get z (fun x => ∃ n, FF_ref_url_3 A37 A36 A90 A91 A40 A61 n x K) := by kernel_rfl
theorem lo_ref_url_3 (A37 : T_ref_spaces) (A36 : T_ref_Space) (A90 : T_ref_bad) (A91 : T_ref_Unprintable) (A40 : T_ref_Escape) (A61 : T_ref_Ed) (h37 : FO 37 (q_ref_spaces A37)) (h36 : FO 36 (q_ref_Space A36)) (h90 : FO 90 (q_ref_bad A90)) (h91 : FO 91 (q_ref_Unprintable A91)) (h40 : FO 40 (q_ref_Escape A40)) (h61 : FO 61 (q_ref_Ed A61)) : ∀ (o0 : Nat → Prop) (B : Bs sg), B.E.length ≤ 0 → ∀ z K, (L_ref_url A37 A36 A90 A91 A40 A61) (nthLoop (bodyOf Tryz.f67) 0) z K → Sx.Sem sy Tryz.prog GT ovD o0 GL Tryz.f67.ntmps B (.loop (nthLoop (bodyOf Tryz.f67) 0)) z K :=
  loop_ok (Cok_ref_url A37 A36 A90 A91 A40 A61 h37 h36 h90 h91 h40 h61) (lp_of (l := []) (by kernel_rfl) lp_nil) ls_ref_url_3 (by decide) (czT 0 le_ref_url_3 lr_ref_url_3) (fun _ _ hB => czT_ok 0 le_ref_url_3 lr_ref_url_3 (Nat.le_trans hB (by decide)) (Nat.le_trans hB (by decide))) (fun _ _ h => h) (hs_ref_url_3 A37 A36 A90 A91 A40 A61) (hl_ref_url_3 A37 A36 A90 A91 A40 A61)
theorem Lp_ref_url (A37 : T_ref_spaces) (A36 : T_ref_Space) (A90 : T_ref_bad) (A91 : T_ref_Unprintable) (A40 : T_ref_Escape) (A61 : T_ref_Ed) (h37 : FO 37 (q_ref_spaces A37)) (h36 : FO 36 (q_ref_Space A36)) (h90 : FO 90 (q_ref_bad A90)) (h91 : FO 91 (q_ref_Unprintable A91)) (h40 : FO 40 (q_ref_Escape A40)) (h61 : FO 61 (q_ref_Ed A61)) : LpOK sy Tryz.prog GT ovD GL (L_ref_url A37 A36 A90 A91 A40 A61) 0 Tryz.f67.ntmps (bodyOf Tryz.f67) := lp_of (l := [(nthLoop (bodyOf Tryz.f67) 0)]) (by kernel_rfl) (lp_cons (lo_ref_url_3 A37 A36 A90 A91 A40 A61 h37 h36 h90 h91 h40 h61) lp_nil)


theorem raw_ref_url (A37 : T_ref_spaces) (A36 : T_ref_Space) (A90 : T_ref_bad) (A91 : T_ref_Unprintable) (A40 : T_ref_Escape) (A61 : T_ref_Ed) (a0 : Bt) (a1 : Int) (k : W → Prop) : fnT sy Tryz.prog GT (C_ref_url A37 A36 A90 A91 A40 A61) (L_ref_url A37 A36 A90 A91 A40 A61) Tryz.f67.ntmps (bodyOf Tryz.f67) [none, none] Tryz.f67.results.toList [.s a0, .i .i64 a1] k = F_ref_url A37 A36 A90 A91 A40 A61 a0 a1 (fun r0 r1 => k (.t [.a [.i .u8 r0.kind, .s r0.text, .i .i64 r0.num, .s r0.unit, .b r0.flag], .i .i64 r1])) := by kernel_rfl

theorem ok_ref_url (A37 : T_ref_spaces) (A36 : T_ref_Space) (A90 : T_ref_bad) (A91 : T_ref_Unprintable) (A40 : T_ref_Escape) (A61 : T_ref_Ed) (h37 : FO 37 (q_ref_spaces A37)) (h36 : FO 36 (q_ref_Space A36)) (h90 : FO 90 (q_ref_bad A90)) (h91 : FO 91 (q_ref_Unprintable A91)) (h40 : FO 40 (q_ref_Escape A40)) (h61 : FO 61 (q_ref_Ed A61)) : FO 67 (q_ref_url (F_ref_url A37 A36 A90 A91 A40 A61)) := (fn_ok (rc := [none, none]) (f := 67) (fn := Tryz.f67) (c := bodyOf Tryz.f67) (nt := Tryz.f67.ntmps) (res := Tryz.f67.results.toList) (C := C_ref_url A37 A36 A90 A91 A40 A61) (L := (L_ref_url A37 A36 A90 A91 A40 A61)) (fun _ => rfl) Tryz.func67 (by kernel_rfl) rfl rfl (Cok_ref_url A37 A36 A90 A91 A40 A61 h37 h36 h90 h91 h40 h61) (Lp_ref_url A37 A36 A90 A91 A40 A61 h37 h36 h90 h91 h40 h61)).weak (by
  intro us k h
  unfold q_ref_url at h
  split at h
  · skip
    rename_i a0 a1
    rw [raw_ref_url A37 A36 A90 A91 A40 A61 a0 a1 k]
    exact h
  · exact h.elim)

abbrev T_ref_Lower := Bt → (Bt → Prop) → Prop
def q_ref_Lower (A : T_ref_Lower) (us : List W) (k : W → Prop) : Prop := match us with
  | [.s a0] => A a0 (fun r0 => k (.s r0))
  | _ => False
theorem q_ref_Lower_weak {A A2 : T_ref_Lower} (h : FO 89 (q_ref_Lower A)) (hA : ∀ a0 K, A2 a0 K → A a0 K) : FO 89 (q_ref_Lower A2) := h.weak (by
  intro us k h
  unfold q_ref_Lower at h ⊢
  split at h
  · exact hA _ _ h
  · exact h.elim)

def F_ref_Lower_l3 (A87 : T_ref_Small) : Nat → Int → Bt → (Bt → Prop) → Prop
  | 0, _, _, _ => False
  | n + 1, x4, b0, Ke => (((decide (x4 < (b0.length : Int))) = true → ((0 ≤ x4 ∧ x4 < (b0.length : Int)) ∧ (x4.toNat < b0.length ∧ (A87 (UInt8.toNat (b0.getD x4.toNat (dfltD Cd.u8)) : Int) (fun y1 => ((0 ≤ x4 ∧ x4 < (b0.length : Int)) ∧ (x4.toNat < b0.length ∧ ((0 ≤ y1 ∧ y1 ≤ 255) ∧ (I64 (x4 + 1) ∧ F_ref_Lower_l3 A87 n (x4 + 1) (b0.set x4.toNat (UInt8.ofNat y1.toNat)) Ke))))))))) ∧ ((decide (x4 < (b0.length : Int))) = false → Ke b0))

def F_ref_Lower (A87 : T_ref_Small) (a0 : Bt) (K : Bt → Prop) : Prop :=
  (a0.length ≤ 1099511627776 ∧ (∃ m, F_ref_Lower_l3 A87 m (0 : Int) a0 (fun y1 => K y1)))

def C_ref_Lower (A87 : T_ref_Small) : CallT sg := tab [(87, con [none] (q_ref_Small A87))]
theorem Cok_ref_Lower (A87 : T_ref_Small) (h87 : FO 87 (q_ref_Small A87)) (o0 : Nat → Prop) : CalOK sy Tryz.prog GT ovD o0 GL (C_ref_Lower A87) := (tab_cons (con_ok h87) tab_nil) o0

def ls_ref_Lower_3 : LS sy (Unit × Int × Unit) (List (sg.Den Cd.u8) × Unit) := ⟨[], fCons 3 (vLit sy (.o 0)) (fCons 4 (vInt sy .i64) (fNil sy)), hBuf 0 Cd.u8 (hNil sy), 1, []⟩
def le_ref_Lower_3 : LS sy (Unit × Unit) (List (sg.Den Cd.u8) × Unit) := ⟨[], fCons 3 (vLit sy (.o 0)) (fNil sy), hBuf 0 Cd.u8 (hNil sy), 1, []⟩
def lr_ref_Lower_3 : LS sy Unit Unit := ⟨[], fNil sy, hNil sy, 0, []⟩
def FF_ref_Lower_3 (A87 : T_ref_Small) (n : Nat) (x : (Unit × Int × Unit) × (List (sg.Den Cd.u8) × Unit)) (K : Ex → Z sg → Prop) : Prop := F_ref_Lower_l3 A87 n x.1.2.1 x.2.1 (fun y0 => K (.exit 0) (le_ref_Lower_3.put (((), ()), (y0, ()))))
def h_ref_Lower_3 (A87 : T_ref_Small) (z : Z sg) (K : Ex → Z sg → Prop) : Prop := ls_ref_Lower_3.get z (fun x => ∃ n, FF_ref_Lower_3 A87 n x K)
def L_ref_Lower (A87 : T_ref_Small) : LoopT sg := tabL [(3, h_ref_Lower_3 A87)]
theorem hs_ref_Lower_3 (A87 : T_ref_Small) (n : Nat) (x : (Unit × Int × Unit) × (List (sg.Den Cd.u8) × Unit)) (K : Ex → Z sg → Prop) : forceZ (ls_ref_Lower_3.put x) (fun z => sC sy Tryz.prog GT (C_ref_Lower A87) (L_ref_Lower A87) Tryz.f89.ntmps (nthLoop (bodyOf Tryz.f89) 0) z (rnd ls_ref_Lower_3 (czT 0 le_ref_Lower_3 lr_ref_Lower_3) (fun x => FF_ref_Lower_3 A87 n x K) K)) = FF_ref_Lower_3 A87 (n + 1) x K := by kernel_rfl
theorem hl_ref_Lower_3 (A87 : T_ref_Small) (z : Z sg) (K : Ex → Z sg → Prop) : (L_ref_Lower A87) (nthLoop (bodyOf Tryz.f89) 0) z K = ls_ref_Lower_3.get z (fun x => ∃ n, FF_ref_Lower_3 A87 n x K) := by kernel_rfl
theorem lo_ref_Lower_3 (A87 : T_ref_Small) (h87 : FO 87 (q_ref_Small A87)) : ∀ (o0 : Nat → Prop) (B : Bs sg), B.E.length ≤ 0 → ∀ z K, (L_ref_Lower A87) (nthLoop (bodyOf Tryz.f89) 0) z K → Sx.Sem sy Tryz.prog GT ovD o0 GL Tryz.f89.ntmps B (.loop (nthLoop (bodyOf Tryz.f89) 0)) z K :=
  loop_ok (Cok_ref_Lower A87 h87) (lp_of (l := []) (by kernel_rfl) lp_nil) ls_ref_Lower_3 (by decide) (czT 0 le_ref_Lower_3 lr_ref_Lower_3) (fun _ _ hB => czT_ok 0 le_ref_Lower_3 lr_ref_Lower_3 (Nat.le_trans hB (by decide)) (Nat.le_trans hB (by decide))) (fun _ _ h => h) (hs_ref_Lower_3 A87) (hl_ref_Lower_3 A87)
theorem Lp_ref_Lower (A87 : T_ref_Small) (h87 : FO 87 (q_ref_Small A87)) : LpOK sy Tryz.prog GT ovD GL (L_ref_Lower A87) 0 Tryz.f89.ntmps (bodyOf Tryz.f89) := lp_of (l := [(nthLoop (bodyOf Tryz.f89) 0)]) (by kernel_rfl) (lp_cons (lo_ref_Lower_3 A87 h87) lp_nil)


theorem raw_ref_Lower (A87 : T_ref_Small) (a0 : Bt) (k : W → Prop) : fnT sy Tryz.prog GT (C_ref_Lower A87) (L_ref_Lower A87) Tryz.f89.ntmps (bodyOf Tryz.f89) [none] Tryz.f89.results.toList [.s a0] k = F_ref_Lower A87 a0 (fun r0 => k (.s r0)) := by kernel_rfl

theorem ok_ref_Lower (A87 : T_ref_Small) (h87 : FO 87 (q_ref_Small A87)) : FO 89 (q_ref_Lower (F_ref_Lower A87)) := (fn_ok (rc := [none]) (f := 89) (fn := Tryz.f89) (c := bodyOf Tryz.f89) (nt := Tryz.f89.ntmps) (res := Tryz.f89.results.toList) (C := C_ref_Lower A87) (L := (L_ref_Lower A87)) (fun _ => rfl) Tryz.func89 (by kernel_rfl) rfl rfl (Cok_ref_Lower A87 h87) (Lp_ref_Lower A87 h87)).weak (by
  intro us k h
  unfold q_ref_Lower at h
  split at h
  · skip
    rename_i a0
    rw [raw_ref_Lower A87 a0 k]
    exact h
  · exact h.elim)

abbrev T_ref_Alike := Bt → Bt → (Bool → Prop) → Prop
def q_ref_Alike (A : T_ref_Alike) (us : List W) (k : W → Prop) : Prop := match us with
  | [.s a0, .s a1] => A a0 a1 (fun r0 => k (.b r0))
  | _ => False
theorem q_ref_Alike_weak {A A2 : T_ref_Alike} (h : FO 66 (q_ref_Alike A)) (hA : ∀ a0 a1 K, A2 a0 a1 K → A a0 a1 K) : FO 66 (q_ref_Alike A2) := h.weak (by
  intro us k h
  unfold q_ref_Alike at h ⊢
  split at h
  · exact hA _ _ _ h
  · exact h.elim)

def F_ref_Alike (A89 : T_ref_Lower) (a0 : Bt) (a1 : Bt) (K : Bool → Prop) : Prop :=
  (A89 a0 (fun y1 => (A89 a1 (fun y2 => K (y1 == y2)))))

def C_ref_Alike (A89 : T_ref_Lower) : CallT sg := tab [(89, con [none] (q_ref_Lower A89))]
theorem Cok_ref_Alike (A89 : T_ref_Lower) (h89 : FO 89 (q_ref_Lower A89)) (o0 : Nat → Prop) : CalOK sy Tryz.prog GT ovD o0 GL (C_ref_Alike A89) := (tab_cons (con_ok h89) tab_nil) o0

theorem raw_ref_Alike (A89 : T_ref_Lower) (a0 : Bt) (a1 : Bt) (k : W → Prop) : fnT sy Tryz.prog GT (C_ref_Alike A89) noL Tryz.f66.ntmps (bodyOf Tryz.f66) [none] Tryz.f66.results.toList [.s a0, .s a1] k = F_ref_Alike A89 a0 a1 (fun r0 => k (.b r0)) := by kernel_rfl

theorem ok_ref_Alike (A89 : T_ref_Lower) (h89 : FO 89 (q_ref_Lower A89)) : FO 66 (q_ref_Alike (F_ref_Alike A89)) := (fn_ok (rc := [none]) (f := 66) (fn := Tryz.f66) (c := bodyOf Tryz.f66) (nt := Tryz.f66.ntmps) (res := Tryz.f66.results.toList) (C := C_ref_Alike A89) (L := noL) (fun _ => rfl) Tryz.func66 (by kernel_rfl) rfl rfl (Cok_ref_Alike A89 h89) (lp_of (l := []) (by kernel_rfl) lp_nil)).weak (by
  intro us k h
  unfold q_ref_Alike at h
  split at h
  · skip
    rename_i a0 a1
    rw [raw_ref_Alike A89 a0 a1 k]
    exact h
  · exact h.elim)

abbrev T_ref_word := Bt → Int → (Tok → Int → Prop) → Prop
def q_ref_word (A : T_ref_word) (us : List W) (k : W → Prop) : Prop := match us with
  | [.s a0, .i .i64 a1] => A a0 a1 (fun r0 r1 => k (.t [.a [.i .u8 r0.kind, .s r0.text, .i .i64 r0.num, .s r0.unit, .b r0.flag], .i .i64 r1]))
  | _ => False
theorem q_ref_word_weak {A A2 : T_ref_word} (h : FO 45 (q_ref_word A)) (hA : ∀ a0 a1 K, A2 a0 a1 K → A a0 a1 K) : FO 45 (q_ref_word A2) := h.weak (by
  intro us k h
  unfold q_ref_word at h ⊢
  split at h
  · exact hA _ _ _ h
  · exact h.elim)

def F_ref_word (A41 : T_ref_Named) (A60 : T_ref_At) (A66 : T_ref_Alike) (A37 : T_ref_spaces) (A67 : T_ref_url) (a0 : Bt) (a1 : Int) (K : Tok → Int → Prop) : Prop :=
  (A41 a0 a1 (fun y1 y2 => (A60 a0 y2 (fun y3 => (((decide (y3 ≠ 40)) = true → K (Tok.mk (1 : Int) y1 (0 : Int) ([] : Bt) false) y2) ∧ ((decide (y3 ≠ 40)) = false → (A66 y1 ([117, 114, 108] : Bt) (fun y4 => ((y4 = true → (I64 (y2 + 1) ∧ (A37 a0 (y2 + 1) (fun y5 => (A60 a0 y5 (fun y6 => (((decide (y6 ≠ 34)) = true → (((decide (y6 ≠ 39)) = true → (I64 (y2 + 1) ∧ (A67 a0 (y2 + 1) (fun y7 y8 => K (Tok.mk y7.kind y7.text y7.num y7.unit y7.flag) y8)))) ∧ ((decide (y6 ≠ 39)) = false → (I64 (y2 + 1) ∧ K (Tok.mk (2 : Int) y1 (0 : Int) ([] : Bt) false) (y2 + 1))))) ∧ ((decide (y6 ≠ 34)) = false → (I64 (y2 + 1) ∧ K (Tok.mk (2 : Int) y1 (0 : Int) ([] : Bt) false) (y2 + 1)))))))))) ∧ (y4 = false → (I64 (y2 + 1) ∧ K (Tok.mk (2 : Int) y1 (0 : Int) ([] : Bt) false) (y2 + 1))))))))))))

def C_ref_word (A41 : T_ref_Named) (A60 : T_ref_At) (A66 : T_ref_Alike) (A37 : T_ref_spaces) (A67 : T_ref_url) : CallT sg := tab [(41, con [none, none] (q_ref_Named A41)), (60, con [none, none] (q_ref_At A60)), (66, con [none, none] (q_ref_Alike A66)), (37, con [none, none] (q_ref_spaces A37)), (67, con [none, none] (q_ref_url A67))]
theorem Cok_ref_word (A41 : T_ref_Named) (A60 : T_ref_At) (A66 : T_ref_Alike) (A37 : T_ref_spaces) (A67 : T_ref_url) (h41 : FO 41 (q_ref_Named A41)) (h60 : FO 60 (q_ref_At A60)) (h66 : FO 66 (q_ref_Alike A66)) (h37 : FO 37 (q_ref_spaces A37)) (h67 : FO 67 (q_ref_url A67)) (o0 : Nat → Prop) : CalOK sy Tryz.prog GT ovD o0 GL (C_ref_word A41 A60 A66 A37 A67) := (tab_cons (con_ok h41) (tab_cons (con_ok h60) (tab_cons (con_ok h66) (tab_cons (con_ok h37) (tab_cons (con_ok h67) tab_nil))))) o0

theorem raw_ref_word (A41 : T_ref_Named) (A60 : T_ref_At) (A66 : T_ref_Alike) (A37 : T_ref_spaces) (A67 : T_ref_url) (a0 : Bt) (a1 : Int) (k : W → Prop) : fnT sy Tryz.prog GT (C_ref_word A41 A60 A66 A37 A67) noL Tryz.f45.ntmps (bodyOf Tryz.f45) [none, none] Tryz.f45.results.toList [.s a0, .i .i64 a1] k = F_ref_word A41 A60 A66 A37 A67 a0 a1 (fun r0 r1 => k (.t [.a [.i .u8 r0.kind, .s r0.text, .i .i64 r0.num, .s r0.unit, .b r0.flag], .i .i64 r1])) := by kernel_rfl

theorem ok_ref_word (A41 : T_ref_Named) (A60 : T_ref_At) (A66 : T_ref_Alike) (A37 : T_ref_spaces) (A67 : T_ref_url) (h41 : FO 41 (q_ref_Named A41)) (h60 : FO 60 (q_ref_At A60)) (h66 : FO 66 (q_ref_Alike A66)) (h37 : FO 37 (q_ref_spaces A37)) (h67 : FO 67 (q_ref_url A67)) : FO 45 (q_ref_word (F_ref_word A41 A60 A66 A37 A67)) := (fn_ok (rc := [none, none]) (f := 45) (fn := Tryz.f45) (c := bodyOf Tryz.f45) (nt := Tryz.f45.ntmps) (res := Tryz.f45.results.toList) (C := C_ref_word A41 A60 A66 A37 A67) (L := noL) (fun _ => rfl) Tryz.func45 (by kernel_rfl) rfl rfl (Cok_ref_word A41 A60 A66 A37 A67 h41 h60 h66 h37 h67) (lp_of (l := []) (by kernel_rfl) lp_nil)).weak (by
  intro us k h
  unfold q_ref_word at h
  split at h
  · skip
    rename_i a0 a1
    rw [raw_ref_word A41 A60 A66 A37 A67 a0 a1 k]
    exact h
  · exact h.elim)

abbrev T_ref_mark := Int → (Int → Prop) → Prop
def q_ref_mark (A : T_ref_mark) (us : List W) (k : W → Prop) : Prop := match us with
  | [.i .u8 a0] => A a0 (fun r0 => k (.i .u8 r0))
  | _ => False
theorem q_ref_mark_weak {A A2 : T_ref_mark} (h : FO 46 (q_ref_mark A)) (hA : ∀ a0 K, A2 a0 K → A a0 K) : FO 46 (q_ref_mark A2) := h.weak (by
  intro us k h
  unfold q_ref_mark at h ⊢
  split at h
  · exact hA _ _ h
  · exact h.elim)

def F_ref_mark (a0 : Int) (K : Int → Prop) : Prop :=
  (((decide (a0 = 58)) = true → K (16 : Int)) ∧ ((decide (a0 = 58)) = false → (((decide (a0 = 59)) = true → K (17 : Int)) ∧ ((decide (a0 = 59)) = false → (((decide (a0 = 44)) = true → K (18 : Int)) ∧ ((decide (a0 = 44)) = false → (((decide (a0 = 91)) = true → K (19 : Int)) ∧ ((decide (a0 = 91)) = false → (((decide (a0 = 93)) = true → K (20 : Int)) ∧ ((decide (a0 = 93)) = false → (((decide (a0 = 40)) = true → K (21 : Int)) ∧ ((decide (a0 = 40)) = false → (((decide (a0 = 41)) = true → K (22 : Int)) ∧ ((decide (a0 = 41)) = false → (((decide (a0 = 123)) = true → K (23 : Int)) ∧ ((decide (a0 = 123)) = false → (((decide (a0 = 125)) = true → K (24 : Int)) ∧ ((decide (a0 = 125)) = false → K (0 : Int)))))))))))))))))))

def C_ref_mark : CallT sg := tab []
theorem Cok_ref_mark (o0 : Nat → Prop) : CalOK sy Tryz.prog GT ovD o0 GL (C_ref_mark) := tab_nil o0

theorem raw_ref_mark (a0 : Int) (k : W → Prop) : fnT sy Tryz.prog GT (C_ref_mark) noL Tryz.f46.ntmps (bodyOf Tryz.f46) [none] Tryz.f46.results.toList [.i .u8 a0] k = F_ref_mark a0 (fun r0 => k (.i .u8 r0)) := by kernel_rfl

theorem ok_ref_mark : FO 46 (q_ref_mark (F_ref_mark)) := (fn_ok (rc := [none]) (f := 46) (fn := Tryz.f46) (c := bodyOf Tryz.f46) (nt := Tryz.f46.ntmps) (res := Tryz.f46.results.toList) (C := C_ref_mark) (L := noL) (fun _ => rfl) Tryz.func46 (by kernel_rfl) rfl rfl (Cok_ref_mark) (lp_of (l := []) (by kernel_rfl) lp_nil)).weak (by
  intro us k h
  unfold q_ref_mark at h
  split at h
  · skip
    rename_i a0
    rw [raw_ref_mark a0 k]
    exact h
  · exact h.elim)

abbrev T_ref_has := Bt → Int → Bt → (Bool → Prop) → Prop
def q_ref_has (A : T_ref_has) (us : List W) (k : W → Prop) : Prop := match us with
  | [.s a0, .i .i64 a1, .s a2] => A a0 a1 a2 (fun r0 => k (.b r0))
  | _ => False
theorem q_ref_has_weak {A A2 : T_ref_has} (h : FO 35 (q_ref_has A)) (hA : ∀ a0 a1 a2 K, A2 a0 a1 a2 K → A a0 a1 a2 K) : FO 35 (q_ref_has A2) := h.weak (by
  intro us k h
  unfold q_ref_has at h ⊢
  split at h
  · exact hA _ _ _ _ h
  · exact h.elim)

def F_ref_has (a0 : Bt) (a1 : Int) (a2 : Bt) (K : Bool → Prop) : Prop :=
  (I64 ((a0.length : Int) - a1) ∧ (((decide ((a2.length : Int) ≤ ((a0.length : Int) - a1))) = true → (I64 (a1 + (a2.length : Int)) ∧ ((0 ≤ a1 ∧ a1 ≤ (a1 + (a2.length : Int)) ∧ (a1 + (a2.length : Int)) ≤ (a0.length : Int)) ∧ K (((a0.drop a1.toNat).take ((a1 + (a2.length : Int)).toNat - a1.toNat)) == a2)))) ∧ ((decide ((a2.length : Int) ≤ ((a0.length : Int) - a1))) = false → K false)))

def C_ref_has : CallT sg := tab []
theorem Cok_ref_has (o0 : Nat → Prop) : CalOK sy Tryz.prog GT ovD o0 GL (C_ref_has) := tab_nil o0

theorem raw_ref_has (a0 : Bt) (a1 : Int) (a2 : Bt) (k : W → Prop) : fnT sy Tryz.prog GT (C_ref_has) noL Tryz.f35.ntmps (bodyOf Tryz.f35) [none] Tryz.f35.results.toList [.s a0, .i .i64 a1, .s a2] k = F_ref_has a0 a1 a2 (fun r0 => k (.b r0)) := by kernel_rfl

theorem ok_ref_has : FO 35 (q_ref_has (F_ref_has)) := (fn_ok (rc := [none]) (f := 35) (fn := Tryz.f35) (c := bodyOf Tryz.f35) (nt := Tryz.f35.ntmps) (res := Tryz.f35.results.toList) (C := C_ref_has) (L := noL) (fun _ => rfl) Tryz.func35 (by kernel_rfl) rfl rfl (Cok_ref_has) (lp_of (l := []) (by kernel_rfl) lp_nil)).weak (by
  intro us k h
  unfold q_ref_has at h
  split at h
  · skip
    rename_i a0 a1 a2
    rw [raw_ref_has a0 a1 a2 k]
    exact h
  · exact h.elim)

abbrev T_ref_One := Bt → Int → (Tok → Int → Prop) → Prop
def q_ref_One (A : T_ref_One) (us : List W) (k : W → Prop) : Prop := match us with
  | [.s a0, .i .i64 a1] => A a0 a1 (fun r0 r1 => k (.t [.a [.i .u8 r0.kind, .s r0.text, .i .i64 r0.num, .s r0.unit, .b r0.flag], .i .i64 r1]))
  | _ => False
theorem q_ref_One_weak {A A2 : T_ref_One} (h : FO 20 (q_ref_One A)) (hA : ∀ a0 a1 K, A2 a0 a1 K → A a0 a1 K) : FO 20 (q_ref_One A2) := h.weak (by
  intro us k h
  unfold q_ref_One at h ⊢
  split at h
  · exact hA _ _ _ h
  · exact h.elim)

def F_ref_One (A36 : T_ref_Space) (A37 : T_ref_spaces) (A38 : T_ref_quoted) (A39 : T_ref_Letter) (A40 : T_ref_Escape) (A41 : T_ref_Named) (A42 : T_ref_NameAt) (A43 : T_ref_NumberAt) (A44 : T_ref_numeric) (A35 : T_ref_has) (A45 : T_ref_word) (A46 : T_ref_mark) (a0 : Bt) (a1 : Int) (K : Tok → Int → Prop) : Prop :=
  ((0 ≤ a1 ∧ a1 < (a0.length : Int)) ∧ (A36 ((a0.getD a1.toNat 0).toNat : Int) (fun y1 => ((y1 = true → (A37 a0 a1 (fun y2 => K (Tok.mk (13 : Int) ([] : Bt) (0 : Int) ([] : Bt) false) y2))) ∧ (y1 = false → (((decide (((a0.getD a1.toNat 0).toNat : Int) = (34 : Int))) = false → (((decide (((a0.getD a1.toNat 0).toNat : Int) = (39 : Int))) = true → (A38 a0 a1 (fun y3 y4 => K (Tok.mk y3.kind y3.text y3.num y3.unit y3.flag) y4))) ∧ ((decide (((a0.getD a1.toNat 0).toNat : Int) = (39 : Int))) = false → (((decide (((a0.getD a1.toNat 0).toNat : Int) = (35 : Int))) = true → (I64 (a1 + 1) ∧ (((decide ((a1 + 1) < (a0.length : Int))) = true → (I64 (a1 + 1) ∧ ((0 ≤ (a1 + 1) ∧ (a1 + 1) < (a0.length : Int)) ∧ (A39 ((a0.getD (a1 + 1).toNat 0).toNat : Int) (fun y5 => ((y5 = false → (I64 (a1 + 1) ∧ (A40 a0 (a1 + 1) (fun y6 => ((y6 = true → (I64 (a1 + 1) ∧ (A41 a0 (a1 + 1) (fun y7 y8 => (I64 (a1 + 1) ∧ (A42 a0 (a1 + 1) (fun y9 => K (Tok.mk (4 : Int) y7 (0 : Int) ([] : Bt) y9) y8))))))) ∧ (y6 = false → (A43 a0 a1 (fun y10 => ((y10 = true → (A44 a0 a1 (fun y11 y12 => K (Tok.mk y11.kind y11.text y11.num y11.unit y11.flag) y12))) ∧ (y10 = false → (A35 a0 a1 ([45, 45, 62] : Bt) (fun y13 => ((y13 = true → (I64 (a1 + 3) ∧ K (Tok.mk (15 : Int) ([] : Bt) (0 : Int) ([] : Bt) false) (a1 + 3))) ∧ (y13 = false → (A35 a0 a1 ([60, 33, 45, 45] : Bt) (fun y14 => ((y14 = true → (I64 (a1 + 4) ∧ K (Tok.mk (14 : Int) ([] : Bt) (0 : Int) ([] : Bt) false) (a1 + 4))) ∧ (y14 = false → (((decide (((a0.getD a1.toNat 0).toNat : Int) = (64 : Int))) = true → (I64 (a1 + 1) ∧ (A42 a0 (a1 + 1) (fun y15 => ((y15 = true → (I64 (a1 + 1) ∧ (A41 a0 (a1 + 1) (fun y16 y17 => K (Tok.mk (3 : Int) y16 (0 : Int) ([] : Bt) false) y17)))) ∧ (y15 = false → (A42 a0 a1 (fun y18 => ((y18 = true → (A45 a0 a1 (fun y19 y20 => K (Tok.mk y19.kind y19.text y19.num y19.unit y19.flag) y20))) ∧ (y18 = false → (A46 ((a0.getD a1.toNat 0).toNat : Int) (fun y21 => (((decide (y21 ≠ 0)) = true → (A46 ((a0.getD a1.toNat 0).toNat : Int) (fun y22 => (I64 (a1 + 1) ∧ K (Tok.mk y22 ([] : Bt) (0 : Int) ([] : Bt) false) (a1 + 1))))) ∧ ((decide (y21 ≠ 0)) = false → (I64 (a1 + 1) ∧ ((0 ≤ a1 ∧ a1 ≤ (a1 + 1) ∧ (a1 + 1) ≤ (a0.length : Int)) ∧ (I64 (a1 + 1) ∧ K (Tok.mk (9 : Int) ((a0.drop a1.toNat).take ((a1 + 1).toNat - a1.toNat)) (0 : Int) ([] : Bt) false) (a1 + 1)))))))))))))))))) ∧ ((decide (((a0.getD a1.toNat 0).toNat : Int) = (64 : Int))) = false → (A42 a0 a1 (fun y23 => ((y23 = true → (A45 a0 a1 (fun y24 y25 => K (Tok.mk y24.kind y24.text y24.num y24.unit y24.flag) y25))) ∧ (y23 = false → (A46 ((a0.getD a1.toNat 0).toNat : Int) (fun y26 => (((decide (y26 ≠ 0)) = true → (A46 ((a0.getD a1.toNat 0).toNat : Int) (fun y27 => (I64 (a1 + 1) ∧ K (Tok.mk y27 ([] : Bt) (0 : Int) ([] : Bt) false) (a1 + 1))))) ∧ ((decide (y26 ≠ 0)) = false → (I64 (a1 + 1) ∧ ((0 ≤ a1 ∧ a1 ≤ (a1 + 1) ∧ (a1 + 1) ≤ (a0.length : Int)) ∧ (I64 (a1 + 1) ∧ K (Tok.mk (9 : Int) ((a0.drop a1.toNat).take ((a1 + 1).toNat - a1.toNat)) (0 : Int) ([] : Bt) false) (a1 + 1)))))))))))))))))))))))))))))))) ∧ (y5 = true → (I64 (a1 + 1) ∧ (A41 a0 (a1 + 1) (fun y28 y29 => (I64 (a1 + 1) ∧ (A42 a0 (a1 + 1) (fun y30 => K (Tok.mk (4 : Int) y28 (0 : Int) ([] : Bt) y30) y29))))))))))))) ∧ ((decide ((a1 + 1) < (a0.length : Int))) = false → (I64 (a1 + 1) ∧ (A40 a0 (a1 + 1) (fun y31 => ((y31 = true → (I64 (a1 + 1) ∧ (A41 a0 (a1 + 1) (fun y32 y33 => (I64 (a1 + 1) ∧ (A42 a0 (a1 + 1) (fun y34 => K (Tok.mk (4 : Int) y32 (0 : Int) ([] : Bt) y34) y33))))))) ∧ (y31 = false → (A43 a0 a1 (fun y35 => ((y35 = true → (A44 a0 a1 (fun y36 y37 => K (Tok.mk y36.kind y36.text y36.num y36.unit y36.flag) y37))) ∧ (y35 = false → (A35 a0 a1 ([45, 45, 62] : Bt) (fun y38 => ((y38 = true → (I64 (a1 + 3) ∧ K (Tok.mk (15 : Int) ([] : Bt) (0 : Int) ([] : Bt) false) (a1 + 3))) ∧ (y38 = false → (A35 a0 a1 ([60, 33, 45, 45] : Bt) (fun y39 => ((y39 = true → (I64 (a1 + 4) ∧ K (Tok.mk (14 : Int) ([] : Bt) (0 : Int) ([] : Bt) false) (a1 + 4))) ∧ (y39 = false → (((decide (((a0.getD a1.toNat 0).toNat : Int) = (64 : Int))) = true → (I64 (a1 + 1) ∧ (A42 a0 (a1 + 1) (fun y40 => ((y40 = true → (I64 (a1 + 1) ∧ (A41 a0 (a1 + 1) (fun y41 y42 => K (Tok.mk (3 : Int) y41 (0 : Int) ([] : Bt) false) y42)))) ∧ (y40 = false → (A42 a0 a1 (fun y43 => ((y43 = true → (A45 a0 a1 (fun y44 y45 => K (Tok.mk y44.kind y44.text y44.num y44.unit y44.flag) y45))) ∧ (y43 = false → (A46 ((a0.getD a1.toNat 0).toNat : Int) (fun y46 => (((decide (y46 ≠ 0)) = true → (A46 ((a0.getD a1.toNat 0).toNat : Int) (fun y47 => (I64 (a1 + 1) ∧ K (Tok.mk y47 ([] : Bt) (0 : Int) ([] : Bt) false) (a1 + 1))))) ∧ ((decide (y46 ≠ 0)) = false → (I64 (a1 + 1) ∧ ((0 ≤ a1 ∧ a1 ≤ (a1 + 1) ∧ (a1 + 1) ≤ (a0.length : Int)) ∧ (I64 (a1 + 1) ∧ K (Tok.mk (9 : Int) ((a0.drop a1.toNat).take ((a1 + 1).toNat - a1.toNat)) (0 : Int) ([] : Bt) false) (a1 + 1)))))))))))))))))) ∧ ((decide (((a0.getD a1.toNat 0).toNat : Int) = (64 : Int))) = false → (A42 a0 a1 (fun y48 => ((y48 = true → (A45 a0 a1 (fun y49 y50 => K (Tok.mk y49.kind y49.text y49.num y49.unit y49.flag) y50))) ∧ (y48 = false → (A46 ((a0.getD a1.toNat 0).toNat : Int) (fun y51 => (((decide (y51 ≠ 0)) = true → (A46 ((a0.getD a1.toNat 0).toNat : Int) (fun y52 => (I64 (a1 + 1) ∧ K (Tok.mk y52 ([] : Bt) (0 : Int) ([] : Bt) false) (a1 + 1))))) ∧ ((decide (y51 ≠ 0)) = false → (I64 (a1 + 1) ∧ ((0 ≤ a1 ∧ a1 ≤ (a1 + 1) ∧ (a1 + 1) ≤ (a0.length : Int)) ∧ (I64 (a1 + 1) ∧ K (Tok.mk (9 : Int) ((a0.drop a1.toNat).take ((a1 + 1).toNat - a1.toNat)) (0 : Int) ([] : Bt) false) (a1 + 1))))))))))))))))))))))))))))))))))) ∧ ((decide (((a0.getD a1.toNat 0).toNat : Int) = (35 : Int))) = false → (A43 a0 a1 (fun y53 => ((y53 = true → (A44 a0 a1 (fun y54 y55 => K (Tok.mk y54.kind y54.text y54.num y54.unit y54.flag) y55))) ∧ (y53 = false → (A35 a0 a1 ([45, 45, 62] : Bt) (fun y56 => ((y56 = true → (I64 (a1 + 3) ∧ K (Tok.mk (15 : Int) ([] : Bt) (0 : Int) ([] : Bt) false) (a1 + 3))) ∧ (y56 = false → (A35 a0 a1 ([60, 33, 45, 45] : Bt) (fun y57 => ((y57 = true → (I64 (a1 + 4) ∧ K (Tok.mk (14 : Int) ([] : Bt) (0 : Int) ([] : Bt) false) (a1 + 4))) ∧ (y57 = false → (((decide (((a0.getD a1.toNat 0).toNat : Int) = (64 : Int))) = true → (I64 (a1 + 1) ∧ (A42 a0 (a1 + 1) (fun y58 => ((y58 = true → (I64 (a1 + 1) ∧ (A41 a0 (a1 + 1) (fun y59 y60 => K (Tok.mk (3 : Int) y59 (0 : Int) ([] : Bt) false) y60)))) ∧ (y58 = false → (A42 a0 a1 (fun y61 => ((y61 = true → (A45 a0 a1 (fun y62 y63 => K (Tok.mk y62.kind y62.text y62.num y62.unit y62.flag) y63))) ∧ (y61 = false → (A46 ((a0.getD a1.toNat 0).toNat : Int) (fun y64 => (((decide (y64 ≠ 0)) = true → (A46 ((a0.getD a1.toNat 0).toNat : Int) (fun y65 => (I64 (a1 + 1) ∧ K (Tok.mk y65 ([] : Bt) (0 : Int) ([] : Bt) false) (a1 + 1))))) ∧ ((decide (y64 ≠ 0)) = false → (I64 (a1 + 1) ∧ ((0 ≤ a1 ∧ a1 ≤ (a1 + 1) ∧ (a1 + 1) ≤ (a0.length : Int)) ∧ (I64 (a1 + 1) ∧ K (Tok.mk (9 : Int) ((a0.drop a1.toNat).take ((a1 + 1).toNat - a1.toNat)) (0 : Int) ([] : Bt) false) (a1 + 1)))))))))))))))))) ∧ ((decide (((a0.getD a1.toNat 0).toNat : Int) = (64 : Int))) = false → (A42 a0 a1 (fun y66 => ((y66 = true → (A45 a0 a1 (fun y67 y68 => K (Tok.mk y67.kind y67.text y67.num y67.unit y67.flag) y68))) ∧ (y66 = false → (A46 ((a0.getD a1.toNat 0).toNat : Int) (fun y69 => (((decide (y69 ≠ 0)) = true → (A46 ((a0.getD a1.toNat 0).toNat : Int) (fun y70 => (I64 (a1 + 1) ∧ K (Tok.mk y70 ([] : Bt) (0 : Int) ([] : Bt) false) (a1 + 1))))) ∧ ((decide (y69 ≠ 0)) = false → (I64 (a1 + 1) ∧ ((0 ≤ a1 ∧ a1 ≤ (a1 + 1) ∧ (a1 + 1) ≤ (a0.length : Int)) ∧ (I64 (a1 + 1) ∧ K (Tok.mk (9 : Int) ((a0.drop a1.toNat).take ((a1 + 1).toNat - a1.toNat)) (0 : Int) ([] : Bt) false) (a1 + 1))))))))))))))))))))))))))))))) ∧ ((decide (((a0.getD a1.toNat 0).toNat : Int) = (34 : Int))) = true → (A38 a0 a1 (fun y71 y72 => K (Tok.mk y71.kind y71.text y71.num y71.unit y71.flag) y72)))))))))

def C_ref_One (A36 : T_ref_Space) (A37 : T_ref_spaces) (A38 : T_ref_quoted) (A39 : T_ref_Letter) (A40 : T_ref_Escape) (A41 : T_ref_Named) (A42 : T_ref_NameAt) (A43 : T_ref_NumberAt) (A44 : T_ref_numeric) (A35 : T_ref_has) (A45 : T_ref_word) (A46 : T_ref_mark) : CallT sg := tab [(36, con [none] (q_ref_Space A36)), (37, con [none, none] (q_ref_spaces A37)), (38, con [none, none] (q_ref_quoted A38)), (39, con [none] (q_ref_Letter A39)), (40, con [none, none] (q_ref_Escape A40)), (41, con [none, none] (q_ref_Named A41)), (42, con [none, none] (q_ref_NameAt A42)), (43, con [none, none] (q_ref_NumberAt A43)), (44, con [none, none] (q_ref_numeric A44)), (35, con [none, none, none] (q_ref_has A35)), (45, con [none, none] (q_ref_word A45)), (46, con [none] (q_ref_mark A46))]
theorem Cok_ref_One (A36 : T_ref_Space) (A37 : T_ref_spaces) (A38 : T_ref_quoted) (A39 : T_ref_Letter) (A40 : T_ref_Escape) (A41 : T_ref_Named) (A42 : T_ref_NameAt) (A43 : T_ref_NumberAt) (A44 : T_ref_numeric) (A35 : T_ref_has) (A45 : T_ref_word) (A46 : T_ref_mark) (h36 : FO 36 (q_ref_Space A36)) (h37 : FO 37 (q_ref_spaces A37)) (h38 : FO 38 (q_ref_quoted A38)) (h39 : FO 39 (q_ref_Letter A39)) (h40 : FO 40 (q_ref_Escape A40)) (h41 : FO 41 (q_ref_Named A41)) (h42 : FO 42 (q_ref_NameAt A42)) (h43 : FO 43 (q_ref_NumberAt A43)) (h44 : FO 44 (q_ref_numeric A44)) (h35 : FO 35 (q_ref_has A35)) (h45 : FO 45 (q_ref_word A45)) (h46 : FO 46 (q_ref_mark A46)) (o0 : Nat → Prop) : CalOK sy Tryz.prog GT ovD o0 GL (C_ref_One A36 A37 A38 A39 A40 A41 A42 A43 A44 A35 A45 A46) := (tab_cons (con_ok h36) (tab_cons (con_ok h37) (tab_cons (con_ok h38) (tab_cons (con_ok h39) (tab_cons (con_ok h40) (tab_cons (con_ok h41) (tab_cons (con_ok h42) (tab_cons (con_ok h43) (tab_cons (con_ok h44) (tab_cons (con_ok h35) (tab_cons (con_ok h45) (tab_cons (con_ok h46) tab_nil)))))))))))) o0

theorem raw_ref_One (A36 : T_ref_Space) (A37 : T_ref_spaces) (A38 : T_ref_quoted) (A39 : T_ref_Letter) (A40 : T_ref_Escape) (A41 : T_ref_Named) (A42 : T_ref_NameAt) (A43 : T_ref_NumberAt) (A44 : T_ref_numeric) (A35 : T_ref_has) (A45 : T_ref_word) (A46 : T_ref_mark) (a0 : Bt) (a1 : Int) (k : W → Prop) : fnT sy Tryz.prog GT (C_ref_One A36 A37 A38 A39 A40 A41 A42 A43 A44 A35 A45 A46) noL Tryz.f20.ntmps (bodyOf Tryz.f20) [none, none] Tryz.f20.results.toList [.s a0, .i .i64 a1] k = F_ref_One A36 A37 A38 A39 A40 A41 A42 A43 A44 A35 A45 A46 a0 a1 (fun r0 r1 => k (.t [.a [.i .u8 r0.kind, .s r0.text, .i .i64 r0.num, .s r0.unit, .b r0.flag], .i .i64 r1])) := by kernel_rfl

theorem ok_ref_One (A36 : T_ref_Space) (A37 : T_ref_spaces) (A38 : T_ref_quoted) (A39 : T_ref_Letter) (A40 : T_ref_Escape) (A41 : T_ref_Named) (A42 : T_ref_NameAt) (A43 : T_ref_NumberAt) (A44 : T_ref_numeric) (A35 : T_ref_has) (A45 : T_ref_word) (A46 : T_ref_mark) (h36 : FO 36 (q_ref_Space A36)) (h37 : FO 37 (q_ref_spaces A37)) (h38 : FO 38 (q_ref_quoted A38)) (h39 : FO 39 (q_ref_Letter A39)) (h40 : FO 40 (q_ref_Escape A40)) (h41 : FO 41 (q_ref_Named A41)) (h42 : FO 42 (q_ref_NameAt A42)) (h43 : FO 43 (q_ref_NumberAt A43)) (h44 : FO 44 (q_ref_numeric A44)) (h35 : FO 35 (q_ref_has A35)) (h45 : FO 45 (q_ref_word A45)) (h46 : FO 46 (q_ref_mark A46)) : FO 20 (q_ref_One (F_ref_One A36 A37 A38 A39 A40 A41 A42 A43 A44 A35 A45 A46)) := (fn_ok (rc := [none, none]) (f := 20) (fn := Tryz.f20) (c := bodyOf Tryz.f20) (nt := Tryz.f20.ntmps) (res := Tryz.f20.results.toList) (C := C_ref_One A36 A37 A38 A39 A40 A41 A42 A43 A44 A35 A45 A46) (L := noL) (fun _ => rfl) Tryz.func20 (by kernel_rfl) rfl rfl (Cok_ref_One A36 A37 A38 A39 A40 A41 A42 A43 A44 A35 A45 A46 h36 h37 h38 h39 h40 h41 h42 h43 h44 h35 h45 h46) (lp_of (l := []) (by kernel_rfl) lp_nil)).weak (by
  intro us k h
  unfold q_ref_One at h
  split at h
  · skip
    rename_i a0 a1
    rw [raw_ref_One A36 A37 A38 A39 A40 A41 A42 A43 A44 A35 A45 A46 a0 a1 k]
    exact h
  · exact h.elim)

abbrev T_ref_Past := Bt → Int → (Int → Prop) → Prop
def q_ref_Past (A : T_ref_Past) (us : List W) (k : W → Prop) : Prop := match us with
  | [.s a0, .i .i64 a1] => A a0 a1 (fun r0 => k (.i .i64 r0))
  | _ => False
theorem q_ref_Past_weak {A A2 : T_ref_Past} (h : FO 19 (q_ref_Past A)) (hA : ∀ a0 a1 K, A2 a0 a1 K → A a0 a1 K) : FO 19 (q_ref_Past A2) := h.weak (by
  intro us k h
  unfold q_ref_Past at h ⊢
  split at h
  · exact hA _ _ _ h
  · exact h.elim)

def F_ref_Past_l3 (A35 : T_ref_has) : Nat → Bt → Int → (Bt → Int → Prop) → Prop
  | 0, _, _, _ => False
  | n + 1, x0, x1, Ke => (((decide (x1 < (x0.length : Int))) = true → (A35 x0 x1 ([42, 47] : Bt) (fun y1 => (((!y1) = true → (I64 (x1 + 1) ∧ F_ref_Past_l3 A35 n x0 (x1 + 1) Ke)) ∧ ((!y1) = false → Ke x0 x1))))) ∧ ((decide (x1 < (x0.length : Int))) = false → Ke x0 x1))

def F_ref_Past_l1 (A35 : T_ref_has) : Nat → Bt → Int → (Int → Prop) → Prop
  | 0, _, _, _ => False
  | n + 1, x0, x1, Ke => (A35 x0 x1 ([47, 42] : Bt) (fun y1 => ((y1 = true → (I64 (x1 + 2) ∧ (∃ m, F_ref_Past_l3 A35 m x0 (x1 + 2) (fun y2 y3 => (I64 (y3 + 2) ∧ F_ref_Past_l1 A35 n y2 (if (y3 + 2) < (y2.length : Int) then (y3 + 2) else (y2.length : Int)) Ke))))) ∧ (y1 = false → Ke x1))))

def F_ref_Past (A35 : T_ref_has) (a0 : Bt) (a1 : Int) (K : Int → Prop) : Prop :=
  (∃ m, F_ref_Past_l1 A35 m a0 a1 (fun y1 => K y1))

def C_ref_Past (A35 : T_ref_has) : CallT sg := tab [(35, con [none, none, none] (q_ref_has A35))]
theorem Cok_ref_Past (A35 : T_ref_has) (h35 : FO 35 (q_ref_has A35)) (o0 : Nat → Prop) : CalOK sy Tryz.prog GT ovD o0 GL (C_ref_Past A35) := (tab_cons (con_ok h35) tab_nil) o0

def ls_ref_Past_3 : LS sy ((Bt) × Int × Unit) Unit := ⟨[], fCons 0 (vStr sy) (fCons 1 (vInt sy .i64) (fNil sy)), hNil sy, 0, []⟩
def le_ref_Past_3 : LS sy ((Bt) × Int × Unit) Unit := ⟨[], fCons 0 (vStr sy) (fCons 1 (vInt sy .i64) (fNil sy)), hNil sy, 0, []⟩
def lr_ref_Past_3 : LS sy Unit Unit := ⟨[], fNil sy, hNil sy, 0, []⟩
def FF_ref_Past_3 (A35 : T_ref_has) (n : Nat) (x : ((Bt) × Int × Unit) × Unit) (K : Ex → Z sg → Prop) : Prop := F_ref_Past_l3 A35 n x.1.1 x.1.2.1 (fun y0 y1 => K (.exit 2) (le_ref_Past_3.put ((y0, y1, ()), ())))
def h_ref_Past_3 (A35 : T_ref_has) (z : Z sg) (K : Ex → Z sg → Prop) : Prop := ls_ref_Past_3.get z (fun x => ∃ n, FF_ref_Past_3 A35 n x K)
def ls_ref_Past_1 : LS sy ((Bt) × Int × Unit) Unit := ⟨[], fCons 0 (vStr sy) (fCons 1 (vInt sy .i64) (fNil sy)), hNil sy, 0, []⟩
def le_ref_Past_1 : LS sy (Int × Unit) Unit := ⟨[], fCons 1 (vInt sy .i64) (fNil sy), hNil sy, 0, []⟩
def lr_ref_Past_1 : LS sy Unit Unit := ⟨[], fNil sy, hNil sy, 0, []⟩
def FF_ref_Past_1 (A35 : T_ref_has) (n : Nat) (x : ((Bt) × Int × Unit) × Unit) (K : Ex → Z sg → Prop) : Prop := F_ref_Past_l1 A35 n x.1.1 x.1.2.1 (fun y0 => K (.exit 0) (le_ref_Past_1.put ((y0, ()), ())))
def h_ref_Past_1 (A35 : T_ref_has) (z : Z sg) (K : Ex → Z sg → Prop) : Prop := ls_ref_Past_1.get z (fun x => ∃ n, FF_ref_Past_1 A35 n x K)
def L_ref_Past (A35 : T_ref_has) : LoopT sg := tabL [(3, h_ref_Past_3 A35), (1, h_ref_Past_1 A35)]
theorem hs_ref_Past_3 (A35 : T_ref_has) (n : Nat) (x : ((Bt) × Int × Unit) × Unit) (K : Ex → Z sg → Prop) : forceZ (ls_ref_Past_3.put x) (fun z => sC sy Tryz.prog GT (C_ref_Past A35) (L_ref_Past A35) Tryz.f19.ntmps (nthLoop (nthLoop (bodyOf Tryz.f19) 0) 0) z (rnd ls_ref_Past_3 (czT 2 le_ref_Past_3 lr_ref_Past_3) (fun x => FF_ref_Past_3 A35 n x K) K)) = FF_ref_Past_3 A35 (n + 1) x K := by kernel_rfl
theorem hl_ref_Past_3 (A35 : T_ref_has) (z : Z sg) (K : Ex → Z sg → Prop) : (L_ref_Past A35) (nthLoop (nthLoop (bodyOf Tryz.f19) 0) 0) z K = ls_ref_Past_3.get z (fun x => ∃ n, FF_ref_Past_3 A35 n x K) := by kernel_rfl
theorem lo_ref_Past_3 (A35 : T_ref_has) (h35 : FO 35 (q_ref_has A35)) : ∀ (o0 : Nat → Prop) (B : Bs sg), B.E.length ≤ 0 → ∀ z K, (L_ref_Past A35) (nthLoop (nthLoop (bodyOf Tryz.f19) 0) 0) z K → Sx.Sem sy Tryz.prog GT ovD o0 GL Tryz.f19.ntmps B (.loop (nthLoop (nthLoop (bodyOf Tryz.f19) 0) 0)) z K :=
  loop_ok (Cok_ref_Past A35 h35) (lp_of (l := []) (by kernel_rfl) lp_nil) ls_ref_Past_3 (by decide) (czT 2 le_ref_Past_3 lr_ref_Past_3) (fun _ _ hB => czT_ok 2 le_ref_Past_3 lr_ref_Past_3 (Nat.le_trans hB (by decide)) (Nat.le_trans hB (by decide))) (fun _ _ h => h) (hs_ref_Past_3 A35) (hl_ref_Past_3 A35)
theorem hs_ref_Past_1 (A35 : T_ref_has) (n : Nat) (x : ((Bt) × Int × Unit) × Unit) (K : Ex → Z sg → Prop) : forceZ (ls_ref_Past_1.put x) (fun z => sC sy Tryz.prog GT (C_ref_Past A35) (L_ref_Past A35) Tryz.f19.ntmps (nthLoop (bodyOf Tryz.f19) 0) z (rnd ls_ref_Past_1 (czT 0 le_ref_Past_1 lr_ref_Past_1) (fun x => FF_ref_Past_1 A35 n x K) K)) = FF_ref_Past_1 A35 (n + 1) x K := by kernel_rfl
theorem hl_ref_Past_1 (A35 : T_ref_has) (z : Z sg) (K : Ex → Z sg → Prop) : (L_ref_Past A35) (nthLoop (bodyOf Tryz.f19) 0) z K = ls_ref_Past_1.get z (fun x => ∃ n, FF_ref_Past_1 A35 n x K) := by kernel_rfl
theorem lo_ref_Past_1 (A35 : T_ref_has) (h35 : FO 35 (q_ref_has A35)) : ∀ (o0 : Nat → Prop) (B : Bs sg), B.E.length ≤ 0 → ∀ z K, (L_ref_Past A35) (nthLoop (bodyOf Tryz.f19) 0) z K → Sx.Sem sy Tryz.prog GT ovD o0 GL Tryz.f19.ntmps B (.loop (nthLoop (bodyOf Tryz.f19) 0)) z K :=
  loop_ok (Cok_ref_Past A35 h35) (lp_of (l := [(nthLoop (nthLoop (bodyOf Tryz.f19) 0) 0)]) (by kernel_rfl) (lp_cons (lo_ref_Past_3 A35 h35) lp_nil)) ls_ref_Past_1 (by decide) (czT 0 le_ref_Past_1 lr_ref_Past_1) (fun _ _ hB => czT_ok 0 le_ref_Past_1 lr_ref_Past_1 (Nat.le_trans hB (by decide)) (Nat.le_trans hB (by decide))) (fun _ _ h => h) (hs_ref_Past_1 A35) (hl_ref_Past_1 A35)
theorem Lp_ref_Past (A35 : T_ref_has) (h35 : FO 35 (q_ref_has A35)) : LpOK sy Tryz.prog GT ovD GL (L_ref_Past A35) 0 Tryz.f19.ntmps (bodyOf Tryz.f19) := lp_of (l := [(nthLoop (bodyOf Tryz.f19) 0)]) (by kernel_rfl) (lp_cons (lo_ref_Past_1 A35 h35) lp_nil)


theorem raw_ref_Past (A35 : T_ref_has) (a0 : Bt) (a1 : Int) (k : W → Prop) : fnT sy Tryz.prog GT (C_ref_Past A35) (L_ref_Past A35) Tryz.f19.ntmps (bodyOf Tryz.f19) [none] Tryz.f19.results.toList [.s a0, .i .i64 a1] k = F_ref_Past A35 a0 a1 (fun r0 => k (.i .i64 r0)) := by kernel_rfl

theorem ok_ref_Past (A35 : T_ref_has) (h35 : FO 35 (q_ref_has A35)) : FO 19 (q_ref_Past (F_ref_Past A35)) := (fn_ok (rc := [none]) (f := 19) (fn := Tryz.f19) (c := bodyOf Tryz.f19) (nt := Tryz.f19.ntmps) (res := Tryz.f19.results.toList) (C := C_ref_Past A35) (L := (L_ref_Past A35)) (fun _ => rfl) Tryz.func19 (by kernel_rfl) rfl rfl (Cok_ref_Past A35 h35) (Lp_ref_Past A35 h35)).weak (by
  intro us k h
  unfold q_ref_Past at h
  split at h
  · skip
    rename_i a0 a1
    rw [raw_ref_Past A35 a0 a1 k]
    exact h
  · exact h.elim)

abbrev T_ref_Cut := Bt → (List Tok → List (Int × Int) → Prop) → Prop
def q_ref_Cut (A : T_ref_Cut) (us : List W) (k : W → Prop) : Prop := match us with
  | [.s a0] => A a0 (fun r0 r1 => k (.t [.l Cd.tok r0, .l Cd.span r1]))
  | _ => False
theorem q_ref_Cut_weak {A A2 : T_ref_Cut} (h : FO 13 (q_ref_Cut A)) (hA : ∀ a0 K, A2 a0 K → A a0 K) : FO 13 (q_ref_Cut A2) := h.weak (by
  intro us k h
  unfold q_ref_Cut at h ⊢
  split at h
  · exact hA _ _ h
  · exact h.elim)

def F_ref_Cut_l4 (A19 : T_ref_Past) (A20 : T_ref_One) : Nat → Bt → Int → List Tok → List (Int × Int) → (List Tok → List (Int × Int) → Prop) → Prop
  | 0, _, _, _, _, _ => False
  | n + 1, x0, x6, b0, b1, Ke => (((decide (x6 < (x0.length : Int))) = true → (A20 x0 x6 (fun y1 y2 => ((b0.length + [(Tok.mk y1.kind y1.text y1.num y1.unit y1.flag)].length) * 56 ≤ 1099511627776 ∧ ((b1.length + [(x6, y2)].length) * 16 ≤ 1099511627776 ∧ (A19 x0 y2 (fun y3 => F_ref_Cut_l4 A19 A20 n x0 y3 (b0 ++ [(Tok.mk y1.kind y1.text y1.num y1.unit y1.flag)]) (b1 ++ [(x6, y2)]) Ke))))))) ∧ ((decide (x6 < (x0.length : Int))) = false → Ke b0 b1))

def F_ref_Cut (A19 : T_ref_Past) (A20 : T_ref_One) (a0 : Bt) (K : List Tok → List (Int × Int) → Prop) : Prop :=
  (A19 a0 (0 : Int) (fun y1 => (∃ m, F_ref_Cut_l4 A19 A20 m a0 y1 ([] : List Tok) ([] : List (Int × Int)) (fun y2 y3 => K y2 y3))))

def C_ref_Cut (A19 : T_ref_Past) (A20 : T_ref_One) : CallT sg := tab [(19, con [none, none] (q_ref_Past A19)), (20, con [none, none] (q_ref_One A20))]
theorem Cok_ref_Cut (A19 : T_ref_Past) (A20 : T_ref_One) (h19 : FO 19 (q_ref_Past A19)) (h20 : FO 20 (q_ref_One A20)) (o0 : Nat → Prop) : CalOK sy Tryz.prog GT ovD o0 GL (C_ref_Cut A19 A20) := (tab_cons (con_ok h19) (tab_cons (con_ok h20) tab_nil)) o0

def ls_ref_Cut_4 : LS sy ((Bt) × Unit × Unit × Int × Unit) (List (sg.Den Cd.tok) × List (sg.Den Cd.span) × Unit) := ⟨[.slot 4 0 Cd.tok, .slot 5 1 Cd.span], fCons 0 (vStr sy) (fCons 4 (vLit sy (.o 0)) (fCons 5 (vLit sy (.o 1)) (fCons 6 (vInt sy .i64) (fNil sy)))), hBuf 0 Cd.tok (hBuf 1 Cd.span (hNil sy)), 2, [0, 1]⟩
def le_ref_Cut_4 : LS sy (Unit × Unit × Unit) (List (sg.Den Cd.tok) × List (sg.Den Cd.span) × Unit) := ⟨[], fCons 4 (vLit sy (.o 0)) (fCons 5 (vLit sy (.o 1)) (fNil sy)), hBuf 0 Cd.tok (hBuf 1 Cd.span (hNil sy)), 2, [0, 1]⟩
def lr_ref_Cut_4 : LS sy Unit Unit := ⟨[], fNil sy, hNil sy, 0, []⟩
def FF_ref_Cut_4 (A19 : T_ref_Past) (A20 : T_ref_One) (n : Nat) (x : ((Bt) × Unit × Unit × Int × Unit) × (List (sg.Den Cd.tok) × List (sg.Den Cd.span) × Unit)) (K : Ex → Z sg → Prop) : Prop := F_ref_Cut_l4 A19 A20 n x.1.1 x.1.2.2.2.1 x.2.1 x.2.2.1 (fun y0 y1 => K (.exit 0) (le_ref_Cut_4.put (((), (), ()), (y0, y1, ()))))
def h_ref_Cut_4 (A19 : T_ref_Past) (A20 : T_ref_One) (z : Z sg) (K : Ex → Z sg → Prop) : Prop := ls_ref_Cut_4.get z (fun x => ∃ n, FF_ref_Cut_4 A19 A20 n x K)
def L_ref_Cut (A19 : T_ref_Past) (A20 : T_ref_One) : LoopT sg := tabL [(4, h_ref_Cut_4 A19 A20)]
theorem hs_ref_Cut_4 (A19 : T_ref_Past) (A20 : T_ref_One) (n : Nat) (x : ((Bt) × Unit × Unit × Int × Unit) × (List (sg.Den Cd.tok) × List (sg.Den Cd.span) × Unit)) (K : Ex → Z sg → Prop) : forceZ (ls_ref_Cut_4.put x) (fun z => sC sy Tryz.prog GT (C_ref_Cut A19 A20) (L_ref_Cut A19 A20) Tryz.f13.ntmps (nthLoop (bodyOf Tryz.f13) 0) z (rnd ls_ref_Cut_4 (czT 0 le_ref_Cut_4 lr_ref_Cut_4) (fun x => FF_ref_Cut_4 A19 A20 n x K) K)) = FF_ref_Cut_4 A19 A20 (n + 1) x K := by kernel_rfl
theorem hl_ref_Cut_4 (A19 : T_ref_Past) (A20 : T_ref_One) (z : Z sg) (K : Ex → Z sg → Prop) : (L_ref_Cut A19 A20) (nthLoop (bodyOf Tryz.f13) 0) z K = ls_ref_Cut_4.get z (fun x => ∃ n, FF_ref_Cut_4 A19 A20 n x K) := by kernel_rfl
theorem lo_ref_Cut_4 (A19 : T_ref_Past) (A20 : T_ref_One) (h19 : FO 19 (q_ref_Past A19)) (h20 : FO 20 (q_ref_One A20)) : ∀ (o0 : Nat → Prop) (B : Bs sg), B.E.length ≤ 0 → ∀ z K, (L_ref_Cut A19 A20) (nthLoop (bodyOf Tryz.f13) 0) z K → Sx.Sem sy Tryz.prog GT ovD o0 GL Tryz.f13.ntmps B (.loop (nthLoop (bodyOf Tryz.f13) 0)) z K :=
  loop_ok (Cok_ref_Cut A19 A20 h19 h20) (lp_of (l := []) (by kernel_rfl) lp_nil) ls_ref_Cut_4 (by decide) (czT 0 le_ref_Cut_4 lr_ref_Cut_4) (fun _ _ hB => czT_ok 0 le_ref_Cut_4 lr_ref_Cut_4 (Nat.le_trans hB (by decide)) (Nat.le_trans hB (by decide))) (fun _ _ h => h) (hs_ref_Cut_4 A19 A20) (hl_ref_Cut_4 A19 A20)
theorem Lp_ref_Cut (A19 : T_ref_Past) (A20 : T_ref_One) (h19 : FO 19 (q_ref_Past A19)) (h20 : FO 20 (q_ref_One A20)) : LpOK sy Tryz.prog GT ovD GL (L_ref_Cut A19 A20) 0 Tryz.f13.ntmps (bodyOf Tryz.f13) := lp_of (l := [(nthLoop (bodyOf Tryz.f13) 0)]) (by kernel_rfl) (lp_cons (lo_ref_Cut_4 A19 A20 h19 h20) lp_nil)


theorem raw_ref_Cut (A19 : T_ref_Past) (A20 : T_ref_One) (a0 : Bt) (k : W → Prop) : fnT sy Tryz.prog GT (C_ref_Cut A19 A20) (L_ref_Cut A19 A20) Tryz.f13.ntmps (bodyOf Tryz.f13) [some Cd.tok, some Cd.span] Tryz.f13.results.toList [.s a0] k = F_ref_Cut A19 A20 a0 (fun r0 r1 => k (.t [.l Cd.tok r0, .l Cd.span r1])) := by kernel_rfl

theorem ok_ref_Cut (A19 : T_ref_Past) (A20 : T_ref_One) (h19 : FO 19 (q_ref_Past A19)) (h20 : FO 20 (q_ref_One A20)) : FO 13 (q_ref_Cut (F_ref_Cut A19 A20)) := (fn_ok (rc := [some Cd.tok, some Cd.span]) (f := 13) (fn := Tryz.f13) (c := bodyOf Tryz.f13) (nt := Tryz.f13.ntmps) (res := Tryz.f13.results.toList) (C := C_ref_Cut A19 A20) (L := (L_ref_Cut A19 A20)) (fun _ => rfl) Tryz.func13 (by kernel_rfl) rfl rfl (Cok_ref_Cut A19 A20 h19 h20) (Lp_ref_Cut A19 A20 h19 h20)).weak (by
  intro us k h
  unfold q_ref_Cut at h
  split at h
  · skip
    rename_i a0
    rw [raw_ref_Cut A19 A20 a0 k]
    exact h
  · exact h.elim)

abbrev T_ref_Cleaned := Bt → (Bt → Prop) → Prop
def q_ref_Cleaned (A : T_ref_Cleaned) (us : List W) (k : W → Prop) : Prop := match us with
  | [.s a0] => A a0 (fun r0 => k (.s r0))
  | _ => False
theorem q_ref_Cleaned_weak {A A2 : T_ref_Cleaned} (h : FO 18 (q_ref_Cleaned A)) (hA : ∀ a0 K, A2 a0 K → A a0 K) : FO 18 (q_ref_Cleaned A2) := h.weak (by
  intro us k h
  unfold q_ref_Cleaned at h ⊢
  split at h
  · exact hA _ _ h
  · exact h.elim)

def F_ref_Cleaned_l3 : Nat → Bt → Bt → Int → (Bt → Prop) → Prop
  | 0, _, _, _, _ => False
  | n + 1, x0, x3, x4, Ke => (((decide (x4 < (x0.length : Int))) = true → ((0 ≤ x4 ∧ x4 < (x0.length : Int)) ∧ (((decide (((x0.getD x4.toNat 0).toNat : Int) = (10 : Int))) = true → (((decide ((0 : Int) < x4)) = true → (I64 (x4 - 1) ∧ ((0 ≤ (x4 - 1) ∧ (x4 - 1) < (x0.length : Int)) ∧ (((decide (((x0.getD (x4 - 1).toNat 0).toNat : Int) = (13 : Int))) = true → (I64 (x4 + 1) ∧ F_ref_Cleaned_l3 n x0 x3 (x4 + 1) Ke)) ∧ ((decide (((x0.getD (x4 - 1).toNat 0).toNat : Int) = (13 : Int))) = false → (((decide (((x0.getD x4.toNat 0).toNat : Int) = (13 : Int))) = false → (((decide (((x0.getD x4.toNat 0).toNat : Int) = (12 : Int))) = true → (((decide ((10 : Int) = (0 : Int))) = true → ((0 ≤ (239 : Int) ∧ (239 : Int) ≤ 255) ∧ ((0 ≤ (191 : Int) ∧ (191 : Int) ≤ 255) ∧ ((0 ≤ (189 : Int) ∧ (189 : Int) ≤ 255) ∧ (x3.length + [UInt8.ofNat 239, UInt8.ofNat 191, UInt8.ofNat 189].length ≤ 1099511627776 ∧ (I64 (x4 + 1) ∧ F_ref_Cleaned_l3 n x0 (x3 ++ [UInt8.ofNat 239, UInt8.ofNat 191, UInt8.ofNat 189]) (x4 + 1) Ke)))))) ∧ ((decide ((10 : Int) = (0 : Int))) = false → ((0 ≤ (10 : Int) ∧ (10 : Int) ≤ 255) ∧ (x3.length + [UInt8.ofNat 10].length ≤ 1099511627776 ∧ (I64 (x4 + 1) ∧ F_ref_Cleaned_l3 n x0 (x3 ++ [UInt8.ofNat 10]) (x4 + 1) Ke)))))) ∧ ((decide (((x0.getD x4.toNat 0).toNat : Int) = (12 : Int))) = false → (((decide (((x0.getD x4.toNat 0).toNat : Int) = (0 : Int))) = true → ((0 ≤ (239 : Int) ∧ (239 : Int) ≤ 255) ∧ ((0 ≤ (191 : Int) ∧ (191 : Int) ≤ 255) ∧ ((0 ≤ (189 : Int) ∧ (189 : Int) ≤ 255) ∧ (x3.length + [UInt8.ofNat 239, UInt8.ofNat 191, UInt8.ofNat 189].length ≤ 1099511627776 ∧ (I64 (x4 + 1) ∧ F_ref_Cleaned_l3 n x0 (x3 ++ [UInt8.ofNat 239, UInt8.ofNat 191, UInt8.ofNat 189]) (x4 + 1) Ke)))))) ∧ ((decide (((x0.getD x4.toNat 0).toNat : Int) = (0 : Int))) = false → ((0 ≤ ((x0.getD x4.toNat 0).toNat : Int) ∧ ((x0.getD x4.toNat 0).toNat : Int) ≤ 255) ∧ (x3.length + [UInt8.ofNat (((x0.getD x4.toNat 0).toNat : Int).toNat)].length ≤ 1099511627776 ∧ (I64 (x4 + 1) ∧ F_ref_Cleaned_l3 n x0 (x3 ++ [UInt8.ofNat (((x0.getD x4.toNat 0).toNat : Int).toNat)]) (x4 + 1) Ke)))))))) ∧ ((decide (((x0.getD x4.toNat 0).toNat : Int) = (13 : Int))) = true → (((decide ((10 : Int) = (0 : Int))) = true → ((0 ≤ (239 : Int) ∧ (239 : Int) ≤ 255) ∧ ((0 ≤ (191 : Int) ∧ (191 : Int) ≤ 255) ∧ ((0 ≤ (189 : Int) ∧ (189 : Int) ≤ 255) ∧ (x3.length + [UInt8.ofNat 239, UInt8.ofNat 191, UInt8.ofNat 189].length ≤ 1099511627776 ∧ (I64 (x4 + 1) ∧ F_ref_Cleaned_l3 n x0 (x3 ++ [UInt8.ofNat 239, UInt8.ofNat 191, UInt8.ofNat 189]) (x4 + 1) Ke)))))) ∧ ((decide ((10 : Int) = (0 : Int))) = false → ((0 ≤ (10 : Int) ∧ (10 : Int) ≤ 255) ∧ (x3.length + [UInt8.ofNat 10].length ≤ 1099511627776 ∧ (I64 (x4 + 1) ∧ F_ref_Cleaned_l3 n x0 (x3 ++ [UInt8.ofNat 10]) (x4 + 1) Ke)))))))))))) ∧ ((decide ((0 : Int) < x4)) = false → (((decide (((x0.getD x4.toNat 0).toNat : Int) = (13 : Int))) = false → (((decide (((x0.getD x4.toNat 0).toNat : Int) = (12 : Int))) = true → (((decide ((10 : Int) = (0 : Int))) = true → ((0 ≤ (239 : Int) ∧ (239 : Int) ≤ 255) ∧ ((0 ≤ (191 : Int) ∧ (191 : Int) ≤ 255) ∧ ((0 ≤ (189 : Int) ∧ (189 : Int) ≤ 255) ∧ (x3.length + [UInt8.ofNat 239, UInt8.ofNat 191, UInt8.ofNat 189].length ≤ 1099511627776 ∧ (I64 (x4 + 1) ∧ F_ref_Cleaned_l3 n x0 (x3 ++ [UInt8.ofNat 239, UInt8.ofNat 191, UInt8.ofNat 189]) (x4 + 1) Ke)))))) ∧ ((decide ((10 : Int) = (0 : Int))) = false → ((0 ≤ (10 : Int) ∧ (10 : Int) ≤ 255) ∧ (x3.length + [UInt8.ofNat 10].length ≤ 1099511627776 ∧ (I64 (x4 + 1) ∧ F_ref_Cleaned_l3 n x0 (x3 ++ [UInt8.ofNat 10]) (x4 + 1) Ke)))))) ∧ ((decide (((x0.getD x4.toNat 0).toNat : Int) = (12 : Int))) = false → (((decide (((x0.getD x4.toNat 0).toNat : Int) = (0 : Int))) = true → ((0 ≤ (239 : Int) ∧ (239 : Int) ≤ 255) ∧ ((0 ≤ (191 : Int) ∧ (191 : Int) ≤ 255) ∧ ((0 ≤ (189 : Int) ∧ (189 : Int) ≤ 255) ∧ (x3.length + [UInt8.ofNat 239, UInt8.ofNat 191, UInt8.ofNat 189].length ≤ 1099511627776 ∧ (I64 (x4 + 1) ∧ F_ref_Cleaned_l3 n x0 (x3 ++ [UInt8.ofNat 239, UInt8.ofNat 191, UInt8.ofNat 189]) (x4 + 1) Ke)))))) ∧ ((decide (((x0.getD x4.toNat 0).toNat : Int) = (0 : Int))) = false → ((0 ≤ ((x0.getD x4.toNat 0).toNat : Int) ∧ ((x0.getD x4.toNat 0).toNat : Int) ≤ 255) ∧ (x3.length + [UInt8.ofNat (((x0.getD x4.toNat 0).toNat : Int).toNat)].length ≤ 1099511627776 ∧ (I64 (x4 + 1) ∧ F_ref_Cleaned_l3 n x0 (x3 ++ [UInt8.ofNat (((x0.getD x4.toNat 0).toNat : Int).toNat)]) (x4 + 1) Ke)))))))) ∧ ((decide (((x0.getD x4.toNat 0).toNat : Int) = (13 : Int))) = true → (((decide ((10 : Int) = (0 : Int))) = true → ((0 ≤ (239 : Int) ∧ (239 : Int) ≤ 255) ∧ ((0 ≤ (191 : Int) ∧ (191 : Int) ≤ 255) ∧ ((0 ≤ (189 : Int) ∧ (189 : Int) ≤ 255) ∧ (x3.length + [UInt8.ofNat 239, UInt8.ofNat 191, UInt8.ofNat 189].length ≤ 1099511627776 ∧ (I64 (x4 + 1) ∧ F_ref_Cleaned_l3 n x0 (x3 ++ [UInt8.ofNat 239, UInt8.ofNat 191, UInt8.ofNat 189]) (x4 + 1) Ke)))))) ∧ ((decide ((10 : Int) = (0 : Int))) = false → ((0 ≤ (10 : Int) ∧ (10 : Int) ≤ 255) ∧ (x3.length + [UInt8.ofNat 10].length ≤ 1099511627776 ∧ (I64 (x4 + 1) ∧ F_ref_Cleaned_l3 n x0 (x3 ++ [UInt8.ofNat 10]) (x4 + 1) Ke)))))))))) ∧ ((decide (((x0.getD x4.toNat 0).toNat : Int) = (10 : Int))) = false → (((decide (((x0.getD x4.toNat 0).toNat : Int) = (13 : Int))) = false → (((decide (((x0.getD x4.toNat 0).toNat : Int) = (12 : Int))) = true → (((decide ((10 : Int) = (0 : Int))) = true → ((0 ≤ (239 : Int) ∧ (239 : Int) ≤ 255) ∧ ((0 ≤ (191 : Int) ∧ (191 : Int) ≤ 255) ∧ ((0 ≤ (189 : Int) ∧ (189 : Int) ≤ 255) ∧ (x3.length + [UInt8.ofNat 239, UInt8.ofNat 191, UInt8.ofNat 189].length ≤ 1099511627776 ∧ (I64 (x4 + 1) ∧ F_ref_Cleaned_l3 n x0 (x3 ++ [UInt8.ofNat 239, UInt8.ofNat 191, UInt8.ofNat 189]) (x4 + 1) Ke)))))) ∧ ((decide ((10 : Int) = (0 : Int))) = false → ((0 ≤ (10 : Int) ∧ (10 : Int) ≤ 255) ∧ (x3.length + [UInt8.ofNat 10].length ≤ 1099511627776 ∧ (I64 (x4 + 1) ∧ F_ref_Cleaned_l3 n x0 (x3 ++ [UInt8.ofNat 10]) (x4 + 1) Ke)))))) ∧ ((decide (((x0.getD x4.toNat 0).toNat : Int) = (12 : Int))) = false → (((decide (((x0.getD x4.toNat 0).toNat : Int) = (0 : Int))) = true → ((0 ≤ (239 : Int) ∧ (239 : Int) ≤ 255) ∧ ((0 ≤ (191 : Int) ∧ (191 : Int) ≤ 255) ∧ ((0 ≤ (189 : Int) ∧ (189 : Int) ≤ 255) ∧ (x3.length + [UInt8.ofNat 239, UInt8.ofNat 191, UInt8.ofNat 189].length ≤ 1099511627776 ∧ (I64 (x4 + 1) ∧ F_ref_Cleaned_l3 n x0 (x3 ++ [UInt8.ofNat 239, UInt8.ofNat 191, UInt8.ofNat 189]) (x4 + 1) Ke)))))) ∧ ((decide (((x0.getD x4.toNat 0).toNat : Int) = (0 : Int))) = false → ((0 ≤ ((x0.getD x4.toNat 0).toNat : Int) ∧ ((x0.getD x4.toNat 0).toNat : Int) ≤ 255) ∧ (x3.length + [UInt8.ofNat (((x0.getD x4.toNat 0).toNat : Int).toNat)].length ≤ 1099511627776 ∧ (I64 (x4 + 1) ∧ F_ref_Cleaned_l3 n x0 (x3 ++ [UInt8.ofNat (((x0.getD x4.toNat 0).toNat : Int).toNat)]) (x4 + 1) Ke)))))))) ∧ ((decide (((x0.getD x4.toNat 0).toNat : Int) = (13 : Int))) = true → (((decide ((10 : Int) = (0 : Int))) = true → ((0 ≤ (239 : Int) ∧ (239 : Int) ≤ 255) ∧ ((0 ≤ (191 : Int) ∧ (191 : Int) ≤ 255) ∧ ((0 ≤ (189 : Int) ∧ (189 : Int) ≤ 255) ∧ (x3.length + [UInt8.ofNat 239, UInt8.ofNat 191, UInt8.ofNat 189].length ≤ 1099511627776 ∧ (I64 (x4 + 1) ∧ F_ref_Cleaned_l3 n x0 (x3 ++ [UInt8.ofNat 239, UInt8.ofNat 191, UInt8.ofNat 189]) (x4 + 1) Ke)))))) ∧ ((decide ((10 : Int) = (0 : Int))) = false → ((0 ≤ (10 : Int) ∧ (10 : Int) ≤ 255) ∧ (x3.length + [UInt8.ofNat 10].length ≤ 1099511627776 ∧ (I64 (x4 + 1) ∧ F_ref_Cleaned_l3 n x0 (x3 ++ [UInt8.ofNat 10]) (x4 + 1) Ke))))))))))) ∧ ((decide (x4 < (x0.length : Int))) = false → Ke x3))

def F_ref_Cleaned (a0 : Bt) (K : Bt → Prop) : Prop :=
  (∃ m, F_ref_Cleaned_l3 m a0 ([] : Bt) (0 : Int) (fun y1 => K y1))

def C_ref_Cleaned : CallT sg := tab []
theorem Cok_ref_Cleaned (o0 : Nat → Prop) : CalOK sy Tryz.prog GT ovD o0 GL (C_ref_Cleaned) := tab_nil o0

def ls_ref_Cleaned_3 : LS sy ((Bt) × (Bt) × Int × Unit) Unit := ⟨[], fCons 0 (vStr sy) (fCons 3 (vStr sy) (fCons 4 (vInt sy .i64) (fNil sy))), hNil sy, 0, []⟩
def le_ref_Cleaned_3 : LS sy ((Bt) × Unit) Unit := ⟨[], fCons 3 (vStr sy) (fNil sy), hNil sy, 0, []⟩
def lr_ref_Cleaned_3 : LS sy Unit Unit := ⟨[], fNil sy, hNil sy, 0, []⟩
def FF_ref_Cleaned_3 (n : Nat) (x : ((Bt) × (Bt) × Int × Unit) × Unit) (K : Ex → Z sg → Prop) : Prop := F_ref_Cleaned_l3 n x.1.1 x.1.2.1 x.1.2.2.1 (fun y0 => K (.exit 0) (le_ref_Cleaned_3.put ((y0, ()), ())))
def h_ref_Cleaned_3 (z : Z sg) (K : Ex → Z sg → Prop) : Prop := ls_ref_Cleaned_3.get z (fun x => ∃ n, FF_ref_Cleaned_3 n x K)
def L_ref_Cleaned : LoopT sg := tabL [(3, h_ref_Cleaned_3)]
theorem hs_ref_Cleaned_3 (n : Nat) (x : ((Bt) × (Bt) × Int × Unit) × Unit) (K : Ex → Z sg → Prop) : forceZ (ls_ref_Cleaned_3.put x) (fun z => sC sy Tryz.prog GT (C_ref_Cleaned) (L_ref_Cleaned) Tryz.f18.ntmps (nthLoop (bodyOf Tryz.f18) 0) z (rnd ls_ref_Cleaned_3 (czT 0 le_ref_Cleaned_3 lr_ref_Cleaned_3) (fun x => FF_ref_Cleaned_3 n x K) K)) = FF_ref_Cleaned_3 (n + 1) x K := by kernel_rfl
theorem hl_ref_Cleaned_3 (z : Z sg) (K : Ex → Z sg → Prop) : (L_ref_Cleaned) (nthLoop (bodyOf Tryz.f18) 0) z K = ls_ref_Cleaned_3.get z (fun x => ∃ n, FF_ref_Cleaned_3 n x K) := by kernel_rfl
theorem lo_ref_Cleaned_3 : ∀ (o0 : Nat → Prop) (B : Bs sg), B.E.length ≤ 0 → ∀ z K, (L_ref_Cleaned) (nthLoop (bodyOf Tryz.f18) 0) z K → Sx.Sem sy Tryz.prog GT ovD o0 GL Tryz.f18.ntmps B (.loop (nthLoop (bodyOf Tryz.f18) 0)) z K :=
  loop_ok (Cok_ref_Cleaned) (lp_of (l := []) (by kernel_rfl) lp_nil) ls_ref_Cleaned_3 (by decide) (czT 0 le_ref_Cleaned_3 lr_ref_Cleaned_3) (fun _ _ hB => czT_ok 0 le_ref_Cleaned_3 lr_ref_Cleaned_3 (Nat.le_trans hB (by decide)) (Nat.le_trans hB (by decide))) (fun _ _ h => h) (hs_ref_Cleaned_3) (hl_ref_Cleaned_3)
theorem Lp_ref_Cleaned : LpOK sy Tryz.prog GT ovD GL (L_ref_Cleaned) 0 Tryz.f18.ntmps (bodyOf Tryz.f18) := lp_of (l := [(nthLoop (bodyOf Tryz.f18) 0)]) (by kernel_rfl) (lp_cons (lo_ref_Cleaned_3) lp_nil)


theorem raw_ref_Cleaned (a0 : Bt) (k : W → Prop) : fnT sy Tryz.prog GT (C_ref_Cleaned) (L_ref_Cleaned) Tryz.f18.ntmps (bodyOf Tryz.f18) [none] Tryz.f18.results.toList [.s a0] k = F_ref_Cleaned a0 (fun r0 => k (.s r0)) := by kernel_rfl

theorem ok_ref_Cleaned : FO 18 (q_ref_Cleaned (F_ref_Cleaned)) := (fn_ok (rc := [none]) (f := 18) (fn := Tryz.f18) (c := bodyOf Tryz.f18) (nt := Tryz.f18.ntmps) (res := Tryz.f18.results.toList) (C := C_ref_Cleaned) (L := (L_ref_Cleaned)) (fun _ => rfl) Tryz.func18 (by kernel_rfl) rfl rfl (Cok_ref_Cleaned) (Lp_ref_Cleaned)).weak (by
  intro us k h
  unfold q_ref_Cleaned at h
  split at h
  · skip
    rename_i a0
    rw [raw_ref_Cleaned a0 k]
    exact h
  · exact h.elim)

abbrev T_ref_Clean := Bt → (Bt → Int → Prop) → Prop
def q_ref_Clean (A : T_ref_Clean) (us : List W) (k : W → Prop) : Prop := match us with
  | [.s a0] => A a0 (fun r0 r1 => k (.t [.s r0, .i .i64 r1]))
  | _ => False
theorem q_ref_Clean_weak {A A2 : T_ref_Clean} (h : FO 12 (q_ref_Clean A)) (hA : ∀ a0 K, A2 a0 K → A a0 K) : FO 12 (q_ref_Clean A2) := h.weak (by
  intro us k h
  unfold q_ref_Clean at h ⊢
  split at h
  · exact hA _ _ h
  · exact h.elim)

def F_ref_Clean (A18 : T_ref_Cleaned) (a0 : Bt) (K : Bt → Int → Prop) : Prop :=
  (((decide ((4000 : Int) < (a0.length : Int))) = true → K ([] : Bt) (28 : Int)) ∧ ((decide ((4000 : Int) < (a0.length : Int))) = false → (A18 a0 (fun y1 => K y1 (0 : Int)))))

def C_ref_Clean (A18 : T_ref_Cleaned) : CallT sg := tab [(18, con [none] (q_ref_Cleaned A18))]
theorem Cok_ref_Clean (A18 : T_ref_Cleaned) (h18 : FO 18 (q_ref_Cleaned A18)) (o0 : Nat → Prop) : CalOK sy Tryz.prog GT ovD o0 GL (C_ref_Clean A18) := (tab_cons (con_ok h18) tab_nil) o0

theorem raw_ref_Clean (A18 : T_ref_Cleaned) (a0 : Bt) (k : W → Prop) : fnT sy Tryz.prog GT (C_ref_Clean A18) noL Tryz.f12.ntmps (bodyOf Tryz.f12) [none, none] Tryz.f12.results.toList [.s a0] k = F_ref_Clean A18 a0 (fun r0 r1 => k (.t [.s r0, .i .i64 r1])) := by kernel_rfl

theorem ok_ref_Clean (A18 : T_ref_Cleaned) (h18 : FO 18 (q_ref_Cleaned A18)) : FO 12 (q_ref_Clean (F_ref_Clean A18)) := (fn_ok (rc := [none, none]) (f := 12) (fn := Tryz.f12) (c := bodyOf Tryz.f12) (nt := Tryz.f12.ntmps) (res := Tryz.f12.results.toList) (C := C_ref_Clean A18) (L := noL) (fun _ => rfl) Tryz.func12 (by kernel_rfl) rfl rfl (Cok_ref_Clean A18 h18) (lp_of (l := []) (by kernel_rfl) lp_nil)).weak (by
  intro us k h
  unfold q_ref_Clean at h
  split at h
  · skip
    rename_i a0
    rw [raw_ref_Clean A18 a0 k]
    exact h
  · exact h.elim)

abbrev T_ref_Tokens := Bt → (List Tok → Int → Prop) → Prop
def q_ref_Tokens (A : T_ref_Tokens) (us : List W) (k : W → Prop) : Prop := match us with
  | [.s a0] => A a0 (fun r0 r1 => k (.t [.l Cd.tok r0, .i .i64 r1]))
  | _ => False
theorem q_ref_Tokens_weak {A A2 : T_ref_Tokens} (h : FO 5 (q_ref_Tokens A)) (hA : ∀ a0 K, A2 a0 K → A a0 K) : FO 5 (q_ref_Tokens A2) := h.weak (by
  intro us k h
  unfold q_ref_Tokens at h ⊢
  split at h
  · exact hA _ _ h
  · exact h.elim)

def F_ref_Tokens (A12 : T_ref_Clean) (A13 : T_ref_Cut) (a0 : Bt) (K : List Tok → Int → Prop) : Prop :=
  (A12 a0 (fun y1 y2 => (((decide (y2 ≠ 0)) = true → K ([] : List Tok) y2) ∧ ((decide (y2 ≠ 0)) = false → (A13 y1 (fun y3 y4 => (((decide ((1500 : Int) < (y3.length : Int))) = true → K ([] : List Tok) (4 : Int)) ∧ ((decide ((1500 : Int) < (y3.length : Int))) = false → K y3 (0 : Int)))))))))

def C_ref_Tokens (A12 : T_ref_Clean) (A13 : T_ref_Cut) : CallT sg := tab [(12, con [none] (q_ref_Clean A12)), (13, con [none] (q_ref_Cut A13))]
theorem Cok_ref_Tokens (A12 : T_ref_Clean) (A13 : T_ref_Cut) (h12 : FO 12 (q_ref_Clean A12)) (h13 : FO 13 (q_ref_Cut A13)) (o0 : Nat → Prop) : CalOK sy Tryz.prog GT ovD o0 GL (C_ref_Tokens A12 A13) := (tab_cons (con_ok h12) (tab_cons (con_ok h13) tab_nil)) o0

theorem raw_ref_Tokens (A12 : T_ref_Clean) (A13 : T_ref_Cut) (a0 : Bt) (k : W → Prop) : fnT sy Tryz.prog GT (C_ref_Tokens A12 A13) noL Tryz.f5.ntmps (bodyOf Tryz.f5) [some Cd.tok, none] Tryz.f5.results.toList [.s a0] k = F_ref_Tokens A12 A13 a0 (fun r0 r1 => k (.t [.l Cd.tok r0, .i .i64 r1])) := by kernel_rfl

theorem ok_ref_Tokens (A12 : T_ref_Clean) (A13 : T_ref_Cut) (h12 : FO 12 (q_ref_Clean A12)) (h13 : FO 13 (q_ref_Cut A13)) : FO 5 (q_ref_Tokens (F_ref_Tokens A12 A13)) := (fn_ok (rc := [some Cd.tok, none]) (f := 5) (fn := Tryz.f5) (c := bodyOf Tryz.f5) (nt := Tryz.f5.ntmps) (res := Tryz.f5.results.toList) (C := C_ref_Tokens A12 A13) (L := noL) (fun _ => rfl) Tryz.func5 (by kernel_rfl) rfl rfl (Cok_ref_Tokens A12 A13 h12 h13) (lp_of (l := []) (by kernel_rfl) lp_nil)).weak (by
  intro us k h
  unfold q_ref_Tokens at h
  split at h
  · skip
    rename_i a0
    rw [raw_ref_Tokens A12 A13 a0 k]
    exact h
  · exact h.elim)

abbrev T_ref_Spans := Bt → (List (Int × Int) → Int → Prop) → Prop
def q_ref_Spans (A : T_ref_Spans) (us : List W) (k : W → Prop) : Prop := match us with
  | [.s a0] => A a0 (fun r0 r1 => k (.t [.l Cd.span r0, .i .i64 r1]))
  | _ => False
theorem q_ref_Spans_weak {A A2 : T_ref_Spans} (h : FO 7 (q_ref_Spans A)) (hA : ∀ a0 K, A2 a0 K → A a0 K) : FO 7 (q_ref_Spans A2) := h.weak (by
  intro us k h
  unfold q_ref_Spans at h ⊢
  split at h
  · exact hA _ _ h
  · exact h.elim)

def F_ref_Spans (A12 : T_ref_Clean) (A13 : T_ref_Cut) (a0 : Bt) (K : List (Int × Int) → Int → Prop) : Prop :=
  (A12 a0 (fun y1 y2 => (((decide (y2 ≠ 0)) = true → K ([] : List (Int × Int)) y2) ∧ ((decide (y2 ≠ 0)) = false → (A13 y1 (fun y3 y4 => (((decide ((1500 : Int) < (y4.length : Int))) = true → K ([] : List (Int × Int)) (4 : Int)) ∧ ((decide ((1500 : Int) < (y4.length : Int))) = false → K y4 (0 : Int)))))))))

def C_ref_Spans (A12 : T_ref_Clean) (A13 : T_ref_Cut) : CallT sg := tab [(12, con [none] (q_ref_Clean A12)), (13, con [none] (q_ref_Cut A13))]
theorem Cok_ref_Spans (A12 : T_ref_Clean) (A13 : T_ref_Cut) (h12 : FO 12 (q_ref_Clean A12)) (h13 : FO 13 (q_ref_Cut A13)) (o0 : Nat → Prop) : CalOK sy Tryz.prog GT ovD o0 GL (C_ref_Spans A12 A13) := (tab_cons (con_ok h12) (tab_cons (con_ok h13) tab_nil)) o0

theorem raw_ref_Spans (A12 : T_ref_Clean) (A13 : T_ref_Cut) (a0 : Bt) (k : W → Prop) : fnT sy Tryz.prog GT (C_ref_Spans A12 A13) noL Tryz.f7.ntmps (bodyOf Tryz.f7) [some Cd.span, none] Tryz.f7.results.toList [.s a0] k = F_ref_Spans A12 A13 a0 (fun r0 r1 => k (.t [.l Cd.span r0, .i .i64 r1])) := by kernel_rfl

theorem ok_ref_Spans (A12 : T_ref_Clean) (A13 : T_ref_Cut) (h12 : FO 12 (q_ref_Clean A12)) (h13 : FO 13 (q_ref_Cut A13)) : FO 7 (q_ref_Spans (F_ref_Spans A12 A13)) := (fn_ok (rc := [some Cd.span, none]) (f := 7) (fn := Tryz.f7) (c := bodyOf Tryz.f7) (nt := Tryz.f7.ntmps) (res := Tryz.f7.results.toList) (C := C_ref_Spans A12 A13) (L := noL) (fun _ => rfl) Tryz.func7 (by kernel_rfl) rfl rfl (Cok_ref_Spans A12 A13 h12 h13) (lp_of (l := []) (by kernel_rfl) lp_nil)).weak (by
  intro us k h
  unfold q_ref_Spans at h
  split at h
  · skip
    rename_i a0
    rw [raw_ref_Spans A12 A13 a0 k]
    exact h
  · exact h.elim)

abbrev T_ref_Same := List Tok → List Tok → (Bool → Prop) → Prop
def q_ref_Same (A : T_ref_Same) (us : List W) (k : W → Prop) : Prop := match us with
  | [.l Cd.tok a0, .l Cd.tok a1] => A a0 a1 (fun r0 => k (.b r0))
  | _ => False
theorem q_ref_Same_weak {A A2 : T_ref_Same} (h : FO 8 (q_ref_Same A)) (hA : ∀ a0 a1 K, A2 a0 a1 K → A a0 a1 K) : FO 8 (q_ref_Same A2) := h.weak (by
  intro us k h
  unfold q_ref_Same at h ⊢
  split at h
  · exact hA _ _ _ h
  · exact h.elim)

def F_ref_Same_l4 : Nat → List Tok → List Tok → Int → (Unit → Prop) → (Bool → Prop) → Prop
  | 0, _, _, _, _, _ => False
  | n + 1, x0, x1, x5, Ke, Kr => (((decide (x5 < (x0.length : Int))) = true → ((0 ≤ x5 ∧ x5 < (x0.length : Int)) ∧ ((0 ≤ x5 ∧ x5 < (x1.length : Int)) ∧ (((!(decide ((x0.getD x5.toNat (dfltD Cd.tok)).kind = (x1.getD x5.toNat (dfltD Cd.tok)).kind) && ((((x0.getD x5.toNat (dfltD Cd.tok)).text) == ((x1.getD x5.toNat (dfltD Cd.tok)).text)) && (decide ((x0.getD x5.toNat (dfltD Cd.tok)).num = (x1.getD x5.toNat (dfltD Cd.tok)).num) && ((((x0.getD x5.toNat (dfltD Cd.tok)).unit) == ((x1.getD x5.toNat (dfltD Cd.tok)).unit)) && ((((x0.getD x5.toNat (dfltD Cd.tok)).flag) == ((x1.getD x5.toNat (dfltD Cd.tok)).flag)) && true)))))) = true → Kr false) ∧ ((!(decide ((x0.getD x5.toNat (dfltD Cd.tok)).kind = (x1.getD x5.toNat (dfltD Cd.tok)).kind) && ((((x0.getD x5.toNat (dfltD Cd.tok)).text) == ((x1.getD x5.toNat (dfltD Cd.tok)).text)) && (decide ((x0.getD x5.toNat (dfltD Cd.tok)).num = (x1.getD x5.toNat (dfltD Cd.tok)).num) && ((((x0.getD x5.toNat (dfltD Cd.tok)).unit) == ((x1.getD x5.toNat (dfltD Cd.tok)).unit)) && ((((x0.getD x5.toNat (dfltD Cd.tok)).flag) == ((x1.getD x5.toNat (dfltD Cd.tok)).flag)) && true)))))) = false → (I64 (x5 + 1) ∧ F_ref_Same_l4 n x0 x1 (x5 + 1) Ke Kr)))))) ∧ ((decide (x5 < (x0.length : Int))) = false → Ke ()))

def F_ref_Same (a0 : List Tok) (a1 : List Tok) (K : Bool → Prop) : Prop :=
  (((decide ((a0.length : Int) ≠ (a1.length : Int))) = true → K false) ∧ ((decide ((a0.length : Int) ≠ (a1.length : Int))) = false → (∃ m, F_ref_Same_l4 m a0 a1 (0 : Int) (fun _ => K true) (fun y1 => K y1))))

def C_ref_Same : CallT sg := tab []
theorem Cok_ref_Same (o0 : Nat → Prop) : CalOK sy Tryz.prog GT ovD o0 GL (C_ref_Same) := tab_nil o0

def ls_ref_Same_4 : LS sy ((List (sg.Den Cd.tok)) × (List (sg.Den Cd.tok)) × Int × Unit) Unit := ⟨[], fCons 0 (vData sy Cd.tok) (fCons 1 (vData sy Cd.tok) (fCons 5 (vInt sy .i64) (fNil sy))), hNil sy, 0, []⟩
def le_ref_Same_4 : LS sy Unit Unit := ⟨[], fNil sy, hNil sy, 0, []⟩
def lr_ref_Same_4 : LS sy (Bool × Unit) Unit := ⟨[], fCons 4 (vBool sy) (fNil sy), hNil sy, 0, []⟩
def FF_ref_Same_4 (n : Nat) (x : ((List (sg.Den Cd.tok)) × (List (sg.Den Cd.tok)) × Int × Unit) × Unit) (K : Ex → Z sg → Prop) : Prop := F_ref_Same_l4 n x.1.1 x.1.2.1 x.1.2.2.1 (fun _ => K (.exit 0) (le_ref_Same_4.put ((), ()))) (fun y0 => K .ret (lr_ref_Same_4.put ((y0, ()), ())))
def h_ref_Same_4 (z : Z sg) (K : Ex → Z sg → Prop) : Prop := ls_ref_Same_4.get z (fun x => ∃ n, FF_ref_Same_4 n x K)
def L_ref_Same : LoopT sg := tabL [(4, h_ref_Same_4)]
theorem hs_ref_Same_4 (n : Nat) (x : ((List (sg.Den Cd.tok)) × (List (sg.Den Cd.tok)) × Int × Unit) × Unit) (K : Ex → Z sg → Prop) : forceZ (ls_ref_Same_4.put x) (fun z => sC sy Tryz.prog GT (C_ref_Same) (L_ref_Same) Tryz.f8.ntmps (nthLoop (bodyOf Tryz.f8) 0) z (rnd ls_ref_Same_4 (czT 0 le_ref_Same_4 lr_ref_Same_4) (fun x => FF_ref_Same_4 n x K) K)) = FF_ref_Same_4 (n + 1) x K := by kernel_rfl
theorem hl_ref_Same_4 (z : Z sg) (K : Ex → Z sg → Prop) : (L_ref_Same) (nthLoop (bodyOf Tryz.f8) 0) z K = ls_ref_Same_4.get z (fun x => ∃ n, FF_ref_Same_4 n x K) := by kernel_rfl
theorem lo_ref_Same_4 : ∀ (o0 : Nat → Prop) (B : Bs sg), B.E.length ≤ 0 → ∀ z K, (L_ref_Same) (nthLoop (bodyOf Tryz.f8) 0) z K → Sx.Sem sy Tryz.prog GT ovD o0 GL Tryz.f8.ntmps B (.loop (nthLoop (bodyOf Tryz.f8) 0)) z K :=
  loop_ok (Cok_ref_Same) (lp_of (l := []) (by kernel_rfl) lp_nil) ls_ref_Same_4 (by decide) (czT 0 le_ref_Same_4 lr_ref_Same_4) (fun _ _ hB => czT_ok 0 le_ref_Same_4 lr_ref_Same_4 (Nat.le_trans hB (by decide)) (Nat.le_trans hB (by decide))) (fun _ _ h => h) (hs_ref_Same_4) (hl_ref_Same_4)
theorem Lp_ref_Same : LpOK sy Tryz.prog GT ovD GL (L_ref_Same) 0 Tryz.f8.ntmps (bodyOf Tryz.f8) := lp_of (l := [(nthLoop (bodyOf Tryz.f8) 0)]) (by kernel_rfl) (lp_cons (lo_ref_Same_4) lp_nil)


theorem raw_ref_Same (a0 : List Tok) (a1 : List Tok) (k : W → Prop) : fnT sy Tryz.prog GT (C_ref_Same) (L_ref_Same) Tryz.f8.ntmps (bodyOf Tryz.f8) [none] Tryz.f8.results.toList [.l Cd.tok a0, .l Cd.tok a1] k = F_ref_Same a0 a1 (fun r0 => k (.b r0)) := by kernel_rfl

theorem ok_ref_Same : FO 8 (q_ref_Same (F_ref_Same)) := (fn_ok (rc := [none]) (f := 8) (fn := Tryz.f8) (c := bodyOf Tryz.f8) (nt := Tryz.f8.ntmps) (res := Tryz.f8.results.toList) (C := C_ref_Same) (L := (L_ref_Same)) (fun _ => rfl) Tryz.func8 (by kernel_rfl) rfl rfl (Cok_ref_Same) (Lp_ref_Same)).weak (by
  intro us k h
  unfold q_ref_Same at h
  split at h
  · skip
    rename_i a0 a1
    rw [raw_ref_Same a0 a1 k]
    exact h
  · exact h.elim)

abbrev T_ref_SameSpans := List (Int × Int) → List (Int × Int) → (Bool → Prop) → Prop
def q_ref_SameSpans (A : T_ref_SameSpans) (us : List W) (k : W → Prop) : Prop := match us with
  | [.l Cd.span a0, .l Cd.span a1] => A a0 a1 (fun r0 => k (.b r0))
  | _ => False
theorem q_ref_SameSpans_weak {A A2 : T_ref_SameSpans} (h : FO 9 (q_ref_SameSpans A)) (hA : ∀ a0 a1 K, A2 a0 a1 K → A a0 a1 K) : FO 9 (q_ref_SameSpans A2) := h.weak (by
  intro us k h
  unfold q_ref_SameSpans at h ⊢
  split at h
  · exact hA _ _ _ h
  · exact h.elim)

def F_ref_SameSpans_l4 : Nat → List (Int × Int) → List (Int × Int) → Int → (Unit → Prop) → (Bool → Prop) → Prop
  | 0, _, _, _, _, _ => False
  | n + 1, x0, x1, x5, Ke, Kr => (((decide (x5 < (x0.length : Int))) = true → ((0 ≤ x5 ∧ x5 < (x0.length : Int)) ∧ ((0 ≤ x5 ∧ x5 < (x1.length : Int)) ∧ (((!(decide ((x0.getD x5.toNat (dfltD Cd.span)).1 = (x1.getD x5.toNat (dfltD Cd.span)).1) && (decide ((x0.getD x5.toNat (dfltD Cd.span)).2 = (x1.getD x5.toNat (dfltD Cd.span)).2) && true))) = true → Kr false) ∧ ((!(decide ((x0.getD x5.toNat (dfltD Cd.span)).1 = (x1.getD x5.toNat (dfltD Cd.span)).1) && (decide ((x0.getD x5.toNat (dfltD Cd.span)).2 = (x1.getD x5.toNat (dfltD Cd.span)).2) && true))) = false → (I64 (x5 + 1) ∧ F_ref_SameSpans_l4 n x0 x1 (x5 + 1) Ke Kr)))))) ∧ ((decide (x5 < (x0.length : Int))) = false → Ke ()))

def F_ref_SameSpans (a0 : List (Int × Int)) (a1 : List (Int × Int)) (K : Bool → Prop) : Prop :=
  (((decide ((a0.length : Int) ≠ (a1.length : Int))) = true → K false) ∧ ((decide ((a0.length : Int) ≠ (a1.length : Int))) = false → (∃ m, F_ref_SameSpans_l4 m a0 a1 (0 : Int) (fun _ => K true) (fun y1 => K y1))))

def C_ref_SameSpans : CallT sg := tab []
theorem Cok_ref_SameSpans (o0 : Nat → Prop) : CalOK sy Tryz.prog GT ovD o0 GL (C_ref_SameSpans) := tab_nil o0

def ls_ref_SameSpans_4 : LS sy ((List (sg.Den Cd.span)) × (List (sg.Den Cd.span)) × Int × Unit) Unit := ⟨[], fCons 0 (vData sy Cd.span) (fCons 1 (vData sy Cd.span) (fCons 5 (vInt sy .i64) (fNil sy))), hNil sy, 0, []⟩
def le_ref_SameSpans_4 : LS sy Unit Unit := ⟨[], fNil sy, hNil sy, 0, []⟩
def lr_ref_SameSpans_4 : LS sy (Bool × Unit) Unit := ⟨[], fCons 4 (vBool sy) (fNil sy), hNil sy, 0, []⟩
def FF_ref_SameSpans_4 (n : Nat) (x : ((List (sg.Den Cd.span)) × (List (sg.Den Cd.span)) × Int × Unit) × Unit) (K : Ex → Z sg → Prop) : Prop := F_ref_SameSpans_l4 n x.1.1 x.1.2.1 x.1.2.2.1 (fun _ => K (.exit 0) (le_ref_SameSpans_4.put ((), ()))) (fun y0 => K .ret (lr_ref_SameSpans_4.put ((y0, ()), ())))
def h_ref_SameSpans_4 (z : Z sg) (K : Ex → Z sg → Prop) : Prop := ls_ref_SameSpans_4.get z (fun x => ∃ n, FF_ref_SameSpans_4 n x K)
def L_ref_SameSpans : LoopT sg := tabL [(4, h_ref_SameSpans_4)]
theorem hs_ref_SameSpans_4 (n : Nat) (x : ((List (sg.Den Cd.span)) × (List (sg.Den Cd.span)) × Int × Unit) × Unit) (K : Ex → Z sg → Prop) : forceZ (ls_ref_SameSpans_4.put x) (fun z => sC sy Tryz.prog GT (C_ref_SameSpans) (L_ref_SameSpans) Tryz.f9.ntmps (nthLoop (bodyOf Tryz.f9) 0) z (rnd ls_ref_SameSpans_4 (czT 0 le_ref_SameSpans_4 lr_ref_SameSpans_4) (fun x => FF_ref_SameSpans_4 n x K) K)) = FF_ref_SameSpans_4 (n + 1) x K := by kernel_rfl
theorem hl_ref_SameSpans_4 (z : Z sg) (K : Ex → Z sg → Prop) : (L_ref_SameSpans) (nthLoop (bodyOf Tryz.f9) 0) z K = ls_ref_SameSpans_4.get z (fun x => ∃ n, FF_ref_SameSpans_4 n x K) := by kernel_rfl
theorem lo_ref_SameSpans_4 : ∀ (o0 : Nat → Prop) (B : Bs sg), B.E.length ≤ 0 → ∀ z K, (L_ref_SameSpans) (nthLoop (bodyOf Tryz.f9) 0) z K → Sx.Sem sy Tryz.prog GT ovD o0 GL Tryz.f9.ntmps B (.loop (nthLoop (bodyOf Tryz.f9) 0)) z K :=
  loop_ok (Cok_ref_SameSpans) (lp_of (l := []) (by kernel_rfl) lp_nil) ls_ref_SameSpans_4 (by decide) (czT 0 le_ref_SameSpans_4 lr_ref_SameSpans_4) (fun _ _ hB => czT_ok 0 le_ref_SameSpans_4 lr_ref_SameSpans_4 (Nat.le_trans hB (by decide)) (Nat.le_trans hB (by decide))) (fun _ _ h => h) (hs_ref_SameSpans_4) (hl_ref_SameSpans_4)
theorem Lp_ref_SameSpans : LpOK sy Tryz.prog GT ovD GL (L_ref_SameSpans) 0 Tryz.f9.ntmps (bodyOf Tryz.f9) := lp_of (l := [(nthLoop (bodyOf Tryz.f9) 0)]) (by kernel_rfl) (lp_cons (lo_ref_SameSpans_4) lp_nil)


theorem raw_ref_SameSpans (a0 : List (Int × Int)) (a1 : List (Int × Int)) (k : W → Prop) : fnT sy Tryz.prog GT (C_ref_SameSpans) (L_ref_SameSpans) Tryz.f9.ntmps (bodyOf Tryz.f9) [none] Tryz.f9.results.toList [.l Cd.span a0, .l Cd.span a1] k = F_ref_SameSpans a0 a1 (fun r0 => k (.b r0)) := by kernel_rfl

theorem ok_ref_SameSpans : FO 9 (q_ref_SameSpans (F_ref_SameSpans)) := (fn_ok (rc := [none]) (f := 9) (fn := Tryz.f9) (c := bodyOf Tryz.f9) (nt := Tryz.f9.ntmps) (res := Tryz.f9.results.toList) (C := C_ref_SameSpans) (L := (L_ref_SameSpans)) (fun _ => rfl) Tryz.func9 (by kernel_rfl) rfl rfl (Cok_ref_SameSpans) (Lp_ref_SameSpans)).weak (by
  intro us k h
  unfold q_ref_SameSpans at h
  split at h
  · skip
    rename_i a0 a1
    rw [raw_ref_SameSpans a0 a1 k]
    exact h
  · exact h.elim)

abbrev T_lawR := Bt → (Bool → Prop) → Prop
def q_lawR (A : T_lawR) (us : List W) (k : W → Prop) : Prop := match us with
  | [.s a0] => A a0 (fun r0 => k (.b r0))
  | _ => False
theorem q_lawR_weak {A A2 : T_lawR} (h : FO 3 (q_lawR A)) (hA : ∀ a0 K, A2 a0 K → A a0 K) : FO 3 (q_lawR A2) := h.weak (by
  intro us k h
  unfold q_lawR at h ⊢
  split at h
  · exact hA _ _ h
  · exact h.elim)

def F_lawR (A4 : T_TokensA) (A5 : T_ref_Tokens) (A6 : T_SpansA) (A7 : T_ref_Spans) (A8 : T_ref_Same) (A9 : T_ref_SameSpans) (a0 : Bt) (K : Bool → Prop) : Prop :=
  (((decide ((500 : Int) < (a0.length : Int))) = true → (((decide ((a0.length : Int) ≤ (4000 : Int))) = false → (((decide ((4100 : Int) < (a0.length : Int))) = true → K true) ∧ ((decide ((4100 : Int) < (a0.length : Int))) = false → (A4 a0 (fun y1 y2 => (A5 a0 (fun y3 y4 => (A6 a0 (fun y5 y6 => (A7 a0 (fun y7 y8 => (A8 y1 y3 (fun y9 => ((y9 = true → (((decide (y2 = y4)) = true → (A9 y5 y7 (fun y10 => ((y10 = true → K (decide (y6 = y8))) ∧ (y10 = false → K false))))) ∧ ((decide (y2 = y4)) = false → K false))) ∧ (y9 = false → K false))))))))))))))) ∧ ((decide ((a0.length : Int) ≤ (4000 : Int))) = true → K true))) ∧ ((decide ((500 : Int) < (a0.length : Int))) = false → (((decide ((4100 : Int) < (a0.length : Int))) = true → K true) ∧ ((decide ((4100 : Int) < (a0.length : Int))) = false → (A4 a0 (fun y11 y12 => (A5 a0 (fun y13 y14 => (A6 a0 (fun y15 y16 => (A7 a0 (fun y17 y18 => (A8 y11 y13 (fun y19 => ((y19 = true → (((decide (y12 = y14)) = true → (A9 y15 y17 (fun y20 => ((y20 = true → K (decide (y16 = y18))) ∧ (y20 = false → K false))))) ∧ ((decide (y12 = y14)) = false → K false))) ∧ (y19 = false → K false))))))))))))))))

def C_lawR (A4 : T_TokensA) (A5 : T_ref_Tokens) (A6 : T_SpansA) (A7 : T_ref_Spans) (A8 : T_ref_Same) (A9 : T_ref_SameSpans) : CallT sg := tab [(4, con [none] (q_TokensA A4)), (5, con [none] (q_ref_Tokens A5)), (6, con [none] (q_SpansA A6)), (7, con [none] (q_ref_Spans A7)), (8, con [some Cd.tok, some Cd.tok] (q_ref_Same A8)), (9, con [some Cd.span, some Cd.span] (q_ref_SameSpans A9))]
theorem Cok_lawR (A4 : T_TokensA) (A5 : T_ref_Tokens) (A6 : T_SpansA) (A7 : T_ref_Spans) (A8 : T_ref_Same) (A9 : T_ref_SameSpans) (h4 : FO 4 (q_TokensA A4)) (h5 : FO 5 (q_ref_Tokens A5)) (h6 : FO 6 (q_SpansA A6)) (h7 : FO 7 (q_ref_Spans A7)) (h8 : FO 8 (q_ref_Same A8)) (h9 : FO 9 (q_ref_SameSpans A9)) (o0 : Nat → Prop) : CalOK sy Tryz.prog GT ovD o0 GL (C_lawR A4 A5 A6 A7 A8 A9) := (tab_cons (con_ok h4) (tab_cons (con_ok h5) (tab_cons (con_ok h6) (tab_cons (con_ok h7) (tab_cons (con_ok h8) (tab_cons (con_ok h9) tab_nil)))))) o0

theorem raw_lawR (A4 : T_TokensA) (A5 : T_ref_Tokens) (A6 : T_SpansA) (A7 : T_ref_Spans) (A8 : T_ref_Same) (A9 : T_ref_SameSpans) (a0 : Bt) (k : W → Prop) : fnT sy Tryz.prog GT (C_lawR A4 A5 A6 A7 A8 A9) noL Tryz.f3.ntmps (bodyOf Tryz.f3) [none] Tryz.f3.results.toList [.s a0] k = F_lawR A4 A5 A6 A7 A8 A9 a0 (fun r0 => k (.b r0)) := by kernel_rfl

theorem ok_lawR (A4 : T_TokensA) (A5 : T_ref_Tokens) (A6 : T_SpansA) (A7 : T_ref_Spans) (A8 : T_ref_Same) (A9 : T_ref_SameSpans) (h4 : FO 4 (q_TokensA A4)) (h5 : FO 5 (q_ref_Tokens A5)) (h6 : FO 6 (q_SpansA A6)) (h7 : FO 7 (q_ref_Spans A7)) (h8 : FO 8 (q_ref_Same A8)) (h9 : FO 9 (q_ref_SameSpans A9)) : FO 3 (q_lawR (F_lawR A4 A5 A6 A7 A8 A9)) := (fn_ok (rc := [none]) (f := 3) (fn := Tryz.f3) (c := bodyOf Tryz.f3) (nt := Tryz.f3.ntmps) (res := Tryz.f3.results.toList) (C := C_lawR A4 A5 A6 A7 A8 A9) (L := noL) (fun _ => rfl) Tryz.func3 (by kernel_rfl) rfl rfl (Cok_lawR A4 A5 A6 A7 A8 A9 h4 h5 h6 h7 h8 h9) (lp_of (l := []) (by kernel_rfl) lp_nil)).weak (by
  intro us k h
  unfold q_lawR at h
  split at h
  · skip
    rename_i a0
    rw [raw_lawR A4 A5 A6 A7 A8 A9 a0 k]
    exact h
  · exact h.elim)

end Go.Proofs.YtcjoehlflbegpaaGreatDoor
