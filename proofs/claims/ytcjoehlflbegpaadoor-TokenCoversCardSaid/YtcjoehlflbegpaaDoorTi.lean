/-
  Functions of the laws and of the reference, followed. Nothing is claimed here.
-/
import Derived.Test.YtcjoehlflbegpaaDoorTh
import Derived.Test.YtcjoehlflbegpaaDoorTf
namespace Go.Proofs.YtcjoehlflbegpaaDoor
open Go.Vm Go.Sx Go.RowKit

abbrev T_vitrinelaw02_is := List UInt8 → Tok → (Bool → Prop) → Prop
def q_vitrinelaw02_is (A : T_vitrinelaw02_is) (us : List W) (k : W → Prop) : Prop := match us with
  | [.s a0, .a [.i .u8 a1_0, .s a1_1, .i .i64 a1_2, .s a1_3, .b a1_4]] => A a0 (Tok.mk a1_0 a1_1 a1_2 a1_3 a1_4) (fun r0 => k (.b r0))
  | _ => False
theorem q_vitrinelaw02_is_weak {A A2 : T_vitrinelaw02_is} (h : FnOK sy Tryd.prog GT ovD GL 13 (q_vitrinelaw02_is A)) (hA : ∀ a0 a1 K, A2 a0 a1 K → A a0 a1 K) : FnOK sy Tryd.prog GT ovD GL 13 (q_vitrinelaw02_is A2) := h.weak (by
  intro us k h
  unfold q_vitrinelaw02_is at h ⊢
  split at h
  · exact hA _ _ _ h
  · exact h.elim)

def F_vitrinelaw02_is (A9 : T_TokensA) (a0 : List UInt8) (a1 : Tok) (K : Bool → Prop) : Prop :=
  (A9 a0 (fun y1 y2 => (((decide (y2 = (0 : Int))) = true → (((decide ((y1.length : Int) = (1 : Int))) = true → ((0 ≤ (0 : Int) ∧ (0 : Int) < (y1.length : Int)) ∧ K (decide ((y1.getD 0 (dfltD Cd.tok)).kind = a1.kind) && ((((y1.getD 0 (dfltD Cd.tok)).text) == a1.text) && (decide ((y1.getD 0 (dfltD Cd.tok)).num = a1.num) && ((((y1.getD 0 (dfltD Cd.tok)).unit) == a1.unit) && ((((y1.getD 0 (dfltD Cd.tok)).flag) == a1.flag) && true))))))) ∧ ((decide ((y1.length : Int) = (1 : Int))) = false → K false))) ∧ ((decide (y2 = (0 : Int))) = false → K false))))

def C_vitrinelaw02_is (A9 : T_TokensA) : CallT sg := tab [(9, con [none] (q_TokensA A9))]
theorem Cok_vitrinelaw02_is (A9 : T_TokensA) (h9 : FnOK sy Tryd.prog GT ovD GL 9 (q_TokensA A9)) (o0 : Nat → Prop) : CalOK sy Tryd.prog GT ovD o0 GL (C_vitrinelaw02_is A9) := (tab_cons (con_ok h9) tab_nil) o0

theorem raw_vitrinelaw02_is (A9 : T_TokensA) (a0 : List UInt8) (a1 : Tok) (k : W → Prop) : fnT sy Tryd.prog GT (C_vitrinelaw02_is A9) noL Tryd.f13.ntmps (bodyOf Tryd.f13) [none] Tryd.f13.results.toList [.s a0, .a [.i .u8 a1.kind, .s a1.text, .i .i64 a1.num, .s a1.unit, .b a1.flag]] k = F_vitrinelaw02_is A9 a0 a1 (fun r0 => k (.b r0)) := by kernel_rfl

theorem ok_vitrinelaw02_is (A9 : T_TokensA) (h9 : FnOK sy Tryd.prog GT ovD GL 9 (q_TokensA A9)) : FnOK sy Tryd.prog GT ovD GL 13 (q_vitrinelaw02_is (F_vitrinelaw02_is A9)) := (fn_ok (rc := [none]) (f := 13) (fn := Tryd.f13) (c := bodyOf Tryd.f13) (nt := Tryd.f13.ntmps) (res := Tryd.f13.results.toList) (C := C_vitrinelaw02_is A9) (L := noL) (fun _ => rfl) Tryd.func13 (by kernel_rfl) rfl rfl (Cok_vitrinelaw02_is A9 h9) (lp_of (l := []) (by kernel_rfl) lp_nil)).weak (by
  intro us k h
  unfold q_vitrinelaw02_is at h
  split at h
  · skip
    rename_i a0 a1_0 a1_1 a1_2 a1_3 a1_4
    rw [raw_vitrinelaw02_is A9 a0 (Tok.mk a1_0 a1_1 a1_2 a1_3 a1_4) k]
    exact h
  · exact h.elim)

abbrev T_vitrinelaw02_kinds := List UInt8 → List UInt8 → (Bool → Prop) → Prop
def q_vitrinelaw02_kinds (A : T_vitrinelaw02_kinds) (us : List W) (k : W → Prop) : Prop := match us with
  | [.s a0, .l Cd.u8 a1] => A a0 a1 (fun r0 => k (.b r0))
  | _ => False
theorem q_vitrinelaw02_kinds_weak {A A2 : T_vitrinelaw02_kinds} (h : FnOK sy Tryd.prog GT ovD GL 14 (q_vitrinelaw02_kinds A)) (hA : ∀ a0 a1 K, A2 a0 a1 K → A a0 a1 K) : FnOK sy Tryd.prog GT ovD GL 14 (q_vitrinelaw02_kinds A2) := h.weak (by
  intro us k h
  unfold q_vitrinelaw02_kinds at h ⊢
  split at h
  · exact hA _ _ _ h
  · exact h.elim)

def F_vitrinelaw02_kinds_l5 (A9 : T_TokensA) : Nat → List UInt8 → List Tok → Int → (Unit → Prop) → (Bool → Prop) → Prop
  | 0, _, _, _, _, _ => False
  | n + 1, x1, x5, x7, Ke, Kr => (((decide (x7 < (x5.length : Int))) = true → ((0 ≤ x7 ∧ x7 < (x5.length : Int)) ∧ ((0 ≤ x7 ∧ x7 < (x1.length : Int)) ∧ (((decide (((x5.getD x7.toNat (dfltD Cd.tok)).kind) ≠ (UInt8.toNat (x1.getD x7.toNat (dfltD Cd.u8)) : Int))) = true → Kr false) ∧ ((decide (((x5.getD x7.toNat (dfltD Cd.tok)).kind) ≠ (UInt8.toNat (x1.getD x7.toNat (dfltD Cd.u8)) : Int))) = false → (I64 (x7 + (1 : Int)) ∧ F_vitrinelaw02_kinds_l5 A9 n x1 x5 (x7 + (1 : Int)) Ke Kr)))))) ∧ ((decide (x7 < (x5.length : Int))) = false → Ke ()))

def F_vitrinelaw02_kinds (A9 : T_TokensA) (a0 : List UInt8) (a1 : List UInt8) (K : Bool → Prop) : Prop :=
  (A9 a0 (fun y1 y2 => (((decide (y2 ≠ (0 : Int))) = false → (((decide ((y1.length : Int) ≠ (a1.length : Int))) = true → K false) ∧ ((decide ((y1.length : Int) ≠ (a1.length : Int))) = false → (∃ m, F_vitrinelaw02_kinds_l5 A9 m a1 y1 (0 : Int) (fun _ => K true) (fun y3 => K y3))))) ∧ ((decide (y2 ≠ (0 : Int))) = true → K false))))

def C_vitrinelaw02_kinds (A9 : T_TokensA) : CallT sg := tab [(9, con [none] (q_TokensA A9))]
theorem Cok_vitrinelaw02_kinds (A9 : T_TokensA) (h9 : FnOK sy Tryd.prog GT ovD GL 9 (q_TokensA A9)) (o0 : Nat → Prop) : CalOK sy Tryd.prog GT ovD o0 GL (C_vitrinelaw02_kinds A9) := (tab_cons (con_ok h9) tab_nil) o0

def ls_vitrinelaw02_kinds_5 : LS sy ((List (sg.Den Cd.u8)) × (List (sg.Den Cd.tok)) × Int × Unit) Unit := ⟨[], fCons 1 (vData sy Cd.u8) (fCons 5 (vData sy Cd.tok) (fCons 7 (vInt sy .i64) (fNil sy))), hNil sy, 0, []⟩
def le_vitrinelaw02_kinds_5 : LS sy Unit Unit := ⟨[], fNil sy, hNil sy, 0, []⟩
def lr_vitrinelaw02_kinds_5 : LS sy (Bool × Unit) Unit := ⟨[], fCons 4 (vBool sy) (fNil sy), hNil sy, 0, []⟩
def FF_vitrinelaw02_kinds_5 (A9 : T_TokensA) (n : Nat) (x : ((List (sg.Den Cd.u8)) × (List (sg.Den Cd.tok)) × Int × Unit) × Unit) (K : Ex → Z sg → Prop) : Prop := F_vitrinelaw02_kinds_l5 A9 n x.1.1 x.1.2.1 x.1.2.2.1 (fun _ => K (.exit 0) (le_vitrinelaw02_kinds_5.put ((), ()))) (fun y0 => K .ret (lr_vitrinelaw02_kinds_5.put ((y0, ()), ())))
def h_vitrinelaw02_kinds_5 (A9 : T_TokensA) (z : Z sg) (K : Ex → Z sg → Prop) : Prop := ls_vitrinelaw02_kinds_5.get z (fun x => ∃ n, FF_vitrinelaw02_kinds_5 A9 n x K)
def L_vitrinelaw02_kinds (A9 : T_TokensA) : LoopT sg := tabL [(5, h_vitrinelaw02_kinds_5 A9)]
theorem hs_vitrinelaw02_kinds_5 (A9 : T_TokensA) (n : Nat) (x : ((List (sg.Den Cd.u8)) × (List (sg.Den Cd.tok)) × Int × Unit) × Unit) (K : Ex → Z sg → Prop) : forceZ (ls_vitrinelaw02_kinds_5.put x) (fun z => sC sy Tryd.prog GT (C_vitrinelaw02_kinds A9) (L_vitrinelaw02_kinds A9) Tryd.f14.ntmps (nthLoop (bodyOf Tryd.f14) 0) z (rnd ls_vitrinelaw02_kinds_5 (czT 0 le_vitrinelaw02_kinds_5 lr_vitrinelaw02_kinds_5) (fun x => FF_vitrinelaw02_kinds_5 A9 n x K) K)) = FF_vitrinelaw02_kinds_5 A9 (n + 1) x K := by kernel_rfl
theorem hl_vitrinelaw02_kinds_5 (A9 : T_TokensA) (z : Z sg) (K : Ex → Z sg → Prop) : (L_vitrinelaw02_kinds A9) (nthLoop (bodyOf Tryd.f14) 0) z K = ls_vitrinelaw02_kinds_5.get z (fun x => ∃ n, FF_vitrinelaw02_kinds_5 A9 n x K) := by kernel_rfl
theorem lo_vitrinelaw02_kinds_5 (A9 : T_TokensA) (h9 : FnOK sy Tryd.prog GT ovD GL 9 (q_TokensA A9)) : ∀ (o0 : Nat → Prop) (B : Bs sg), B.E.length ≤ 0 → ∀ z K, (L_vitrinelaw02_kinds A9) (nthLoop (bodyOf Tryd.f14) 0) z K → Sx.Sem sy Tryd.prog GT ovD o0 GL Tryd.f14.ntmps B (.loop (nthLoop (bodyOf Tryd.f14) 0)) z K :=
  loop_ok (Cok_vitrinelaw02_kinds A9 h9) (lp_of (l := []) (by kernel_rfl) lp_nil) ls_vitrinelaw02_kinds_5 (by decide) (czT 0 le_vitrinelaw02_kinds_5 lr_vitrinelaw02_kinds_5) (fun _ _ hB => czT_ok 0 le_vitrinelaw02_kinds_5 lr_vitrinelaw02_kinds_5 (Nat.le_trans hB (by decide)) (Nat.le_trans hB (by decide))) (fun _ _ h => h) (hs_vitrinelaw02_kinds_5 A9) (hl_vitrinelaw02_kinds_5 A9)
theorem Lp_vitrinelaw02_kinds (A9 : T_TokensA) (h9 : FnOK sy Tryd.prog GT ovD GL 9 (q_TokensA A9)) : LpOK sy Tryd.prog GT ovD GL (L_vitrinelaw02_kinds A9) 0 Tryd.f14.ntmps (bodyOf Tryd.f14) := lp_of (l := [(nthLoop (bodyOf Tryd.f14) 0)]) (by kernel_rfl) (lp_cons (lo_vitrinelaw02_kinds_5 A9 h9) lp_nil)


theorem raw_vitrinelaw02_kinds (A9 : T_TokensA) (a0 : List UInt8) (a1 : List UInt8) (k : W → Prop) : fnT sy Tryd.prog GT (C_vitrinelaw02_kinds A9) (L_vitrinelaw02_kinds A9) Tryd.f14.ntmps (bodyOf Tryd.f14) [none] Tryd.f14.results.toList [.s a0, .l Cd.u8 a1] k = F_vitrinelaw02_kinds A9 a0 a1 (fun r0 => k (.b r0)) := by kernel_rfl

theorem ok_vitrinelaw02_kinds (A9 : T_TokensA) (h9 : FnOK sy Tryd.prog GT ovD GL 9 (q_TokensA A9)) : FnOK sy Tryd.prog GT ovD GL 14 (q_vitrinelaw02_kinds (F_vitrinelaw02_kinds A9)) := (fn_ok (rc := [none]) (f := 14) (fn := Tryd.f14) (c := bodyOf Tryd.f14) (nt := Tryd.f14.ntmps) (res := Tryd.f14.results.toList) (C := C_vitrinelaw02_kinds A9) (L := (L_vitrinelaw02_kinds A9)) (fun _ => rfl) Tryd.func14 (by kernel_rfl) rfl rfl (Cok_vitrinelaw02_kinds A9 h9) (Lp_vitrinelaw02_kinds A9 h9)).weak (by
  intro us k h
  unfold q_vitrinelaw02_kinds at h
  split at h
  · skip
    rename_i a0 a1
    rw [raw_vitrinelaw02_kinds A9 a0 a1 k]
    exact h
  · exact h.elim)

abbrev T_vitrinelaw02_comments := List UInt8 → Bool → (Bool → Prop) → Prop
def q_vitrinelaw02_comments (A : T_vitrinelaw02_comments) (us : List W) (k : W → Prop) : Prop := match us with
  | [.s a0, .b a1] => A a0 a1 (fun r0 => k (.b r0))
  | _ => False
theorem q_vitrinelaw02_comments_weak {A A2 : T_vitrinelaw02_comments} (h : FnOK sy Tryd.prog GT ovD GL 19 (q_vitrinelaw02_comments A)) (hA : ∀ a0 a1 K, A2 a0 a1 K → A a0 a1 K) : FnOK sy Tryd.prog GT ovD GL 19 (q_vitrinelaw02_comments A2) := h.weak (by
  intro us k h
  unfold q_vitrinelaw02_comments at h ⊢
  split at h
  · exact hA _ _ _ h
  · exact h.elim)

def F_vitrinelaw02_comments_l6 : Nat → List UInt8 → Bool → Int → List UInt8 → Int → Int → Bool → List UInt8 → Int → Int → Int → Bool → (List UInt8 → Bool → Int → List UInt8 → Int → Int → Bool → List UInt8 → Int → Int → Int → Bool → Prop) → Prop
  | 0, _, _, _, _, _, _, _, _, _, _, _, _, _ => False
  | n + 1, x0, x1, x5, x16, x17, x18, x19, x22, x23, x24, x25, x26, Ke => (((decide (x5 < (x0.length : Int))) = true → ((0 ≤ x5 ∧ x5 < (x0.length : Int)) ∧ (((decide (((x0.getD x5.toNat 0).toNat : Int) ≠ (42 : Int))) = false → (I64 (x5 + (1 : Int)) ∧ (((decide ((x5 + (1 : Int)) = (x0.length : Int))) = false → (I64 (x5 + (1 : Int)) ∧ ((0 ≤ (x5 + (1 : Int)) ∧ (x5 + (1 : Int)) < (x0.length : Int)) ∧ (((decide (((x0.getD (x5 + (1 : Int)).toNat 0).toNat : Int) ≠ (47 : Int))) = true → (I64 (x5 + (1 : Int)) ∧ F_vitrinelaw02_comments_l6 n x0 x1 (x5 + (1 : Int)) x16 x17 x18 x19 x22 x23 x24 x25 x26 Ke)) ∧ ((decide (((x0.getD (x5 + (1 : Int)).toNat 0).toNat : Int) ≠ (47 : Int))) = false → Ke x0 x1 x5 x16 x17 x18 x19 x22 x23 x24 x25 x26))))) ∧ ((decide ((x5 + (1 : Int)) = (x0.length : Int))) = true → (I64 (x5 + (1 : Int)) ∧ F_vitrinelaw02_comments_l6 n x0 x1 (x5 + (1 : Int)) x16 x17 x18 x19 x22 x23 x24 x25 x26 Ke))))) ∧ ((decide (((x0.getD x5.toNat 0).toNat : Int) ≠ (42 : Int))) = true → (I64 (x5 + (1 : Int)) ∧ F_vitrinelaw02_comments_l6 n x0 x1 (x5 + (1 : Int)) x16 x17 x18 x19 x22 x23 x24 x25 x26 Ke))))) ∧ ((decide (x5 < (x0.length : Int))) = false → Ke x0 x1 x5 x16 x17 x18 x19 x22 x23 x24 x25 x26))

def F_vitrinelaw02_comments_l2 : Nat → List UInt8 → Bool → Int → (Unit → Prop) → (Bool → Prop) → Prop
  | 0, _, _, _, _, _ => False
  | n + 1, x0, x1, x5, Ke, Kr => (((decide (x5 < (x0.length : Int))) = true → (I64 ((x0.length : Int) - x5) ∧ (((decide (((x0.length : Int) - x5) < (2 : Int))) = false → ((0 ≤ x5 ∧ x5 < (x0.length : Int)) ∧ (((decide (((x0.getD x5.toNat 0).toNat : Int) ≠ (47 : Int))) = false → (I64 (x5 + (1 : Int)) ∧ ((0 ≤ (x5 + (1 : Int)) ∧ (x5 + (1 : Int)) < (x0.length : Int)) ∧ (((decide (((x0.getD (x5 + (1 : Int)).toNat 0).toNat : Int) ≠ (42 : Int))) = true → Kr false) ∧ ((decide (((x0.getD (x5 + (1 : Int)).toNat 0).toNat : Int) ≠ (42 : Int))) = false → (I64 (x5 + (2 : Int)) ∧ (∃ m, F_vitrinelaw02_comments_l6 m x0 x1 (x5 + (2 : Int)) x0 x5 ((x0.getD x5.toNat 0).toNat : Int) (decide (((x0.getD x5.toNat 0).toNat : Int) ≠ (47 : Int))) x0 x5 (x5 + (1 : Int)) ((x0.getD (x5 + (1 : Int)).toNat 0).toNat : Int) (decide (((x0.getD (x5 + (1 : Int)).toNat 0).toNat : Int) ≠ (42 : Int))) (fun y1 y2 y3 y4 y5 y6 y7 y8 y9 y10 y11 y12 => (((decide (y3 = (y1.length : Int))) = true → Kr y2) ∧ ((decide (y3 = (y1.length : Int))) = false → (I64 (y3 + (2 : Int)) ∧ F_vitrinelaw02_comments_l2 n y1 y2 (y3 + (2 : Int)) Ke Kr))))))))))) ∧ ((decide (((x0.getD x5.toNat 0).toNat : Int) ≠ (47 : Int))) = true → Kr false)))) ∧ ((decide (((x0.length : Int) - x5) < (2 : Int))) = true → Kr false)))) ∧ ((decide (x5 < (x0.length : Int))) = false → Ke ()))

def F_vitrinelaw02_comments (a0 : List UInt8) (a1 : Bool) (K : Bool → Prop) : Prop :=
  (∃ m, F_vitrinelaw02_comments_l2 m a0 a1 (0 : Int) (fun _ => K true) (fun y1 => K y1))

def C_vitrinelaw02_comments : CallT sg := tab []
theorem Cok_vitrinelaw02_comments (o0 : Nat → Prop) : CalOK sy Tryd.prog GT ovD o0 GL (C_vitrinelaw02_comments) := tab_nil o0

def ls_vitrinelaw02_comments_6 : LS sy ((List UInt8) × Bool × Int × (List UInt8) × Int × Int × Bool × (List UInt8) × Int × Int × Int × Bool × Unit) Unit := ⟨[], fCons 0 (vStr sy) (fCons 1 (vBool sy) (fCons 5 (vInt sy .i64) (fCons 16 (vStr sy) (fCons 17 (vInt sy .i64) (fCons 18 (vInt sy .u8) (fCons 19 (vBool sy) (fCons 22 (vStr sy) (fCons 23 (vInt sy .i64) (fCons 24 (vInt sy .i64) (fCons 25 (vInt sy .u8) (fCons 26 (vBool sy) (fNil sy)))))))))))), hNil sy, 0, []⟩
def le_vitrinelaw02_comments_6 : LS sy ((List UInt8) × Bool × Int × (List UInt8) × Int × Int × Bool × (List UInt8) × Int × Int × Int × Bool × Unit) Unit := ⟨[], fCons 0 (vStr sy) (fCons 1 (vBool sy) (fCons 5 (vInt sy .i64) (fCons 16 (vStr sy) (fCons 17 (vInt sy .i64) (fCons 18 (vInt sy .u8) (fCons 19 (vBool sy) (fCons 22 (vStr sy) (fCons 23 (vInt sy .i64) (fCons 24 (vInt sy .i64) (fCons 25 (vInt sy .u8) (fCons 26 (vBool sy) (fNil sy)))))))))))), hNil sy, 0, []⟩
def lr_vitrinelaw02_comments_6 : LS sy Unit Unit := ⟨[], fNil sy, hNil sy, 0, []⟩
def FF_vitrinelaw02_comments_6 (n : Nat) (x : ((List UInt8) × Bool × Int × (List UInt8) × Int × Int × Bool × (List UInt8) × Int × Int × Int × Bool × Unit) × Unit) (K : Ex → Z sg → Prop) : Prop := F_vitrinelaw02_comments_l6 n x.1.1 x.1.2.1 x.1.2.2.1 x.1.2.2.2.1 x.1.2.2.2.2.1 x.1.2.2.2.2.2.1 x.1.2.2.2.2.2.2.1 x.1.2.2.2.2.2.2.2.1 x.1.2.2.2.2.2.2.2.2.1 x.1.2.2.2.2.2.2.2.2.2.1 x.1.2.2.2.2.2.2.2.2.2.2.1 x.1.2.2.2.2.2.2.2.2.2.2.2.1 (fun y0 y1 y2 y3 y4 y5 y6 y7 y8 y9 y10 y11 => K (.exit 2) (le_vitrinelaw02_comments_6.put ((y0, y1, y2, y3, y4, y5, y6, y7, y8, y9, y10, y11, ()), ())))
def h_vitrinelaw02_comments_6 (z : Z sg) (K : Ex → Z sg → Prop) : Prop := ls_vitrinelaw02_comments_6.get z (fun x => ∃ n, FF_vitrinelaw02_comments_6 n x K)
def ls_vitrinelaw02_comments_2 : LS sy ((List UInt8) × Bool × Int × Unit) Unit := ⟨[], fCons 0 (vStr sy) (fCons 1 (vBool sy) (fCons 5 (vInt sy .i64) (fNil sy))), hNil sy, 0, []⟩
def le_vitrinelaw02_comments_2 : LS sy Unit Unit := ⟨[], fNil sy, hNil sy, 0, []⟩
def lr_vitrinelaw02_comments_2 : LS sy (Bool × Unit) Unit := ⟨[], fCons 4 (vBool sy) (fNil sy), hNil sy, 0, []⟩
def FF_vitrinelaw02_comments_2 (n : Nat) (x : ((List UInt8) × Bool × Int × Unit) × Unit) (K : Ex → Z sg → Prop) : Prop := F_vitrinelaw02_comments_l2 n x.1.1 x.1.2.1 x.1.2.2.1 (fun _ => K (.exit 0) (le_vitrinelaw02_comments_2.put ((), ()))) (fun y0 => K .ret (lr_vitrinelaw02_comments_2.put ((y0, ()), ())))
def h_vitrinelaw02_comments_2 (z : Z sg) (K : Ex → Z sg → Prop) : Prop := ls_vitrinelaw02_comments_2.get z (fun x => ∃ n, FF_vitrinelaw02_comments_2 n x K)
def L_vitrinelaw02_comments : LoopT sg := tabL [(6, h_vitrinelaw02_comments_6), (2, h_vitrinelaw02_comments_2)]
theorem hs_vitrinelaw02_comments_6 (n : Nat) (x : ((List UInt8) × Bool × Int × (List UInt8) × Int × Int × Bool × (List UInt8) × Int × Int × Int × Bool × Unit) × Unit) (K : Ex → Z sg → Prop) : forceZ (ls_vitrinelaw02_comments_6.put x) (fun z => sC sy Tryd.prog GT (C_vitrinelaw02_comments) (L_vitrinelaw02_comments) Tryd.f19.ntmps (nthLoop (nthLoop (bodyOf Tryd.f19) 0) 0) z (rnd ls_vitrinelaw02_comments_6 (czT 2 le_vitrinelaw02_comments_6 lr_vitrinelaw02_comments_6) (fun x => FF_vitrinelaw02_comments_6 n x K) K)) = FF_vitrinelaw02_comments_6 (n + 1) x K := by kernel_rfl
theorem hl_vitrinelaw02_comments_6 (z : Z sg) (K : Ex → Z sg → Prop) : (L_vitrinelaw02_comments) (nthLoop (nthLoop (bodyOf Tryd.f19) 0) 0) z K = ls_vitrinelaw02_comments_6.get z (fun x => ∃ n, FF_vitrinelaw02_comments_6 n x K) := by kernel_rfl
theorem lo_vitrinelaw02_comments_6 : ∀ (o0 : Nat → Prop) (B : Bs sg), B.E.length ≤ 0 → ∀ z K, (L_vitrinelaw02_comments) (nthLoop (nthLoop (bodyOf Tryd.f19) 0) 0) z K → Sx.Sem sy Tryd.prog GT ovD o0 GL Tryd.f19.ntmps B (.loop (nthLoop (nthLoop (bodyOf Tryd.f19) 0) 0)) z K :=
  loop_ok (Cok_vitrinelaw02_comments) (lp_of (l := []) (by kernel_rfl) lp_nil) ls_vitrinelaw02_comments_6 (by decide) (czT 2 le_vitrinelaw02_comments_6 lr_vitrinelaw02_comments_6) (fun _ _ hB => czT_ok 2 le_vitrinelaw02_comments_6 lr_vitrinelaw02_comments_6 (Nat.le_trans hB (by decide)) (Nat.le_trans hB (by decide))) (fun _ _ h => h) (hs_vitrinelaw02_comments_6) (hl_vitrinelaw02_comments_6)
theorem hs_vitrinelaw02_comments_2 (n : Nat) (x : ((List UInt8) × Bool × Int × Unit) × Unit) (K : Ex → Z sg → Prop) : forceZ (ls_vitrinelaw02_comments_2.put x) (fun z => sC sy Tryd.prog GT (C_vitrinelaw02_comments) (L_vitrinelaw02_comments) Tryd.f19.ntmps (nthLoop (bodyOf Tryd.f19) 0) z (rnd ls_vitrinelaw02_comments_2 (czT 0 le_vitrinelaw02_comments_2 lr_vitrinelaw02_comments_2) (fun x => FF_vitrinelaw02_comments_2 n x K) K)) = FF_vitrinelaw02_comments_2 (n + 1) x K := by kernel_rfl
theorem hl_vitrinelaw02_comments_2 (z : Z sg) (K : Ex → Z sg → Prop) : (L_vitrinelaw02_comments) (nthLoop (bodyOf Tryd.f19) 0) z K = ls_vitrinelaw02_comments_2.get z (fun x => ∃ n, FF_vitrinelaw02_comments_2 n x K) := by kernel_rfl
theorem lo_vitrinelaw02_comments_2 : ∀ (o0 : Nat → Prop) (B : Bs sg), B.E.length ≤ 0 → ∀ z K, (L_vitrinelaw02_comments) (nthLoop (bodyOf Tryd.f19) 0) z K → Sx.Sem sy Tryd.prog GT ovD o0 GL Tryd.f19.ntmps B (.loop (nthLoop (bodyOf Tryd.f19) 0)) z K :=
  loop_ok (Cok_vitrinelaw02_comments) (lp_of (l := [(nthLoop (nthLoop (bodyOf Tryd.f19) 0) 0)]) (by kernel_rfl) (lp_cons (lo_vitrinelaw02_comments_6) lp_nil)) ls_vitrinelaw02_comments_2 (by decide) (czT 0 le_vitrinelaw02_comments_2 lr_vitrinelaw02_comments_2) (fun _ _ hB => czT_ok 0 le_vitrinelaw02_comments_2 lr_vitrinelaw02_comments_2 (Nat.le_trans hB (by decide)) (Nat.le_trans hB (by decide))) (fun _ _ h => h) (hs_vitrinelaw02_comments_2) (hl_vitrinelaw02_comments_2)
theorem Lp_vitrinelaw02_comments : LpOK sy Tryd.prog GT ovD GL (L_vitrinelaw02_comments) 0 Tryd.f19.ntmps (bodyOf Tryd.f19) := lp_of (l := [(nthLoop (bodyOf Tryd.f19) 0)]) (by kernel_rfl) (lp_cons (lo_vitrinelaw02_comments_2) lp_nil)


theorem raw_vitrinelaw02_comments (a0 : List UInt8) (a1 : Bool) (k : W → Prop) : fnT sy Tryd.prog GT (C_vitrinelaw02_comments) (L_vitrinelaw02_comments) Tryd.f19.ntmps (bodyOf Tryd.f19) [none] Tryd.f19.results.toList [.s a0, .b a1] k = F_vitrinelaw02_comments a0 a1 (fun r0 => k (.b r0)) := by kernel_rfl

theorem ok_vitrinelaw02_comments : FnOK sy Tryd.prog GT ovD GL 19 (q_vitrinelaw02_comments (F_vitrinelaw02_comments)) := (fn_ok (rc := [none]) (f := 19) (fn := Tryd.f19) (c := bodyOf Tryd.f19) (nt := Tryd.f19.ntmps) (res := Tryd.f19.results.toList) (C := C_vitrinelaw02_comments) (L := (L_vitrinelaw02_comments)) (fun _ => rfl) Tryd.func19 (by kernel_rfl) rfl rfl (Cok_vitrinelaw02_comments) (Lp_vitrinelaw02_comments)).weak (by
  intro us k h
  unfold q_vitrinelaw02_comments at h
  split at h
  · skip
    rename_i a0 a1
    rw [raw_vitrinelaw02_comments a0 a1 k]
    exact h
  · exact h.elim)

abbrev T_vitrineref02_Same := List Tok → List Tok → (Bool → Prop) → Prop
def q_vitrineref02_Same (A : T_vitrineref02_Same) (us : List W) (k : W → Prop) : Prop := match us with
  | [.l Cd.tok a0, .l Cd.tok a1] => A a0 a1 (fun r0 => k (.b r0))
  | _ => False
theorem q_vitrineref02_Same_weak {A A2 : T_vitrineref02_Same} (h : FnOK sy Tryd.prog GT ovD GL 20 (q_vitrineref02_Same A)) (hA : ∀ a0 a1 K, A2 a0 a1 K → A a0 a1 K) : FnOK sy Tryd.prog GT ovD GL 20 (q_vitrineref02_Same A2) := h.weak (by
  intro us k h
  unfold q_vitrineref02_Same at h ⊢
  split at h
  · exact hA _ _ _ h
  · exact h.elim)

def F_vitrineref02_Same_l4 : Nat → List Tok → List Tok → Int → (Unit → Prop) → (Bool → Prop) → Prop
  | 0, _, _, _, _, _ => False
  | n + 1, x0, x1, x5, Ke, Kr => (((decide (x5 < (x0.length : Int))) = true → ((0 ≤ x5 ∧ x5 < (x0.length : Int)) ∧ ((0 ≤ x5 ∧ x5 < (x1.length : Int)) ∧ (((!(decide ((x0.getD x5.toNat (dfltD Cd.tok)).kind = (x1.getD x5.toNat (dfltD Cd.tok)).kind) && ((((x0.getD x5.toNat (dfltD Cd.tok)).text) == ((x1.getD x5.toNat (dfltD Cd.tok)).text)) && (decide ((x0.getD x5.toNat (dfltD Cd.tok)).num = (x1.getD x5.toNat (dfltD Cd.tok)).num) && ((((x0.getD x5.toNat (dfltD Cd.tok)).unit) == ((x1.getD x5.toNat (dfltD Cd.tok)).unit)) && ((((x0.getD x5.toNat (dfltD Cd.tok)).flag) == ((x1.getD x5.toNat (dfltD Cd.tok)).flag)) && true)))))) = true → Kr false) ∧ ((!(decide ((x0.getD x5.toNat (dfltD Cd.tok)).kind = (x1.getD x5.toNat (dfltD Cd.tok)).kind) && ((((x0.getD x5.toNat (dfltD Cd.tok)).text) == ((x1.getD x5.toNat (dfltD Cd.tok)).text)) && (decide ((x0.getD x5.toNat (dfltD Cd.tok)).num = (x1.getD x5.toNat (dfltD Cd.tok)).num) && ((((x0.getD x5.toNat (dfltD Cd.tok)).unit) == ((x1.getD x5.toNat (dfltD Cd.tok)).unit)) && ((((x0.getD x5.toNat (dfltD Cd.tok)).flag) == ((x1.getD x5.toNat (dfltD Cd.tok)).flag)) && true)))))) = false → (I64 (x5 + (1 : Int)) ∧ F_vitrineref02_Same_l4 n x0 x1 (x5 + (1 : Int)) Ke Kr)))))) ∧ ((decide (x5 < (x0.length : Int))) = false → Ke ()))

def F_vitrineref02_Same (a0 : List Tok) (a1 : List Tok) (K : Bool → Prop) : Prop :=
  (((decide ((a0.length : Int) ≠ (a1.length : Int))) = true → K false) ∧ ((decide ((a0.length : Int) ≠ (a1.length : Int))) = false → (∃ m, F_vitrineref02_Same_l4 m a0 a1 (0 : Int) (fun _ => K true) (fun y1 => K y1))))

def C_vitrineref02_Same : CallT sg := tab []
theorem Cok_vitrineref02_Same (o0 : Nat → Prop) : CalOK sy Tryd.prog GT ovD o0 GL (C_vitrineref02_Same) := tab_nil o0

def ls_vitrineref02_Same_4 : LS sy ((List (sg.Den Cd.tok)) × (List (sg.Den Cd.tok)) × Int × Unit) Unit := ⟨[], fCons 0 (vData sy Cd.tok) (fCons 1 (vData sy Cd.tok) (fCons 5 (vInt sy .i64) (fNil sy))), hNil sy, 0, []⟩
def le_vitrineref02_Same_4 : LS sy Unit Unit := ⟨[], fNil sy, hNil sy, 0, []⟩
def lr_vitrineref02_Same_4 : LS sy (Bool × Unit) Unit := ⟨[], fCons 4 (vBool sy) (fNil sy), hNil sy, 0, []⟩
def FF_vitrineref02_Same_4 (n : Nat) (x : ((List (sg.Den Cd.tok)) × (List (sg.Den Cd.tok)) × Int × Unit) × Unit) (K : Ex → Z sg → Prop) : Prop := F_vitrineref02_Same_l4 n x.1.1 x.1.2.1 x.1.2.2.1 (fun _ => K (.exit 0) (le_vitrineref02_Same_4.put ((), ()))) (fun y0 => K .ret (lr_vitrineref02_Same_4.put ((y0, ()), ())))
def h_vitrineref02_Same_4 (z : Z sg) (K : Ex → Z sg → Prop) : Prop := ls_vitrineref02_Same_4.get z (fun x => ∃ n, FF_vitrineref02_Same_4 n x K)
def L_vitrineref02_Same : LoopT sg := tabL [(4, h_vitrineref02_Same_4)]
theorem hs_vitrineref02_Same_4 (n : Nat) (x : ((List (sg.Den Cd.tok)) × (List (sg.Den Cd.tok)) × Int × Unit) × Unit) (K : Ex → Z sg → Prop) : forceZ (ls_vitrineref02_Same_4.put x) (fun z => sC sy Tryd.prog GT (C_vitrineref02_Same) (L_vitrineref02_Same) Tryd.f20.ntmps (nthLoop (bodyOf Tryd.f20) 0) z (rnd ls_vitrineref02_Same_4 (czT 0 le_vitrineref02_Same_4 lr_vitrineref02_Same_4) (fun x => FF_vitrineref02_Same_4 n x K) K)) = FF_vitrineref02_Same_4 (n + 1) x K := by kernel_rfl
theorem hl_vitrineref02_Same_4 (z : Z sg) (K : Ex → Z sg → Prop) : (L_vitrineref02_Same) (nthLoop (bodyOf Tryd.f20) 0) z K = ls_vitrineref02_Same_4.get z (fun x => ∃ n, FF_vitrineref02_Same_4 n x K) := by kernel_rfl
theorem lo_vitrineref02_Same_4 : ∀ (o0 : Nat → Prop) (B : Bs sg), B.E.length ≤ 0 → ∀ z K, (L_vitrineref02_Same) (nthLoop (bodyOf Tryd.f20) 0) z K → Sx.Sem sy Tryd.prog GT ovD o0 GL Tryd.f20.ntmps B (.loop (nthLoop (bodyOf Tryd.f20) 0)) z K :=
  loop_ok (Cok_vitrineref02_Same) (lp_of (l := []) (by kernel_rfl) lp_nil) ls_vitrineref02_Same_4 (by decide) (czT 0 le_vitrineref02_Same_4 lr_vitrineref02_Same_4) (fun _ _ hB => czT_ok 0 le_vitrineref02_Same_4 lr_vitrineref02_Same_4 (Nat.le_trans hB (by decide)) (Nat.le_trans hB (by decide))) (fun _ _ h => h) (hs_vitrineref02_Same_4) (hl_vitrineref02_Same_4)
theorem Lp_vitrineref02_Same : LpOK sy Tryd.prog GT ovD GL (L_vitrineref02_Same) 0 Tryd.f20.ntmps (bodyOf Tryd.f20) := lp_of (l := [(nthLoop (bodyOf Tryd.f20) 0)]) (by kernel_rfl) (lp_cons (lo_vitrineref02_Same_4) lp_nil)


theorem raw_vitrineref02_Same (a0 : List Tok) (a1 : List Tok) (k : W → Prop) : fnT sy Tryd.prog GT (C_vitrineref02_Same) (L_vitrineref02_Same) Tryd.f20.ntmps (bodyOf Tryd.f20) [none] Tryd.f20.results.toList [.l Cd.tok a0, .l Cd.tok a1] k = F_vitrineref02_Same a0 a1 (fun r0 => k (.b r0)) := by kernel_rfl

theorem ok_vitrineref02_Same : FnOK sy Tryd.prog GT ovD GL 20 (q_vitrineref02_Same (F_vitrineref02_Same)) := (fn_ok (rc := [none]) (f := 20) (fn := Tryd.f20) (c := bodyOf Tryd.f20) (nt := Tryd.f20.ntmps) (res := Tryd.f20.results.toList) (C := C_vitrineref02_Same) (L := (L_vitrineref02_Same)) (fun _ => rfl) Tryd.func20 (by kernel_rfl) rfl rfl (Cok_vitrineref02_Same) (Lp_vitrineref02_Same)).weak (by
  intro us k h
  unfold q_vitrineref02_Same at h
  split at h
  · skip
    rename_i a0 a1
    rw [raw_vitrineref02_Same a0 a1 k]
    exact h
  · exact h.elim)

abbrev T_vitrinelaw02_space := Int → (Bool → Prop) → Prop
def q_vitrinelaw02_space (A : T_vitrinelaw02_space) (us : List W) (k : W → Prop) : Prop := match us with
  | [.i .u8 a0] => A a0 (fun r0 => k (.b r0))
  | _ => False
theorem q_vitrinelaw02_space_weak {A A2 : T_vitrinelaw02_space} (h : FnOK sy Tryd.prog GT ovD GL 36 (q_vitrinelaw02_space A)) (hA : ∀ a0 K, A2 a0 K → A a0 K) : FnOK sy Tryd.prog GT ovD GL 36 (q_vitrinelaw02_space A2) := h.weak (by
  intro us k h
  unfold q_vitrinelaw02_space at h ⊢
  split at h
  · exact hA _ _ h
  · exact h.elim)

def F_vitrinelaw02_space (a0 : Int) (K : Bool → Prop) : Prop :=
  (((decide (a0 = (9 : Int))) = false → (((decide (a0 = (10 : Int))) = false → K (decide (a0 = (32 : Int)))) ∧ ((decide (a0 = (10 : Int))) = true → K true))) ∧ ((decide (a0 = (9 : Int))) = true → K true))

def C_vitrinelaw02_space : CallT sg := tab []
theorem Cok_vitrinelaw02_space (o0 : Nat → Prop) : CalOK sy Tryd.prog GT ovD o0 GL (C_vitrinelaw02_space) := tab_nil o0

theorem raw_vitrinelaw02_space (a0 : Int) (k : W → Prop) : fnT sy Tryd.prog GT (C_vitrinelaw02_space) noL Tryd.f36.ntmps (bodyOf Tryd.f36) [none] Tryd.f36.results.toList [.i .u8 a0] k = F_vitrinelaw02_space a0 (fun r0 => k (.b r0)) := by kernel_rfl

theorem ok_vitrinelaw02_space : FnOK sy Tryd.prog GT ovD GL 36 (q_vitrinelaw02_space (F_vitrinelaw02_space)) := (fn_ok (rc := [none]) (f := 36) (fn := Tryd.f36) (c := bodyOf Tryd.f36) (nt := Tryd.f36.ntmps) (res := Tryd.f36.results.toList) (C := C_vitrinelaw02_space) (L := noL) (fun _ => rfl) Tryd.func36 (by kernel_rfl) rfl rfl (Cok_vitrinelaw02_space) (lp_of (l := []) (by kernel_rfl) lp_nil)).weak (by
  intro us k h
  unfold q_vitrinelaw02_space at h
  split at h
  · skip
    rename_i a0
    rw [raw_vitrinelaw02_space a0 k]
    exact h
  · exact h.elim)

abbrev T_vitrinelaw02_shaped := Tok → (Bool → Prop) → Prop
def q_vitrinelaw02_shaped (A : T_vitrinelaw02_shaped) (us : List W) (k : W → Prop) : Prop := match us with
  | [.a [.i .u8 a0_0, .s a0_1, .i .i64 a0_2, .s a0_3, .b a0_4]] => A (Tok.mk a0_0 a0_1 a0_2 a0_3 a0_4) (fun r0 => k (.b r0))
  | _ => False
theorem q_vitrinelaw02_shaped_weak {A A2 : T_vitrinelaw02_shaped} (h : FnOK sy Tryd.prog GT ovD GL 21 (q_vitrinelaw02_shaped A)) (hA : ∀ a0 K, A2 a0 K → A a0 K) : FnOK sy Tryd.prog GT ovD GL 21 (q_vitrinelaw02_shaped A2) := h.weak (by
  intro us k h
  unfold q_vitrinelaw02_shaped at h ⊢
  split at h
  · exact hA _ _ h
  · exact h.elim)

def F_vitrinelaw02_shaped (A36 : T_vitrinelaw02_space) (a0 : Tok) (K : Bool → Prop) : Prop :=
  (((decide (a0.kind = (1 : Int))) = true → (((!(a0.text == ([] : List UInt8))) = true → K (decide (a0.kind = a0.kind) && ((([] : List UInt8) == ([] : List UInt8)) && (decide (a0.num = (0 : Int)) && ((a0.unit == ([] : List UInt8)) && ((a0.flag == false) && true)))))) ∧ ((!(a0.text == ([] : List UInt8))) = false → K false))) ∧ ((decide (a0.kind = (1 : Int))) = false → (((decide (a0.kind = (2 : Int))) = true → (((!(a0.text == ([] : List UInt8))) = true → K (decide (a0.kind = a0.kind) && ((([] : List UInt8) == ([] : List UInt8)) && (decide (a0.num = (0 : Int)) && ((a0.unit == ([] : List UInt8)) && ((a0.flag == false) && true)))))) ∧ ((!(a0.text == ([] : List UInt8))) = false → K false))) ∧ ((decide (a0.kind = (2 : Int))) = false → (((decide (a0.kind = (3 : Int))) = true → (((!(a0.text == ([] : List UInt8))) = true → K (decide (a0.kind = a0.kind) && ((([] : List UInt8) == ([] : List UInt8)) && (decide (a0.num = (0 : Int)) && ((a0.unit == ([] : List UInt8)) && ((a0.flag == false) && true)))))) ∧ ((!(a0.text == ([] : List UInt8))) = false → K false))) ∧ ((decide (a0.kind = (3 : Int))) = false → (((decide (a0.kind = (4 : Int))) = true → (((!(a0.text == ([] : List UInt8))) = true → K (decide (a0.kind = a0.kind) && ((([] : List UInt8) == ([] : List UInt8)) && (decide (a0.num = (0 : Int)) && ((a0.unit == ([] : List UInt8)) && ((false == false) && true)))))) ∧ ((!(a0.text == ([] : List UInt8))) = false → K false))) ∧ ((decide (a0.kind = (4 : Int))) = false → (((decide (a0.kind = (5 : Int))) = true → K (decide (a0.kind = a0.kind) && ((([] : List UInt8) == ([] : List UInt8)) && (decide (a0.num = (0 : Int)) && ((a0.unit == ([] : List UInt8)) && ((a0.flag == false) && true)))))) ∧ ((decide (a0.kind = (5 : Int))) = false → (((decide (a0.kind = (7 : Int))) = true → K (decide (a0.kind = a0.kind) && ((([] : List UInt8) == ([] : List UInt8)) && (decide (a0.num = (0 : Int)) && ((a0.unit == ([] : List UInt8)) && ((a0.flag == false) && true)))))) ∧ ((decide (a0.kind = (7 : Int))) = false → (((decide (a0.kind = (9 : Int))) = true → (((decide ((a0.text.length : Int) = (1 : Int))) = true → ((0 ≤ (0 : Int) ∧ (0 : Int) < (a0.text.length : Int)) ∧ (A36 ((a0.text.getD 0 0).toNat : Int) (fun y1 => (((!y1) = true → (((decide (a0.kind = a0.kind) && ((([] : List UInt8) == ([] : List UInt8)) && (decide (a0.num = (0 : Int)) && ((a0.unit == ([] : List UInt8)) && ((a0.flag == false) && true))))) = true → ((0 ≤ (0 : Int) ∧ (0 : Int) < (a0.text.length : Int)) ∧ (((decide (((a0.text.getD 0 0).toNat : Int) ≠ (34 : Int))) = true → ((0 ≤ (0 : Int) ∧ (0 : Int) < (a0.text.length : Int)) ∧ (((decide (((a0.text.getD 0 0).toNat : Int) ≠ (39 : Int))) = true → ((0 ≤ (0 : Int) ∧ (0 : Int) < (a0.text.length : Int)) ∧ (((decide (((a0.text.getD 0 0).toNat : Int) < (48 : Int))) = false → ((0 ≤ (0 : Int) ∧ (0 : Int) < (a0.text.length : Int)) ∧ (((decide ((57 : Int) < ((a0.text.getD 0 0).toNat : Int))) = true → ((0 ≤ (0 : Int) ∧ (0 : Int) < (a0.text.length : Int)) ∧ K (decide (((a0.text.getD 0 0).toNat : Int) < (128 : Int))))) ∧ ((decide ((57 : Int) < ((a0.text.getD 0 0).toNat : Int))) = false → K false)))) ∧ ((decide (((a0.text.getD 0 0).toNat : Int) < (48 : Int))) = true → ((0 ≤ (0 : Int) ∧ (0 : Int) < (a0.text.length : Int)) ∧ K (decide (((a0.text.getD 0 0).toNat : Int) < (128 : Int)))))))) ∧ ((decide (((a0.text.getD 0 0).toNat : Int) ≠ (39 : Int))) = false → K false)))) ∧ ((decide (((a0.text.getD 0 0).toNat : Int) ≠ (34 : Int))) = false → K false)))) ∧ ((decide (a0.kind = a0.kind) && ((([] : List UInt8) == ([] : List UInt8)) && (decide (a0.num = (0 : Int)) && ((a0.unit == ([] : List UInt8)) && ((a0.flag == false) && true))))) = false → K false))) ∧ ((!y1) = false → K false)))))) ∧ ((decide ((a0.text.length : Int) = (1 : Int))) = false → K false))) ∧ ((decide (a0.kind = (9 : Int))) = false → (((decide (a0.kind = (10 : Int))) = true → (((decide ((-1000000000000 : Int) ≤ a0.num)) = true → (((decide (a0.num ≤ (1000000000000 : Int))) = true → (((!a0.flag) = false → ((1000 : Int) ≠ 0 ∧ (((decide ((a0.num.tmod (1000 : Int)) = (0 : Int))) = false → (((decide (a0.num = (1000000000000 : Int))) = true → ((((!(a0.unit == ([] : List UInt8))) == (decide (a0.kind = (12 : Int)))) = true → (((decide (a0.kind ≠ (11 : Int))) = false → (((!a0.flag) = true → K (decide (a0.kind = a0.kind) && ((a0.text == ([] : List UInt8)) && (decide ((0 : Int) = (0 : Int)) && ((([] : List UInt8) == ([] : List UInt8)) && ((false == false) && true)))))) ∧ ((!a0.flag) = false → K false))) ∧ ((decide (a0.kind ≠ (11 : Int))) = true → K (decide (a0.kind = a0.kind) && ((a0.text == ([] : List UInt8)) && (decide ((0 : Int) = (0 : Int)) && ((([] : List UInt8) == ([] : List UInt8)) && ((false == false) && true)))))))) ∧ (((!(a0.unit == ([] : List UInt8))) == (decide (a0.kind = (12 : Int)))) = false → K false))) ∧ ((decide (a0.num = (1000000000000 : Int))) = false → K false))) ∧ ((decide ((a0.num.tmod (1000 : Int)) = (0 : Int))) = true → ((((!(a0.unit == ([] : List UInt8))) == (decide (a0.kind = (12 : Int)))) = true → (((decide (a0.kind ≠ (11 : Int))) = false → (((!a0.flag) = true → K (decide (a0.kind = a0.kind) && ((a0.text == ([] : List UInt8)) && (decide ((0 : Int) = (0 : Int)) && ((([] : List UInt8) == ([] : List UInt8)) && ((false == false) && true)))))) ∧ ((!a0.flag) = false → K false))) ∧ ((decide (a0.kind ≠ (11 : Int))) = true → K (decide (a0.kind = a0.kind) && ((a0.text == ([] : List UInt8)) && (decide ((0 : Int) = (0 : Int)) && ((([] : List UInt8) == ([] : List UInt8)) && ((false == false) && true)))))))) ∧ (((!(a0.unit == ([] : List UInt8))) == (decide (a0.kind = (12 : Int)))) = false → K false)))))) ∧ ((!a0.flag) = true → ((((!(a0.unit == ([] : List UInt8))) == (decide (a0.kind = (12 : Int)))) = true → (((decide (a0.kind ≠ (11 : Int))) = false → (((!a0.flag) = true → K (decide (a0.kind = a0.kind) && ((a0.text == ([] : List UInt8)) && (decide ((0 : Int) = (0 : Int)) && ((([] : List UInt8) == ([] : List UInt8)) && ((false == false) && true)))))) ∧ ((!a0.flag) = false → K false))) ∧ ((decide (a0.kind ≠ (11 : Int))) = true → K (decide (a0.kind = a0.kind) && ((a0.text == ([] : List UInt8)) && (decide ((0 : Int) = (0 : Int)) && ((([] : List UInt8) == ([] : List UInt8)) && ((false == false) && true)))))))) ∧ (((!(a0.unit == ([] : List UInt8))) == (decide (a0.kind = (12 : Int)))) = false → K false))))) ∧ ((decide (a0.num ≤ (1000000000000 : Int))) = false → K false))) ∧ ((decide ((-1000000000000 : Int) ≤ a0.num)) = false → K false))) ∧ ((decide (a0.kind = (10 : Int))) = false → (((decide (a0.kind = (11 : Int))) = true → (((decide ((-1000000000000 : Int) ≤ a0.num)) = true → (((decide (a0.num ≤ (1000000000000 : Int))) = true → (((!a0.flag) = false → ((1000 : Int) ≠ 0 ∧ (((decide ((a0.num.tmod (1000 : Int)) = (0 : Int))) = false → (((decide (a0.num = (1000000000000 : Int))) = true → ((((!(a0.unit == ([] : List UInt8))) == (decide (a0.kind = (12 : Int)))) = true → (((decide (a0.kind ≠ (11 : Int))) = false → (((!a0.flag) = true → K (decide (a0.kind = a0.kind) && ((a0.text == ([] : List UInt8)) && (decide ((0 : Int) = (0 : Int)) && ((([] : List UInt8) == ([] : List UInt8)) && ((false == false) && true)))))) ∧ ((!a0.flag) = false → K false))) ∧ ((decide (a0.kind ≠ (11 : Int))) = true → K (decide (a0.kind = a0.kind) && ((a0.text == ([] : List UInt8)) && (decide ((0 : Int) = (0 : Int)) && ((([] : List UInt8) == ([] : List UInt8)) && ((false == false) && true)))))))) ∧ (((!(a0.unit == ([] : List UInt8))) == (decide (a0.kind = (12 : Int)))) = false → K false))) ∧ ((decide (a0.num = (1000000000000 : Int))) = false → K false))) ∧ ((decide ((a0.num.tmod (1000 : Int)) = (0 : Int))) = true → ((((!(a0.unit == ([] : List UInt8))) == (decide (a0.kind = (12 : Int)))) = true → (((decide (a0.kind ≠ (11 : Int))) = false → (((!a0.flag) = true → K (decide (a0.kind = a0.kind) && ((a0.text == ([] : List UInt8)) && (decide ((0 : Int) = (0 : Int)) && ((([] : List UInt8) == ([] : List UInt8)) && ((false == false) && true)))))) ∧ ((!a0.flag) = false → K false))) ∧ ((decide (a0.kind ≠ (11 : Int))) = true → K (decide (a0.kind = a0.kind) && ((a0.text == ([] : List UInt8)) && (decide ((0 : Int) = (0 : Int)) && ((([] : List UInt8) == ([] : List UInt8)) && ((false == false) && true)))))))) ∧ (((!(a0.unit == ([] : List UInt8))) == (decide (a0.kind = (12 : Int)))) = false → K false)))))) ∧ ((!a0.flag) = true → ((((!(a0.unit == ([] : List UInt8))) == (decide (a0.kind = (12 : Int)))) = true → (((decide (a0.kind ≠ (11 : Int))) = false → (((!a0.flag) = true → K (decide (a0.kind = a0.kind) && ((a0.text == ([] : List UInt8)) && (decide ((0 : Int) = (0 : Int)) && ((([] : List UInt8) == ([] : List UInt8)) && ((false == false) && true)))))) ∧ ((!a0.flag) = false → K false))) ∧ ((decide (a0.kind ≠ (11 : Int))) = true → K (decide (a0.kind = a0.kind) && ((a0.text == ([] : List UInt8)) && (decide ((0 : Int) = (0 : Int)) && ((([] : List UInt8) == ([] : List UInt8)) && ((false == false) && true)))))))) ∧ (((!(a0.unit == ([] : List UInt8))) == (decide (a0.kind = (12 : Int)))) = false → K false))))) ∧ ((decide (a0.num ≤ (1000000000000 : Int))) = false → K false))) ∧ ((decide ((-1000000000000 : Int) ≤ a0.num)) = false → K false))) ∧ ((decide (a0.kind = (11 : Int))) = false → (((decide (a0.kind = (12 : Int))) = true → (((decide ((-1000000000000 : Int) ≤ a0.num)) = true → (((decide (a0.num ≤ (1000000000000 : Int))) = true → (((!a0.flag) = false → ((1000 : Int) ≠ 0 ∧ (((decide ((a0.num.tmod (1000 : Int)) = (0 : Int))) = false → (((decide (a0.num = (1000000000000 : Int))) = true → ((((!(a0.unit == ([] : List UInt8))) == (decide (a0.kind = (12 : Int)))) = true → (((decide (a0.kind ≠ (11 : Int))) = false → (((!a0.flag) = true → K (decide (a0.kind = a0.kind) && ((a0.text == ([] : List UInt8)) && (decide ((0 : Int) = (0 : Int)) && ((([] : List UInt8) == ([] : List UInt8)) && ((false == false) && true)))))) ∧ ((!a0.flag) = false → K false))) ∧ ((decide (a0.kind ≠ (11 : Int))) = true → K (decide (a0.kind = a0.kind) && ((a0.text == ([] : List UInt8)) && (decide ((0 : Int) = (0 : Int)) && ((([] : List UInt8) == ([] : List UInt8)) && ((false == false) && true)))))))) ∧ (((!(a0.unit == ([] : List UInt8))) == (decide (a0.kind = (12 : Int)))) = false → K false))) ∧ ((decide (a0.num = (1000000000000 : Int))) = false → K false))) ∧ ((decide ((a0.num.tmod (1000 : Int)) = (0 : Int))) = true → ((((!(a0.unit == ([] : List UInt8))) == (decide (a0.kind = (12 : Int)))) = true → (((decide (a0.kind ≠ (11 : Int))) = false → (((!a0.flag) = true → K (decide (a0.kind = a0.kind) && ((a0.text == ([] : List UInt8)) && (decide ((0 : Int) = (0 : Int)) && ((([] : List UInt8) == ([] : List UInt8)) && ((false == false) && true)))))) ∧ ((!a0.flag) = false → K false))) ∧ ((decide (a0.kind ≠ (11 : Int))) = true → K (decide (a0.kind = a0.kind) && ((a0.text == ([] : List UInt8)) && (decide ((0 : Int) = (0 : Int)) && ((([] : List UInt8) == ([] : List UInt8)) && ((false == false) && true)))))))) ∧ (((!(a0.unit == ([] : List UInt8))) == (decide (a0.kind = (12 : Int)))) = false → K false)))))) ∧ ((!a0.flag) = true → ((((!(a0.unit == ([] : List UInt8))) == (decide (a0.kind = (12 : Int)))) = true → (((decide (a0.kind ≠ (11 : Int))) = false → (((!a0.flag) = true → K (decide (a0.kind = a0.kind) && ((a0.text == ([] : List UInt8)) && (decide ((0 : Int) = (0 : Int)) && ((([] : List UInt8) == ([] : List UInt8)) && ((false == false) && true)))))) ∧ ((!a0.flag) = false → K false))) ∧ ((decide (a0.kind ≠ (11 : Int))) = true → K (decide (a0.kind = a0.kind) && ((a0.text == ([] : List UInt8)) && (decide ((0 : Int) = (0 : Int)) && ((([] : List UInt8) == ([] : List UInt8)) && ((false == false) && true)))))))) ∧ (((!(a0.unit == ([] : List UInt8))) == (decide (a0.kind = (12 : Int)))) = false → K false))))) ∧ ((decide (a0.num ≤ (1000000000000 : Int))) = false → K false))) ∧ ((decide ((-1000000000000 : Int) ≤ a0.num)) = false → K false))) ∧ ((decide (a0.kind = (12 : Int))) = false → (((decide ((1 : Int) ≤ a0.kind)) = true → (((decide (a0.kind ≤ (24 : Int))) = true → K (decide (a0.kind = a0.kind) && ((a0.text == ([] : List UInt8)) && (decide (a0.num = (0 : Int)) && ((a0.unit == ([] : List UInt8)) && ((a0.flag == false) && true)))))) ∧ ((decide (a0.kind ≤ (24 : Int))) = false → K false))) ∧ ((decide ((1 : Int) ≤ a0.kind)) = false → K false))))))))))))))))))))))

def C_vitrinelaw02_shaped (A36 : T_vitrinelaw02_space) : CallT sg := tab [(36, con [none] (q_vitrinelaw02_space A36))]
theorem Cok_vitrinelaw02_shaped (A36 : T_vitrinelaw02_space) (h36 : FnOK sy Tryd.prog GT ovD GL 36 (q_vitrinelaw02_space A36)) (o0 : Nat → Prop) : CalOK sy Tryd.prog GT ovD o0 GL (C_vitrinelaw02_shaped A36) := (tab_cons (con_ok h36) tab_nil) o0

theorem raw_vitrinelaw02_shaped (A36 : T_vitrinelaw02_space) (a0 : Tok) (k : W → Prop) : fnT sy Tryd.prog GT (C_vitrinelaw02_shaped A36) noL Tryd.f21.ntmps (bodyOf Tryd.f21) [none] Tryd.f21.results.toList [.a [.i .u8 a0.kind, .s a0.text, .i .i64 a0.num, .s a0.unit, .b a0.flag]] k = F_vitrinelaw02_shaped A36 a0 (fun r0 => k (.b r0)) := by kernel_rfl

theorem ok_vitrinelaw02_shaped (A36 : T_vitrinelaw02_space) (h36 : FnOK sy Tryd.prog GT ovD GL 36 (q_vitrinelaw02_space A36)) : FnOK sy Tryd.prog GT ovD GL 21 (q_vitrinelaw02_shaped (F_vitrinelaw02_shaped A36)) := (fn_ok (rc := [none]) (f := 21) (fn := Tryd.f21) (c := bodyOf Tryd.f21) (nt := Tryd.f21.ntmps) (res := Tryd.f21.results.toList) (C := C_vitrinelaw02_shaped A36) (L := noL) (fun _ => rfl) Tryd.func21 (by kernel_rfl) rfl rfl (Cok_vitrinelaw02_shaped A36 h36) (lp_of (l := []) (by kernel_rfl) lp_nil)).weak (by
  intro us k h
  unfold q_vitrinelaw02_shaped at h
  split at h
  · skip
    rename_i a0_0 a0_1 a0_2 a0_3 a0_4
    rw [raw_vitrinelaw02_shaped A36 (Tok.mk a0_0 a0_1 a0_2 a0_3 a0_4) k]
    exact h
  · exact h.elim)

abbrev T_vitrinelaw02_TokenShape := List UInt8 → (Bool → Prop) → Prop
def q_vitrinelaw02_TokenShape (A : T_vitrinelaw02_TokenShape) (us : List W) (k : W → Prop) : Prop := match us with
  | [.s a0] => A a0 (fun r0 => k (.b r0))
  | _ => False
theorem q_vitrinelaw02_TokenShape_weak {A A2 : T_vitrinelaw02_TokenShape} (h : FnOK sy Tryd.prog GT ovD GL 7 (q_vitrinelaw02_TokenShape A)) (hA : ∀ a0 K, A2 a0 K → A a0 K) : FnOK sy Tryd.prog GT ovD GL 7 (q_vitrinelaw02_TokenShape A2) := h.weak (by
  intro us k h
  unfold q_vitrinelaw02_TokenShape at h ⊢
  split at h
  · exact hA _ _ h
  · exact h.elim)

def F_vitrinelaw02_TokenShape_l8 (A15 : T_vitrinelaw02_alive) (A9 : T_TokensA) (A10 : T_SpansA) (A21 : T_vitrinelaw02_shaped) : Nat → List Tok → List (Int × Int) → Int → (Unit → Prop) → (Bool → Prop) → Prop
  | 0, _, _, _, _, _ => False
  | n + 1, x3, x5, x7, Ke, Kr => (((decide (x7 < (x3.length : Int))) = true → ((0 ≤ x7 ∧ x7 < (x3.length : Int)) ∧ (A21 (Tok.mk ((x3.getD x7.toNat (dfltD Cd.tok)).kind) ((x3.getD x7.toNat (dfltD Cd.tok)).text) ((x3.getD x7.toNat (dfltD Cd.tok)).num) ((x3.getD x7.toNat (dfltD Cd.tok)).unit) ((x3.getD x7.toNat (dfltD Cd.tok)).flag)) (fun y1 => (((!y1) = false → (((decide ((0 : Int) < x7)) = true → ((0 ≤ x7 ∧ x7 < (x3.length : Int)) ∧ (((decide (((x3.getD x7.toNat (dfltD Cd.tok)).kind) = (13 : Int))) = true → (I64 (x7 - (1 : Int)) ∧ ((0 ≤ (x7 - (1 : Int)) ∧ (x7 - (1 : Int)) < (x3.length : Int)) ∧ (((decide (((x3.getD ((x7 - (1 : Int)).toNat) (dfltD Cd.tok)).kind) = (13 : Int))) = true → ((0 ≤ x7 ∧ x7 < (x5.length : Int)) ∧ ((0 ≤ (0 : Int) ∧ (0 : Int) < (2 : Int)) ∧ (I64 (x7 - (1 : Int)) ∧ ((0 ≤ (x7 - (1 : Int)) ∧ (x7 - (1 : Int)) < (x5.length : Int)) ∧ ((0 ≤ (1 : Int) ∧ (1 : Int) < (2 : Int)) ∧ (I64 (((x5.getD x7.toNat (dfltD Cd.span)).1) - ((x5.getD ((x7 - (1 : Int)).toNat) (dfltD Cd.span)).2)) ∧ (((decide ((((x5.getD x7.toNat (dfltD Cd.span)).1) - ((x5.getD ((x7 - (1 : Int)).toNat) (dfltD Cd.span)).2)) < (4 : Int))) = true → Kr false) ∧ ((decide ((((x5.getD x7.toNat (dfltD Cd.span)).1) - ((x5.getD ((x7 - (1 : Int)).toNat) (dfltD Cd.span)).2)) < (4 : Int))) = false → (I64 (x7 + (1 : Int)) ∧ F_vitrinelaw02_TokenShape_l8 A15 A9 A10 A21 n x3 x5 (x7 + (1 : Int)) Ke Kr)))))))))) ∧ ((decide (((x3.getD ((x7 - (1 : Int)).toNat) (dfltD Cd.tok)).kind) = (13 : Int))) = false → (I64 (x7 + (1 : Int)) ∧ F_vitrinelaw02_TokenShape_l8 A15 A9 A10 A21 n x3 x5 (x7 + (1 : Int)) Ke Kr)))))) ∧ ((decide (((x3.getD x7.toNat (dfltD Cd.tok)).kind) = (13 : Int))) = false → (I64 (x7 + (1 : Int)) ∧ F_vitrinelaw02_TokenShape_l8 A15 A9 A10 A21 n x3 x5 (x7 + (1 : Int)) Ke Kr))))) ∧ ((decide ((0 : Int) < x7)) = false → (I64 (x7 + (1 : Int)) ∧ F_vitrinelaw02_TokenShape_l8 A15 A9 A10 A21 n x3 x5 (x7 + (1 : Int)) Ke Kr)))) ∧ ((!y1) = true → Kr false)))))) ∧ ((decide (x7 < (x3.length : Int))) = false → Ke ()))

def F_vitrinelaw02_TokenShape (A15 : T_vitrinelaw02_alive) (A9 : T_TokensA) (A10 : T_SpansA) (A21 : T_vitrinelaw02_shaped) (a0 : List UInt8) (K : Bool → Prop) : Prop :=
  (((decide ((500 : Int) < (a0.length : Int))) = true → (A15 (fun y1 => K y1))) ∧ ((decide ((500 : Int) < (a0.length : Int))) = false → (A9 a0 (fun y2 y3 => (A10 a0 (fun y4 y5 => (((decide (y3 ≠ y5)) = false → (((decide ((y2.length : Int) ≠ (y4.length : Int))) = true → K false) ∧ ((decide ((y2.length : Int) ≠ (y4.length : Int))) = false → (∃ m, F_vitrinelaw02_TokenShape_l8 A15 A9 A10 A21 m y2 y4 (0 : Int) (fun _ => (A15 (fun y6 => K y6))) (fun y7 => K y7))))) ∧ ((decide (y3 ≠ y5)) = true → K false))))))))

def C_vitrinelaw02_TokenShape (A15 : T_vitrinelaw02_alive) (A9 : T_TokensA) (A10 : T_SpansA) (A21 : T_vitrinelaw02_shaped) : CallT sg := tab [(15, con [] (q_vitrinelaw02_alive A15)), (9, con [none] (q_TokensA A9)), (10, con [none] (q_SpansA A10)), (21, con [none] (q_vitrinelaw02_shaped A21))]
theorem Cok_vitrinelaw02_TokenShape (A15 : T_vitrinelaw02_alive) (A9 : T_TokensA) (A10 : T_SpansA) (A21 : T_vitrinelaw02_shaped) (h15 : FnOK sy Tryd.prog GT ovD GL 15 (q_vitrinelaw02_alive A15)) (h9 : FnOK sy Tryd.prog GT ovD GL 9 (q_TokensA A9)) (h10 : FnOK sy Tryd.prog GT ovD GL 10 (q_SpansA A10)) (h21 : FnOK sy Tryd.prog GT ovD GL 21 (q_vitrinelaw02_shaped A21)) (o0 : Nat → Prop) : CalOK sy Tryd.prog GT ovD o0 GL (C_vitrinelaw02_TokenShape A15 A9 A10 A21) := (tab_cons (con_ok h15) (tab_cons (con_ok h9) (tab_cons (con_ok h10) (tab_cons (con_ok h21) tab_nil)))) o0

def ls_vitrinelaw02_TokenShape_8 : LS sy ((List (sg.Den Cd.tok)) × (List (sg.Den Cd.span)) × Int × Unit) Unit := ⟨[], fCons 3 (vData sy Cd.tok) (fCons 5 (vData sy Cd.span) (fCons 7 (vInt sy .i64) (fNil sy))), hNil sy, 0, []⟩
def le_vitrinelaw02_TokenShape_8 : LS sy Unit Unit := ⟨[], fNil sy, hNil sy, 0, []⟩
def lr_vitrinelaw02_TokenShape_8 : LS sy (Bool × Unit) Unit := ⟨[], fCons 2 (vBool sy) (fNil sy), hNil sy, 0, []⟩
def FF_vitrinelaw02_TokenShape_8 (A15 : T_vitrinelaw02_alive) (A9 : T_TokensA) (A10 : T_SpansA) (A21 : T_vitrinelaw02_shaped) (n : Nat) (x : ((List (sg.Den Cd.tok)) × (List (sg.Den Cd.span)) × Int × Unit) × Unit) (K : Ex → Z sg → Prop) : Prop := F_vitrinelaw02_TokenShape_l8 A15 A9 A10 A21 n x.1.1 x.1.2.1 x.1.2.2.1 (fun _ => K (.exit 0) (le_vitrinelaw02_TokenShape_8.put ((), ()))) (fun y0 => K .ret (lr_vitrinelaw02_TokenShape_8.put ((y0, ()), ())))
def h_vitrinelaw02_TokenShape_8 (A15 : T_vitrinelaw02_alive) (A9 : T_TokensA) (A10 : T_SpansA) (A21 : T_vitrinelaw02_shaped) (z : Z sg) (K : Ex → Z sg → Prop) : Prop := ls_vitrinelaw02_TokenShape_8.get z (fun x => ∃ n, FF_vitrinelaw02_TokenShape_8 A15 A9 A10 A21 n x K)
def L_vitrinelaw02_TokenShape (A15 : T_vitrinelaw02_alive) (A9 : T_TokensA) (A10 : T_SpansA) (A21 : T_vitrinelaw02_shaped) : LoopT sg := tabL [(8, h_vitrinelaw02_TokenShape_8 A15 A9 A10 A21)]
theorem hs_vitrinelaw02_TokenShape_8 (A15 : T_vitrinelaw02_alive) (A9 : T_TokensA) (A10 : T_SpansA) (A21 : T_vitrinelaw02_shaped) (n : Nat) (x : ((List (sg.Den Cd.tok)) × (List (sg.Den Cd.span)) × Int × Unit) × Unit) (K : Ex → Z sg → Prop) : forceZ (ls_vitrinelaw02_TokenShape_8.put x) (fun z => sC sy Tryd.prog GT (C_vitrinelaw02_TokenShape A15 A9 A10 A21) (L_vitrinelaw02_TokenShape A15 A9 A10 A21) Tryd.f7.ntmps (nthLoop (bodyOf Tryd.f7) 0) z (rnd ls_vitrinelaw02_TokenShape_8 (czT 0 le_vitrinelaw02_TokenShape_8 lr_vitrinelaw02_TokenShape_8) (fun x => FF_vitrinelaw02_TokenShape_8 A15 A9 A10 A21 n x K) K)) = FF_vitrinelaw02_TokenShape_8 A15 A9 A10 A21 (n + 1) x K := by kernel_rfl
theorem hl_vitrinelaw02_TokenShape_8 (A15 : T_vitrinelaw02_alive) (A9 : T_TokensA) (A10 : T_SpansA) (A21 : T_vitrinelaw02_shaped) (z : Z sg) (K : Ex → Z sg → Prop) : (L_vitrinelaw02_TokenShape A15 A9 A10 A21) (nthLoop (bodyOf Tryd.f7) 0) z K = ls_vitrinelaw02_TokenShape_8.get z (fun x => ∃ n, FF_vitrinelaw02_TokenShape_8 A15 A9 A10 A21 n x K) := by kernel_rfl
theorem lo_vitrinelaw02_TokenShape_8 (A15 : T_vitrinelaw02_alive) (A9 : T_TokensA) (A10 : T_SpansA) (A21 : T_vitrinelaw02_shaped) (h15 : FnOK sy Tryd.prog GT ovD GL 15 (q_vitrinelaw02_alive A15)) (h9 : FnOK sy Tryd.prog GT ovD GL 9 (q_TokensA A9)) (h10 : FnOK sy Tryd.prog GT ovD GL 10 (q_SpansA A10)) (h21 : FnOK sy Tryd.prog GT ovD GL 21 (q_vitrinelaw02_shaped A21)) : ∀ (o0 : Nat → Prop) (B : Bs sg), B.E.length ≤ 0 → ∀ z K, (L_vitrinelaw02_TokenShape A15 A9 A10 A21) (nthLoop (bodyOf Tryd.f7) 0) z K → Sx.Sem sy Tryd.prog GT ovD o0 GL Tryd.f7.ntmps B (.loop (nthLoop (bodyOf Tryd.f7) 0)) z K :=
  loop_ok (Cok_vitrinelaw02_TokenShape A15 A9 A10 A21 h15 h9 h10 h21) (lp_of (l := []) (by kernel_rfl) lp_nil) ls_vitrinelaw02_TokenShape_8 (by decide) (czT 0 le_vitrinelaw02_TokenShape_8 lr_vitrinelaw02_TokenShape_8) (fun _ _ hB => czT_ok 0 le_vitrinelaw02_TokenShape_8 lr_vitrinelaw02_TokenShape_8 (Nat.le_trans hB (by decide)) (Nat.le_trans hB (by decide))) (fun _ _ h => h) (hs_vitrinelaw02_TokenShape_8 A15 A9 A10 A21) (hl_vitrinelaw02_TokenShape_8 A15 A9 A10 A21)
theorem Lp_vitrinelaw02_TokenShape (A15 : T_vitrinelaw02_alive) (A9 : T_TokensA) (A10 : T_SpansA) (A21 : T_vitrinelaw02_shaped) (h15 : FnOK sy Tryd.prog GT ovD GL 15 (q_vitrinelaw02_alive A15)) (h9 : FnOK sy Tryd.prog GT ovD GL 9 (q_TokensA A9)) (h10 : FnOK sy Tryd.prog GT ovD GL 10 (q_SpansA A10)) (h21 : FnOK sy Tryd.prog GT ovD GL 21 (q_vitrinelaw02_shaped A21)) : LpOK sy Tryd.prog GT ovD GL (L_vitrinelaw02_TokenShape A15 A9 A10 A21) 0 Tryd.f7.ntmps (bodyOf Tryd.f7) := lp_of (l := [(nthLoop (bodyOf Tryd.f7) 0)]) (by kernel_rfl) (lp_cons (lo_vitrinelaw02_TokenShape_8 A15 A9 A10 A21 h15 h9 h10 h21) lp_nil)


theorem raw_vitrinelaw02_TokenShape (A15 : T_vitrinelaw02_alive) (A9 : T_TokensA) (A10 : T_SpansA) (A21 : T_vitrinelaw02_shaped) (a0 : List UInt8) (k : W → Prop) : fnT sy Tryd.prog GT (C_vitrinelaw02_TokenShape A15 A9 A10 A21) (L_vitrinelaw02_TokenShape A15 A9 A10 A21) Tryd.f7.ntmps (bodyOf Tryd.f7) [none] Tryd.f7.results.toList [.s a0] k = F_vitrinelaw02_TokenShape A15 A9 A10 A21 a0 (fun r0 => k (.b r0)) := by kernel_rfl

theorem ok_vitrinelaw02_TokenShape (A15 : T_vitrinelaw02_alive) (A9 : T_TokensA) (A10 : T_SpansA) (A21 : T_vitrinelaw02_shaped) (h15 : FnOK sy Tryd.prog GT ovD GL 15 (q_vitrinelaw02_alive A15)) (h9 : FnOK sy Tryd.prog GT ovD GL 9 (q_TokensA A9)) (h10 : FnOK sy Tryd.prog GT ovD GL 10 (q_SpansA A10)) (h21 : FnOK sy Tryd.prog GT ovD GL 21 (q_vitrinelaw02_shaped A21)) : FnOK sy Tryd.prog GT ovD GL 7 (q_vitrinelaw02_TokenShape (F_vitrinelaw02_TokenShape A15 A9 A10 A21)) := (fn_ok (rc := [none]) (f := 7) (fn := Tryd.f7) (c := bodyOf Tryd.f7) (nt := Tryd.f7.ntmps) (res := Tryd.f7.results.toList) (C := C_vitrinelaw02_TokenShape A15 A9 A10 A21) (L := (L_vitrinelaw02_TokenShape A15 A9 A10 A21)) (fun _ => rfl) Tryd.func7 (by kernel_rfl) rfl rfl (Cok_vitrinelaw02_TokenShape A15 A9 A10 A21 h15 h9 h10 h21) (Lp_vitrinelaw02_TokenShape A15 A9 A10 A21 h15 h9 h10 h21)).weak (by
  intro us k h
  unfold q_vitrinelaw02_TokenShape at h
  split at h
  · skip
    rename_i a0
    rw [raw_vitrinelaw02_TokenShape A15 A9 A10 A21 a0 k]
    exact h
  · exact h.elim)

abbrev T_vitrinelaw02_TokenCovers := List UInt8 → (Bool → Prop) → Prop
def q_vitrinelaw02_TokenCovers (A : T_vitrinelaw02_TokenCovers) (us : List W) (k : W → Prop) : Prop := match us with
  | [.s a0] => A a0 (fun r0 => k (.b r0))
  | _ => False
theorem q_vitrinelaw02_TokenCovers_weak {A A2 : T_vitrinelaw02_TokenCovers} (h : FnOK sy Tryd.prog GT ovD GL 5 (q_vitrinelaw02_TokenCovers A)) (hA : ∀ a0 K, A2 a0 K → A a0 K) : FnOK sy Tryd.prog GT ovD GL 5 (q_vitrinelaw02_TokenCovers A2) := h.weak (by
  intro us k h
  unfold q_vitrinelaw02_TokenCovers at h ⊢
  split at h
  · exact hA _ _ h
  · exact h.elim)

def F_vitrinelaw02_TokenCovers_l12 (A15 : T_vitrinelaw02_alive) (A18 : T_input_Clean) (A9 : T_TokensA) (A10 : T_SpansA) (A19 : T_vitrinelaw02_comments) : Nat → List UInt8 → List (Int × Int) → Int → Int → (List UInt8 → Int → Prop) → (Bool → Prop) → Prop
  | 0, _, _, _, _, _, _ => False
  | n + 1, x3, x7, x9, x10, Ke, Kr => (((decide (x10 < (x7.length : Int))) = true → ((0 ≤ x10 ∧ x10 < (x7.length : Int)) ∧ ((0 ≤ (0 : Int) ∧ (0 : Int) < (2 : Int)) ∧ (((decide (((x7.getD x10.toNat (dfltD Cd.span)).1) < x9)) = false → ((0 ≤ x10 ∧ x10 < (x7.length : Int)) ∧ ((0 ≤ (1 : Int) ∧ (1 : Int) < (2 : Int)) ∧ ((0 ≤ x10 ∧ x10 < (x7.length : Int)) ∧ ((0 ≤ (0 : Int) ∧ (0 : Int) < (2 : Int)) ∧ (((decide (((x7.getD x10.toNat (dfltD Cd.span)).2) ≤ ((x7.getD x10.toNat (dfltD Cd.span)).1))) = false → ((0 ≤ x10 ∧ x10 < (x7.length : Int)) ∧ ((0 ≤ (1 : Int) ∧ (1 : Int) < (2 : Int)) ∧ (((decide ((x3.length : Int) < ((x7.getD x10.toNat (dfltD Cd.span)).2))) = false → ((0 ≤ x10 ∧ x10 < (x7.length : Int)) ∧ ((0 ≤ (0 : Int) ∧ (0 : Int) < (2 : Int)) ∧ ((0 ≤ x9 ∧ x9 ≤ ((x7.getD x10.toNat (dfltD Cd.span)).1) ∧ ((x7.getD x10.toNat (dfltD Cd.span)).1) ≤ (x3.length : Int)) ∧ (A19 ((x3.drop x9.toNat).take (((x7.getD x10.toNat (dfltD Cd.span)).1).toNat - x9.toNat)) false (fun y1 => (((!y1) = true → Kr false) ∧ ((!y1) = false → ((0 ≤ x10 ∧ x10 < (x7.length : Int)) ∧ ((0 ≤ (1 : Int) ∧ (1 : Int) < (2 : Int)) ∧ (I64 (x10 + (1 : Int)) ∧ F_vitrinelaw02_TokenCovers_l12 A15 A18 A9 A10 A19 n x3 x7 ((x7.getD x10.toNat (dfltD Cd.span)).2) (x10 + (1 : Int)) Ke Kr))))))))))) ∧ ((decide ((x3.length : Int) < ((x7.getD x10.toNat (dfltD Cd.span)).2))) = true → Kr false))))) ∧ ((decide (((x7.getD x10.toNat (dfltD Cd.span)).2) ≤ ((x7.getD x10.toNat (dfltD Cd.span)).1))) = true → Kr false))))))) ∧ ((decide (((x7.getD x10.toNat (dfltD Cd.span)).1) < x9)) = true → Kr false))))) ∧ ((decide (x10 < (x7.length : Int))) = false → Ke x3 x9))

def F_vitrinelaw02_TokenCovers (A15 : T_vitrinelaw02_alive) (A18 : T_input_Clean) (A9 : T_TokensA) (A10 : T_SpansA) (A19 : T_vitrinelaw02_comments) (a0 : List UInt8) (K : Bool → Prop) : Prop :=
  (((decide ((500 : Int) < (a0.length : Int))) = true → (A15 (fun y1 => K y1))) ∧ ((decide ((500 : Int) < (a0.length : Int))) = false → (A18 a0 (fun y2 y3 => (A9 a0 (fun y4 y5 => (A10 a0 (fun y6 y7 => (((decide (y3 ≠ (0 : Int))) = false → (((decide (y5 ≠ y7)) = false → (((decide (y5 ≠ (0 : Int))) = true → (((decide (y5 ≠ (4 : Int))) = false → (((decide ((y4.length : Int) ≠ (y6.length : Int))) = true → K false) ∧ ((decide ((y4.length : Int) ≠ (y6.length : Int))) = false → (((decide (y5 ≠ (0 : Int))) = true → (((decide ((1500 : Int) < (y2.length : Int))) = true → (A15 (fun y8 => K y8))) ∧ ((decide ((1500 : Int) < (y2.length : Int))) = false → K false))) ∧ ((decide (y5 ≠ (0 : Int))) = false → (∃ m, F_vitrinelaw02_TokenCovers_l12 A15 A18 A9 A10 A19 m y2 y6 (0 : Int) (0 : Int) (fun y9 y10 => ((0 ≤ y10 ∧ y10 ≤ (y9.length : Int)) ∧ (A19 (y9.drop y10.toNat) true (fun y11 => ((y11 = true → (A15 (fun y12 => K y12))) ∧ (y11 = false → K false)))))) (fun y13 => K y13))))))) ∧ ((decide (y5 ≠ (4 : Int))) = true → K false))) ∧ ((decide (y5 ≠ (0 : Int))) = false → (((decide ((y4.length : Int) ≠ (y6.length : Int))) = true → K false) ∧ ((decide ((y4.length : Int) ≠ (y6.length : Int))) = false → (((decide (y5 ≠ (0 : Int))) = true → (((decide ((1500 : Int) < (y2.length : Int))) = true → (A15 (fun y14 => K y14))) ∧ ((decide ((1500 : Int) < (y2.length : Int))) = false → K false))) ∧ ((decide (y5 ≠ (0 : Int))) = false → (∃ m, F_vitrinelaw02_TokenCovers_l12 A15 A18 A9 A10 A19 m y2 y6 (0 : Int) (0 : Int) (fun y15 y16 => ((0 ≤ y16 ∧ y16 ≤ (y15.length : Int)) ∧ (A19 (y15.drop y16.toNat) true (fun y17 => ((y17 = true → (A15 (fun y18 => K y18))) ∧ (y17 = false → K false)))))) (fun y19 => K y19))))))))) ∧ ((decide (y5 ≠ y7)) = true → K false))) ∧ ((decide (y3 ≠ (0 : Int))) = true → K false))))))))))

def C_vitrinelaw02_TokenCovers (A15 : T_vitrinelaw02_alive) (A18 : T_input_Clean) (A9 : T_TokensA) (A10 : T_SpansA) (A19 : T_vitrinelaw02_comments) : CallT sg := tab [(15, con [] (q_vitrinelaw02_alive A15)), (18, con [none] (q_input_Clean A18)), (9, con [none] (q_TokensA A9)), (10, con [none] (q_SpansA A10)), (19, con [none, none] (q_vitrinelaw02_comments A19))]
theorem Cok_vitrinelaw02_TokenCovers (A15 : T_vitrinelaw02_alive) (A18 : T_input_Clean) (A9 : T_TokensA) (A10 : T_SpansA) (A19 : T_vitrinelaw02_comments) (h15 : FnOK sy Tryd.prog GT ovD GL 15 (q_vitrinelaw02_alive A15)) (h18 : FnOK sy Tryd.prog GT ovD GL 18 (q_input_Clean A18)) (h9 : FnOK sy Tryd.prog GT ovD GL 9 (q_TokensA A9)) (h10 : FnOK sy Tryd.prog GT ovD GL 10 (q_SpansA A10)) (h19 : FnOK sy Tryd.prog GT ovD GL 19 (q_vitrinelaw02_comments A19)) (o0 : Nat → Prop) : CalOK sy Tryd.prog GT ovD o0 GL (C_vitrinelaw02_TokenCovers A15 A18 A9 A10 A19) := (tab_cons (con_ok h15) (tab_cons (con_ok h18) (tab_cons (con_ok h9) (tab_cons (con_ok h10) (tab_cons (con_ok h19) tab_nil))))) o0

def ls_vitrinelaw02_TokenCovers_12 : LS sy ((List UInt8) × (List (sg.Den Cd.span)) × Int × Int × Unit) Unit := ⟨[], fCons 3 (vStr sy) (fCons 7 (vData sy Cd.span) (fCons 9 (vInt sy .i64) (fCons 10 (vInt sy .i64) (fNil sy)))), hNil sy, 0, []⟩
def le_vitrinelaw02_TokenCovers_12 : LS sy ((List UInt8) × Int × Unit) Unit := ⟨[], fCons 3 (vStr sy) (fCons 9 (vInt sy .i64) (fNil sy)), hNil sy, 0, []⟩
def lr_vitrinelaw02_TokenCovers_12 : LS sy (Bool × Unit) Unit := ⟨[], fCons 2 (vBool sy) (fNil sy), hNil sy, 0, []⟩
def FF_vitrinelaw02_TokenCovers_12 (A15 : T_vitrinelaw02_alive) (A18 : T_input_Clean) (A9 : T_TokensA) (A10 : T_SpansA) (A19 : T_vitrinelaw02_comments) (n : Nat) (x : ((List UInt8) × (List (sg.Den Cd.span)) × Int × Int × Unit) × Unit) (K : Ex → Z sg → Prop) : Prop := F_vitrinelaw02_TokenCovers_l12 A15 A18 A9 A10 A19 n x.1.1 x.1.2.1 x.1.2.2.1 x.1.2.2.2.1 (fun y0 y1 => K (.exit 0) (le_vitrinelaw02_TokenCovers_12.put ((y0, y1, ()), ()))) (fun y0 => K .ret (lr_vitrinelaw02_TokenCovers_12.put ((y0, ()), ())))
def h_vitrinelaw02_TokenCovers_12 (A15 : T_vitrinelaw02_alive) (A18 : T_input_Clean) (A9 : T_TokensA) (A10 : T_SpansA) (A19 : T_vitrinelaw02_comments) (z : Z sg) (K : Ex → Z sg → Prop) : Prop := ls_vitrinelaw02_TokenCovers_12.get z (fun x => ∃ n, FF_vitrinelaw02_TokenCovers_12 A15 A18 A9 A10 A19 n x K)
def L_vitrinelaw02_TokenCovers (A15 : T_vitrinelaw02_alive) (A18 : T_input_Clean) (A9 : T_TokensA) (A10 : T_SpansA) (A19 : T_vitrinelaw02_comments) : LoopT sg := tabL [(12, h_vitrinelaw02_TokenCovers_12 A15 A18 A9 A10 A19)]
theorem hs_vitrinelaw02_TokenCovers_12 (A15 : T_vitrinelaw02_alive) (A18 : T_input_Clean) (A9 : T_TokensA) (A10 : T_SpansA) (A19 : T_vitrinelaw02_comments) (n : Nat) (x : ((List UInt8) × (List (sg.Den Cd.span)) × Int × Int × Unit) × Unit) (K : Ex → Z sg → Prop) : forceZ (ls_vitrinelaw02_TokenCovers_12.put x) (fun z => sC sy Tryd.prog GT (C_vitrinelaw02_TokenCovers A15 A18 A9 A10 A19) (L_vitrinelaw02_TokenCovers A15 A18 A9 A10 A19) Tryd.f5.ntmps (nthLoop (bodyOf Tryd.f5) 0) z (rnd ls_vitrinelaw02_TokenCovers_12 (czT 0 le_vitrinelaw02_TokenCovers_12 lr_vitrinelaw02_TokenCovers_12) (fun x => FF_vitrinelaw02_TokenCovers_12 A15 A18 A9 A10 A19 n x K) K)) = FF_vitrinelaw02_TokenCovers_12 A15 A18 A9 A10 A19 (n + 1) x K := by kernel_rfl
theorem hl_vitrinelaw02_TokenCovers_12 (A15 : T_vitrinelaw02_alive) (A18 : T_input_Clean) (A9 : T_TokensA) (A10 : T_SpansA) (A19 : T_vitrinelaw02_comments) (z : Z sg) (K : Ex → Z sg → Prop) : (L_vitrinelaw02_TokenCovers A15 A18 A9 A10 A19) (nthLoop (bodyOf Tryd.f5) 0) z K = ls_vitrinelaw02_TokenCovers_12.get z (fun x => ∃ n, FF_vitrinelaw02_TokenCovers_12 A15 A18 A9 A10 A19 n x K) := by kernel_rfl
theorem lo_vitrinelaw02_TokenCovers_12 (A15 : T_vitrinelaw02_alive) (A18 : T_input_Clean) (A9 : T_TokensA) (A10 : T_SpansA) (A19 : T_vitrinelaw02_comments) (h15 : FnOK sy Tryd.prog GT ovD GL 15 (q_vitrinelaw02_alive A15)) (h18 : FnOK sy Tryd.prog GT ovD GL 18 (q_input_Clean A18)) (h9 : FnOK sy Tryd.prog GT ovD GL 9 (q_TokensA A9)) (h10 : FnOK sy Tryd.prog GT ovD GL 10 (q_SpansA A10)) (h19 : FnOK sy Tryd.prog GT ovD GL 19 (q_vitrinelaw02_comments A19)) : ∀ (o0 : Nat → Prop) (B : Bs sg), B.E.length ≤ 0 → ∀ z K, (L_vitrinelaw02_TokenCovers A15 A18 A9 A10 A19) (nthLoop (bodyOf Tryd.f5) 0) z K → Sx.Sem sy Tryd.prog GT ovD o0 GL Tryd.f5.ntmps B (.loop (nthLoop (bodyOf Tryd.f5) 0)) z K :=
  loop_ok (Cok_vitrinelaw02_TokenCovers A15 A18 A9 A10 A19 h15 h18 h9 h10 h19) (lp_of (l := []) (by kernel_rfl) lp_nil) ls_vitrinelaw02_TokenCovers_12 (by decide) (czT 0 le_vitrinelaw02_TokenCovers_12 lr_vitrinelaw02_TokenCovers_12) (fun _ _ hB => czT_ok 0 le_vitrinelaw02_TokenCovers_12 lr_vitrinelaw02_TokenCovers_12 (Nat.le_trans hB (by decide)) (Nat.le_trans hB (by decide))) (fun _ _ h => h) (hs_vitrinelaw02_TokenCovers_12 A15 A18 A9 A10 A19) (hl_vitrinelaw02_TokenCovers_12 A15 A18 A9 A10 A19)
theorem Lp_vitrinelaw02_TokenCovers (A15 : T_vitrinelaw02_alive) (A18 : T_input_Clean) (A9 : T_TokensA) (A10 : T_SpansA) (A19 : T_vitrinelaw02_comments) (h15 : FnOK sy Tryd.prog GT ovD GL 15 (q_vitrinelaw02_alive A15)) (h18 : FnOK sy Tryd.prog GT ovD GL 18 (q_input_Clean A18)) (h9 : FnOK sy Tryd.prog GT ovD GL 9 (q_TokensA A9)) (h10 : FnOK sy Tryd.prog GT ovD GL 10 (q_SpansA A10)) (h19 : FnOK sy Tryd.prog GT ovD GL 19 (q_vitrinelaw02_comments A19)) : LpOK sy Tryd.prog GT ovD GL (L_vitrinelaw02_TokenCovers A15 A18 A9 A10 A19) 0 Tryd.f5.ntmps (bodyOf Tryd.f5) := lp_of (l := [(nthLoop (bodyOf Tryd.f5) 0)]) (by kernel_rfl) (lp_cons (lo_vitrinelaw02_TokenCovers_12 A15 A18 A9 A10 A19 h15 h18 h9 h10 h19) lp_nil)


theorem raw_vitrinelaw02_TokenCovers (A15 : T_vitrinelaw02_alive) (A18 : T_input_Clean) (A9 : T_TokensA) (A10 : T_SpansA) (A19 : T_vitrinelaw02_comments) (a0 : List UInt8) (k : W → Prop) : fnT sy Tryd.prog GT (C_vitrinelaw02_TokenCovers A15 A18 A9 A10 A19) (L_vitrinelaw02_TokenCovers A15 A18 A9 A10 A19) Tryd.f5.ntmps (bodyOf Tryd.f5) [none] Tryd.f5.results.toList [.s a0] k = F_vitrinelaw02_TokenCovers A15 A18 A9 A10 A19 a0 (fun r0 => k (.b r0)) := by kernel_rfl

theorem ok_vitrinelaw02_TokenCovers (A15 : T_vitrinelaw02_alive) (A18 : T_input_Clean) (A9 : T_TokensA) (A10 : T_SpansA) (A19 : T_vitrinelaw02_comments) (h15 : FnOK sy Tryd.prog GT ovD GL 15 (q_vitrinelaw02_alive A15)) (h18 : FnOK sy Tryd.prog GT ovD GL 18 (q_input_Clean A18)) (h9 : FnOK sy Tryd.prog GT ovD GL 9 (q_TokensA A9)) (h10 : FnOK sy Tryd.prog GT ovD GL 10 (q_SpansA A10)) (h19 : FnOK sy Tryd.prog GT ovD GL 19 (q_vitrinelaw02_comments A19)) : FnOK sy Tryd.prog GT ovD GL 5 (q_vitrinelaw02_TokenCovers (F_vitrinelaw02_TokenCovers A15 A18 A9 A10 A19)) := (fn_ok (rc := [none]) (f := 5) (fn := Tryd.f5) (c := bodyOf Tryd.f5) (nt := Tryd.f5.ntmps) (res := Tryd.f5.results.toList) (C := C_vitrinelaw02_TokenCovers A15 A18 A9 A10 A19) (L := (L_vitrinelaw02_TokenCovers A15 A18 A9 A10 A19)) (fun _ => rfl) Tryd.func5 (by kernel_rfl) rfl rfl (Cok_vitrinelaw02_TokenCovers A15 A18 A9 A10 A19 h15 h18 h9 h10 h19) (Lp_vitrinelaw02_TokenCovers A15 A18 A9 A10 A19 h15 h18 h9 h10 h19)).weak (by
  intro us k h
  unfold q_vitrinelaw02_TokenCovers at h
  split at h
  · skip
    rename_i a0
    rw [raw_vitrinelaw02_TokenCovers A15 A18 A9 A10 A19 a0 k]
    exact h
  · exact h.elim)

end Go.Proofs.YtcjoehlflbegpaaDoor
