/-
  The law TokenRest, followed. Nothing is claimed here.
-/
import Derived.Test.YthjnfeihngjchaaDoorTh
namespace Go.Proofs.YthjnfeihngjchaaDoor
open Go.Vm Go.Sx Go.RowKit

abbrev T_ref_Same := List Tok → List Tok → (Bool → Prop) → Prop
def q_ref_Same (A : T_ref_Same) (us : List W) (k : W → Prop) : Prop := match us with
  | [.l Cd.tok a0, .l Cd.tok a1] => A a0 a1 (fun r0 => k (.b r0))
  | _ => False
theorem q_ref_Same_weak {A A2 : T_ref_Same} (h : FnOK sy Tryd.prog GT ovD GL 8 (q_ref_Same A)) (hA : ∀ a0 a1 K, A2 a0 a1 K → A a0 a1 K) : FnOK sy Tryd.prog GT ovD GL 8 (q_ref_Same A2) := h.weak (by
  intro us k h
  unfold q_ref_Same at h ⊢
  split at h
  · exact hA _ _ _ h
  · exact h.elim)

def F_ref_Same_l4 : Nat → List Tok → List Tok → Int → (Unit → Prop) → (Bool → Prop) → Prop
  | 0, _, _, _, _, _ => False
  | n + 1, x0, x1, x5, Ke, Kr => (((decide (x5 < (x0.length : Int))) = true → ((0 ≤ x5 ∧ x5 < (x0.length : Int)) ∧ ((0 ≤ x5 ∧ x5 < (x1.length : Int)) ∧ (((!(decide ((x0.getD x5.toNat (dfltD Cd.tok)).kind = (x1.getD x5.toNat (dfltD Cd.tok)).kind) && ((((x0.getD x5.toNat (dfltD Cd.tok)).text) == ((x1.getD x5.toNat (dfltD Cd.tok)).text)) && (decide ((x0.getD x5.toNat (dfltD Cd.tok)).num = (x1.getD x5.toNat (dfltD Cd.tok)).num) && ((((x0.getD x5.toNat (dfltD Cd.tok)).unit) == ((x1.getD x5.toNat (dfltD Cd.tok)).unit)) && ((((x0.getD x5.toNat (dfltD Cd.tok)).flag) == ((x1.getD x5.toNat (dfltD Cd.tok)).flag)) && true)))))) = true → Kr false) ∧ ((!(decide ((x0.getD x5.toNat (dfltD Cd.tok)).kind = (x1.getD x5.toNat (dfltD Cd.tok)).kind) && ((((x0.getD x5.toNat (dfltD Cd.tok)).text) == ((x1.getD x5.toNat (dfltD Cd.tok)).text)) && (decide ((x0.getD x5.toNat (dfltD Cd.tok)).num = (x1.getD x5.toNat (dfltD Cd.tok)).num) && ((((x0.getD x5.toNat (dfltD Cd.tok)).unit) == ((x1.getD x5.toNat (dfltD Cd.tok)).unit)) && ((((x0.getD x5.toNat (dfltD Cd.tok)).flag) == ((x1.getD x5.toNat (dfltD Cd.tok)).flag)) && true)))))) = false → (I64 (x5 + (1 : Int)) ∧ F_ref_Same_l4 n x0 x1 (x5 + (1 : Int)) Ke Kr)))))) ∧ ((decide (x5 < (x0.length : Int))) = false → Ke ()))

def F_ref_Same (a0 : List Tok) (a1 : List Tok) (K : Bool → Prop) : Prop :=
  (((decide ((a0.length : Int) ≠ (a1.length : Int))) = true → K false) ∧ ((decide ((a0.length : Int) ≠ (a1.length : Int))) = false → (∃ m, F_ref_Same_l4 m a0 a1 (0 : Int) (fun _ => K true) (fun y1 => K y1))))

def C_ref_Same : CallT sg := tab []
theorem Cok_ref_Same (o0 : Nat → Prop) : CalOK sy Tryd.prog GT ovD o0 GL (C_ref_Same) := tab_nil o0

def ls_ref_Same_4 : LS sy ((List (sg.Den Cd.tok)) × (List (sg.Den Cd.tok)) × Int × Unit) Unit := ⟨[], fCons 0 (vData sy Cd.tok) (fCons 1 (vData sy Cd.tok) (fCons 5 (vInt sy .i64) (fNil sy))), hNil sy, 0, []⟩
def le_ref_Same_4 : LS sy Unit Unit := ⟨[], fNil sy, hNil sy, 0, []⟩
def lr_ref_Same_4 : LS sy (Bool × Unit) Unit := ⟨[], fCons 4 (vBool sy) (fNil sy), hNil sy, 0, []⟩
def FF_ref_Same_4 (n : Nat) (x : ((List (sg.Den Cd.tok)) × (List (sg.Den Cd.tok)) × Int × Unit) × Unit) (K : Ex → Z sg → Prop) : Prop := F_ref_Same_l4 n x.1.1 x.1.2.1 x.1.2.2.1 (fun _ => K (.exit 0) (le_ref_Same_4.put ((), ()))) (fun y0 => K .ret (lr_ref_Same_4.put ((y0, ()), ())))
def h_ref_Same_4 (z : Z sg) (K : Ex → Z sg → Prop) : Prop := ls_ref_Same_4.get z (fun x => ∃ n, FF_ref_Same_4 n x K)
def L_ref_Same : LoopT sg := tabL [(4, h_ref_Same_4)]
theorem hs_ref_Same_4 (n : Nat) (x : ((List (sg.Den Cd.tok)) × (List (sg.Den Cd.tok)) × Int × Unit) × Unit) (K : Ex → Z sg → Prop) : forceZ (ls_ref_Same_4.put x) (fun z => sC sy Tryd.prog GT (C_ref_Same) (L_ref_Same) Tryd.f8.ntmps (nthLoop (bodyOf Tryd.f8) 0) z (rnd ls_ref_Same_4 (czT 0 le_ref_Same_4 lr_ref_Same_4) (fun x => FF_ref_Same_4 n x K) K)) = FF_ref_Same_4 (n + 1) x K := by kernel_rfl
theorem hl_ref_Same_4 (z : Z sg) (K : Ex → Z sg → Prop) : (L_ref_Same) (nthLoop (bodyOf Tryd.f8) 0) z K = ls_ref_Same_4.get z (fun x => ∃ n, FF_ref_Same_4 n x K) := by kernel_rfl
theorem lo_ref_Same_4 : ∀ (o0 : Nat → Prop) (B : Bs sg), B.E.length ≤ 0 → ∀ z K, (L_ref_Same) (nthLoop (bodyOf Tryd.f8) 0) z K → Sx.Sem sy Tryd.prog GT ovD o0 GL Tryd.f8.ntmps B (.loop (nthLoop (bodyOf Tryd.f8) 0)) z K :=
  loop_ok (Cok_ref_Same) (lp_of (l := []) (by kernel_rfl) lp_nil) ls_ref_Same_4 (by decide) (czT 0 le_ref_Same_4 lr_ref_Same_4) (fun _ _ hB => czT_ok 0 le_ref_Same_4 lr_ref_Same_4 (Nat.le_trans hB (by decide)) (Nat.le_trans hB (by decide))) (fun _ _ h => h) (hs_ref_Same_4) (hl_ref_Same_4)
theorem Lp_ref_Same : LpOK sy Tryd.prog GT ovD GL (L_ref_Same) 0 Tryd.f8.ntmps (bodyOf Tryd.f8) := lp_of (l := [(nthLoop (bodyOf Tryd.f8) 0)]) (by kernel_rfl) (lp_cons (lo_ref_Same_4) lp_nil)


theorem raw_ref_Same (a0 : List Tok) (a1 : List Tok) (k : W → Prop) : fnT sy Tryd.prog GT (C_ref_Same) (L_ref_Same) Tryd.f8.ntmps (bodyOf Tryd.f8) [none] Tryd.f8.results.toList [.l Cd.tok a0, .l Cd.tok a1] k = F_ref_Same a0 a1 (fun r0 => k (.b r0)) := by kernel_rfl

theorem ok_ref_Same : FnOK sy Tryd.prog GT ovD GL 8 (q_ref_Same (F_ref_Same)) := (fn_ok (rc := [none]) (f := 8) (fn := Tryd.f8) (c := bodyOf Tryd.f8) (nt := Tryd.f8.ntmps) (res := Tryd.f8.results.toList) (C := C_ref_Same) (L := (L_ref_Same)) (fun _ _ => rfl) Tryd.func8 (by kernel_rfl) rfl rfl (Cok_ref_Same) (Lp_ref_Same)).weak (by
  intro us k h
  unfold q_ref_Same at h
  split at h
  · skip
    rename_i a0 a1
    rw [raw_ref_Same a0 a1 k]
    exact h
  · exact h.elim)

abbrev T_vitrinelaw02_alive := (Bool → Prop) → Prop
def q_vitrinelaw02_alive (A : T_vitrinelaw02_alive) (us : List W) (k : W → Prop) : Prop := match us with
  | [] => A (fun r0 => k (.b r0))
  | _ => False
theorem q_vitrinelaw02_alive_weak {A A2 : T_vitrinelaw02_alive} (h : FnOK sy Tryd.prog GT ovD GL 4 (q_vitrinelaw02_alive A)) (hA : ∀  K, A2  K → A  K) : FnOK sy Tryd.prog GT ovD GL 4 (q_vitrinelaw02_alive A2) := h.weak (by
  intro us k h
  unfold q_vitrinelaw02_alive at h ⊢
  split at h
  · exact hA _ h
  · exact h.elim)

abbrev T_vitrinelaw02_TokenRest := List UInt8 → Int → (Bool → Prop) → Prop
def q_vitrinelaw02_TokenRest (A : T_vitrinelaw02_TokenRest) (us : List W) (k : W → Prop) : Prop := match us with
  | [.s a0, .i .i64 a1] => A a0 a1 (fun r0 => k (.b r0))
  | _ => False
theorem q_vitrinelaw02_TokenRest_weak {A A2 : T_vitrinelaw02_TokenRest} (h : FnOK sy Tryd.prog GT ovD GL 3 (q_vitrinelaw02_TokenRest A)) (hA : ∀ a0 a1 K, A2 a0 a1 K → A a0 a1 K) : FnOK sy Tryd.prog GT ovD GL 3 (q_vitrinelaw02_TokenRest A2) := h.weak (by
  intro us k h
  unfold q_vitrinelaw02_TokenRest at h ⊢
  split at h
  · exact hA _ _ _ h
  · exact h.elim)

def F_vitrinelaw02_TokenRest (A4 : T_vitrinelaw02_alive) (A5 : T_input_Clean) (A6 : T_TokensA) (A7 : T_SpansA) (A8 : T_ref_Same) (a0 : List UInt8) (a1 : Int) (K : Bool → Prop) : Prop :=
  (((decide ((500 : Int) < (a0.length : Int))) = true → (A4 (fun y1 => K y1))) ∧ ((decide ((500 : Int) < (a0.length : Int))) = false → (A5 a0 (fun y2 y3 => (A6 a0 (fun y4 y5 => (A7 a0 (fun y6 y7 => (((decide (y3 ≠ (0 : Int))) = false → (((decide (y5 ≠ (0 : Int))) = false → (((decide (y7 ≠ (0 : Int))) = false → (((decide ((y4.length : Int) ≠ (y6.length : Int))) = true → (((decide (y5 = (4 : Int))) = true → K (decide (y7 = y5))) ∧ ((decide (y5 = (4 : Int))) = false → K false))) ∧ ((decide ((y4.length : Int) ≠ (y6.length : Int))) = false → (((decide (a1 < (0 : Int))) = false → (((decide ((y4.length : Int) ≤ a1)) = true → (A4 (fun y8 => K y8))) ∧ ((decide ((y4.length : Int) ≤ a1)) = false → ((0 ≤ a1 ∧ a1 < (y6.length : Int)) ∧ ((0 ≤ (1 : Int) ∧ (1 : Int) < (2 : Int)) ∧ (((decide (((y6.getD a1.toNat (dfltD Cd.span)).2) < (0 : Int))) = false → ((0 ≤ a1 ∧ a1 < (y6.length : Int)) ∧ ((0 ≤ (1 : Int) ∧ (1 : Int) < (2 : Int)) ∧ (((decide ((y2.length : Int) < ((y6.getD a1.toNat (dfltD Cd.span)).2))) = true → K false) ∧ ((decide ((y2.length : Int) < ((y6.getD a1.toNat (dfltD Cd.span)).2))) = false → ((0 ≤ a1 ∧ a1 < (y6.length : Int)) ∧ ((0 ≤ (1 : Int) ∧ (1 : Int) < (2 : Int)) ∧ ((0 ≤ ((y6.getD a1.toNat (dfltD Cd.span)).2) ∧ ((y6.getD a1.toNat (dfltD Cd.span)).2) ≤ (y2.length : Int)) ∧ (A6 (y2.drop ((y6.getD a1.toNat (dfltD Cd.span)).2).toNat) (fun y9 y10 => (((decide (y10 = (0 : Int))) = true → (I64 (a1 + (1 : Int)) ∧ ((0 ≤ (a1 + (1 : Int)) ∧ (a1 + (1 : Int)) ≤ (y4.length : Int)) ∧ (A8 y9 (y4.drop (a1 + (1 : Int)).toNat) (fun y11 => ((y11 = true → (A4 (fun y12 => K y12))) ∧ (y11 = false → K false))))))) ∧ ((decide (y10 = (0 : Int))) = false → K false)))))))))))) ∧ ((decide (((y6.getD a1.toNat (dfltD Cd.span)).2) < (0 : Int))) = true → K false))))))) ∧ ((decide (a1 < (0 : Int))) = true → (A4 (fun y13 => K y13))))))) ∧ ((decide (y7 ≠ (0 : Int))) = true → (((decide (y5 = (4 : Int))) = true → K (decide (y7 = y5))) ∧ ((decide (y5 = (4 : Int))) = false → K false))))) ∧ ((decide (y5 ≠ (0 : Int))) = true → (((decide (y5 = (4 : Int))) = true → K (decide (y7 = y5))) ∧ ((decide (y5 = (4 : Int))) = false → K false))))) ∧ ((decide (y3 ≠ (0 : Int))) = true → (((decide (y5 = (4 : Int))) = true → K (decide (y7 = y5))) ∧ ((decide (y5 = (4 : Int))) = false → K false))))))))))))

def C_vitrinelaw02_TokenRest (A4 : T_vitrinelaw02_alive) (A5 : T_input_Clean) (A6 : T_TokensA) (A7 : T_SpansA) (A8 : T_ref_Same) : CallT sg := tab [(4, con [] (q_vitrinelaw02_alive A4)), (5, con [none] (q_input_Clean A5)), (6, con [none] (q_TokensA A6)), (7, con [none] (q_SpansA A7)), (8, con [some Cd.tok, some Cd.tok] (q_ref_Same A8))]
theorem Cok_vitrinelaw02_TokenRest (A4 : T_vitrinelaw02_alive) (A5 : T_input_Clean) (A6 : T_TokensA) (A7 : T_SpansA) (A8 : T_ref_Same) (h4 : FnOK sy Tryd.prog GT ovD GL 4 (q_vitrinelaw02_alive A4)) (h5 : FnOK sy Tryd.prog GT ovD GL 5 (q_input_Clean A5)) (h6 : FnOK sy Tryd.prog GT ovD GL 6 (q_TokensA A6)) (h7 : FnOK sy Tryd.prog GT ovD GL 7 (q_SpansA A7)) (h8 : FnOK sy Tryd.prog GT ovD GL 8 (q_ref_Same A8)) (o0 : Nat → Prop) : CalOK sy Tryd.prog GT ovD o0 GL (C_vitrinelaw02_TokenRest A4 A5 A6 A7 A8) := (tab_cons (con_ok h4) (tab_cons (con_ok h5) (tab_cons (con_ok h6) (tab_cons (con_ok h7) (tab_cons (con_ok h8) tab_nil))))) o0

theorem raw_vitrinelaw02_TokenRest (A4 : T_vitrinelaw02_alive) (A5 : T_input_Clean) (A6 : T_TokensA) (A7 : T_SpansA) (A8 : T_ref_Same) (a0 : List UInt8) (a1 : Int) (k : W → Prop) : fnT sy Tryd.prog GT (C_vitrinelaw02_TokenRest A4 A5 A6 A7 A8) noL Tryd.f3.ntmps (bodyOf Tryd.f3) [none] Tryd.f3.results.toList [.s a0, .i .i64 a1] k = F_vitrinelaw02_TokenRest A4 A5 A6 A7 A8 a0 a1 (fun r0 => k (.b r0)) := by kernel_rfl

theorem ok_vitrinelaw02_TokenRest (A4 : T_vitrinelaw02_alive) (A5 : T_input_Clean) (A6 : T_TokensA) (A7 : T_SpansA) (A8 : T_ref_Same) (h4 : FnOK sy Tryd.prog GT ovD GL 4 (q_vitrinelaw02_alive A4)) (h5 : FnOK sy Tryd.prog GT ovD GL 5 (q_input_Clean A5)) (h6 : FnOK sy Tryd.prog GT ovD GL 6 (q_TokensA A6)) (h7 : FnOK sy Tryd.prog GT ovD GL 7 (q_SpansA A7)) (h8 : FnOK sy Tryd.prog GT ovD GL 8 (q_ref_Same A8)) : FnOK sy Tryd.prog GT ovD GL 3 (q_vitrinelaw02_TokenRest (F_vitrinelaw02_TokenRest A4 A5 A6 A7 A8)) := (fn_ok (rc := [none]) (f := 3) (fn := Tryd.f3) (c := bodyOf Tryd.f3) (nt := Tryd.f3.ntmps) (res := Tryd.f3.results.toList) (C := C_vitrinelaw02_TokenRest A4 A5 A6 A7 A8) (L := noL) (fun _ _ => rfl) Tryd.func3 (by kernel_rfl) rfl rfl (Cok_vitrinelaw02_TokenRest A4 A5 A6 A7 A8 h4 h5 h6 h7 h8) (lp_of (l := []) (by kernel_rfl) lp_nil)).weak (by
  intro us k h
  unfold q_vitrinelaw02_TokenRest at h
  split at h
  · skip
    rename_i a0 a1
    rw [raw_vitrinelaw02_TokenRest A4 A5 A6 A7 A8 a0 a1 k]
    exact h
  · exact h.elim)

end Go.Proofs.YthjnfeihngjchaaDoor
