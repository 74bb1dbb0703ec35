/-
  Functions of the tokenizer, followed: all tokens. Nothing is claimed here.
-/
import Derived.Test.YtcjoehlflbegpaaDoorTe
namespace Go.Proofs.YtcjoehlflbegpaaDoor
open Go.Vm Go.Sx Go.RowKit

def C_token_Tokens_1 : CallT sg := tab []
theorem Cok_token_Tokens_1 (o0 : Nat → Prop) : CalOK sy Tryd.prog GT ovD o0 GL (C_token_Tokens_1) := tab_nil o0

def F_token_eachToken_l6 (A18 : T_input_Clean) (A37 : T_token_behindComments) (A38 : T_token_readToken) : Nat → List UInt8 → Int → Int → List Tok → (List Tok → Prop) → (Int → List Tok → Prop) → Prop
  | 0, _, _, _, _, _, _ => False
  | n + 1, x5, x7, x8, b1, Ke, Kr => (((decide (x8 < (x5.length : Int))) = true → (((decide (x7 = (1500 : Int))) = true → Kr (4 : Int) b1) ∧ ((decide (x7 = (1500 : Int))) = false → (A38 x5 x8 (fun y1 y2 => ((b1.length + [(Tok.mk y1.kind y1.text y1.num y1.unit y1.flag)].length) * 56 ≤ 1099511627776 ∧ (I64 (x7 + (1 : Int)) ∧ (A37 x5 y2 (fun y3 => F_token_eachToken_l6 A18 A37 A38 n x5 (x7 + (1 : Int)) y3 (b1 ++ [(Tok.mk y1.kind y1.text y1.num y1.unit y1.flag)]) Ke Kr))))))))) ∧ ((decide (x8 < (x5.length : Int))) = false → Ke b1))

def C_token_eachToken (A18 : T_input_Clean) (A37 : T_token_behindComments) (A38 : T_token_readToken) : CallT sg := tab [(18, con [none] (q_input_Clean A18)), (37, con [none, none] (q_token_behindComments A37)), (38, con [none, none] (q_token_readToken A38)), (24, inl sy Tryd.prog GT (C_token_Tokens_1) noL 1000 Tryd.f24.ntmps (bodyOf Tryd.f24) Tryd.f24.results.toList)]
theorem Cok_token_eachToken (A18 : T_input_Clean) (A37 : T_token_behindComments) (A38 : T_token_readToken) (h18 : FnOK sy Tryd.prog GT ovD GL 18 (q_input_Clean A18)) (h37 : FnOK sy Tryd.prog GT ovD GL 37 (q_token_behindComments A37)) (h38 : FnOK sy Tryd.prog GT ovD GL 38 (q_token_readToken A38)) (o0 : Nat → Prop) : CalOK sy Tryd.prog GT ovD o0 GL (C_token_eachToken A18 A37 A38) := (tab_cons (con_ok h18) (tab_cons (con_ok h37) (tab_cons (con_ok h38) (tab_cons (inl_ok (f := 24) (fn := Tryd.f24) (fun _ => rfl) Tryd.func24 (by kernel_rfl) rfl rfl (Cok_token_Tokens_1) (lp_of (l := []) (by kernel_rfl) lp_nil)) tab_nil)))) o0

def ls_token_eachToken_6 : LS sy ((Unit × Unit) × (List UInt8) × Int × Int × Unit) ((Unit × Unit) × List (sg.Den Cd.tok) × Unit) := ⟨[.cell 0 0 1 Cd.tok], fCons 1 (vFn 24 (lCons (vLit sy (.p 0 0)) (lNil sy))) (fCons 5 (vStr sy) (fCons 7 (vInt sy .i64) (fCons 8 (vInt sy .i64) (fNil sy)))), hCells 0 (lCons (vLit sy (.o 1)) (lNil sy)) (hBuf 1 Cd.tok (hNil sy)), 2, [1]⟩
def le_token_eachToken_6 : LS sy Unit ((Unit × Unit) × List (sg.Den Cd.tok) × Unit) := ⟨[], fNil sy, hCells 0 (lCons (vLit sy (.o 1)) (lNil sy)) (hBuf 1 Cd.tok (hNil sy)), 2, [1]⟩
def lr_token_eachToken_6 : LS sy (Int × Unit) ((Unit × Unit) × List (sg.Den Cd.tok) × Unit) := ⟨[], fCons 4 (vInt sy .i64) (fNil sy), hCells 0 (lCons (vLit sy (.o 1)) (lNil sy)) (hBuf 1 Cd.tok (hNil sy)), 2, [1]⟩
def FF_token_eachToken_6 (A18 : T_input_Clean) (A37 : T_token_behindComments) (A38 : T_token_readToken) (n : Nat) (x : ((Unit × Unit) × (List UInt8) × Int × Int × Unit) × ((Unit × Unit) × List (sg.Den Cd.tok) × Unit)) (K : Ex → Z sg → Prop) : Prop := F_token_eachToken_l6 A18 A37 A38 n x.1.2.1 x.1.2.2.1 x.1.2.2.2.1 x.2.2.1 (fun y0 => K (.exit 0) (le_token_eachToken_6.put ((), (((), ()), y0, ())))) (fun y0 y1 => K .ret (lr_token_eachToken_6.put ((y0, ()), (((), ()), y1, ()))))
def h_token_eachToken_6 (A18 : T_input_Clean) (A37 : T_token_behindComments) (A38 : T_token_readToken) (z : Z sg) (K : Ex → Z sg → Prop) : Prop := ls_token_eachToken_6.get z (fun x => ∃ n, FF_token_eachToken_6 A18 A37 A38 n x K)
def L_token_eachToken (A18 : T_input_Clean) (A37 : T_token_behindComments) (A38 : T_token_readToken) : LoopT sg := tabL [(6, h_token_eachToken_6 A18 A37 A38)]
theorem hs_token_eachToken_6 (A18 : T_input_Clean) (A37 : T_token_behindComments) (A38 : T_token_readToken) (n : Nat) (x : ((Unit × Unit) × (List UInt8) × Int × Int × Unit) × ((Unit × Unit) × List (sg.Den Cd.tok) × Unit)) (K : Ex → Z sg → Prop) : forceZ (ls_token_eachToken_6.put x) (fun z => sC sy Tryd.prog GT (C_token_eachToken A18 A37 A38) (L_token_eachToken A18 A37 A38) Tryd.f23.ntmps (nthLoop (bodyOf Tryd.f23) 0) z (rnd ls_token_eachToken_6 (czT 0 le_token_eachToken_6 lr_token_eachToken_6) (fun x => FF_token_eachToken_6 A18 A37 A38 n x K) K)) = FF_token_eachToken_6 A18 A37 A38 (n + 1) x K := by kernel_rfl
theorem hl_token_eachToken_6 (A18 : T_input_Clean) (A37 : T_token_behindComments) (A38 : T_token_readToken) (z : Z sg) (K : Ex → Z sg → Prop) : (L_token_eachToken A18 A37 A38) (nthLoop (bodyOf Tryd.f23) 0) z K = ls_token_eachToken_6.get z (fun x => ∃ n, FF_token_eachToken_6 A18 A37 A38 n x K) := by kernel_rfl
theorem lo_token_eachToken_6 (A18 : T_input_Clean) (A37 : T_token_behindComments) (A38 : T_token_readToken) (h18 : FnOK sy Tryd.prog GT ovD GL 18 (q_input_Clean A18)) (h37 : FnOK sy Tryd.prog GT ovD GL 37 (q_token_behindComments A37)) (h38 : FnOK sy Tryd.prog GT ovD GL 38 (q_token_readToken A38)) : ∀ (o0 : Nat → Prop) (B : Bs sg), B.E.length ≤ 1 → ∀ z K, (L_token_eachToken A18 A37 A38) (nthLoop (bodyOf Tryd.f23) 0) z K → Sx.Sem sy Tryd.prog GT ovD o0 GL Tryd.f23.ntmps B (.loop (nthLoop (bodyOf Tryd.f23) 0)) z K :=
  loop_ok (Cok_token_eachToken A18 A37 A38 h18 h37 h38) (lp_of (l := []) (by kernel_rfl) lp_nil) ls_token_eachToken_6 (by decide) (czT 0 le_token_eachToken_6 lr_token_eachToken_6) (fun _ _ hB => czT_ok 0 le_token_eachToken_6 lr_token_eachToken_6 (Nat.le_trans hB (by decide)) (Nat.le_trans hB (by decide))) (fun _ _ h => h) (hs_token_eachToken_6 A18 A37 A38) (hl_token_eachToken_6 A18 A37 A38)
theorem Lp_token_eachToken (A18 : T_input_Clean) (A37 : T_token_behindComments) (A38 : T_token_readToken) (h18 : FnOK sy Tryd.prog GT ovD GL 18 (q_input_Clean A18)) (h37 : FnOK sy Tryd.prog GT ovD GL 37 (q_token_behindComments A37)) (h38 : FnOK sy Tryd.prog GT ovD GL 38 (q_token_readToken A38)) : LpOK sy Tryd.prog GT ovD GL (L_token_eachToken A18 A37 A38) 1 Tryd.f23.ntmps (bodyOf Tryd.f23) := lp_of (l := [(nthLoop (bodyOf Tryd.f23) 0)]) (by kernel_rfl) (lp_cons (lo_token_eachToken_6 A18 A37 A38 h18 h37 h38) lp_nil)


abbrev T_token_Tokens := List UInt8 → (List Tok → Int → Prop) → Prop
def q_token_Tokens (A : T_token_Tokens) (us : List W) (k : W → Prop) : Prop := match us with
  | [.s a0] => A a0 (fun r0 r1 => k (.t [.l Cd.tok r0, .i .i64 r1]))
  | _ => False
theorem q_token_Tokens_weak {A A2 : T_token_Tokens} (h : FnOK sy Tryd.prog GT ovD GL 9 (q_token_Tokens A)) (hA : ∀ a0 K, A2 a0 K → A a0 K) : FnOK sy Tryd.prog GT ovD GL 9 (q_token_Tokens A2) := h.weak (by
  intro us k h
  unfold q_token_Tokens at h ⊢
  split at h
  · exact hA _ _ h
  · exact h.elim)

def F_token_Tokens (A18 : T_input_Clean) (A37 : T_token_behindComments) (A38 : T_token_readToken) (a0 : List UInt8) (K : List Tok → Int → Prop) : Prop :=
  (A18 a0 (fun y1 y2 => (((decide (y2 ≠ (0 : Int))) = true → (((decide (y2 ≠ (0 : Int))) = true → K ([] : List Tok) y2) ∧ ((decide (y2 ≠ (0 : Int))) = false → K ([] : List Tok) (0 : Int)))) ∧ ((decide (y2 ≠ (0 : Int))) = false → (A37 y1 (0 : Int) (fun y3 => (∃ m, F_token_eachToken_l6 A18 A37 A38 m y1 (0 : Int) y3 ([] : List Tok) (fun y4 => (((decide ((0 : Int) ≠ (0 : Int))) = true → K ([] : List Tok) (0 : Int)) ∧ ((decide ((0 : Int) ≠ (0 : Int))) = false → K y4 (0 : Int)))) (fun y5 y6 => (((decide (y5 ≠ (0 : Int))) = true → K ([] : List Tok) y5) ∧ ((decide (y5 ≠ (0 : Int))) = false → K y6 (0 : Int)))))))))))

def C_token_Tokens (A18 : T_input_Clean) (A37 : T_token_behindComments) (A38 : T_token_readToken) : CallT sg := tab [(23, inl sy Tryd.prog GT (C_token_eachToken A18 A37 A38) (L_token_eachToken A18 A37 A38) 1 Tryd.f23.ntmps (bodyOf Tryd.f23) Tryd.f23.results.toList), (24, inl sy Tryd.prog GT (C_token_Tokens_1) noL 1000 Tryd.f24.ntmps (bodyOf Tryd.f24) Tryd.f24.results.toList)]
theorem Cok_token_Tokens (A18 : T_input_Clean) (A37 : T_token_behindComments) (A38 : T_token_readToken) (h18 : FnOK sy Tryd.prog GT ovD GL 18 (q_input_Clean A18)) (h37 : FnOK sy Tryd.prog GT ovD GL 37 (q_token_behindComments A37)) (h38 : FnOK sy Tryd.prog GT ovD GL 38 (q_token_readToken A38)) (o0 : Nat → Prop) : CalOK sy Tryd.prog GT ovD o0 GL (C_token_Tokens A18 A37 A38) := (tab_cons (inl_ok (f := 23) (fn := Tryd.f23) (fun _ => rfl) Tryd.func23 (by kernel_rfl) rfl rfl (Cok_token_eachToken A18 A37 A38 h18 h37 h38) (Lp_token_eachToken A18 A37 A38 h18 h37 h38)) (tab_cons (inl_ok (f := 24) (fn := Tryd.f24) (fun _ => rfl) Tryd.func24 (by kernel_rfl) rfl rfl (Cok_token_Tokens_1) (lp_of (l := []) (by kernel_rfl) lp_nil)) tab_nil)) o0

theorem raw_token_Tokens (A18 : T_input_Clean) (A37 : T_token_behindComments) (A38 : T_token_readToken) (a0 : List UInt8) (k : W → Prop) : fnT sy Tryd.prog GT (C_token_Tokens A18 A37 A38) noL Tryd.f9.ntmps (bodyOf Tryd.f9) [some Cd.tok, none] Tryd.f9.results.toList [.s a0] k = F_token_Tokens A18 A37 A38 a0 (fun r0 r1 => k (.t [.l Cd.tok r0, .i .i64 r1])) := by kernel_rfl

theorem ok_token_Tokens (A18 : T_input_Clean) (A37 : T_token_behindComments) (A38 : T_token_readToken) (h18 : FnOK sy Tryd.prog GT ovD GL 18 (q_input_Clean A18)) (h37 : FnOK sy Tryd.prog GT ovD GL 37 (q_token_behindComments A37)) (h38 : FnOK sy Tryd.prog GT ovD GL 38 (q_token_readToken A38)) : FnOK sy Tryd.prog GT ovD GL 9 (q_token_Tokens (F_token_Tokens A18 A37 A38)) := (fn_ok (rc := [some Cd.tok, none]) (f := 9) (fn := Tryd.f9) (c := bodyOf Tryd.f9) (nt := Tryd.f9.ntmps) (res := Tryd.f9.results.toList) (C := C_token_Tokens A18 A37 A38) (L := noL) (fun _ => rfl) Tryd.func9 (by kernel_rfl) rfl rfl (Cok_token_Tokens A18 A37 A38 h18 h37 h38) (lp_of (l := []) (by kernel_rfl) lp_nil)).weak (by
  intro us k h
  unfold q_token_Tokens at h
  split at h
  · skip
    rename_i a0
    rw [raw_token_Tokens A18 A37 A38 a0 k]
    exact h
  · exact h.elim)

def C_token_Spans_1 : CallT sg := tab []
theorem Cok_token_Spans_1 (o0 : Nat → Prop) : CalOK sy Tryd.prog GT ovD o0 GL (C_token_Spans_1) := tab_nil o0

def F_token_eachToken_s_l6 (A18 : T_input_Clean) (A37 : T_token_behindComments) (A38 : T_token_readToken) : Nat → List UInt8 → Int → Int → List (Int × Int) → (List (Int × Int) → Prop) → (Int → List (Int × Int) → Prop) → Prop
  | 0, _, _, _, _, _, _ => False
  | n + 1, x5, x7, x8, b1, Ke, Kr => (((decide (x8 < (x5.length : Int))) = true → (((decide (x7 = (1500 : Int))) = true → Kr (4 : Int) b1) ∧ ((decide (x7 = (1500 : Int))) = false → (A38 x5 x8 (fun y1 y2 => ((b1.length + [(x8, y2)].length) * 16 ≤ 1099511627776 ∧ (I64 (x7 + (1 : Int)) ∧ (A37 x5 y2 (fun y3 => F_token_eachToken_s_l6 A18 A37 A38 n x5 (x7 + (1 : Int)) y3 (b1 ++ [(x8, y2)]) Ke Kr))))))))) ∧ ((decide (x8 < (x5.length : Int))) = false → Ke b1))

def C_token_eachToken_s (A18 : T_input_Clean) (A37 : T_token_behindComments) (A38 : T_token_readToken) : CallT sg := tab [(18, con [none] (q_input_Clean A18)), (37, con [none, none] (q_token_behindComments A37)), (38, con [none, none] (q_token_readToken A38)), (25, inl sy Tryd.prog GT (C_token_Spans_1) noL 1000 Tryd.f25.ntmps (bodyOf Tryd.f25) Tryd.f25.results.toList)]
theorem Cok_token_eachToken_s (A18 : T_input_Clean) (A37 : T_token_behindComments) (A38 : T_token_readToken) (h18 : FnOK sy Tryd.prog GT ovD GL 18 (q_input_Clean A18)) (h37 : FnOK sy Tryd.prog GT ovD GL 37 (q_token_behindComments A37)) (h38 : FnOK sy Tryd.prog GT ovD GL 38 (q_token_readToken A38)) (o0 : Nat → Prop) : CalOK sy Tryd.prog GT ovD o0 GL (C_token_eachToken_s A18 A37 A38) := (tab_cons (con_ok h18) (tab_cons (con_ok h37) (tab_cons (con_ok h38) (tab_cons (inl_ok (f := 25) (fn := Tryd.f25) (fun _ => rfl) Tryd.func25 (by kernel_rfl) rfl rfl (Cok_token_Spans_1) (lp_of (l := []) (by kernel_rfl) lp_nil)) tab_nil)))) o0

def ls_token_eachToken_s_6 : LS sy ((Unit × Unit) × (List UInt8) × Int × Int × Unit) ((Unit × Unit) × List (sg.Den Cd.span) × Unit) := ⟨[.cell 0 0 1 Cd.span], fCons 1 (vFn 25 (lCons (vLit sy (.p 0 0)) (lNil sy))) (fCons 5 (vStr sy) (fCons 7 (vInt sy .i64) (fCons 8 (vInt sy .i64) (fNil sy)))), hCells 0 (lCons (vLit sy (.o 1)) (lNil sy)) (hBuf 1 Cd.span (hNil sy)), 2, [1]⟩
def le_token_eachToken_s_6 : LS sy Unit ((Unit × Unit) × List (sg.Den Cd.span) × Unit) := ⟨[], fNil sy, hCells 0 (lCons (vLit sy (.o 1)) (lNil sy)) (hBuf 1 Cd.span (hNil sy)), 2, [1]⟩
def lr_token_eachToken_s_6 : LS sy (Int × Unit) ((Unit × Unit) × List (sg.Den Cd.span) × Unit) := ⟨[], fCons 4 (vInt sy .i64) (fNil sy), hCells 0 (lCons (vLit sy (.o 1)) (lNil sy)) (hBuf 1 Cd.span (hNil sy)), 2, [1]⟩
def FF_token_eachToken_s_6 (A18 : T_input_Clean) (A37 : T_token_behindComments) (A38 : T_token_readToken) (n : Nat) (x : ((Unit × Unit) × (List UInt8) × Int × Int × Unit) × ((Unit × Unit) × List (sg.Den Cd.span) × Unit)) (K : Ex → Z sg → Prop) : Prop := F_token_eachToken_s_l6 A18 A37 A38 n x.1.2.1 x.1.2.2.1 x.1.2.2.2.1 x.2.2.1 (fun y0 => K (.exit 0) (le_token_eachToken_s_6.put ((), (((), ()), y0, ())))) (fun y0 y1 => K .ret (lr_token_eachToken_s_6.put ((y0, ()), (((), ()), y1, ()))))
def h_token_eachToken_s_6 (A18 : T_input_Clean) (A37 : T_token_behindComments) (A38 : T_token_readToken) (z : Z sg) (K : Ex → Z sg → Prop) : Prop := ls_token_eachToken_s_6.get z (fun x => ∃ n, FF_token_eachToken_s_6 A18 A37 A38 n x K)
def L_token_eachToken_s (A18 : T_input_Clean) (A37 : T_token_behindComments) (A38 : T_token_readToken) : LoopT sg := tabL [(6, h_token_eachToken_s_6 A18 A37 A38)]
theorem hs_token_eachToken_s_6 (A18 : T_input_Clean) (A37 : T_token_behindComments) (A38 : T_token_readToken) (n : Nat) (x : ((Unit × Unit) × (List UInt8) × Int × Int × Unit) × ((Unit × Unit) × List (sg.Den Cd.span) × Unit)) (K : Ex → Z sg → Prop) : forceZ (ls_token_eachToken_s_6.put x) (fun z => sC sy Tryd.prog GT (C_token_eachToken_s A18 A37 A38) (L_token_eachToken_s A18 A37 A38) Tryd.f23.ntmps (nthLoop (bodyOf Tryd.f23) 0) z (rnd ls_token_eachToken_s_6 (czT 0 le_token_eachToken_s_6 lr_token_eachToken_s_6) (fun x => FF_token_eachToken_s_6 A18 A37 A38 n x K) K)) = FF_token_eachToken_s_6 A18 A37 A38 (n + 1) x K := by kernel_rfl
theorem hl_token_eachToken_s_6 (A18 : T_input_Clean) (A37 : T_token_behindComments) (A38 : T_token_readToken) (z : Z sg) (K : Ex → Z sg → Prop) : (L_token_eachToken_s A18 A37 A38) (nthLoop (bodyOf Tryd.f23) 0) z K = ls_token_eachToken_s_6.get z (fun x => ∃ n, FF_token_eachToken_s_6 A18 A37 A38 n x K) := by kernel_rfl
theorem lo_token_eachToken_s_6 (A18 : T_input_Clean) (A37 : T_token_behindComments) (A38 : T_token_readToken) (h18 : FnOK sy Tryd.prog GT ovD GL 18 (q_input_Clean A18)) (h37 : FnOK sy Tryd.prog GT ovD GL 37 (q_token_behindComments A37)) (h38 : FnOK sy Tryd.prog GT ovD GL 38 (q_token_readToken A38)) : ∀ (o0 : Nat → Prop) (B : Bs sg), B.E.length ≤ 1 → ∀ z K, (L_token_eachToken_s A18 A37 A38) (nthLoop (bodyOf Tryd.f23) 0) z K → Sx.Sem sy Tryd.prog GT ovD o0 GL Tryd.f23.ntmps B (.loop (nthLoop (bodyOf Tryd.f23) 0)) z K :=
  loop_ok (Cok_token_eachToken_s A18 A37 A38 h18 h37 h38) (lp_of (l := []) (by kernel_rfl) lp_nil) ls_token_eachToken_s_6 (by decide) (czT 0 le_token_eachToken_s_6 lr_token_eachToken_s_6) (fun _ _ hB => czT_ok 0 le_token_eachToken_s_6 lr_token_eachToken_s_6 (Nat.le_trans hB (by decide)) (Nat.le_trans hB (by decide))) (fun _ _ h => h) (hs_token_eachToken_s_6 A18 A37 A38) (hl_token_eachToken_s_6 A18 A37 A38)
theorem Lp_token_eachToken_s (A18 : T_input_Clean) (A37 : T_token_behindComments) (A38 : T_token_readToken) (h18 : FnOK sy Tryd.prog GT ovD GL 18 (q_input_Clean A18)) (h37 : FnOK sy Tryd.prog GT ovD GL 37 (q_token_behindComments A37)) (h38 : FnOK sy Tryd.prog GT ovD GL 38 (q_token_readToken A38)) : LpOK sy Tryd.prog GT ovD GL (L_token_eachToken_s A18 A37 A38) 1 Tryd.f23.ntmps (bodyOf Tryd.f23) := lp_of (l := [(nthLoop (bodyOf Tryd.f23) 0)]) (by kernel_rfl) (lp_cons (lo_token_eachToken_s_6 A18 A37 A38 h18 h37 h38) lp_nil)


abbrev T_token_Spans := List UInt8 → (List (Int × Int) → Int → Prop) → Prop
def q_token_Spans (A : T_token_Spans) (us : List W) (k : W → Prop) : Prop := match us with
  | [.s a0] => A a0 (fun r0 r1 => k (.t [.l Cd.span r0, .i .i64 r1]))
  | _ => False
theorem q_token_Spans_weak {A A2 : T_token_Spans} (h : FnOK sy Tryd.prog GT ovD GL 10 (q_token_Spans A)) (hA : ∀ a0 K, A2 a0 K → A a0 K) : FnOK sy Tryd.prog GT ovD GL 10 (q_token_Spans A2) := h.weak (by
  intro us k h
  unfold q_token_Spans at h ⊢
  split at h
  · exact hA _ _ h
  · exact h.elim)

def F_token_Spans (A18 : T_input_Clean) (A37 : T_token_behindComments) (A38 : T_token_readToken) (a0 : List UInt8) (K : List (Int × Int) → Int → Prop) : Prop :=
  (A18 a0 (fun y1 y2 => (((decide (y2 ≠ (0 : Int))) = true → (((decide (y2 ≠ (0 : Int))) = true → K ([] : List (Int × Int)) y2) ∧ ((decide (y2 ≠ (0 : Int))) = false → K ([] : List (Int × Int)) (0 : Int)))) ∧ ((decide (y2 ≠ (0 : Int))) = false → (A37 y1 (0 : Int) (fun y3 => (∃ m, F_token_eachToken_s_l6 A18 A37 A38 m y1 (0 : Int) y3 ([] : List (Int × Int)) (fun y4 => (((decide ((0 : Int) ≠ (0 : Int))) = true → K ([] : List (Int × Int)) (0 : Int)) ∧ ((decide ((0 : Int) ≠ (0 : Int))) = false → K y4 (0 : Int)))) (fun y5 y6 => (((decide (y5 ≠ (0 : Int))) = true → K ([] : List (Int × Int)) y5) ∧ ((decide (y5 ≠ (0 : Int))) = false → K y6 (0 : Int)))))))))))

def C_token_Spans (A18 : T_input_Clean) (A37 : T_token_behindComments) (A38 : T_token_readToken) : CallT sg := tab [(23, inl sy Tryd.prog GT (C_token_eachToken_s A18 A37 A38) (L_token_eachToken_s A18 A37 A38) 1 Tryd.f23.ntmps (bodyOf Tryd.f23) Tryd.f23.results.toList), (25, inl sy Tryd.prog GT (C_token_Spans_1) noL 1000 Tryd.f25.ntmps (bodyOf Tryd.f25) Tryd.f25.results.toList)]
theorem Cok_token_Spans (A18 : T_input_Clean) (A37 : T_token_behindComments) (A38 : T_token_readToken) (h18 : FnOK sy Tryd.prog GT ovD GL 18 (q_input_Clean A18)) (h37 : FnOK sy Tryd.prog GT ovD GL 37 (q_token_behindComments A37)) (h38 : FnOK sy Tryd.prog GT ovD GL 38 (q_token_readToken A38)) (o0 : Nat → Prop) : CalOK sy Tryd.prog GT ovD o0 GL (C_token_Spans A18 A37 A38) := (tab_cons (inl_ok (f := 23) (fn := Tryd.f23) (fun _ => rfl) Tryd.func23 (by kernel_rfl) rfl rfl (Cok_token_eachToken_s A18 A37 A38 h18 h37 h38) (Lp_token_eachToken_s A18 A37 A38 h18 h37 h38)) (tab_cons (inl_ok (f := 25) (fn := Tryd.f25) (fun _ => rfl) Tryd.func25 (by kernel_rfl) rfl rfl (Cok_token_Spans_1) (lp_of (l := []) (by kernel_rfl) lp_nil)) tab_nil)) o0

theorem raw_token_Spans (A18 : T_input_Clean) (A37 : T_token_behindComments) (A38 : T_token_readToken) (a0 : List UInt8) (k : W → Prop) : fnT sy Tryd.prog GT (C_token_Spans A18 A37 A38) noL Tryd.f10.ntmps (bodyOf Tryd.f10) [some Cd.span, none] Tryd.f10.results.toList [.s a0] k = F_token_Spans A18 A37 A38 a0 (fun r0 r1 => k (.t [.l Cd.span r0, .i .i64 r1])) := by kernel_rfl

theorem ok_token_Spans (A18 : T_input_Clean) (A37 : T_token_behindComments) (A38 : T_token_readToken) (h18 : FnOK sy Tryd.prog GT ovD GL 18 (q_input_Clean A18)) (h37 : FnOK sy Tryd.prog GT ovD GL 37 (q_token_behindComments A37)) (h38 : FnOK sy Tryd.prog GT ovD GL 38 (q_token_readToken A38)) : FnOK sy Tryd.prog GT ovD GL 10 (q_token_Spans (F_token_Spans A18 A37 A38)) := (fn_ok (rc := [some Cd.span, none]) (f := 10) (fn := Tryd.f10) (c := bodyOf Tryd.f10) (nt := Tryd.f10.ntmps) (res := Tryd.f10.results.toList) (C := C_token_Spans A18 A37 A38) (L := noL) (fun _ => rfl) Tryd.func10 (by kernel_rfl) rfl rfl (Cok_token_Spans A18 A37 A38 h18 h37 h38) (lp_of (l := []) (by kernel_rfl) lp_nil)).weak (by
  intro us k h
  unfold q_token_Spans at h
  split at h
  · skip
    rename_i a0
    rw [raw_token_Spans A18 A37 A38 a0 k]
    exact h
  · exact h.elim)

abbrev T_token_Value := List UInt8 → (Int → Bool → Int → Prop) → Prop
def q_token_Value (A : T_token_Value) (us : List W) (k : W → Prop) : Prop := match us with
  | [.s a0] => A a0 (fun r0 r1 r2 => k (.t [.i .i64 r0, .b r1, .i .i64 r2]))
  | _ => False
theorem q_token_Value_weak {A A2 : T_token_Value} (h : FnOK sy Tryd.prog GT ovD GL 11 (q_token_Value A)) (hA : ∀ a0 K, A2 a0 K → A a0 K) : FnOK sy Tryd.prog GT ovD GL 11 (q_token_Value A2) := h.weak (by
  intro us k h
  unfold q_token_Value at h ⊢
  split at h
  · exact hA _ _ h
  · exact h.elim)

def F_token_Value (A26 : T_token_numberStarts) (A27 : T_token_readNumber) (a0 : List UInt8) (K : Int → Bool → Int → Prop) : Prop :=
  (((decide ((4000 : Int) < (a0.length : Int))) = true → K (0 : Int) false (28 : Int)) ∧ ((decide ((4000 : Int) < (a0.length : Int))) = false → (A26 a0 (0 : Int) (fun y1 => (((!y1) = true → K (0 : Int) false (12 : Int)) ∧ ((!y1) = false → (A27 a0 (0 : Int) (fun y2 y3 y4 => (((decide (y4 ≠ (a0.length : Int))) = true → K (0 : Int) false (12 : Int)) ∧ ((decide (y4 ≠ (a0.length : Int))) = false → K y2 y3 (0 : Int)))))))))))

def C_token_Value (A26 : T_token_numberStarts) (A27 : T_token_readNumber) : CallT sg := tab [(26, con [none, none] (q_token_numberStarts A26)), (27, con [none, none] (q_token_readNumber A27))]
theorem Cok_token_Value (A26 : T_token_numberStarts) (A27 : T_token_readNumber) (h26 : FnOK sy Tryd.prog GT ovD GL 26 (q_token_numberStarts A26)) (h27 : FnOK sy Tryd.prog GT ovD GL 27 (q_token_readNumber A27)) (o0 : Nat → Prop) : CalOK sy Tryd.prog GT ovD o0 GL (C_token_Value A26 A27) := (tab_cons (con_ok h26) (tab_cons (con_ok h27) tab_nil)) o0

theorem raw_token_Value (A26 : T_token_numberStarts) (A27 : T_token_readNumber) (a0 : List UInt8) (k : W → Prop) : fnT sy Tryd.prog GT (C_token_Value A26 A27) noL Tryd.f11.ntmps (bodyOf Tryd.f11) [none, none, none] Tryd.f11.results.toList [.s a0] k = F_token_Value A26 A27 a0 (fun r0 r1 r2 => k (.t [.i .i64 r0, .b r1, .i .i64 r2])) := by kernel_rfl

theorem ok_token_Value (A26 : T_token_numberStarts) (A27 : T_token_readNumber) (h26 : FnOK sy Tryd.prog GT ovD GL 26 (q_token_numberStarts A26)) (h27 : FnOK sy Tryd.prog GT ovD GL 27 (q_token_readNumber A27)) : FnOK sy Tryd.prog GT ovD GL 11 (q_token_Value (F_token_Value A26 A27)) := (fn_ok (rc := [none, none, none]) (f := 11) (fn := Tryd.f11) (c := bodyOf Tryd.f11) (nt := Tryd.f11.ntmps) (res := Tryd.f11.results.toList) (C := C_token_Value A26 A27) (L := noL) (fun _ => rfl) Tryd.func11 (by kernel_rfl) rfl rfl (Cok_token_Value A26 A27 h26 h27) (lp_of (l := []) (by kernel_rfl) lp_nil)).weak (by
  intro us k h
  unfold q_token_Value at h
  split at h
  · skip
    rename_i a0
    rw [raw_token_Value A26 A27 a0 k]
    exact h
  · exact h.elim)

abbrev T_vitrinelaw02_digits := Int → (List UInt8 → Prop) → Prop
def q_vitrinelaw02_digits (A : T_vitrinelaw02_digits) (us : List W) (k : W → Prop) : Prop := match us with
  | [.i .i64 a0] => A a0 (fun r0 => k (.s r0))
  | _ => False
theorem q_vitrinelaw02_digits_weak {A A2 : T_vitrinelaw02_digits} (h : FnOK sy Tryd.prog GT ovD GL 22 (q_vitrinelaw02_digits A)) (hA : ∀ a0 K, A2 a0 K → A a0 K) : FnOK sy Tryd.prog GT ovD GL 22 (q_vitrinelaw02_digits A2) := h.weak (by
  intro us k h
  unfold q_vitrinelaw02_digits at h ⊢
  split at h
  · exact hA _ _ h
  · exact h.elim)

def F_vitrinelaw02_digits (A22 : T_vitrinelaw02_digits) (a0 : Int) (K : List UInt8 → Prop) : Prop :=
  (((decide (a0 < (0 : Int))) = true → (I64 (0 - a0) ∧ (A22 (0 - a0) (fun y1 => (([45] : List UInt8).length + y1.length ≤ 1099511627776 ∧ K (([45] : List UInt8) ++ y1)))))) ∧ ((decide (a0 < (0 : Int))) = false → ((10 : Int) ≠ 0 ∧ (I64 ((48 : Int) + (a0.tmod (10 : Int))) ∧ ((0 ≤ (IntKind.u8.wrap ((48 : Int) + (a0.tmod (10 : Int)))) ∧ (IntKind.u8.wrap ((48 : Int) + (a0.tmod (10 : Int)))) ≤ 255) ∧ (((decide (a0 < (10 : Int))) = true → K [UInt8.ofNat ((IntKind.u8.wrap ((48 : Int) + (a0.tmod (10 : Int)))).toNat)]) ∧ ((decide (a0 < (10 : Int))) = false → ((10 : Int) ≠ 0 ∧ (I64 (a0.tdiv (10 : Int)) ∧ (A22 (a0.tdiv (10 : Int)) (fun y2 => (y2.length + [UInt8.ofNat ((IntKind.u8.wrap ((48 : Int) + (a0.tmod (10 : Int)))).toNat)].length ≤ 1099511627776 ∧ K (y2 ++ [UInt8.ofNat ((IntKind.u8.wrap ((48 : Int) + (a0.tmod (10 : Int)))).toNat)])))))))))))))

def C_vitrinelaw02_digits (A22 : T_vitrinelaw02_digits) : CallT sg := tab [(22, con [none] (q_vitrinelaw02_digits A22))]
theorem Cok_vitrinelaw02_digits (A22 : T_vitrinelaw02_digits) (h22 : FnOK sy Tryd.prog GT ovD GL 22 (q_vitrinelaw02_digits A22)) (o0 : Nat → Prop) : CalOK sy Tryd.prog GT ovD o0 GL (C_vitrinelaw02_digits A22) := (tab_cons (con_ok h22) tab_nil) o0

theorem raw_vitrinelaw02_digits (A22 : T_vitrinelaw02_digits) (a0 : Int) (k : W → Prop) : fnT sy Tryd.prog GT (C_vitrinelaw02_digits A22) noL Tryd.f22.ntmps (bodyOf Tryd.f22) [none] Tryd.f22.results.toList [.i .i64 a0] k = F_vitrinelaw02_digits A22 a0 (fun r0 => k (.s r0)) := by kernel_rfl

theorem ok_vitrinelaw02_digits (A22 : T_vitrinelaw02_digits) (h22 : FnOK sy Tryd.prog GT ovD GL 22 (q_vitrinelaw02_digits A22)) : FnOK sy Tryd.prog GT ovD GL 22 (q_vitrinelaw02_digits (F_vitrinelaw02_digits A22)) := (fn_ok (rc := [none]) (f := 22) (fn := Tryd.f22) (c := bodyOf Tryd.f22) (nt := Tryd.f22.ntmps) (res := Tryd.f22.results.toList) (C := C_vitrinelaw02_digits A22) (L := noL) (fun _ => rfl) Tryd.func22 (by kernel_rfl) rfl rfl (Cok_vitrinelaw02_digits A22 h22) (lp_of (l := []) (by kernel_rfl) lp_nil)).weak (by
  intro us k h
  unfold q_vitrinelaw02_digits at h
  split at h
  · skip
    rename_i a0
    rw [raw_vitrinelaw02_digits A22 a0 k]
    exact h
  · exact h.elim)

abbrev T_vitrinelaw02_alive := (Bool → Prop) → Prop
def q_vitrinelaw02_alive (A : T_vitrinelaw02_alive) (us : List W) (k : W → Prop) : Prop := match us with
  | [] => A (fun r0 => k (.b r0))
  | _ => False
theorem q_vitrinelaw02_alive_weak {A A2 : T_vitrinelaw02_alive} (h : FnOK sy Tryd.prog GT ovD GL 15 (q_vitrinelaw02_alive A)) (hA : ∀  K, A2  K → A  K) : FnOK sy Tryd.prog GT ovD GL 15 (q_vitrinelaw02_alive A2) := h.weak (by
  intro us k h
  unfold q_vitrinelaw02_alive at h ⊢
  split at h
  · exact hA _ h
  · exact h.elim)

abbrev T_vitrinelaw02_TokenNumbers := Int → Int → (Bool → Prop) → Prop
def q_vitrinelaw02_TokenNumbers (A : T_vitrinelaw02_TokenNumbers) (us : List W) (k : W → Prop) : Prop := match us with
  | [.i .i64 a0, .i .i64 a1] => A a0 a1 (fun r0 => k (.b r0))
  | _ => False
theorem q_vitrinelaw02_TokenNumbers_weak {A A2 : T_vitrinelaw02_TokenNumbers} (h : FnOK sy Tryd.prog GT ovD GL 8 (q_vitrinelaw02_TokenNumbers A)) (hA : ∀ a0 a1 K, A2 a0 a1 K → A a0 a1 K) : FnOK sy Tryd.prog GT ovD GL 8 (q_vitrinelaw02_TokenNumbers A2) := h.weak (by
  intro us k h
  unfold q_vitrinelaw02_TokenNumbers at h ⊢
  split at h
  · exact hA _ _ _ h
  · exact h.elim)

def F_vitrinelaw02_TokenNumbers (A15 : T_vitrinelaw02_alive) (A22 : T_vitrinelaw02_digits) (A11 : T_token_Value) (A9 : T_token_Tokens) (a0 : Int) (a1 : Int) (K : Bool → Prop) : Prop :=
  (((decide (a0 < (-999999 : Int))) = false → (((decide ((999999 : Int) < a0)) = false → (((decide (a1 < (0 : Int))) = false → (((decide ((5 : Int) < a1)) = true → (A15 (fun y1 => K y1))) ∧ ((decide ((5 : Int) < a1)) = false → (A22 a0 (fun y2 => ((0 ≤ a1 ∧ a1 ≤ (([48, 48, 48, 48, 48] : List UInt8).length : Int)) ∧ (A11 y2 (fun y3 y4 y5 => (y2.length + ([46] : List UInt8).length ≤ 1099511627776 ∧ ((y2 ++ ([46] : List UInt8)).length + (([48, 48, 48, 48, 48] : List UInt8).take a1.toNat).length ≤ 1099511627776 ∧ (((y2 ++ ([46] : List UInt8)) ++ (([48, 48, 48, 48, 48] : List UInt8).take a1.toNat)).length + ([48] : List UInt8).length ≤ 1099511627776 ∧ (A11 (((y2 ++ ([46] : List UInt8)) ++ (([48, 48, 48, 48, 48] : List UInt8).take a1.toNat)) ++ ([48] : List UInt8)) (fun y6 y7 y8 => (y2.length + (([48, 48, 48, 48, 48] : List UInt8).take a1.toNat).length ≤ 1099511627776 ∧ ((y2 ++ (([48, 48, 48, 48, 48] : List UInt8).take a1.toNat)).length + ([101, 45] : List UInt8).length ≤ 1099511627776 ∧ (A22 a1 (fun y9 => (((y2 ++ (([48, 48, 48, 48, 48] : List UInt8).take a1.toNat)) ++ ([101, 45] : List UInt8)).length + y9.length ≤ 1099511627776 ∧ (A11 (((y2 ++ (([48, 48, 48, 48, 48] : List UInt8).take a1.toNat)) ++ ([101, 45] : List UInt8)) ++ y9) (fun y10 y11 y12 => (A9 y2 (fun y13 y14 => (((decide (y5 ≠ (0 : Int))) = false → (((decide (y8 ≠ (0 : Int))) = false → (((decide (y12 ≠ (0 : Int))) = false → (((decide (y14 ≠ (0 : Int))) = false → (((decide ((y13.length : Int) ≠ (1 : Int))) = true → K false) ∧ ((decide ((y13.length : Int) ≠ (1 : Int))) = false → ((y4 = true → (((!y7) = true → (((!y11) = true → (I64 ((1000 : Int) * a0) ∧ (((decide (y3 = ((1000 : Int) * a0))) = true → (((decide (y6 = y3)) = true → (((decide (y10 = y3)) = true → ((0 ≤ (0 : Int) ∧ (0 : Int) < (y13.length : Int)) ∧ (((decide ((y13.getD 0 (dfltD Cd.tok)).kind = (10 : Int)) && ((((y13.getD 0 (dfltD Cd.tok)).text) == ([] : List UInt8)) && (decide ((y13.getD 0 (dfltD Cd.tok)).num = y3) && ((((y13.getD 0 (dfltD Cd.tok)).unit) == ([] : List UInt8)) && ((((y13.getD 0 (dfltD Cd.tok)).flag) == true) && true))))) = true → (A15 (fun y15 => K y15))) ∧ ((decide ((y13.getD 0 (dfltD Cd.tok)).kind = (10 : Int)) && ((((y13.getD 0 (dfltD Cd.tok)).text) == ([] : List UInt8)) && (decide ((y13.getD 0 (dfltD Cd.tok)).num = y3) && ((((y13.getD 0 (dfltD Cd.tok)).unit) == ([] : List UInt8)) && ((((y13.getD 0 (dfltD Cd.tok)).flag) == true) && true))))) = false → K false)))) ∧ ((decide (y10 = y3)) = false → K false))) ∧ ((decide (y6 = y3)) = false → K false))) ∧ ((decide (y3 = ((1000 : Int) * a0))) = false → K false)))) ∧ ((!y11) = false → K false))) ∧ ((!y7) = false → K false))) ∧ (y4 = false → K false))))) ∧ ((decide (y14 ≠ (0 : Int))) = true → K false))) ∧ ((decide (y12 ≠ (0 : Int))) = true → K false))) ∧ ((decide (y8 ≠ (0 : Int))) = true → K false))) ∧ ((decide (y5 ≠ (0 : Int))) = true → K false)))))))))))))))))))))))) ∧ ((decide (a1 < (0 : Int))) = true → (A15 (fun y16 => K y16))))) ∧ ((decide ((999999 : Int) < a0)) = true → (A15 (fun y17 => K y17))))) ∧ ((decide (a0 < (-999999 : Int))) = true → (A15 (fun y18 => K y18))))

def C_vitrinelaw02_TokenNumbers (A15 : T_vitrinelaw02_alive) (A22 : T_vitrinelaw02_digits) (A11 : T_token_Value) (A9 : T_token_Tokens) : CallT sg := tab [(15, con [] (q_vitrinelaw02_alive A15)), (22, con [none] (q_vitrinelaw02_digits A22)), (11, con [none] (q_token_Value A11)), (9, con [none] (q_token_Tokens A9))]
theorem Cok_vitrinelaw02_TokenNumbers (A15 : T_vitrinelaw02_alive) (A22 : T_vitrinelaw02_digits) (A11 : T_token_Value) (A9 : T_token_Tokens) (h15 : FnOK sy Tryd.prog GT ovD GL 15 (q_vitrinelaw02_alive A15)) (h22 : FnOK sy Tryd.prog GT ovD GL 22 (q_vitrinelaw02_digits A22)) (h11 : FnOK sy Tryd.prog GT ovD GL 11 (q_token_Value A11)) (h9 : FnOK sy Tryd.prog GT ovD GL 9 (q_token_Tokens A9)) (o0 : Nat → Prop) : CalOK sy Tryd.prog GT ovD o0 GL (C_vitrinelaw02_TokenNumbers A15 A22 A11 A9) := (tab_cons (con_ok h15) (tab_cons (con_ok h22) (tab_cons (con_ok h11) (tab_cons (con_ok h9) tab_nil)))) o0

theorem raw_vitrinelaw02_TokenNumbers (A15 : T_vitrinelaw02_alive) (A22 : T_vitrinelaw02_digits) (A11 : T_token_Value) (A9 : T_token_Tokens) (a0 : Int) (a1 : Int) (k : W → Prop) : fnT sy Tryd.prog GT (C_vitrinelaw02_TokenNumbers A15 A22 A11 A9) noL Tryd.f8.ntmps (bodyOf Tryd.f8) [none] Tryd.f8.results.toList [.i .i64 a0, .i .i64 a1] k = F_vitrinelaw02_TokenNumbers A15 A22 A11 A9 a0 a1 (fun r0 => k (.b r0)) := by kernel_rfl

theorem ok_vitrinelaw02_TokenNumbers (A15 : T_vitrinelaw02_alive) (A22 : T_vitrinelaw02_digits) (A11 : T_token_Value) (A9 : T_token_Tokens) (h15 : FnOK sy Tryd.prog GT ovD GL 15 (q_vitrinelaw02_alive A15)) (h22 : FnOK sy Tryd.prog GT ovD GL 22 (q_vitrinelaw02_digits A22)) (h11 : FnOK sy Tryd.prog GT ovD GL 11 (q_token_Value A11)) (h9 : FnOK sy Tryd.prog GT ovD GL 9 (q_token_Tokens A9)) : FnOK sy Tryd.prog GT ovD GL 8 (q_vitrinelaw02_TokenNumbers (F_vitrinelaw02_TokenNumbers A15 A22 A11 A9)) := (fn_ok (rc := [none]) (f := 8) (fn := Tryd.f8) (c := bodyOf Tryd.f8) (nt := Tryd.f8.ntmps) (res := Tryd.f8.results.toList) (C := C_vitrinelaw02_TokenNumbers A15 A22 A11 A9) (L := noL) (fun _ => rfl) Tryd.func8 (by kernel_rfl) rfl rfl (Cok_vitrinelaw02_TokenNumbers A15 A22 A11 A9 h15 h22 h11 h9) (lp_of (l := []) (by kernel_rfl) lp_nil)).weak (by
  intro us k h
  unfold q_vitrinelaw02_TokenNumbers at h
  split at h
  · skip
    rename_i a0 a1
    rw [raw_vitrinelaw02_TokenNumbers A15 A22 A11 A9 a0 a1 k]
    exact h
  · exact h.elim)

end Go.Proofs.YtcjoehlflbegpaaDoor
