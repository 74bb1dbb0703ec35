/-
  Functions of the tokenizer, followed: names. Nothing is claimed here.
-/
import Derived.Test.YtcjoehlflbegpaaDoorYd
import Derived.Test.YtcjoehlflbegpaaDoorSn
namespace Go.Proofs.YtcjoehlflbegpaaDoor
open Go.Vm Go.Sx Go.RowKit

abbrev T_token_hexDigit := Int → (Int → Bool → Prop) → Prop
def q_token_hexDigit (A : T_token_hexDigit) (us : List W) (k : W → Prop) : Prop := match us with
  | [.i .u8 a0] => A a0 (fun r0 r1 => k (.t [.i .i32 r0, .b r1]))
  | _ => False
theorem q_token_hexDigit_weak {A A2 : T_token_hexDigit} (h : FnOK sy Tryd.prog GT ovD GL 73 (q_token_hexDigit A)) (hA : ∀ a0 K, A2 a0 K → A a0 K) : FnOK sy Tryd.prog GT ovD GL 73 (q_token_hexDigit A2) := h.weak (by
  intro us k h
  unfold q_token_hexDigit at h ⊢
  split at h
  · exact hA _ _ h
  · exact h.elim)

def F_token_hexDigit (A41 : T_char_IsDigit) (a0 : Int) (K : Int → Bool → Prop) : Prop :=
  (A41 a0 (fun y1 => ((y1 = true → (I32 (IntKind.u8.wrap (a0 - (48 : Int))) ∧ K (IntKind.u8.wrap (a0 - (48 : Int))) true)) ∧ (y1 = false → (((decide ((97 : Int) ≤ a0)) = true → (((decide (a0 ≤ (102 : Int))) = true → (I32 (IntKind.u8.wrap (a0 - (97 : Int))) ∧ (I32 ((IntKind.u8.wrap (a0 - (97 : Int))) + (10 : Int)) ∧ K ((IntKind.u8.wrap (a0 - (97 : Int))) + (10 : Int)) true))) ∧ ((decide (a0 ≤ (102 : Int))) = false → (((decide ((65 : Int) ≤ a0)) = true → (((decide (a0 ≤ (70 : Int))) = true → (I32 (IntKind.u8.wrap (a0 - (65 : Int))) ∧ (I32 ((IntKind.u8.wrap (a0 - (65 : Int))) + (10 : Int)) ∧ K ((IntKind.u8.wrap (a0 - (65 : Int))) + (10 : Int)) true))) ∧ ((decide (a0 ≤ (70 : Int))) = false → K (0 : Int) false))) ∧ ((decide ((65 : Int) ≤ a0)) = false → K (0 : Int) false))))) ∧ ((decide ((97 : Int) ≤ a0)) = false → (((decide ((65 : Int) ≤ a0)) = true → (((decide (a0 ≤ (70 : Int))) = true → (I32 (IntKind.u8.wrap (a0 - (65 : Int))) ∧ (I32 ((IntKind.u8.wrap (a0 - (65 : Int))) + (10 : Int)) ∧ K ((IntKind.u8.wrap (a0 - (65 : Int))) + (10 : Int)) true))) ∧ ((decide (a0 ≤ (70 : Int))) = false → K (0 : Int) false))) ∧ ((decide ((65 : Int) ≤ a0)) = false → K (0 : Int) false))))))))

def C_token_hexDigit (A41 : T_char_IsDigit) : CallT sg := tab [(41, con [none] (q_char_IsDigit A41))]
theorem Cok_token_hexDigit (A41 : T_char_IsDigit) (h41 : FnOK sy Tryd.prog GT ovD GL 41 (q_char_IsDigit A41)) (o0 : Nat → Prop) : CalOK sy Tryd.prog GT ovD o0 GL (C_token_hexDigit A41) := (tab_cons (con_ok h41) tab_nil) o0

theorem raw_token_hexDigit (A41 : T_char_IsDigit) (a0 : Int) (k : W → Prop) : fnT sy Tryd.prog GT (C_token_hexDigit A41) noL Tryd.f73.ntmps (bodyOf Tryd.f73) [none, none] Tryd.f73.results.toList [.i .u8 a0] k = F_token_hexDigit A41 a0 (fun r0 r1 => k (.t [.i .i32 r0, .b r1])) := by kernel_rfl

theorem ok_token_hexDigit (A41 : T_char_IsDigit) (h41 : FnOK sy Tryd.prog GT ovD GL 41 (q_char_IsDigit A41)) : FnOK sy Tryd.prog GT ovD GL 73 (q_token_hexDigit (F_token_hexDigit A41)) := (fn_ok (rc := [none, none]) (f := 73) (fn := Tryd.f73) (c := bodyOf Tryd.f73) (nt := Tryd.f73.ntmps) (res := Tryd.f73.results.toList) (C := C_token_hexDigit A41) (L := noL) (fun _ => rfl) Tryd.func73 (by kernel_rfl) rfl rfl (Cok_token_hexDigit A41 h41) (lp_of (l := []) (by kernel_rfl) lp_nil)).weak (by
  intro us k h
  unfold q_token_hexDigit at h
  split at h
  · skip
    rename_i a0
    rw [raw_token_hexDigit A41 a0 k]
    exact h
  · exact h.elim)

def C_utf8_appendRuneNonASCIIe : CallT sg := tab []
theorem Cok_utf8_appendRuneNonASCIIe (o0 : Nat → Prop) : CalOK sy Tryd.prog GT ovD o0 GL (C_utf8_appendRuneNonASCIIe) := tab_nil o0

def C_utf8_AppendRune_e : CallT sg := tab [(87, inl sy Tryd.prog GT (C_utf8_appendRuneNonASCIIe) noL 1000 Tryd.f87.ntmps (bodyOf Tryd.f87) Tryd.f87.results.toList)]
theorem Cok_utf8_AppendRune_e (o0 : Nat → Prop) : CalOK sy Tryd.prog GT ovD o0 GL (C_utf8_AppendRune_e) := (tab_cons (inl_ok (f := 87) (fn := Tryd.f87) (fun _ => rfl) Tryd.func87 (by kernel_rfl) rfl rfl (Cok_utf8_appendRuneNonASCIIe) (lp_of (l := []) (by kernel_rfl) lp_nil)) tab_nil) o0

def sl_utf8_AppendRune_e : LS sy (Unit × Int × Unit) (List (sg.Den Cd.u8) × Unit) := ⟨[], fCons 0 (vLit sy (.o 0)) (fCons 1 (vInt sy .i32) (fNil sy)), hBuf 0 Cd.u8 (hNil sy), 1, []⟩
def sr_utf8_AppendRune_e : LS sy (Unit × Unit) (List (sg.Den Cd.u8) × Unit) := ⟨[], fCons 4 (vLit sy (.o 0)) (fNil sy), hBuf 0 Cd.u8 (hNil sy), 1, [0]⟩
abbrev T_utf8_AppendRune_e := Int → (List UInt8) → (List UInt8 → Prop) → Prop
def g_utf8_AppendRune_e (A : T_utf8_AppendRune_e) (x : (Unit × Int × Unit) × (List (sg.Den Cd.u8) × Unit)) (K : (Unit × Unit) × (List (sg.Den Cd.u8) × Unit) → Prop) : Prop := A x.1.2.1 x.2.1 (fun y0 => K (((), ()), (y0, ())))
def F_utf8_AppendRune_e (x1 : Int) (b0 : List UInt8) (K : (List UInt8 → Prop)) : Prop :=
  (((decide ((IntKind.u32.wrap x1) ≤ (127 : Int))) = true → ((0 ≤ (IntKind.u8.wrap x1) ∧ (IntKind.u8.wrap x1) ≤ 255) ∧ ((b0.length + [UInt8.ofNat ((IntKind.u8.wrap x1).toNat)].length) * 1 ≤ 1099511627776 ∧ K (b0 ++ [UInt8.ofNat ((IntKind.u8.wrap x1).toNat)])))) ∧ ((decide ((IntKind.u32.wrap x1) ≤ (127 : Int))) = false → (((decide ((IntKind.u32.wrap x1) ≤ (2047 : Int))) = true → (0 ≤ (6 : Int) ∧ ((0 ≤ (IntKind.u8.wrap ((BitVec.ofInt IntKind.u8.bits (192 : Int) ||| BitVec.ofInt IntKind.u8.bits (IntKind.u8.wrap (x1.fdiv (2 ^ (min 6 IntKind.i32.bits))))).toNat : Int)) ∧ (IntKind.u8.wrap ((BitVec.ofInt IntKind.u8.bits (192 : Int) ||| BitVec.ofInt IntKind.u8.bits (IntKind.u8.wrap (x1.fdiv (2 ^ (min 6 IntKind.i32.bits))))).toNat : Int)) ≤ 255) ∧ ((0 ≤ (IntKind.u8.wrap ((BitVec.ofInt IntKind.u8.bits (128 : Int) ||| BitVec.ofInt IntKind.u8.bits (IntKind.u8.wrap ((BitVec.ofInt IntKind.u8.bits (IntKind.u8.wrap x1) &&& BitVec.ofInt IntKind.u8.bits (63 : Int)).toNat : Int))).toNat : Int)) ∧ (IntKind.u8.wrap ((BitVec.ofInt IntKind.u8.bits (128 : Int) ||| BitVec.ofInt IntKind.u8.bits (IntKind.u8.wrap ((BitVec.ofInt IntKind.u8.bits (IntKind.u8.wrap x1) &&& BitVec.ofInt IntKind.u8.bits (63 : Int)).toNat : Int))).toNat : Int)) ≤ 255) ∧ ((b0.length + [UInt8.ofNat ((IntKind.u8.wrap ((BitVec.ofInt IntKind.u8.bits (192 : Int) ||| BitVec.ofInt IntKind.u8.bits (IntKind.u8.wrap (x1.fdiv (2 ^ (min 6 IntKind.i32.bits))))).toNat : Int)).toNat), UInt8.ofNat ((IntKind.u8.wrap ((BitVec.ofInt IntKind.u8.bits (128 : Int) ||| BitVec.ofInt IntKind.u8.bits (IntKind.u8.wrap ((BitVec.ofInt IntKind.u8.bits (IntKind.u8.wrap x1) &&& BitVec.ofInt IntKind.u8.bits (63 : Int)).toNat : Int))).toNat : Int)).toNat)].length) * 1 ≤ 1099511627776 ∧ K (b0 ++ [UInt8.ofNat ((IntKind.u8.wrap ((BitVec.ofInt IntKind.u8.bits (192 : Int) ||| BitVec.ofInt IntKind.u8.bits (IntKind.u8.wrap (x1.fdiv (2 ^ (min 6 IntKind.i32.bits))))).toNat : Int)).toNat), UInt8.ofNat ((IntKind.u8.wrap ((BitVec.ofInt IntKind.u8.bits (128 : Int) ||| BitVec.ofInt IntKind.u8.bits (IntKind.u8.wrap ((BitVec.ofInt IntKind.u8.bits (IntKind.u8.wrap x1) &&& BitVec.ofInt IntKind.u8.bits (63 : Int)).toNat : Int))).toNat : Int)).toNat)])))))) ∧ ((decide ((IntKind.u32.wrap x1) ≤ (2047 : Int))) = false → (((decide ((IntKind.u32.wrap x1) < (55296 : Int))) = true → (0 ≤ (12 : Int) ∧ (0 ≤ (6 : Int) ∧ ((0 ≤ (IntKind.u8.wrap ((BitVec.ofInt IntKind.u8.bits (224 : Int) ||| BitVec.ofInt IntKind.u8.bits (IntKind.u8.wrap (x1.fdiv (2 ^ (min 12 IntKind.i32.bits))))).toNat : Int)) ∧ (IntKind.u8.wrap ((BitVec.ofInt IntKind.u8.bits (224 : Int) ||| BitVec.ofInt IntKind.u8.bits (IntKind.u8.wrap (x1.fdiv (2 ^ (min 12 IntKind.i32.bits))))).toNat : Int)) ≤ 255) ∧ ((0 ≤ (IntKind.u8.wrap ((BitVec.ofInt IntKind.u8.bits (128 : Int) ||| BitVec.ofInt IntKind.u8.bits (IntKind.u8.wrap ((BitVec.ofInt IntKind.u8.bits (IntKind.u8.wrap (x1.fdiv (2 ^ (min 6 IntKind.i32.bits)))) &&& BitVec.ofInt IntKind.u8.bits (63 : Int)).toNat : Int))).toNat : Int)) ∧ (IntKind.u8.wrap ((BitVec.ofInt IntKind.u8.bits (128 : Int) ||| BitVec.ofInt IntKind.u8.bits (IntKind.u8.wrap ((BitVec.ofInt IntKind.u8.bits (IntKind.u8.wrap (x1.fdiv (2 ^ (min 6 IntKind.i32.bits)))) &&& BitVec.ofInt IntKind.u8.bits (63 : Int)).toNat : Int))).toNat : Int)) ≤ 255) ∧ ((0 ≤ (IntKind.u8.wrap ((BitVec.ofInt IntKind.u8.bits (128 : Int) ||| BitVec.ofInt IntKind.u8.bits (IntKind.u8.wrap ((BitVec.ofInt IntKind.u8.bits (IntKind.u8.wrap x1) &&& BitVec.ofInt IntKind.u8.bits (63 : Int)).toNat : Int))).toNat : Int)) ∧ (IntKind.u8.wrap ((BitVec.ofInt IntKind.u8.bits (128 : Int) ||| BitVec.ofInt IntKind.u8.bits (IntKind.u8.wrap ((BitVec.ofInt IntKind.u8.bits (IntKind.u8.wrap x1) &&& BitVec.ofInt IntKind.u8.bits (63 : Int)).toNat : Int))).toNat : Int)) ≤ 255) ∧ ((b0.length + [UInt8.ofNat ((IntKind.u8.wrap ((BitVec.ofInt IntKind.u8.bits (224 : Int) ||| BitVec.ofInt IntKind.u8.bits (IntKind.u8.wrap (x1.fdiv (2 ^ (min 12 IntKind.i32.bits))))).toNat : Int)).toNat), UInt8.ofNat ((IntKind.u8.wrap ((BitVec.ofInt IntKind.u8.bits (128 : Int) ||| BitVec.ofInt IntKind.u8.bits (IntKind.u8.wrap ((BitVec.ofInt IntKind.u8.bits (IntKind.u8.wrap (x1.fdiv (2 ^ (min 6 IntKind.i32.bits)))) &&& BitVec.ofInt IntKind.u8.bits (63 : Int)).toNat : Int))).toNat : Int)).toNat), UInt8.ofNat ((IntKind.u8.wrap ((BitVec.ofInt IntKind.u8.bits (128 : Int) ||| BitVec.ofInt IntKind.u8.bits (IntKind.u8.wrap ((BitVec.ofInt IntKind.u8.bits (IntKind.u8.wrap x1) &&& BitVec.ofInt IntKind.u8.bits (63 : Int)).toNat : Int))).toNat : Int)).toNat)].length) * 1 ≤ 1099511627776 ∧ K (b0 ++ [UInt8.ofNat ((IntKind.u8.wrap ((BitVec.ofInt IntKind.u8.bits (224 : Int) ||| BitVec.ofInt IntKind.u8.bits (IntKind.u8.wrap (x1.fdiv (2 ^ (min 12 IntKind.i32.bits))))).toNat : Int)).toNat), UInt8.ofNat ((IntKind.u8.wrap ((BitVec.ofInt IntKind.u8.bits (128 : Int) ||| BitVec.ofInt IntKind.u8.bits (IntKind.u8.wrap ((BitVec.ofInt IntKind.u8.bits (IntKind.u8.wrap (x1.fdiv (2 ^ (min 6 IntKind.i32.bits)))) &&& BitVec.ofInt IntKind.u8.bits (63 : Int)).toNat : Int))).toNat : Int)).toNat), UInt8.ofNat ((IntKind.u8.wrap ((BitVec.ofInt IntKind.u8.bits (128 : Int) ||| BitVec.ofInt IntKind.u8.bits (IntKind.u8.wrap ((BitVec.ofInt IntKind.u8.bits (IntKind.u8.wrap x1) &&& BitVec.ofInt IntKind.u8.bits (63 : Int)).toNat : Int))).toNat : Int)).toNat)])))))))) ∧ ((decide ((IntKind.u32.wrap x1) < (55296 : Int))) = false → (((decide ((57343 : Int) < (IntKind.u32.wrap x1))) = true → (((decide ((IntKind.u32.wrap x1) ≤ (65535 : Int))) = true → (0 ≤ (12 : Int) ∧ (0 ≤ (6 : Int) ∧ ((0 ≤ (IntKind.u8.wrap ((BitVec.ofInt IntKind.u8.bits (224 : Int) ||| BitVec.ofInt IntKind.u8.bits (IntKind.u8.wrap (x1.fdiv (2 ^ (min 12 IntKind.i32.bits))))).toNat : Int)) ∧ (IntKind.u8.wrap ((BitVec.ofInt IntKind.u8.bits (224 : Int) ||| BitVec.ofInt IntKind.u8.bits (IntKind.u8.wrap (x1.fdiv (2 ^ (min 12 IntKind.i32.bits))))).toNat : Int)) ≤ 255) ∧ ((0 ≤ (IntKind.u8.wrap ((BitVec.ofInt IntKind.u8.bits (128 : Int) ||| BitVec.ofInt IntKind.u8.bits (IntKind.u8.wrap ((BitVec.ofInt IntKind.u8.bits (IntKind.u8.wrap (x1.fdiv (2 ^ (min 6 IntKind.i32.bits)))) &&& BitVec.ofInt IntKind.u8.bits (63 : Int)).toNat : Int))).toNat : Int)) ∧ (IntKind.u8.wrap ((BitVec.ofInt IntKind.u8.bits (128 : Int) ||| BitVec.ofInt IntKind.u8.bits (IntKind.u8.wrap ((BitVec.ofInt IntKind.u8.bits (IntKind.u8.wrap (x1.fdiv (2 ^ (min 6 IntKind.i32.bits)))) &&& BitVec.ofInt IntKind.u8.bits (63 : Int)).toNat : Int))).toNat : Int)) ≤ 255) ∧ ((0 ≤ (IntKind.u8.wrap ((BitVec.ofInt IntKind.u8.bits (128 : Int) ||| BitVec.ofInt IntKind.u8.bits (IntKind.u8.wrap ((BitVec.ofInt IntKind.u8.bits (IntKind.u8.wrap x1) &&& BitVec.ofInt IntKind.u8.bits (63 : Int)).toNat : Int))).toNat : Int)) ∧ (IntKind.u8.wrap ((BitVec.ofInt IntKind.u8.bits (128 : Int) ||| BitVec.ofInt IntKind.u8.bits (IntKind.u8.wrap ((BitVec.ofInt IntKind.u8.bits (IntKind.u8.wrap x1) &&& BitVec.ofInt IntKind.u8.bits (63 : Int)).toNat : Int))).toNat : Int)) ≤ 255) ∧ ((b0.length + [UInt8.ofNat ((IntKind.u8.wrap ((BitVec.ofInt IntKind.u8.bits (224 : Int) ||| BitVec.ofInt IntKind.u8.bits (IntKind.u8.wrap (x1.fdiv (2 ^ (min 12 IntKind.i32.bits))))).toNat : Int)).toNat), UInt8.ofNat ((IntKind.u8.wrap ((BitVec.ofInt IntKind.u8.bits (128 : Int) ||| BitVec.ofInt IntKind.u8.bits (IntKind.u8.wrap ((BitVec.ofInt IntKind.u8.bits (IntKind.u8.wrap (x1.fdiv (2 ^ (min 6 IntKind.i32.bits)))) &&& BitVec.ofInt IntKind.u8.bits (63 : Int)).toNat : Int))).toNat : Int)).toNat), UInt8.ofNat ((IntKind.u8.wrap ((BitVec.ofInt IntKind.u8.bits (128 : Int) ||| BitVec.ofInt IntKind.u8.bits (IntKind.u8.wrap ((BitVec.ofInt IntKind.u8.bits (IntKind.u8.wrap x1) &&& BitVec.ofInt IntKind.u8.bits (63 : Int)).toNat : Int))).toNat : Int)).toNat)].length) * 1 ≤ 1099511627776 ∧ K (b0 ++ [UInt8.ofNat ((IntKind.u8.wrap ((BitVec.ofInt IntKind.u8.bits (224 : Int) ||| BitVec.ofInt IntKind.u8.bits (IntKind.u8.wrap (x1.fdiv (2 ^ (min 12 IntKind.i32.bits))))).toNat : Int)).toNat), UInt8.ofNat ((IntKind.u8.wrap ((BitVec.ofInt IntKind.u8.bits (128 : Int) ||| BitVec.ofInt IntKind.u8.bits (IntKind.u8.wrap ((BitVec.ofInt IntKind.u8.bits (IntKind.u8.wrap (x1.fdiv (2 ^ (min 6 IntKind.i32.bits)))) &&& BitVec.ofInt IntKind.u8.bits (63 : Int)).toNat : Int))).toNat : Int)).toNat), UInt8.ofNat ((IntKind.u8.wrap ((BitVec.ofInt IntKind.u8.bits (128 : Int) ||| BitVec.ofInt IntKind.u8.bits (IntKind.u8.wrap ((BitVec.ofInt IntKind.u8.bits (IntKind.u8.wrap x1) &&& BitVec.ofInt IntKind.u8.bits (63 : Int)).toNat : Int))).toNat : Int)).toNat)])))))))) ∧ ((decide ((IntKind.u32.wrap x1) ≤ (65535 : Int))) = false → (((decide ((65535 : Int) < (IntKind.u32.wrap x1))) = true → (((decide ((IntKind.u32.wrap x1) ≤ (1114111 : Int))) = true → (0 ≤ (18 : Int) ∧ (0 ≤ (12 : Int) ∧ (0 ≤ (6 : Int) ∧ ((0 ≤ (IntKind.u8.wrap ((BitVec.ofInt IntKind.u8.bits (240 : Int) ||| BitVec.ofInt IntKind.u8.bits (IntKind.u8.wrap (x1.fdiv (2 ^ (min 18 IntKind.i32.bits))))).toNat : Int)) ∧ (IntKind.u8.wrap ((BitVec.ofInt IntKind.u8.bits (240 : Int) ||| BitVec.ofInt IntKind.u8.bits (IntKind.u8.wrap (x1.fdiv (2 ^ (min 18 IntKind.i32.bits))))).toNat : Int)) ≤ 255) ∧ ((0 ≤ (IntKind.u8.wrap ((BitVec.ofInt IntKind.u8.bits (128 : Int) ||| BitVec.ofInt IntKind.u8.bits (IntKind.u8.wrap ((BitVec.ofInt IntKind.u8.bits (IntKind.u8.wrap (x1.fdiv (2 ^ (min 12 IntKind.i32.bits)))) &&& BitVec.ofInt IntKind.u8.bits (63 : Int)).toNat : Int))).toNat : Int)) ∧ (IntKind.u8.wrap ((BitVec.ofInt IntKind.u8.bits (128 : Int) ||| BitVec.ofInt IntKind.u8.bits (IntKind.u8.wrap ((BitVec.ofInt IntKind.u8.bits (IntKind.u8.wrap (x1.fdiv (2 ^ (min 12 IntKind.i32.bits)))) &&& BitVec.ofInt IntKind.u8.bits (63 : Int)).toNat : Int))).toNat : Int)) ≤ 255) ∧ ((0 ≤ (IntKind.u8.wrap ((BitVec.ofInt IntKind.u8.bits (128 : Int) ||| BitVec.ofInt IntKind.u8.bits (IntKind.u8.wrap ((BitVec.ofInt IntKind.u8.bits (IntKind.u8.wrap (x1.fdiv (2 ^ (min 6 IntKind.i32.bits)))) &&& BitVec.ofInt IntKind.u8.bits (63 : Int)).toNat : Int))).toNat : Int)) ∧ (IntKind.u8.wrap ((BitVec.ofInt IntKind.u8.bits (128 : Int) ||| BitVec.ofInt IntKind.u8.bits (IntKind.u8.wrap ((BitVec.ofInt IntKind.u8.bits (IntKind.u8.wrap (x1.fdiv (2 ^ (min 6 IntKind.i32.bits)))) &&& BitVec.ofInt IntKind.u8.bits (63 : Int)).toNat : Int))).toNat : Int)) ≤ 255) ∧ ((0 ≤ (IntKind.u8.wrap ((BitVec.ofInt IntKind.u8.bits (128 : Int) ||| BitVec.ofInt IntKind.u8.bits (IntKind.u8.wrap ((BitVec.ofInt IntKind.u8.bits (IntKind.u8.wrap x1) &&& BitVec.ofInt IntKind.u8.bits (63 : Int)).toNat : Int))).toNat : Int)) ∧ (IntKind.u8.wrap ((BitVec.ofInt IntKind.u8.bits (128 : Int) ||| BitVec.ofInt IntKind.u8.bits (IntKind.u8.wrap ((BitVec.ofInt IntKind.u8.bits (IntKind.u8.wrap x1) &&& BitVec.ofInt IntKind.u8.bits (63 : Int)).toNat : Int))).toNat : Int)) ≤ 255) ∧ ((b0.length + [UInt8.ofNat ((IntKind.u8.wrap ((BitVec.ofInt IntKind.u8.bits (240 : Int) ||| BitVec.ofInt IntKind.u8.bits (IntKind.u8.wrap (x1.fdiv (2 ^ (min 18 IntKind.i32.bits))))).toNat : Int)).toNat), UInt8.ofNat ((IntKind.u8.wrap ((BitVec.ofInt IntKind.u8.bits (128 : Int) ||| BitVec.ofInt IntKind.u8.bits (IntKind.u8.wrap ((BitVec.ofInt IntKind.u8.bits (IntKind.u8.wrap (x1.fdiv (2 ^ (min 12 IntKind.i32.bits)))) &&& BitVec.ofInt IntKind.u8.bits (63 : Int)).toNat : Int))).toNat : Int)).toNat), UInt8.ofNat ((IntKind.u8.wrap ((BitVec.ofInt IntKind.u8.bits (128 : Int) ||| BitVec.ofInt IntKind.u8.bits (IntKind.u8.wrap ((BitVec.ofInt IntKind.u8.bits (IntKind.u8.wrap (x1.fdiv (2 ^ (min 6 IntKind.i32.bits)))) &&& BitVec.ofInt IntKind.u8.bits (63 : Int)).toNat : Int))).toNat : Int)).toNat), UInt8.ofNat ((IntKind.u8.wrap ((BitVec.ofInt IntKind.u8.bits (128 : Int) ||| BitVec.ofInt IntKind.u8.bits (IntKind.u8.wrap ((BitVec.ofInt IntKind.u8.bits (IntKind.u8.wrap x1) &&& BitVec.ofInt IntKind.u8.bits (63 : Int)).toNat : Int))).toNat : Int)).toNat)].length) * 1 ≤ 1099511627776 ∧ K (b0 ++ [UInt8.ofNat ((IntKind.u8.wrap ((BitVec.ofInt IntKind.u8.bits (240 : Int) ||| BitVec.ofInt IntKind.u8.bits (IntKind.u8.wrap (x1.fdiv (2 ^ (min 18 IntKind.i32.bits))))).toNat : Int)).toNat), UInt8.ofNat ((IntKind.u8.wrap ((BitVec.ofInt IntKind.u8.bits (128 : Int) ||| BitVec.ofInt IntKind.u8.bits (IntKind.u8.wrap ((BitVec.ofInt IntKind.u8.bits (IntKind.u8.wrap (x1.fdiv (2 ^ (min 12 IntKind.i32.bits)))) &&& BitVec.ofInt IntKind.u8.bits (63 : Int)).toNat : Int))).toNat : Int)).toNat), UInt8.ofNat ((IntKind.u8.wrap ((BitVec.ofInt IntKind.u8.bits (128 : Int) ||| BitVec.ofInt IntKind.u8.bits (IntKind.u8.wrap ((BitVec.ofInt IntKind.u8.bits (IntKind.u8.wrap (x1.fdiv (2 ^ (min 6 IntKind.i32.bits)))) &&& BitVec.ofInt IntKind.u8.bits (63 : Int)).toNat : Int))).toNat : Int)).toNat), UInt8.ofNat ((IntKind.u8.wrap ((BitVec.ofInt IntKind.u8.bits (128 : Int) ||| BitVec.ofInt IntKind.u8.bits (IntKind.u8.wrap ((BitVec.ofInt IntKind.u8.bits (IntKind.u8.wrap x1) &&& BitVec.ofInt IntKind.u8.bits (63 : Int)).toNat : Int))).toNat : Int)).toNat)])))))))))) ∧ ((decide ((IntKind.u32.wrap x1) ≤ (1114111 : Int))) = false → ((0 ≤ (239 : Int) ∧ (239 : Int) ≤ 255) ∧ ((0 ≤ (191 : Int) ∧ (191 : Int) ≤ 255) ∧ ((0 ≤ (189 : Int) ∧ (189 : Int) ≤ 255) ∧ ((b0.length + [UInt8.ofNat 239, UInt8.ofNat 191, UInt8.ofNat 189].length) * 1 ≤ 1099511627776 ∧ K (b0 ++ [UInt8.ofNat 239, UInt8.ofNat 191, UInt8.ofNat 189])))))))) ∧ ((decide ((65535 : Int) < (IntKind.u32.wrap x1))) = false → ((0 ≤ (239 : Int) ∧ (239 : Int) ≤ 255) ∧ ((0 ≤ (191 : Int) ∧ (191 : Int) ≤ 255) ∧ ((0 ≤ (189 : Int) ∧ (189 : Int) ≤ 255) ∧ ((b0.length + [UInt8.ofNat 239, UInt8.ofNat 191, UInt8.ofNat 189].length) * 1 ≤ 1099511627776 ∧ K (b0 ++ [UInt8.ofNat 239, UInt8.ofNat 191, UInt8.ofNat 189])))))))))) ∧ ((decide ((57343 : Int) < (IntKind.u32.wrap x1))) = false → (((decide ((65535 : Int) < (IntKind.u32.wrap x1))) = true → (((decide ((IntKind.u32.wrap x1) ≤ (1114111 : Int))) = true → (0 ≤ (18 : Int) ∧ (0 ≤ (12 : Int) ∧ (0 ≤ (6 : Int) ∧ ((0 ≤ (IntKind.u8.wrap ((BitVec.ofInt IntKind.u8.bits (240 : Int) ||| BitVec.ofInt IntKind.u8.bits (IntKind.u8.wrap (x1.fdiv (2 ^ (min 18 IntKind.i32.bits))))).toNat : Int)) ∧ (IntKind.u8.wrap ((BitVec.ofInt IntKind.u8.bits (240 : Int) ||| BitVec.ofInt IntKind.u8.bits (IntKind.u8.wrap (x1.fdiv (2 ^ (min 18 IntKind.i32.bits))))).toNat : Int)) ≤ 255) ∧ ((0 ≤ (IntKind.u8.wrap ((BitVec.ofInt IntKind.u8.bits (128 : Int) ||| BitVec.ofInt IntKind.u8.bits (IntKind.u8.wrap ((BitVec.ofInt IntKind.u8.bits (IntKind.u8.wrap (x1.fdiv (2 ^ (min 12 IntKind.i32.bits)))) &&& BitVec.ofInt IntKind.u8.bits (63 : Int)).toNat : Int))).toNat : Int)) ∧ (IntKind.u8.wrap ((BitVec.ofInt IntKind.u8.bits (128 : Int) ||| BitVec.ofInt IntKind.u8.bits (IntKind.u8.wrap ((BitVec.ofInt IntKind.u8.bits (IntKind.u8.wrap (x1.fdiv (2 ^ (min 12 IntKind.i32.bits)))) &&& BitVec.ofInt IntKind.u8.bits (63 : Int)).toNat : Int))).toNat : Int)) ≤ 255) ∧ ((0 ≤ (IntKind.u8.wrap ((BitVec.ofInt IntKind.u8.bits (128 : Int) ||| BitVec.ofInt IntKind.u8.bits (IntKind.u8.wrap ((BitVec.ofInt IntKind.u8.bits (IntKind.u8.wrap (x1.fdiv (2 ^ (min 6 IntKind.i32.bits)))) &&& BitVec.ofInt IntKind.u8.bits (63 : Int)).toNat : Int))).toNat : Int)) ∧ (IntKind.u8.wrap ((BitVec.ofInt IntKind.u8.bits (128 : Int) ||| BitVec.ofInt IntKind.u8.bits (IntKind.u8.wrap ((BitVec.ofInt IntKind.u8.bits (IntKind.u8.wrap (x1.fdiv (2 ^ (min 6 IntKind.i32.bits)))) &&& BitVec.ofInt IntKind.u8.bits (63 : Int)).toNat : Int))).toNat : Int)) ≤ 255) ∧ ((0 ≤ (IntKind.u8.wrap ((BitVec.ofInt IntKind.u8.bits (128 : Int) ||| BitVec.ofInt IntKind.u8.bits (IntKind.u8.wrap ((BitVec.ofInt IntKind.u8.bits (IntKind.u8.wrap x1) &&& BitVec.ofInt IntKind.u8.bits (63 : Int)).toNat : Int))).toNat : Int)) ∧ (IntKind.u8.wrap ((BitVec.ofInt IntKind.u8.bits (128 : Int) ||| BitVec.ofInt IntKind.u8.bits (IntKind.u8.wrap ((BitVec.ofInt IntKind.u8.bits (IntKind.u8.wrap x1) &&& BitVec.ofInt IntKind.u8.bits (63 : Int)).toNat : Int))).toNat : Int)) ≤ 255) ∧ ((b0.length + [UInt8.ofNat ((IntKind.u8.wrap ((BitVec.ofInt IntKind.u8.bits (240 : Int) ||| BitVec.ofInt IntKind.u8.bits (IntKind.u8.wrap (x1.fdiv (2 ^ (min 18 IntKind.i32.bits))))).toNat : Int)).toNat), UInt8.ofNat ((IntKind.u8.wrap ((BitVec.ofInt IntKind.u8.bits (128 : Int) ||| BitVec.ofInt IntKind.u8.bits (IntKind.u8.wrap ((BitVec.ofInt IntKind.u8.bits (IntKind.u8.wrap (x1.fdiv (2 ^ (min 12 IntKind.i32.bits)))) &&& BitVec.ofInt IntKind.u8.bits (63 : Int)).toNat : Int))).toNat : Int)).toNat), UInt8.ofNat ((IntKind.u8.wrap ((BitVec.ofInt IntKind.u8.bits (128 : Int) ||| BitVec.ofInt IntKind.u8.bits (IntKind.u8.wrap ((BitVec.ofInt IntKind.u8.bits (IntKind.u8.wrap (x1.fdiv (2 ^ (min 6 IntKind.i32.bits)))) &&& BitVec.ofInt IntKind.u8.bits (63 : Int)).toNat : Int))).toNat : Int)).toNat), UInt8.ofNat ((IntKind.u8.wrap ((BitVec.ofInt IntKind.u8.bits (128 : Int) ||| BitVec.ofInt IntKind.u8.bits (IntKind.u8.wrap ((BitVec.ofInt IntKind.u8.bits (IntKind.u8.wrap x1) &&& BitVec.ofInt IntKind.u8.bits (63 : Int)).toNat : Int))).toNat : Int)).toNat)].length) * 1 ≤ 1099511627776 ∧ K (b0 ++ [UInt8.ofNat ((IntKind.u8.wrap ((BitVec.ofInt IntKind.u8.bits (240 : Int) ||| BitVec.ofInt IntKind.u8.bits (IntKind.u8.wrap (x1.fdiv (2 ^ (min 18 IntKind.i32.bits))))).toNat : Int)).toNat), UInt8.ofNat ((IntKind.u8.wrap ((BitVec.ofInt IntKind.u8.bits (128 : Int) ||| BitVec.ofInt IntKind.u8.bits (IntKind.u8.wrap ((BitVec.ofInt IntKind.u8.bits (IntKind.u8.wrap (x1.fdiv (2 ^ (min 12 IntKind.i32.bits)))) &&& BitVec.ofInt IntKind.u8.bits (63 : Int)).toNat : Int))).toNat : Int)).toNat), UInt8.ofNat ((IntKind.u8.wrap ((BitVec.ofInt IntKind.u8.bits (128 : Int) ||| BitVec.ofInt IntKind.u8.bits (IntKind.u8.wrap ((BitVec.ofInt IntKind.u8.bits (IntKind.u8.wrap (x1.fdiv (2 ^ (min 6 IntKind.i32.bits)))) &&& BitVec.ofInt IntKind.u8.bits (63 : Int)).toNat : Int))).toNat : Int)).toNat), UInt8.ofNat ((IntKind.u8.wrap ((BitVec.ofInt IntKind.u8.bits (128 : Int) ||| BitVec.ofInt IntKind.u8.bits (IntKind.u8.wrap ((BitVec.ofInt IntKind.u8.bits (IntKind.u8.wrap x1) &&& BitVec.ofInt IntKind.u8.bits (63 : Int)).toNat : Int))).toNat : Int)).toNat)])))))))))) ∧ ((decide ((IntKind.u32.wrap x1) ≤ (1114111 : Int))) = false → ((0 ≤ (239 : Int) ∧ (239 : Int) ≤ 255) ∧ ((0 ≤ (191 : Int) ∧ (191 : Int) ≤ 255) ∧ ((0 ≤ (189 : Int) ∧ (189 : Int) ≤ 255) ∧ ((b0.length + [UInt8.ofNat 239, UInt8.ofNat 191, UInt8.ofNat 189].length) * 1 ≤ 1099511627776 ∧ K (b0 ++ [UInt8.ofNat 239, UInt8.ofNat 191, UInt8.ofNat 189])))))))) ∧ ((decide ((65535 : Int) < (IntKind.u32.wrap x1))) = false → ((0 ≤ (239 : Int) ∧ (239 : Int) ≤ 255) ∧ ((0 ≤ (191 : Int) ∧ (191 : Int) ≤ 255) ∧ ((0 ≤ (189 : Int) ∧ (189 : Int) ≤ 255) ∧ ((b0.length + [UInt8.ofNat 239, UInt8.ofNat 191, UInt8.ofNat 189].length) * 1 ≤ 1099511627776 ∧ K (b0 ++ [UInt8.ofNat 239, UInt8.ofNat 191, UInt8.ofNat 189])))))))))))))))

theorem tie_utf8_AppendRune_e (x : (Unit × Int × Unit) × (List (sg.Den Cd.u8) × Unit)) (K : (Unit × Unit) × (List (sg.Den Cd.u8) × Unit) → Prop) : forceZ (sl_utf8_AppendRune_e.put x) (fun z => sC sy Tryd.prog GT (C_utf8_AppendRune_e) noL Tryd.f72.ntmps (bodyOf Tryd.f72) z (fin2 sr_utf8_AppendRune_e K)) = g_utf8_AppendRune_e (F_utf8_AppendRune_e) x K := by kernel_rfl
theorem ok_utf8_AppendRune_e : ShOK sy Tryd.prog GT ovD GL Tryd.f72.ntmps (bodyOf Tryd.f72) sl_utf8_AppendRune_e sr_utf8_AppendRune_e (g_utf8_AppendRune_e (F_utf8_AppendRune_e)) := sh_of (Cok_utf8_AppendRune_e) (lp_of (l := []) (by kernel_rfl) lp_nil) (tie_utf8_AppendRune_e)

def F_token_appendEscape_e_l9 (A72_e : T_utf8_AppendRune_e) (A73 : T_token_hexDigit) (A40 : T_token_byteAt) (A62 : T_char_IsSpace) : Nat → List UInt8 → Int → Int → Int → List UInt8 → (List UInt8 → Int → Int → List UInt8 → Prop) → Prop
  | 0, _, _, _, _, _, _ => False
  | n + 1, x1, x2, x10, x39, b0, Ke => (((decide (x39 < (6 : Int))) = true → (A40 x1 x2 (fun y1 => (A73 y1 (fun y2 y3 => (((!y3) = true → Ke x1 x2 x10 b0) ∧ ((!y3) = false → (0 ≤ (4 : Int) ∧ (I64 (x2 + (1 : Int)) ∧ (I64 (x39 + (1 : Int)) ∧ F_token_appendEscape_e_l9 A72_e A73 A40 A62 n x1 (x2 + (1 : Int)) (IntKind.i32.wrap ((BitVec.ofInt IntKind.i32.bits (IntKind.i32.wrap (x10 * 2 ^ (min 4 IntKind.i32.bits))) ||| BitVec.ofInt IntKind.i32.bits y2).toNat : Int)) (x39 + (1 : Int)) b0 Ke)))))))))) ∧ ((decide (x39 < (6 : Int))) = false → Ke x1 x2 x10 b0))

def C_token_appendEscape_e (A72_e : T_utf8_AppendRune_e) (A73 : T_token_hexDigit) (A40 : T_token_byteAt) (A62 : T_char_IsSpace) : CallT sg := tab [(72, shp sy Tryd.prog GT Tryd.f72.ntmps sl_utf8_AppendRune_e sr_utf8_AppendRune_e Tryd.f72.results.toList (g_utf8_AppendRune_e A72_e)), (73, con [none] (q_token_hexDigit A73)), (40, con [none, none] (q_token_byteAt A40)), (62, con [none] (q_char_IsSpace A62))]
theorem Cok_token_appendEscape_e (A72_e : T_utf8_AppendRune_e) (A73 : T_token_hexDigit) (A40 : T_token_byteAt) (A62 : T_char_IsSpace) (h72_e : ShOK sy Tryd.prog GT ovD GL Tryd.f72.ntmps (bodyOf Tryd.f72) sl_utf8_AppendRune_e sr_utf8_AppendRune_e (g_utf8_AppendRune_e A72_e)) (h73 : FnOK sy Tryd.prog GT ovD GL 73 (q_token_hexDigit A73)) (h40 : FnOK sy Tryd.prog GT ovD GL 40 (q_token_byteAt A40)) (h62 : FnOK sy Tryd.prog GT ovD GL 62 (q_char_IsSpace A62)) (o0 : Nat → Prop) : CalOK sy Tryd.prog GT ovD o0 GL (C_token_appendEscape_e A72_e A73 A40 A62) := (tab_cons (shp_ok (f := 72) (fn := Tryd.f72) (c := bodyOf Tryd.f72) (fun _ => rfl) Tryd.func72 (by kernel_rfl) rfl rfl (by decide) h72_e) (tab_cons (con_ok h73) (tab_cons (con_ok h40) (tab_cons (con_ok h62) tab_nil)))) o0

def ls_token_appendEscape_e_9 : LS sy (Unit × (List UInt8) × Int × Int × Int × Unit) (List (sg.Den Cd.u8) × Unit) := ⟨[], fCons 0 (vLit sy (.o 0)) (fCons 1 (vStr sy) (fCons 2 (vInt sy .i64) (fCons 10 (vInt sy .i32) (fCons 39 (vInt sy .i64) (fNil sy))))), hBuf 0 Cd.u8 (hNil sy), 1, []⟩
def le_token_appendEscape_e_9 : LS sy (Unit × (List UInt8) × Int × Int × Unit) (List (sg.Den Cd.u8) × Unit) := ⟨[], fCons 0 (vLit sy (.o 0)) (fCons 1 (vStr sy) (fCons 2 (vInt sy .i64) (fCons 10 (vInt sy .i32) (fNil sy)))), hBuf 0 Cd.u8 (hNil sy), 1, []⟩
def lr_token_appendEscape_e_9 : LS sy Unit Unit := ⟨[], fNil sy, hNil sy, 1, []⟩
def FF_token_appendEscape_e_9 (A72_e : T_utf8_AppendRune_e) (A73 : T_token_hexDigit) (A40 : T_token_byteAt) (A62 : T_char_IsSpace) (n : Nat) (x : (Unit × (List UInt8) × Int × Int × Int × Unit) × (List (sg.Den Cd.u8) × Unit)) (K : Ex → Z sg → Prop) : Prop := F_token_appendEscape_e_l9 A72_e A73 A40 A62 n x.1.2.1 x.1.2.2.1 x.1.2.2.2.1 x.1.2.2.2.2.1 x.2.1 (fun y0 y1 y2 y3 => K (.exit 0) (le_token_appendEscape_e_9.put (((), y0, y1, y2, ()), (y3, ()))))
def h_token_appendEscape_e_9 (A72_e : T_utf8_AppendRune_e) (A73 : T_token_hexDigit) (A40 : T_token_byteAt) (A62 : T_char_IsSpace) (z : Z sg) (K : Ex → Z sg → Prop) : Prop := ls_token_appendEscape_e_9.get z (fun x => ∃ n, FF_token_appendEscape_e_9 A72_e A73 A40 A62 n x K)
def L_token_appendEscape_e (A72_e : T_utf8_AppendRune_e) (A73 : T_token_hexDigit) (A40 : T_token_byteAt) (A62 : T_char_IsSpace) : LoopT sg := tabL [(9, h_token_appendEscape_e_9 A72_e A73 A40 A62)]
theorem hs_token_appendEscape_e_9 (A72_e : T_utf8_AppendRune_e) (A73 : T_token_hexDigit) (A40 : T_token_byteAt) (A62 : T_char_IsSpace) (n : Nat) (x : (Unit × (List UInt8) × Int × Int × Int × Unit) × (List (sg.Den Cd.u8) × Unit)) (K : Ex → Z sg → Prop) : forceZ (ls_token_appendEscape_e_9.put x) (fun z => sC sy Tryd.prog GT (C_token_appendEscape_e A72_e A73 A40 A62) (L_token_appendEscape_e A72_e A73 A40 A62) Tryd.f52.ntmps (nthLoop (bodyOf Tryd.f52) 0) z (rnd ls_token_appendEscape_e_9 (czT 0 le_token_appendEscape_e_9 lr_token_appendEscape_e_9) (fun x => FF_token_appendEscape_e_9 A72_e A73 A40 A62 n x K) K)) = FF_token_appendEscape_e_9 A72_e A73 A40 A62 (n + 1) x K := by kernel_rfl
theorem hl_token_appendEscape_e_9 (A72_e : T_utf8_AppendRune_e) (A73 : T_token_hexDigit) (A40 : T_token_byteAt) (A62 : T_char_IsSpace) (z : Z sg) (K : Ex → Z sg → Prop) : (L_token_appendEscape_e A72_e A73 A40 A62) (nthLoop (bodyOf Tryd.f52) 0) z K = ls_token_appendEscape_e_9.get z (fun x => ∃ n, FF_token_appendEscape_e_9 A72_e A73 A40 A62 n x K) := by kernel_rfl
theorem lo_token_appendEscape_e_9 (A72_e : T_utf8_AppendRune_e) (A73 : T_token_hexDigit) (A40 : T_token_byteAt) (A62 : T_char_IsSpace) (h72_e : ShOK sy Tryd.prog GT ovD GL Tryd.f72.ntmps (bodyOf Tryd.f72) sl_utf8_AppendRune_e sr_utf8_AppendRune_e (g_utf8_AppendRune_e A72_e)) (h73 : FnOK sy Tryd.prog GT ovD GL 73 (q_token_hexDigit A73)) (h40 : FnOK sy Tryd.prog GT ovD GL 40 (q_token_byteAt A40)) (h62 : FnOK sy Tryd.prog GT ovD GL 62 (q_char_IsSpace A62)) : ∀ (o0 : Nat → Prop) (B : Bs sg), B.E.length ≤ 1 → ∀ z K, (L_token_appendEscape_e A72_e A73 A40 A62) (nthLoop (bodyOf Tryd.f52) 0) z K → Sx.Sem sy Tryd.prog GT ovD o0 GL Tryd.f52.ntmps B (.loop (nthLoop (bodyOf Tryd.f52) 0)) z K :=
  loop_ok (Cok_token_appendEscape_e A72_e A73 A40 A62 h72_e h73 h40 h62) (lp_of (l := []) (by kernel_rfl) lp_nil) ls_token_appendEscape_e_9 (by decide) (czT 0 le_token_appendEscape_e_9 lr_token_appendEscape_e_9) (fun _ _ hB => czT_ok 0 le_token_appendEscape_e_9 lr_token_appendEscape_e_9 (Nat.le_trans hB (by decide)) (Nat.le_trans hB (by decide))) (fun _ _ h => h) (hs_token_appendEscape_e_9 A72_e A73 A40 A62) (hl_token_appendEscape_e_9 A72_e A73 A40 A62)
theorem Lp_token_appendEscape_e (A72_e : T_utf8_AppendRune_e) (A73 : T_token_hexDigit) (A40 : T_token_byteAt) (A62 : T_char_IsSpace) (h72_e : ShOK sy Tryd.prog GT ovD GL Tryd.f72.ntmps (bodyOf Tryd.f72) sl_utf8_AppendRune_e sr_utf8_AppendRune_e (g_utf8_AppendRune_e A72_e)) (h73 : FnOK sy Tryd.prog GT ovD GL 73 (q_token_hexDigit A73)) (h40 : FnOK sy Tryd.prog GT ovD GL 40 (q_token_byteAt A40)) (h62 : FnOK sy Tryd.prog GT ovD GL 62 (q_char_IsSpace A62)) : LpOK sy Tryd.prog GT ovD GL (L_token_appendEscape_e A72_e A73 A40 A62) 1 Tryd.f52.ntmps (bodyOf Tryd.f52) := lp_of (l := [(nthLoop (bodyOf Tryd.f52) 0)]) (by kernel_rfl) (lp_cons (lo_token_appendEscape_e_9 A72_e A73 A40 A62 h72_e h73 h40 h62) lp_nil)


def sl_token_appendEscape_e : LS sy (Unit × (List UInt8) × Int × Unit) (List (sg.Den Cd.u8) × Unit) := ⟨[], fCons 0 (vLit sy (.o 0)) (fCons 1 (vStr sy) (fCons 2 (vInt sy .i64) (fNil sy))), hBuf 0 Cd.u8 (hNil sy), 1, []⟩
def sr_token_appendEscape_e : LS sy (Unit × Int × Unit) (List (sg.Den Cd.u8) × Unit) := ⟨[], fCons 6 (vLit sy (.o 0)) (fCons 7 (vInt sy .i64) (fNil sy)), hBuf 0 Cd.u8 (hNil sy), 1, [0]⟩
abbrev T_token_appendEscape_e := (List UInt8) → Int → (List UInt8) → (Int → List UInt8 → Prop) → Prop
def g_token_appendEscape_e (A : T_token_appendEscape_e) (x : (Unit × (List UInt8) × Int × Unit) × (List (sg.Den Cd.u8) × Unit)) (K : (Unit × Int × Unit) × (List (sg.Den Cd.u8) × Unit) → Prop) : Prop := A x.1.2.1 x.1.2.2.1 x.2.1 (fun y0 y1 => K (((), y0, ()), (y1, ())))
def F_token_appendEscape_e (A72_e : T_utf8_AppendRune_e) (A73 : T_token_hexDigit) (A40 : T_token_byteAt) (A62 : T_char_IsSpace) (x1 : List UInt8) (x2 : Int) (b0 : List UInt8) (K : (Int → List UInt8 → Prop)) : Prop :=
  (I64 (x2 + (1 : Int)) ∧ (((decide ((x2 + (1 : Int)) = (x1.length : Int))) = true → (A72_e (65533 : Int) b0 (fun y1 => K (x2 + (1 : Int)) y1))) ∧ ((decide ((x2 + (1 : Int)) = (x1.length : Int))) = false → ((0 ≤ (x2 + (1 : Int)) ∧ (x2 + (1 : Int)) < (x1.length : Int)) ∧ (A73 ((x1.getD (x2 + (1 : Int)).toNat 0).toNat : Int) (fun y2 y3 => (((!y3) = true → ((0 ≤ (x2 + (1 : Int)) ∧ (x2 + (1 : Int)) < (x1.length : Int)) ∧ ((0 ≤ ((x1.getD (x2 + (1 : Int)).toNat 0).toNat : Int) ∧ ((x1.getD (x2 + (1 : Int)).toNat 0).toNat : Int) ≤ 255) ∧ ((b0.length + [UInt8.ofNat (((x1.getD (x2 + (1 : Int)).toNat 0).toNat : Int).toNat)].length) * 1 ≤ 1099511627776 ∧ (I64 ((x2 + (1 : Int)) + (1 : Int)) ∧ K ((x2 + (1 : Int)) + (1 : Int)) (b0 ++ [UInt8.ofNat (((x1.getD (x2 + (1 : Int)).toNat 0).toNat : Int).toNat)])))))) ∧ ((!y3) = false → (∃ m, F_token_appendEscape_e_l9 A72_e A73 A40 A62 m x1 (x2 + (1 : Int)) (0 : Int) (0 : Int) b0 (fun y4 y5 y6 y7 => (A40 y4 y5 (fun y8 => (A62 y8 (fun y9 => ((y9 = true → (I64 (y5 + (1 : Int)) ∧ (((decide (y6 = (0 : Int))) = true → (A72_e (65533 : Int) y7 (fun y10 => K (y5 + (1 : Int)) y10))) ∧ ((decide (y6 = (0 : Int))) = false → (A72_e y6 y7 (fun y11 => K (y5 + (1 : Int)) y11)))))) ∧ (y9 = false → (((decide (y6 = (0 : Int))) = true → (A72_e (65533 : Int) y7 (fun y12 => K y5 y12))) ∧ ((decide (y6 = (0 : Int))) = false → (A72_e y6 y7 (fun y13 => K y5 y13))))))))))))))))))))

theorem tie_token_appendEscape_e (A72_e : T_utf8_AppendRune_e) (A73 : T_token_hexDigit) (A40 : T_token_byteAt) (A62 : T_char_IsSpace) (x : (Unit × (List UInt8) × Int × Unit) × (List (sg.Den Cd.u8) × Unit)) (K : (Unit × Int × Unit) × (List (sg.Den Cd.u8) × Unit) → Prop) : forceZ (sl_token_appendEscape_e.put x) (fun z => sC sy Tryd.prog GT (C_token_appendEscape_e A72_e A73 A40 A62) (L_token_appendEscape_e A72_e A73 A40 A62) Tryd.f52.ntmps (bodyOf Tryd.f52) z (fin2 sr_token_appendEscape_e K)) = g_token_appendEscape_e (F_token_appendEscape_e A72_e A73 A40 A62) x K := by kernel_rfl
theorem ok_token_appendEscape_e (A72_e : T_utf8_AppendRune_e) (A73 : T_token_hexDigit) (A40 : T_token_byteAt) (A62 : T_char_IsSpace) (h72_e : ShOK sy Tryd.prog GT ovD GL Tryd.f72.ntmps (bodyOf Tryd.f72) sl_utf8_AppendRune_e sr_utf8_AppendRune_e (g_utf8_AppendRune_e A72_e)) (h73 : FnOK sy Tryd.prog GT ovD GL 73 (q_token_hexDigit A73)) (h40 : FnOK sy Tryd.prog GT ovD GL 40 (q_token_byteAt A40)) (h62 : FnOK sy Tryd.prog GT ovD GL 62 (q_char_IsSpace A62)) : ShOK sy Tryd.prog GT ovD GL Tryd.f52.ntmps (bodyOf Tryd.f52) sl_token_appendEscape_e sr_token_appendEscape_e (g_token_appendEscape_e (F_token_appendEscape_e A72_e A73 A40 A62)) := sh_of (Cok_token_appendEscape_e A72_e A73 A40 A62 h72_e h73 h40 h62) (Lp_token_appendEscape_e A72_e A73 A40 A62 h72_e h73 h40 h62) (tie_token_appendEscape_e A72_e A73 A40 A62)

abbrev T_token_readName := List UInt8 → Int → (List UInt8 → Int → Prop) → Prop
def q_token_readName (A : T_token_readName) (us : List W) (k : W → Prop) : Prop := match us with
  | [.s a0, .i .i64 a1] => A a0 a1 (fun r0 r1 => k (.t [.s r0, .i .i64 r1]))
  | _ => False
theorem q_token_readName_weak {A A2 : T_token_readName} (h : FnOK sy Tryd.prog GT ovD GL 29 (q_token_readName A)) (hA : ∀ a0 a1 K, A2 a0 a1 K → A a0 a1 K) : FnOK sy Tryd.prog GT ovD GL 29 (q_token_readName A2) := h.weak (by
  intro us k h
  unfold q_token_readName at h ⊢
  split at h
  · exact hA _ _ _ h
  · exact h.elim)

def F_token_readName_l2 (A51 : T_token_nameGoesOn) (A52_e : T_token_appendEscape_e) : Nat → List UInt8 → Int → List UInt8 → (Int → List UInt8 → Prop) → Prop
  | 0, _, _, _, _ => False
  | n + 1, x0, x1, b0, Ke => (A51 x0 x1 (fun y1 => ((y1 = true → ((0 ≤ x1 ∧ x1 < (x0.length : Int)) ∧ (((decide (((x0.getD x1.toNat 0).toNat : Int) = (92 : Int))) = true → (A52_e x0 x1 b0 (fun y2 y3 => F_token_readName_l2 A51 A52_e n x0 y2 y3 Ke))) ∧ ((decide (((x0.getD x1.toNat 0).toNat : Int) = (92 : Int))) = false → ((0 ≤ x1 ∧ x1 < (x0.length : Int)) ∧ ((0 ≤ ((x0.getD x1.toNat 0).toNat : Int) ∧ ((x0.getD x1.toNat 0).toNat : Int) ≤ 255) ∧ ((b0.length + [UInt8.ofNat (((x0.getD x1.toNat 0).toNat : Int).toNat)].length) * 1 ≤ 1099511627776 ∧ (I64 (x1 + (1 : Int)) ∧ F_token_readName_l2 A51 A52_e n x0 (x1 + (1 : Int)) (b0 ++ [UInt8.ofNat (((x0.getD x1.toNat 0).toNat : Int).toNat)]) Ke)))))))) ∧ (y1 = false → Ke x1 b0))))

def F_token_readName (A51 : T_token_nameGoesOn) (A52_e : T_token_appendEscape_e) (a0 : List UInt8) (a1 : Int) (K : List UInt8 → Int → Prop) : Prop :=
  (∃ m, F_token_readName_l2 A51 A52_e m a0 a1 ([] : List UInt8) (fun y1 y2 => K y2 y1))

def C_token_readName (A51 : T_token_nameGoesOn) (A52_e : T_token_appendEscape_e) : CallT sg := tab [(51, con [none, none] (q_token_nameGoesOn A51)), (52, shp sy Tryd.prog GT Tryd.f52.ntmps sl_token_appendEscape_e sr_token_appendEscape_e Tryd.f52.results.toList (g_token_appendEscape_e A52_e))]
theorem Cok_token_readName (A51 : T_token_nameGoesOn) (A52_e : T_token_appendEscape_e) (h51 : FnOK sy Tryd.prog GT ovD GL 51 (q_token_nameGoesOn A51)) (h52_e : ShOK sy Tryd.prog GT ovD GL Tryd.f52.ntmps (bodyOf Tryd.f52) sl_token_appendEscape_e sr_token_appendEscape_e (g_token_appendEscape_e A52_e)) (o0 : Nat → Prop) : CalOK sy Tryd.prog GT ovD o0 GL (C_token_readName A51 A52_e) := (tab_cons (con_ok h51) (tab_cons (shp_ok (f := 52) (fn := Tryd.f52) (c := bodyOf Tryd.f52) (fun _ => rfl) Tryd.func52 (by kernel_rfl) rfl rfl (by decide) h52_e) tab_nil)) o0

def ls_token_readName_2 : LS sy ((List UInt8) × Int × Unit × Unit) (List (sg.Den Cd.u8) × Unit) := ⟨[.slot 6 0 Cd.u8], fCons 0 (vStr sy) (fCons 1 (vInt sy .i64) (fCons 6 (vLit sy (.o 0)) (fNil sy))), hBuf 0 Cd.u8 (hNil sy), 1, [0]⟩
def le_token_readName_2 : LS sy (Int × Unit × Unit) (List (sg.Den Cd.u8) × Unit) := ⟨[], fCons 1 (vInt sy .i64) (fCons 6 (vLit sy (.o 0)) (fNil sy)), hBuf 0 Cd.u8 (hNil sy), 1, [0]⟩
def lr_token_readName_2 : LS sy Unit Unit := ⟨[], fNil sy, hNil sy, 0, []⟩
def FF_token_readName_2 (A51 : T_token_nameGoesOn) (A52_e : T_token_appendEscape_e) (n : Nat) (x : ((List UInt8) × Int × Unit × Unit) × (List (sg.Den Cd.u8) × Unit)) (K : Ex → Z sg → Prop) : Prop := F_token_readName_l2 A51 A52_e n x.1.1 x.1.2.1 x.2.1 (fun y0 y1 => K (.exit 0) (le_token_readName_2.put ((y0, (), ()), (y1, ()))))
def h_token_readName_2 (A51 : T_token_nameGoesOn) (A52_e : T_token_appendEscape_e) (z : Z sg) (K : Ex → Z sg → Prop) : Prop := ls_token_readName_2.get z (fun x => ∃ n, FF_token_readName_2 A51 A52_e n x K)
def L_token_readName (A51 : T_token_nameGoesOn) (A52_e : T_token_appendEscape_e) : LoopT sg := tabL [(2, h_token_readName_2 A51 A52_e)]
theorem hs_token_readName_2 (A51 : T_token_nameGoesOn) (A52_e : T_token_appendEscape_e) (n : Nat) (x : ((List UInt8) × Int × Unit × Unit) × (List (sg.Den Cd.u8) × Unit)) (K : Ex → Z sg → Prop) : forceZ (ls_token_readName_2.put x) (fun z => sC sy Tryd.prog GT (C_token_readName A51 A52_e) (L_token_readName A51 A52_e) Tryd.f29.ntmps (nthLoop (bodyOf Tryd.f29) 0) z (rnd ls_token_readName_2 (czT 0 le_token_readName_2 lr_token_readName_2) (fun x => FF_token_readName_2 A51 A52_e n x K) K)) = FF_token_readName_2 A51 A52_e (n + 1) x K := by kernel_rfl
theorem hl_token_readName_2 (A51 : T_token_nameGoesOn) (A52_e : T_token_appendEscape_e) (z : Z sg) (K : Ex → Z sg → Prop) : (L_token_readName A51 A52_e) (nthLoop (bodyOf Tryd.f29) 0) z K = ls_token_readName_2.get z (fun x => ∃ n, FF_token_readName_2 A51 A52_e n x K) := by kernel_rfl
theorem lo_token_readName_2 (A51 : T_token_nameGoesOn) (A52_e : T_token_appendEscape_e) (h51 : FnOK sy Tryd.prog GT ovD GL 51 (q_token_nameGoesOn A51)) (h52_e : ShOK sy Tryd.prog GT ovD GL Tryd.f52.ntmps (bodyOf Tryd.f52) sl_token_appendEscape_e sr_token_appendEscape_e (g_token_appendEscape_e A52_e)) : ∀ (o0 : Nat → Prop) (B : Bs sg), B.E.length ≤ 0 → ∀ z K, (L_token_readName A51 A52_e) (nthLoop (bodyOf Tryd.f29) 0) z K → Sx.Sem sy Tryd.prog GT ovD o0 GL Tryd.f29.ntmps B (.loop (nthLoop (bodyOf Tryd.f29) 0)) z K :=
  loop_ok (Cok_token_readName A51 A52_e h51 h52_e) (lp_of (l := []) (by kernel_rfl) lp_nil) ls_token_readName_2 (by decide) (czT 0 le_token_readName_2 lr_token_readName_2) (fun _ _ hB => czT_ok 0 le_token_readName_2 lr_token_readName_2 (Nat.le_trans hB (by decide)) (Nat.le_trans hB (by decide))) (fun _ _ h => h) (hs_token_readName_2 A51 A52_e) (hl_token_readName_2 A51 A52_e)
theorem Lp_token_readName (A51 : T_token_nameGoesOn) (A52_e : T_token_appendEscape_e) (h51 : FnOK sy Tryd.prog GT ovD GL 51 (q_token_nameGoesOn A51)) (h52_e : ShOK sy Tryd.prog GT ovD GL Tryd.f52.ntmps (bodyOf Tryd.f52) sl_token_appendEscape_e sr_token_appendEscape_e (g_token_appendEscape_e A52_e)) : LpOK sy Tryd.prog GT ovD GL (L_token_readName A51 A52_e) 0 Tryd.f29.ntmps (bodyOf Tryd.f29) := lp_of (l := [(nthLoop (bodyOf Tryd.f29) 0)]) (by kernel_rfl) (lp_cons (lo_token_readName_2 A51 A52_e h51 h52_e) lp_nil)


theorem raw_token_readName (A51 : T_token_nameGoesOn) (A52_e : T_token_appendEscape_e) (a0 : List UInt8) (a1 : Int) (k : W → Prop) : fnT sy Tryd.prog GT (C_token_readName A51 A52_e) (L_token_readName A51 A52_e) Tryd.f29.ntmps (bodyOf Tryd.f29) [none, none] Tryd.f29.results.toList [.s a0, .i .i64 a1] k = F_token_readName A51 A52_e a0 a1 (fun r0 r1 => k (.t [.s r0, .i .i64 r1])) := by kernel_rfl

theorem ok_token_readName (A51 : T_token_nameGoesOn) (A52_e : T_token_appendEscape_e) (h51 : FnOK sy Tryd.prog GT ovD GL 51 (q_token_nameGoesOn A51)) (h52_e : ShOK sy Tryd.prog GT ovD GL Tryd.f52.ntmps (bodyOf Tryd.f52) sl_token_appendEscape_e sr_token_appendEscape_e (g_token_appendEscape_e A52_e)) : FnOK sy Tryd.prog GT ovD GL 29 (q_token_readName (F_token_readName A51 A52_e)) := (fn_ok (rc := [none, none]) (f := 29) (fn := Tryd.f29) (c := bodyOf Tryd.f29) (nt := Tryd.f29.ntmps) (res := Tryd.f29.results.toList) (C := C_token_readName A51 A52_e) (L := (L_token_readName A51 A52_e)) (fun _ => rfl) Tryd.func29 (by kernel_rfl) rfl rfl (Cok_token_readName A51 A52_e h51 h52_e) (Lp_token_readName A51 A52_e h51 h52_e)).weak (by
  intro us k h
  unfold q_token_readName at h
  split at h
  · skip
    rename_i a0 a1
    rw [raw_token_readName A51 A52_e a0 a1 k]
    exact h
  · exact h.elim)

abbrev T_token_Name := List UInt8 → (List UInt8 → Int → Prop) → Prop
def q_token_Name (A : T_token_Name) (us : List W) (k : W → Prop) : Prop := match us with
  | [.s a0] => A a0 (fun r0 r1 => k (.t [.s r0, .i .i64 r1]))
  | _ => False
theorem q_token_Name_weak {A A2 : T_token_Name} (h : FnOK sy Tryd.prog GT ovD GL 12 (q_token_Name A)) (hA : ∀ a0 K, A2 a0 K → A a0 K) : FnOK sy Tryd.prog GT ovD GL 12 (q_token_Name A2) := h.weak (by
  intro us k h
  unfold q_token_Name at h ⊢
  split at h
  · exact hA _ _ h
  · exact h.elim)

def F_token_Name (A28 : T_token_nameStarts) (A29 : T_token_readName) (a0 : List UInt8) (K : List UInt8 → Int → Prop) : Prop :=
  (((decide ((4000 : Int) < (a0.length : Int))) = true → K ([] : List UInt8) (28 : Int)) ∧ ((decide ((4000 : Int) < (a0.length : Int))) = false → (A28 a0 (0 : Int) (fun y1 => (((!y1) = true → K ([] : List UInt8) (12 : Int)) ∧ ((!y1) = false → (A29 a0 (0 : Int) (fun y2 y3 => (((decide (y3 ≠ (a0.length : Int))) = true → K ([] : List UInt8) (12 : Int)) ∧ ((decide (y3 ≠ (a0.length : Int))) = false → K y2 (0 : Int)))))))))))

def C_token_Name (A28 : T_token_nameStarts) (A29 : T_token_readName) : CallT sg := tab [(28, con [none, none] (q_token_nameStarts A28)), (29, con [none, none] (q_token_readName A29))]
theorem Cok_token_Name (A28 : T_token_nameStarts) (A29 : T_token_readName) (h28 : FnOK sy Tryd.prog GT ovD GL 28 (q_token_nameStarts A28)) (h29 : FnOK sy Tryd.prog GT ovD GL 29 (q_token_readName A29)) (o0 : Nat → Prop) : CalOK sy Tryd.prog GT ovD o0 GL (C_token_Name A28 A29) := (tab_cons (con_ok h28) (tab_cons (con_ok h29) tab_nil)) o0

theorem raw_token_Name (A28 : T_token_nameStarts) (A29 : T_token_readName) (a0 : List UInt8) (k : W → Prop) : fnT sy Tryd.prog GT (C_token_Name A28 A29) noL Tryd.f12.ntmps (bodyOf Tryd.f12) [none, none] Tryd.f12.results.toList [.s a0] k = F_token_Name A28 A29 a0 (fun r0 r1 => k (.t [.s r0, .i .i64 r1])) := by kernel_rfl

theorem ok_token_Name (A28 : T_token_nameStarts) (A29 : T_token_readName) (h28 : FnOK sy Tryd.prog GT ovD GL 28 (q_token_nameStarts A28)) (h29 : FnOK sy Tryd.prog GT ovD GL 29 (q_token_readName A29)) : FnOK sy Tryd.prog GT ovD GL 12 (q_token_Name (F_token_Name A28 A29)) := (fn_ok (rc := [none, none]) (f := 12) (fn := Tryd.f12) (c := bodyOf Tryd.f12) (nt := Tryd.f12.ntmps) (res := Tryd.f12.results.toList) (C := C_token_Name A28 A29) (L := noL) (fun _ => rfl) Tryd.func12 (by kernel_rfl) rfl rfl (Cok_token_Name A28 A29 h28 h29) (lp_of (l := []) (by kernel_rfl) lp_nil)).weak (by
  intro us k h
  unfold q_token_Name at h
  split at h
  · skip
    rename_i a0
    rw [raw_token_Name A28 A29 a0 k]
    exact h
  · exact h.elim)

abbrev T_ref_At := List UInt8 → Int → (Int → Prop) → Prop
def q_ref_At (A : T_ref_At) (us : List W) (k : W → Prop) : Prop := match us with
  | [.s a0, .i .i64 a1] => A a0 a1 (fun r0 => k (.i .u8 r0))
  | _ => False
theorem q_ref_At_weak {A A2 : T_ref_At} (h : FnOK sy Tryd.prog GT ovD GL 53 (q_ref_At A)) (hA : ∀ a0 a1 K, A2 a0 a1 K → A a0 a1 K) : FnOK sy Tryd.prog GT ovD GL 53 (q_ref_At A2) := h.weak (by
  intro us k h
  unfold q_ref_At at h ⊢
  split at h
  · exact hA _ _ _ h
  · exact h.elim)

def F_ref_At (a0 : List UInt8) (a1 : Int) (K : Int → Prop) : Prop :=
  (((decide (a1 < (a0.length : Int))) = true → ((0 ≤ a1 ∧ a1 < (a0.length : Int)) ∧ K ((a0.getD a1.toNat 0).toNat : Int))) ∧ ((decide (a1 < (a0.length : Int))) = false → K (0 : Int)))

def C_ref_At : CallT sg := tab []
theorem Cok_ref_At (o0 : Nat → Prop) : CalOK sy Tryd.prog GT ovD o0 GL (C_ref_At) := tab_nil o0

theorem raw_ref_At (a0 : List UInt8) (a1 : Int) (k : W → Prop) : fnT sy Tryd.prog GT (C_ref_At) noL Tryd.f53.ntmps (bodyOf Tryd.f53) [none] Tryd.f53.results.toList [.s a0, .i .i64 a1] k = F_ref_At a0 a1 (fun r0 => k (.i .u8 r0)) := by kernel_rfl

theorem ok_ref_At : FnOK sy Tryd.prog GT ovD GL 53 (q_ref_At (F_ref_At)) := (fn_ok (rc := [none]) (f := 53) (fn := Tryd.f53) (c := bodyOf Tryd.f53) (nt := Tryd.f53.ntmps) (res := Tryd.f53.results.toList) (C := C_ref_At) (L := noL) (fun _ => rfl) Tryd.func53 (by kernel_rfl) rfl rfl (Cok_ref_At) (lp_of (l := []) (by kernel_rfl) lp_nil)).weak (by
  intro us k h
  unfold q_ref_At at h
  split at h
  · skip
    rename_i a0 a1
    rw [raw_ref_At a0 a1 k]
    exact h
  · exact h.elim)

abbrev T_ref_Digit := Int → (Bool → Prop) → Prop
def q_ref_Digit (A : T_ref_Digit) (us : List W) (k : W → Prop) : Prop := match us with
  | [.i .u8 a0] => A a0 (fun r0 => k (.b r0))
  | _ => False
theorem q_ref_Digit_weak {A A2 : T_ref_Digit} (h : FnOK sy Tryd.prog GT ovD GL 54 (q_ref_Digit A)) (hA : ∀ a0 K, A2 a0 K → A a0 K) : FnOK sy Tryd.prog GT ovD GL 54 (q_ref_Digit A2) := h.weak (by
  intro us k h
  unfold q_ref_Digit at h ⊢
  split at h
  · exact hA _ _ h
  · exact h.elim)

def F_ref_Digit (a0 : Int) (K : Bool → Prop) : Prop :=
  (((decide ((48 : Int) ≤ a0)) = true → K (decide (a0 ≤ (57 : Int)))) ∧ ((decide ((48 : Int) ≤ a0)) = false → K false))

def C_ref_Digit : CallT sg := tab []
theorem Cok_ref_Digit (o0 : Nat → Prop) : CalOK sy Tryd.prog GT ovD o0 GL (C_ref_Digit) := tab_nil o0

theorem raw_ref_Digit (a0 : Int) (k : W → Prop) : fnT sy Tryd.prog GT (C_ref_Digit) noL Tryd.f54.ntmps (bodyOf Tryd.f54) [none] Tryd.f54.results.toList [.i .u8 a0] k = F_ref_Digit a0 (fun r0 => k (.b r0)) := by kernel_rfl

theorem ok_ref_Digit : FnOK sy Tryd.prog GT ovD GL 54 (q_ref_Digit (F_ref_Digit)) := (fn_ok (rc := [none]) (f := 54) (fn := Tryd.f54) (c := bodyOf Tryd.f54) (nt := Tryd.f54.ntmps) (res := Tryd.f54.results.toList) (C := C_ref_Digit) (L := noL) (fun _ => rfl) Tryd.func54 (by kernel_rfl) rfl rfl (Cok_ref_Digit) (lp_of (l := []) (by kernel_rfl) lp_nil)).weak (by
  intro us k h
  unfold q_ref_Digit at h
  split at h
  · skip
    rename_i a0
    rw [raw_ref_Digit a0 k]
    exact h
  · exact h.elim)

abbrev T_ref_digits := List UInt8 → Int → (Int → Prop) → Prop
def q_ref_digits (A : T_ref_digits) (us : List W) (k : W → Prop) : Prop := match us with
  | [.s a0, .i .i64 a1] => A a0 a1 (fun r0 => k (.i .i64 r0))
  | _ => False
theorem q_ref_digits_weak {A A2 : T_ref_digits} (h : FnOK sy Tryd.prog GT ovD GL 55 (q_ref_digits A)) (hA : ∀ a0 a1 K, A2 a0 a1 K → A a0 a1 K) : FnOK sy Tryd.prog GT ovD GL 55 (q_ref_digits A2) := h.weak (by
  intro us k h
  unfold q_ref_digits at h ⊢
  split at h
  · exact hA _ _ _ h
  · exact h.elim)

def F_ref_digits_l1 (A53 : T_ref_At) (A54 : T_ref_Digit) : Nat → List UInt8 → Int → (Int → Prop) → Prop
  | 0, _, _, _ => False
  | n + 1, x0, x1, Ke => (A53 x0 x1 (fun y1 => (A54 y1 (fun y2 => ((y2 = true → (I64 (x1 + (1 : Int)) ∧ F_ref_digits_l1 A53 A54 n x0 (x1 + (1 : Int)) Ke)) ∧ (y2 = false → Ke x1))))))

def F_ref_digits (A53 : T_ref_At) (A54 : T_ref_Digit) (a0 : List UInt8) (a1 : Int) (K : Int → Prop) : Prop :=
  (∃ m, F_ref_digits_l1 A53 A54 m a0 a1 (fun y1 => K y1))

def C_ref_digits (A53 : T_ref_At) (A54 : T_ref_Digit) : CallT sg := tab [(53, con [none, none] (q_ref_At A53)), (54, con [none] (q_ref_Digit A54))]
theorem Cok_ref_digits (A53 : T_ref_At) (A54 : T_ref_Digit) (h53 : FnOK sy Tryd.prog GT ovD GL 53 (q_ref_At A53)) (h54 : FnOK sy Tryd.prog GT ovD GL 54 (q_ref_Digit A54)) (o0 : Nat → Prop) : CalOK sy Tryd.prog GT ovD o0 GL (C_ref_digits A53 A54) := (tab_cons (con_ok h53) (tab_cons (con_ok h54) tab_nil)) o0

def ls_ref_digits_1 : LS sy ((List UInt8) × Int × Unit) Unit := ⟨[], fCons 0 (vStr sy) (fCons 1 (vInt sy .i64) (fNil sy)), hNil sy, 0, []⟩
def le_ref_digits_1 : LS sy (Int × Unit) Unit := ⟨[], fCons 1 (vInt sy .i64) (fNil sy), hNil sy, 0, []⟩
def lr_ref_digits_1 : LS sy Unit Unit := ⟨[], fNil sy, hNil sy, 0, []⟩
def FF_ref_digits_1 (A53 : T_ref_At) (A54 : T_ref_Digit) (n : Nat) (x : ((List UInt8) × Int × Unit) × Unit) (K : Ex → Z sg → Prop) : Prop := F_ref_digits_l1 A53 A54 n x.1.1 x.1.2.1 (fun y0 => K (.exit 0) (le_ref_digits_1.put ((y0, ()), ())))
def h_ref_digits_1 (A53 : T_ref_At) (A54 : T_ref_Digit) (z : Z sg) (K : Ex → Z sg → Prop) : Prop := ls_ref_digits_1.get z (fun x => ∃ n, FF_ref_digits_1 A53 A54 n x K)
def L_ref_digits (A53 : T_ref_At) (A54 : T_ref_Digit) : LoopT sg := tabL [(1, h_ref_digits_1 A53 A54)]
theorem hs_ref_digits_1 (A53 : T_ref_At) (A54 : T_ref_Digit) (n : Nat) (x : ((List UInt8) × Int × Unit) × Unit) (K : Ex → Z sg → Prop) : forceZ (ls_ref_digits_1.put x) (fun z => sC sy Tryd.prog GT (C_ref_digits A53 A54) (L_ref_digits A53 A54) Tryd.f55.ntmps (nthLoop (bodyOf Tryd.f55) 0) z (rnd ls_ref_digits_1 (czT 0 le_ref_digits_1 lr_ref_digits_1) (fun x => FF_ref_digits_1 A53 A54 n x K) K)) = FF_ref_digits_1 A53 A54 (n + 1) x K := by kernel_rfl
theorem hl_ref_digits_1 (A53 : T_ref_At) (A54 : T_ref_Digit) (z : Z sg) (K : Ex → Z sg → Prop) : (L_ref_digits A53 A54) (nthLoop (bodyOf Tryd.f55) 0) z K = ls_ref_digits_1.get z (fun x => ∃ n, FF_ref_digits_1 A53 A54 n x K) := by kernel_rfl
theorem lo_ref_digits_1 (A53 : T_ref_At) (A54 : T_ref_Digit) (h53 : FnOK sy Tryd.prog GT ovD GL 53 (q_ref_At A53)) (h54 : FnOK sy Tryd.prog GT ovD GL 54 (q_ref_Digit A54)) : ∀ (o0 : Nat → Prop) (B : Bs sg), B.E.length ≤ 0 → ∀ z K, (L_ref_digits A53 A54) (nthLoop (bodyOf Tryd.f55) 0) z K → Sx.Sem sy Tryd.prog GT ovD o0 GL Tryd.f55.ntmps B (.loop (nthLoop (bodyOf Tryd.f55) 0)) z K :=
  loop_ok (Cok_ref_digits A53 A54 h53 h54) (lp_of (l := []) (by kernel_rfl) lp_nil) ls_ref_digits_1 (by decide) (czT 0 le_ref_digits_1 lr_ref_digits_1) (fun _ _ hB => czT_ok 0 le_ref_digits_1 lr_ref_digits_1 (Nat.le_trans hB (by decide)) (Nat.le_trans hB (by decide))) (fun _ _ h => h) (hs_ref_digits_1 A53 A54) (hl_ref_digits_1 A53 A54)
theorem Lp_ref_digits (A53 : T_ref_At) (A54 : T_ref_Digit) (h53 : FnOK sy Tryd.prog GT ovD GL 53 (q_ref_At A53)) (h54 : FnOK sy Tryd.prog GT ovD GL 54 (q_ref_Digit A54)) : LpOK sy Tryd.prog GT ovD GL (L_ref_digits A53 A54) 0 Tryd.f55.ntmps (bodyOf Tryd.f55) := lp_of (l := [(nthLoop (bodyOf Tryd.f55) 0)]) (by kernel_rfl) (lp_cons (lo_ref_digits_1 A53 A54 h53 h54) lp_nil)


theorem raw_ref_digits (A53 : T_ref_At) (A54 : T_ref_Digit) (a0 : List UInt8) (a1 : Int) (k : W → Prop) : fnT sy Tryd.prog GT (C_ref_digits A53 A54) (L_ref_digits A53 A54) Tryd.f55.ntmps (bodyOf Tryd.f55) [none] Tryd.f55.results.toList [.s a0, .i .i64 a1] k = F_ref_digits A53 A54 a0 a1 (fun r0 => k (.i .i64 r0)) := by kernel_rfl

theorem ok_ref_digits (A53 : T_ref_At) (A54 : T_ref_Digit) (h53 : FnOK sy Tryd.prog GT ovD GL 53 (q_ref_At A53)) (h54 : FnOK sy Tryd.prog GT ovD GL 54 (q_ref_Digit A54)) : FnOK sy Tryd.prog GT ovD GL 55 (q_ref_digits (F_ref_digits A53 A54)) := (fn_ok (rc := [none]) (f := 55) (fn := Tryd.f55) (c := bodyOf Tryd.f55) (nt := Tryd.f55.ntmps) (res := Tryd.f55.results.toList) (C := C_ref_digits A53 A54) (L := (L_ref_digits A53 A54)) (fun _ => rfl) Tryd.func55 (by kernel_rfl) rfl rfl (Cok_ref_digits A53 A54 h53 h54) (Lp_ref_digits A53 A54 h53 h54)).weak (by
  intro us k h
  unfold q_ref_digits at h
  split at h
  · skip
    rename_i a0 a1
    rw [raw_ref_digits A53 A54 a0 a1 k]
    exact h
  · exact h.elim)

abbrev T_ref_Small := Int → (Int → Prop) → Prop
def q_ref_Small (A : T_ref_Small) (us : List W) (k : W → Prop) : Prop := match us with
  | [.i .u8 a0] => A a0 (fun r0 => k (.i .u8 r0))
  | _ => False
theorem q_ref_Small_weak {A A2 : T_ref_Small} (h : FnOK sy Tryd.prog GT ovD GL 74 (q_ref_Small A)) (hA : ∀ a0 K, A2 a0 K → A a0 K) : FnOK sy Tryd.prog GT ovD GL 74 (q_ref_Small A2) := h.weak (by
  intro us k h
  unfold q_ref_Small at h ⊢
  split at h
  · exact hA _ _ h
  · exact h.elim)

def F_ref_Small (a0 : Int) (K : Int → Prop) : Prop :=
  (((decide ((65 : Int) ≤ a0)) = true → (((decide (a0 ≤ (90 : Int))) = true → K (IntKind.u8.wrap ((IntKind.u8.wrap (a0 - (65 : Int))) + (97 : Int)))) ∧ ((decide (a0 ≤ (90 : Int))) = false → K a0))) ∧ ((decide ((65 : Int) ≤ a0)) = false → K a0))

def C_ref_Small : CallT sg := tab []
theorem Cok_ref_Small (o0 : Nat → Prop) : CalOK sy Tryd.prog GT ovD o0 GL (C_ref_Small) := tab_nil o0

theorem raw_ref_Small (a0 : Int) (k : W → Prop) : fnT sy Tryd.prog GT (C_ref_Small) noL Tryd.f74.ntmps (bodyOf Tryd.f74) [none] Tryd.f74.results.toList [.i .u8 a0] k = F_ref_Small a0 (fun r0 => k (.i .u8 r0)) := by kernel_rfl

theorem ok_ref_Small : FnOK sy Tryd.prog GT ovD GL 74 (q_ref_Small (F_ref_Small)) := (fn_ok (rc := [none]) (f := 74) (fn := Tryd.f74) (c := bodyOf Tryd.f74) (nt := Tryd.f74.ntmps) (res := Tryd.f74.results.toList) (C := C_ref_Small) (L := noL) (fun _ => rfl) Tryd.func74 (by kernel_rfl) rfl rfl (Cok_ref_Small) (lp_of (l := []) (by kernel_rfl) lp_nil)).weak (by
  intro us k h
  unfold q_ref_Small at h
  split at h
  · skip
    rename_i a0
    rw [raw_ref_Small a0 k]
    exact h
  · exact h.elim)

abbrev T_ref_Starts := Int → (Bool → Prop) → Prop
def q_ref_Starts (A : T_ref_Starts) (us : List W) (k : W → Prop) : Prop := match us with
  | [.i .u8 a0] => A a0 (fun r0 => k (.b r0))
  | _ => False
theorem q_ref_Starts_weak {A A2 : T_ref_Starts} (h : FnOK sy Tryd.prog GT ovD GL 56 (q_ref_Starts A)) (hA : ∀ a0 K, A2 a0 K → A a0 K) : FnOK sy Tryd.prog GT ovD GL 56 (q_ref_Starts A2) := h.weak (by
  intro us k h
  unfold q_ref_Starts at h ⊢
  split at h
  · exact hA _ _ h
  · exact h.elim)

def F_ref_Starts (A74 : T_ref_Small) (a0 : Int) (K : Bool → Prop) : Prop :=
  (A74 a0 (fun y1 => (((decide ((97 : Int) ≤ y1)) = true → (((decide (y1 ≤ (122 : Int))) = false → (((decide (a0 = (95 : Int))) = false → K (decide ((128 : Int) ≤ a0))) ∧ ((decide (a0 = (95 : Int))) = true → K true))) ∧ ((decide (y1 ≤ (122 : Int))) = true → K true))) ∧ ((decide ((97 : Int) ≤ y1)) = false → (((decide (a0 = (95 : Int))) = false → K (decide ((128 : Int) ≤ a0))) ∧ ((decide (a0 = (95 : Int))) = true → K true))))))

def C_ref_Starts (A74 : T_ref_Small) : CallT sg := tab [(74, con [none] (q_ref_Small A74))]
theorem Cok_ref_Starts (A74 : T_ref_Small) (h74 : FnOK sy Tryd.prog GT ovD GL 74 (q_ref_Small A74)) (o0 : Nat → Prop) : CalOK sy Tryd.prog GT ovD o0 GL (C_ref_Starts A74) := (tab_cons (con_ok h74) tab_nil) o0

theorem raw_ref_Starts (A74 : T_ref_Small) (a0 : Int) (k : W → Prop) : fnT sy Tryd.prog GT (C_ref_Starts A74) noL Tryd.f56.ntmps (bodyOf Tryd.f56) [none] Tryd.f56.results.toList [.i .u8 a0] k = F_ref_Starts A74 a0 (fun r0 => k (.b r0)) := by kernel_rfl

theorem ok_ref_Starts (A74 : T_ref_Small) (h74 : FnOK sy Tryd.prog GT ovD GL 74 (q_ref_Small A74)) : FnOK sy Tryd.prog GT ovD GL 56 (q_ref_Starts (F_ref_Starts A74)) := (fn_ok (rc := [none]) (f := 56) (fn := Tryd.f56) (c := bodyOf Tryd.f56) (nt := Tryd.f56.ntmps) (res := Tryd.f56.results.toList) (C := C_ref_Starts A74) (L := noL) (fun _ => rfl) Tryd.func56 (by kernel_rfl) rfl rfl (Cok_ref_Starts A74 h74) (lp_of (l := []) (by kernel_rfl) lp_nil)).weak (by
  intro us k h
  unfold q_ref_Starts at h
  split at h
  · skip
    rename_i a0
    rw [raw_ref_Starts A74 a0 k]
    exact h
  · exact h.elim)

abbrev T_ref_Escape := List UInt8 → Int → (Bool → Prop) → Prop
def q_ref_Escape (A : T_ref_Escape) (us : List W) (k : W → Prop) : Prop := match us with
  | [.s a0, .i .i64 a1] => A a0 a1 (fun r0 => k (.b r0))
  | _ => False
theorem q_ref_Escape_weak {A A2 : T_ref_Escape} (h : FnOK sy Tryd.prog GT ovD GL 57 (q_ref_Escape A)) (hA : ∀ a0 a1 K, A2 a0 a1 K → A a0 a1 K) : FnOK sy Tryd.prog GT ovD GL 57 (q_ref_Escape A2) := h.weak (by
  intro us k h
  unfold q_ref_Escape at h ⊢
  split at h
  · exact hA _ _ _ h
  · exact h.elim)

def F_ref_Escape (A53 : T_ref_At) (a0 : List UInt8) (a1 : Int) (K : Bool → Prop) : Prop :=
  (A53 a0 a1 (fun y1 => (((decide (y1 = (92 : Int))) = true → (I64 (a1 + (1 : Int)) ∧ (A53 a0 (a1 + (1 : Int)) (fun y2 => K (decide (y2 ≠ (10 : Int))))))) ∧ ((decide (y1 = (92 : Int))) = false → K false))))

def C_ref_Escape (A53 : T_ref_At) : CallT sg := tab [(53, con [none, none] (q_ref_At A53))]
theorem Cok_ref_Escape (A53 : T_ref_At) (h53 : FnOK sy Tryd.prog GT ovD GL 53 (q_ref_At A53)) (o0 : Nat → Prop) : CalOK sy Tryd.prog GT ovD o0 GL (C_ref_Escape A53) := (tab_cons (con_ok h53) tab_nil) o0

theorem raw_ref_Escape (A53 : T_ref_At) (a0 : List UInt8) (a1 : Int) (k : W → Prop) : fnT sy Tryd.prog GT (C_ref_Escape A53) noL Tryd.f57.ntmps (bodyOf Tryd.f57) [none] Tryd.f57.results.toList [.s a0, .i .i64 a1] k = F_ref_Escape A53 a0 a1 (fun r0 => k (.b r0)) := by kernel_rfl

theorem ok_ref_Escape (A53 : T_ref_At) (h53 : FnOK sy Tryd.prog GT ovD GL 53 (q_ref_At A53)) : FnOK sy Tryd.prog GT ovD GL 57 (q_ref_Escape (F_ref_Escape A53)) := (fn_ok (rc := [none]) (f := 57) (fn := Tryd.f57) (c := bodyOf Tryd.f57) (nt := Tryd.f57.ntmps) (res := Tryd.f57.results.toList) (C := C_ref_Escape A53) (L := noL) (fun _ => rfl) Tryd.func57 (by kernel_rfl) rfl rfl (Cok_ref_Escape A53 h53) (lp_of (l := []) (by kernel_rfl) lp_nil)).weak (by
  intro us k h
  unfold q_ref_Escape at h
  split at h
  · skip
    rename_i a0 a1
    rw [raw_ref_Escape A53 a0 a1 k]
    exact h
  · exact h.elim)

abbrev T_ref_Letter := Int → (Bool → Prop) → Prop
def q_ref_Letter (A : T_ref_Letter) (us : List W) (k : W → Prop) : Prop := match us with
  | [.i .u8 a0] => A a0 (fun r0 => k (.b r0))
  | _ => False
theorem q_ref_Letter_weak {A A2 : T_ref_Letter} (h : FnOK sy Tryd.prog GT ovD GL 58 (q_ref_Letter A)) (hA : ∀ a0 K, A2 a0 K → A a0 K) : FnOK sy Tryd.prog GT ovD GL 58 (q_ref_Letter A2) := h.weak (by
  intro us k h
  unfold q_ref_Letter at h ⊢
  split at h
  · exact hA _ _ h
  · exact h.elim)

def F_ref_Letter (A56 : T_ref_Starts) (A54 : T_ref_Digit) (a0 : Int) (K : Bool → Prop) : Prop :=
  (A56 a0 (fun y1 => ((y1 = false → (A54 a0 (fun y2 => ((y2 = false → K (decide (a0 = (45 : Int)))) ∧ (y2 = true → K true))))) ∧ (y1 = true → K true))))

def C_ref_Letter (A56 : T_ref_Starts) (A54 : T_ref_Digit) : CallT sg := tab [(56, con [none] (q_ref_Starts A56)), (54, con [none] (q_ref_Digit A54))]
theorem Cok_ref_Letter (A56 : T_ref_Starts) (A54 : T_ref_Digit) (h56 : FnOK sy Tryd.prog GT ovD GL 56 (q_ref_Starts A56)) (h54 : FnOK sy Tryd.prog GT ovD GL 54 (q_ref_Digit A54)) (o0 : Nat → Prop) : CalOK sy Tryd.prog GT ovD o0 GL (C_ref_Letter A56 A54) := (tab_cons (con_ok h56) (tab_cons (con_ok h54) tab_nil)) o0

theorem raw_ref_Letter (A56 : T_ref_Starts) (A54 : T_ref_Digit) (a0 : Int) (k : W → Prop) : fnT sy Tryd.prog GT (C_ref_Letter A56 A54) noL Tryd.f58.ntmps (bodyOf Tryd.f58) [none] Tryd.f58.results.toList [.i .u8 a0] k = F_ref_Letter A56 A54 a0 (fun r0 => k (.b r0)) := by kernel_rfl

theorem ok_ref_Letter (A56 : T_ref_Starts) (A54 : T_ref_Digit) (h56 : FnOK sy Tryd.prog GT ovD GL 56 (q_ref_Starts A56)) (h54 : FnOK sy Tryd.prog GT ovD GL 54 (q_ref_Digit A54)) : FnOK sy Tryd.prog GT ovD GL 58 (q_ref_Letter (F_ref_Letter A56 A54)) := (fn_ok (rc := [none]) (f := 58) (fn := Tryd.f58) (c := bodyOf Tryd.f58) (nt := Tryd.f58.ntmps) (res := Tryd.f58.results.toList) (C := C_ref_Letter A56 A54) (L := noL) (fun _ => rfl) Tryd.func58 (by kernel_rfl) rfl rfl (Cok_ref_Letter A56 A54 h56 h54) (lp_of (l := []) (by kernel_rfl) lp_nil)).weak (by
  intro us k h
  unfold q_ref_Letter at h
  split at h
  · skip
    rename_i a0
    rw [raw_ref_Letter A56 A54 a0 k]
    exact h
  · exact h.elim)

abbrev T_ref_lost := (List UInt8 → Prop) → Prop
def q_ref_lost (A : T_ref_lost) (us : List W) (k : W → Prop) : Prop := match us with
  | [] => A (fun r0 => k (.s r0))
  | _ => False
theorem q_ref_lost_weak {A A2 : T_ref_lost} (h : FnOK sy Tryd.prog GT ovD GL 75 (q_ref_lost A)) (hA : ∀  K, A2  K → A  K) : FnOK sy Tryd.prog GT ovD GL 75 (q_ref_lost A2) := h.weak (by
  intro us k h
  unfold q_ref_lost at h ⊢
  split at h
  · exact hA _ h
  · exact h.elim)

def F_ref_lost (K : List UInt8 → Prop) : Prop :=
  ((0 ≤ (239 : Int) ∧ (239 : Int) ≤ 255) ∧ ((0 ≤ (191 : Int) ∧ (191 : Int) ≤ 255) ∧ ((0 ≤ (189 : Int) ∧ (189 : Int) ≤ 255) ∧ K [UInt8.ofNat 239, UInt8.ofNat 191, UInt8.ofNat 189])))

def C_ref_lost : CallT sg := tab []
theorem Cok_ref_lost (o0 : Nat → Prop) : CalOK sy Tryd.prog GT ovD o0 GL (C_ref_lost) := tab_nil o0

theorem raw_ref_lost (k : W → Prop) : fnT sy Tryd.prog GT (C_ref_lost) noL Tryd.f75.ntmps (bodyOf Tryd.f75) [none] Tryd.f75.results.toList [] k = F_ref_lost (fun r0 => k (.s r0)) := by kernel_rfl

theorem ok_ref_lost : FnOK sy Tryd.prog GT ovD GL 75 (q_ref_lost (F_ref_lost)) := (fn_ok (rc := [none]) (f := 75) (fn := Tryd.f75) (c := bodyOf Tryd.f75) (nt := Tryd.f75.ntmps) (res := Tryd.f75.results.toList) (C := C_ref_lost) (L := noL) (fun _ => rfl) Tryd.func75 (by kernel_rfl) rfl rfl (Cok_ref_lost) (lp_of (l := []) (by kernel_rfl) lp_nil)).weak (by
  intro us k h
  unfold q_ref_lost at h
  split at h
  · skip
    rw [raw_ref_lost  k]
    exact h
  · exact h.elim)

abbrev T_ref_Hex := Int → (Int → Prop) → Prop
def q_ref_Hex (A : T_ref_Hex) (us : List W) (k : W → Prop) : Prop := match us with
  | [.i .u8 a0] => A a0 (fun r0 => k (.i .i64 r0))
  | _ => False
theorem q_ref_Hex_weak {A A2 : T_ref_Hex} (h : FnOK sy Tryd.prog GT ovD GL 76 (q_ref_Hex A)) (hA : ∀ a0 K, A2 a0 K → A a0 K) : FnOK sy Tryd.prog GT ovD GL 76 (q_ref_Hex A2) := h.weak (by
  intro us k h
  unfold q_ref_Hex at h ⊢
  split at h
  · exact hA _ _ h
  · exact h.elim)

def F_ref_Hex (A54 : T_ref_Digit) (A74 : T_ref_Small) (a0 : Int) (K : Int → Prop) : Prop :=
  (A54 a0 (fun y1 => ((y1 = true → (I64 (IntKind.u8.wrap (a0 - (48 : Int))) ∧ K (IntKind.u8.wrap (a0 - (48 : Int))))) ∧ (y1 = false → (A74 a0 (fun y2 => (((decide ((97 : Int) ≤ y2)) = true → (((decide (y2 ≤ (102 : Int))) = true → (I64 (IntKind.u8.wrap (y2 - (97 : Int))) ∧ (I64 ((IntKind.u8.wrap (y2 - (97 : Int))) + (10 : Int)) ∧ K ((IntKind.u8.wrap (y2 - (97 : Int))) + (10 : Int))))) ∧ ((decide (y2 ≤ (102 : Int))) = false → K (-1 : Int)))) ∧ ((decide ((97 : Int) ≤ y2)) = false → K (-1 : Int)))))))))

def C_ref_Hex (A54 : T_ref_Digit) (A74 : T_ref_Small) : CallT sg := tab [(54, con [none] (q_ref_Digit A54)), (74, con [none] (q_ref_Small A74))]
theorem Cok_ref_Hex (A54 : T_ref_Digit) (A74 : T_ref_Small) (h54 : FnOK sy Tryd.prog GT ovD GL 54 (q_ref_Digit A54)) (h74 : FnOK sy Tryd.prog GT ovD GL 74 (q_ref_Small A74)) (o0 : Nat → Prop) : CalOK sy Tryd.prog GT ovD o0 GL (C_ref_Hex A54 A74) := (tab_cons (con_ok h54) (tab_cons (con_ok h74) tab_nil)) o0

theorem raw_ref_Hex (A54 : T_ref_Digit) (A74 : T_ref_Small) (a0 : Int) (k : W → Prop) : fnT sy Tryd.prog GT (C_ref_Hex A54 A74) noL Tryd.f76.ntmps (bodyOf Tryd.f76) [none] Tryd.f76.results.toList [.i .u8 a0] k = F_ref_Hex A54 A74 a0 (fun r0 => k (.i .i64 r0)) := by kernel_rfl

theorem ok_ref_Hex (A54 : T_ref_Digit) (A74 : T_ref_Small) (h54 : FnOK sy Tryd.prog GT ovD GL 54 (q_ref_Digit A54)) (h74 : FnOK sy Tryd.prog GT ovD GL 74 (q_ref_Small A74)) : FnOK sy Tryd.prog GT ovD GL 76 (q_ref_Hex (F_ref_Hex A54 A74)) := (fn_ok (rc := [none]) (f := 76) (fn := Tryd.f76) (c := bodyOf Tryd.f76) (nt := Tryd.f76.ntmps) (res := Tryd.f76.results.toList) (C := C_ref_Hex A54 A74) (L := noL) (fun _ => rfl) Tryd.func76 (by kernel_rfl) rfl rfl (Cok_ref_Hex A54 A74 h54 h74) (lp_of (l := []) (by kernel_rfl) lp_nil)).weak (by
  intro us k h
  unfold q_ref_Hex at h
  split at h
  · skip
    rename_i a0
    rw [raw_ref_Hex A54 A74 a0 k]
    exact h
  · exact h.elim)

abbrev T_ref_Space := Int → (Bool → Prop) → Prop
def q_ref_Space (A : T_ref_Space) (us : List W) (k : W → Prop) : Prop := match us with
  | [.i .u8 a0] => A a0 (fun r0 => k (.b r0))
  | _ => False
theorem q_ref_Space_weak {A A2 : T_ref_Space} (h : FnOK sy Tryd.prog GT ovD GL 77 (q_ref_Space A)) (hA : ∀ a0 K, A2 a0 K → A a0 K) : FnOK sy Tryd.prog GT ovD GL 77 (q_ref_Space A2) := h.weak (by
  intro us k h
  unfold q_ref_Space at h ⊢
  split at h
  · exact hA _ _ h
  · exact h.elim)

def F_ref_Space (a0 : Int) (K : Bool → Prop) : Prop :=
  (((decide (a0 = (10 : Int))) = false → (((decide (a0 = (9 : Int))) = false → K (decide (a0 = (32 : Int)))) ∧ ((decide (a0 = (9 : Int))) = true → K true))) ∧ ((decide (a0 = (10 : Int))) = true → K true))

def C_ref_Space : CallT sg := tab []
theorem Cok_ref_Space (o0 : Nat → Prop) : CalOK sy Tryd.prog GT ovD o0 GL (C_ref_Space) := tab_nil o0

theorem raw_ref_Space (a0 : Int) (k : W → Prop) : fnT sy Tryd.prog GT (C_ref_Space) noL Tryd.f77.ntmps (bodyOf Tryd.f77) [none] Tryd.f77.results.toList [.i .u8 a0] k = F_ref_Space a0 (fun r0 => k (.b r0)) := by kernel_rfl

theorem ok_ref_Space : FnOK sy Tryd.prog GT ovD GL 77 (q_ref_Space (F_ref_Space)) := (fn_ok (rc := [none]) (f := 77) (fn := Tryd.f77) (c := bodyOf Tryd.f77) (nt := Tryd.f77.ntmps) (res := Tryd.f77.results.toList) (C := C_ref_Space) (L := noL) (fun _ => rfl) Tryd.func77 (by kernel_rfl) rfl rfl (Cok_ref_Space) (lp_of (l := []) (by kernel_rfl) lp_nil)).weak (by
  intro us k h
  unfold q_ref_Space at h
  split at h
  · skip
    rename_i a0
    rw [raw_ref_Space a0 k]
    exact h
  · exact h.elim)

abbrev T_ref_UTF8 := Int → (List UInt8 → Prop) → Prop
def q_ref_UTF8 (A : T_ref_UTF8) (us : List W) (k : W → Prop) : Prop := match us with
  | [.i .i64 a0] => A a0 (fun r0 => k (.s r0))
  | _ => False
theorem q_ref_UTF8_weak {A A2 : T_ref_UTF8} (h : FnOK sy Tryd.prog GT ovD GL 78 (q_ref_UTF8 A)) (hA : ∀ a0 K, A2 a0 K → A a0 K) : FnOK sy Tryd.prog GT ovD GL 78 (q_ref_UTF8 A2) := h.weak (by
  intro us k h
  unfold q_ref_UTF8 at h ⊢
  split at h
  · exact hA _ _ h
  · exact h.elim)

def F_ref_UTF8 (A75 : T_ref_lost) (a0 : Int) (K : List UInt8 → Prop) : Prop :=
  (((decide (a0 = (0 : Int))) = false → (((decide ((55296 : Int) ≤ a0)) = true → (((decide (a0 ≤ (57343 : Int))) = false → (((decide ((1114111 : Int) < a0)) = true → (A75 (fun y1 => K y1))) ∧ ((decide ((1114111 : Int) < a0)) = false → (((decide (a0 < (128 : Int))) = true → ((0 ≤ (IntKind.u8.wrap a0) ∧ (IntKind.u8.wrap a0) ≤ 255) ∧ K [UInt8.ofNat ((IntKind.u8.wrap a0).toNat)])) ∧ ((decide (a0 < (128 : Int))) = false → (((decide (a0 < (2048 : Int))) = true → ((64 : Int) ≠ 0 ∧ (I64 (a0.tdiv (64 : Int)) ∧ (I64 ((192 : Int) + (a0.tdiv (64 : Int))) ∧ ((64 : Int) ≠ 0 ∧ (I64 ((128 : Int) + (a0.tmod (64 : Int))) ∧ ((0 ≤ (IntKind.u8.wrap ((192 : Int) + (a0.tdiv (64 : Int)))) ∧ (IntKind.u8.wrap ((192 : Int) + (a0.tdiv (64 : Int)))) ≤ 255) ∧ ((0 ≤ (IntKind.u8.wrap ((128 : Int) + (a0.tmod (64 : Int)))) ∧ (IntKind.u8.wrap ((128 : Int) + (a0.tmod (64 : Int)))) ≤ 255) ∧ K [UInt8.ofNat ((IntKind.u8.wrap ((192 : Int) + (a0.tdiv (64 : Int)))).toNat), UInt8.ofNat ((IntKind.u8.wrap ((128 : Int) + (a0.tmod (64 : Int)))).toNat)])))))))) ∧ ((decide (a0 < (2048 : Int))) = false → (((decide (a0 < (65536 : Int))) = true → ((4096 : Int) ≠ 0 ∧ (I64 (a0.tdiv (4096 : Int)) ∧ (I64 ((224 : Int) + (a0.tdiv (4096 : Int))) ∧ ((64 : Int) ≠ 0 ∧ (I64 (a0.tdiv (64 : Int)) ∧ ((64 : Int) ≠ 0 ∧ (I64 ((128 : Int) + ((a0.tdiv (64 : Int)).tmod (64 : Int))) ∧ ((64 : Int) ≠ 0 ∧ (I64 ((128 : Int) + (a0.tmod (64 : Int))) ∧ ((0 ≤ (IntKind.u8.wrap ((224 : Int) + (a0.tdiv (4096 : Int)))) ∧ (IntKind.u8.wrap ((224 : Int) + (a0.tdiv (4096 : Int)))) ≤ 255) ∧ ((0 ≤ (IntKind.u8.wrap ((128 : Int) + ((a0.tdiv (64 : Int)).tmod (64 : Int)))) ∧ (IntKind.u8.wrap ((128 : Int) + ((a0.tdiv (64 : Int)).tmod (64 : Int)))) ≤ 255) ∧ ((0 ≤ (IntKind.u8.wrap ((128 : Int) + (a0.tmod (64 : Int)))) ∧ (IntKind.u8.wrap ((128 : Int) + (a0.tmod (64 : Int)))) ≤ 255) ∧ K [UInt8.ofNat ((IntKind.u8.wrap ((224 : Int) + (a0.tdiv (4096 : Int)))).toNat), UInt8.ofNat ((IntKind.u8.wrap ((128 : Int) + ((a0.tdiv (64 : Int)).tmod (64 : Int)))).toNat), UInt8.ofNat ((IntKind.u8.wrap ((128 : Int) + (a0.tmod (64 : Int)))).toNat)]))))))))))))) ∧ ((decide (a0 < (65536 : Int))) = false → ((262144 : Int) ≠ 0 ∧ (I64 (a0.tdiv (262144 : Int)) ∧ (I64 ((240 : Int) + (a0.tdiv (262144 : Int))) ∧ ((4096 : Int) ≠ 0 ∧ (I64 (a0.tdiv (4096 : Int)) ∧ ((64 : Int) ≠ 0 ∧ (I64 ((128 : Int) + ((a0.tdiv (4096 : Int)).tmod (64 : Int))) ∧ ((64 : Int) ≠ 0 ∧ (I64 (a0.tdiv (64 : Int)) ∧ ((64 : Int) ≠ 0 ∧ (I64 ((128 : Int) + ((a0.tdiv (64 : Int)).tmod (64 : Int))) ∧ ((64 : Int) ≠ 0 ∧ (I64 ((128 : Int) + (a0.tmod (64 : Int))) ∧ ((0 ≤ (IntKind.u8.wrap ((240 : Int) + (a0.tdiv (262144 : Int)))) ∧ (IntKind.u8.wrap ((240 : Int) + (a0.tdiv (262144 : Int)))) ≤ 255) ∧ ((0 ≤ (IntKind.u8.wrap ((128 : Int) + ((a0.tdiv (4096 : Int)).tmod (64 : Int)))) ∧ (IntKind.u8.wrap ((128 : Int) + ((a0.tdiv (4096 : Int)).tmod (64 : Int)))) ≤ 255) ∧ ((0 ≤ (IntKind.u8.wrap ((128 : Int) + ((a0.tdiv (64 : Int)).tmod (64 : Int)))) ∧ (IntKind.u8.wrap ((128 : Int) + ((a0.tdiv (64 : Int)).tmod (64 : Int)))) ≤ 255) ∧ ((0 ≤ (IntKind.u8.wrap ((128 : Int) + (a0.tmod (64 : Int)))) ∧ (IntKind.u8.wrap ((128 : Int) + (a0.tmod (64 : Int)))) ≤ 255) ∧ K [UInt8.ofNat ((IntKind.u8.wrap ((240 : Int) + (a0.tdiv (262144 : Int)))).toNat), UInt8.ofNat ((IntKind.u8.wrap ((128 : Int) + ((a0.tdiv (4096 : Int)).tmod (64 : Int)))).toNat), UInt8.ofNat ((IntKind.u8.wrap ((128 : Int) + ((a0.tdiv (64 : Int)).tmod (64 : Int)))).toNat), UInt8.ofNat ((IntKind.u8.wrap ((128 : Int) + (a0.tmod (64 : Int)))).toNat)])))))))))))))))))))))))))) ∧ ((decide (a0 ≤ (57343 : Int))) = true → (A75 (fun y2 => K y2))))) ∧ ((decide ((55296 : Int) ≤ a0)) = false → (((decide ((1114111 : Int) < a0)) = true → (A75 (fun y3 => K y3))) ∧ ((decide ((1114111 : Int) < a0)) = false → (((decide (a0 < (128 : Int))) = true → ((0 ≤ (IntKind.u8.wrap a0) ∧ (IntKind.u8.wrap a0) ≤ 255) ∧ K [UInt8.ofNat ((IntKind.u8.wrap a0).toNat)])) ∧ ((decide (a0 < (128 : Int))) = false → (((decide (a0 < (2048 : Int))) = true → ((64 : Int) ≠ 0 ∧ (I64 (a0.tdiv (64 : Int)) ∧ (I64 ((192 : Int) + (a0.tdiv (64 : Int))) ∧ ((64 : Int) ≠ 0 ∧ (I64 ((128 : Int) + (a0.tmod (64 : Int))) ∧ ((0 ≤ (IntKind.u8.wrap ((192 : Int) + (a0.tdiv (64 : Int)))) ∧ (IntKind.u8.wrap ((192 : Int) + (a0.tdiv (64 : Int)))) ≤ 255) ∧ ((0 ≤ (IntKind.u8.wrap ((128 : Int) + (a0.tmod (64 : Int)))) ∧ (IntKind.u8.wrap ((128 : Int) + (a0.tmod (64 : Int)))) ≤ 255) ∧ K [UInt8.ofNat ((IntKind.u8.wrap ((192 : Int) + (a0.tdiv (64 : Int)))).toNat), UInt8.ofNat ((IntKind.u8.wrap ((128 : Int) + (a0.tmod (64 : Int)))).toNat)])))))))) ∧ ((decide (a0 < (2048 : Int))) = false → (((decide (a0 < (65536 : Int))) = true → ((4096 : Int) ≠ 0 ∧ (I64 (a0.tdiv (4096 : Int)) ∧ (I64 ((224 : Int) + (a0.tdiv (4096 : Int))) ∧ ((64 : Int) ≠ 0 ∧ (I64 (a0.tdiv (64 : Int)) ∧ ((64 : Int) ≠ 0 ∧ (I64 ((128 : Int) + ((a0.tdiv (64 : Int)).tmod (64 : Int))) ∧ ((64 : Int) ≠ 0 ∧ (I64 ((128 : Int) + (a0.tmod (64 : Int))) ∧ ((0 ≤ (IntKind.u8.wrap ((224 : Int) + (a0.tdiv (4096 : Int)))) ∧ (IntKind.u8.wrap ((224 : Int) + (a0.tdiv (4096 : Int)))) ≤ 255) ∧ ((0 ≤ (IntKind.u8.wrap ((128 : Int) + ((a0.tdiv (64 : Int)).tmod (64 : Int)))) ∧ (IntKind.u8.wrap ((128 : Int) + ((a0.tdiv (64 : Int)).tmod (64 : Int)))) ≤ 255) ∧ ((0 ≤ (IntKind.u8.wrap ((128 : Int) + (a0.tmod (64 : Int)))) ∧ (IntKind.u8.wrap ((128 : Int) + (a0.tmod (64 : Int)))) ≤ 255) ∧ K [UInt8.ofNat ((IntKind.u8.wrap ((224 : Int) + (a0.tdiv (4096 : Int)))).toNat), UInt8.ofNat ((IntKind.u8.wrap ((128 : Int) + ((a0.tdiv (64 : Int)).tmod (64 : Int)))).toNat), UInt8.ofNat ((IntKind.u8.wrap ((128 : Int) + (a0.tmod (64 : Int)))).toNat)]))))))))))))) ∧ ((decide (a0 < (65536 : Int))) = false → ((262144 : Int) ≠ 0 ∧ (I64 (a0.tdiv (262144 : Int)) ∧ (I64 ((240 : Int) + (a0.tdiv (262144 : Int))) ∧ ((4096 : Int) ≠ 0 ∧ (I64 (a0.tdiv (4096 : Int)) ∧ ((64 : Int) ≠ 0 ∧ (I64 ((128 : Int) + ((a0.tdiv (4096 : Int)).tmod (64 : Int))) ∧ ((64 : Int) ≠ 0 ∧ (I64 (a0.tdiv (64 : Int)) ∧ ((64 : Int) ≠ 0 ∧ (I64 ((128 : Int) + ((a0.tdiv (64 : Int)).tmod (64 : Int))) ∧ ((64 : Int) ≠ 0 ∧ (I64 ((128 : Int) + (a0.tmod (64 : Int))) ∧ ((0 ≤ (IntKind.u8.wrap ((240 : Int) + (a0.tdiv (262144 : Int)))) ∧ (IntKind.u8.wrap ((240 : Int) + (a0.tdiv (262144 : Int)))) ≤ 255) ∧ ((0 ≤ (IntKind.u8.wrap ((128 : Int) + ((a0.tdiv (4096 : Int)).tmod (64 : Int)))) ∧ (IntKind.u8.wrap ((128 : Int) + ((a0.tdiv (4096 : Int)).tmod (64 : Int)))) ≤ 255) ∧ ((0 ≤ (IntKind.u8.wrap ((128 : Int) + ((a0.tdiv (64 : Int)).tmod (64 : Int)))) ∧ (IntKind.u8.wrap ((128 : Int) + ((a0.tdiv (64 : Int)).tmod (64 : Int)))) ≤ 255) ∧ ((0 ≤ (IntKind.u8.wrap ((128 : Int) + (a0.tmod (64 : Int)))) ∧ (IntKind.u8.wrap ((128 : Int) + (a0.tmod (64 : Int)))) ≤ 255) ∧ K [UInt8.ofNat ((IntKind.u8.wrap ((240 : Int) + (a0.tdiv (262144 : Int)))).toNat), UInt8.ofNat ((IntKind.u8.wrap ((128 : Int) + ((a0.tdiv (4096 : Int)).tmod (64 : Int)))).toNat), UInt8.ofNat ((IntKind.u8.wrap ((128 : Int) + ((a0.tdiv (64 : Int)).tmod (64 : Int)))).toNat), UInt8.ofNat ((IntKind.u8.wrap ((128 : Int) + (a0.tmod (64 : Int)))).toNat)])))))))))))))))))))))))))))) ∧ ((decide (a0 = (0 : Int))) = true → (A75 (fun y4 => K y4))))

def C_ref_UTF8 (A75 : T_ref_lost) : CallT sg := tab [(75, con [] (q_ref_lost A75))]
theorem Cok_ref_UTF8 (A75 : T_ref_lost) (h75 : FnOK sy Tryd.prog GT ovD GL 75 (q_ref_lost A75)) (o0 : Nat → Prop) : CalOK sy Tryd.prog GT ovD o0 GL (C_ref_UTF8 A75) := (tab_cons (con_ok h75) tab_nil) o0

theorem raw_ref_UTF8 (A75 : T_ref_lost) (a0 : Int) (k : W → Prop) : fnT sy Tryd.prog GT (C_ref_UTF8 A75) noL Tryd.f78.ntmps (bodyOf Tryd.f78) [none] Tryd.f78.results.toList [.i .i64 a0] k = F_ref_UTF8 A75 a0 (fun r0 => k (.s r0)) := by kernel_rfl

theorem ok_ref_UTF8 (A75 : T_ref_lost) (h75 : FnOK sy Tryd.prog GT ovD GL 75 (q_ref_lost A75)) : FnOK sy Tryd.prog GT ovD GL 78 (q_ref_UTF8 (F_ref_UTF8 A75)) := (fn_ok (rc := [none]) (f := 78) (fn := Tryd.f78) (c := bodyOf Tryd.f78) (nt := Tryd.f78.ntmps) (res := Tryd.f78.results.toList) (C := C_ref_UTF8 A75) (L := noL) (fun _ => rfl) Tryd.func78 (by kernel_rfl) rfl rfl (Cok_ref_UTF8 A75 h75) (lp_of (l := []) (by kernel_rfl) lp_nil)).weak (by
  intro us k h
  unfold q_ref_UTF8 at h
  split at h
  · skip
    rename_i a0
    rw [raw_ref_UTF8 A75 a0 k]
    exact h
  · exact h.elim)

abbrev T_ref_Escaped := List UInt8 → Int → (List UInt8 → Int → Prop) → Prop
def q_ref_Escaped (A : T_ref_Escaped) (us : List W) (k : W → Prop) : Prop := match us with
  | [.s a0, .i .i64 a1] => A a0 a1 (fun r0 r1 => k (.t [.s r0, .i .i64 r1]))
  | _ => False
theorem q_ref_Escaped_weak {A A2 : T_ref_Escaped} (h : FnOK sy Tryd.prog GT ovD GL 59 (q_ref_Escaped A)) (hA : ∀ a0 a1 K, A2 a0 a1 K → A a0 a1 K) : FnOK sy Tryd.prog GT ovD GL 59 (q_ref_Escaped A2) := h.weak (by
  intro us k h
  unfold q_ref_Escaped at h ⊢
  split at h
  · exact hA _ _ _ h
  · exact h.elim)

def F_ref_Escaped_l7 (A75 : T_ref_lost) (A76 : T_ref_Hex) (A53 : T_ref_At) (A77 : T_ref_Space) (A78 : T_ref_UTF8) : Nat → List UInt8 → Int → Int → Int → (List UInt8 → Int → Int → Prop) → Prop
  | 0, _, _, _, _, _ => False
  | n + 1, x0, x1, x6, x7, Ke => (((decide (x7 < (x0.length : Int))) = true → (I64 (x1 + (6 : Int)) ∧ (((decide (x7 < (x1 + (6 : Int)))) = true → ((0 ≤ x7 ∧ x7 < (x0.length : Int)) ∧ (A76 ((x0.getD x7.toNat 0).toNat : Int) (fun y1 => (((decide ((0 : Int) ≤ y1)) = true → (I64 ((16 : Int) * x6) ∧ ((0 ≤ x7 ∧ x7 < (x0.length : Int)) ∧ (A76 ((x0.getD x7.toNat 0).toNat : Int) (fun y2 => (I64 (((16 : Int) * x6) + y2) ∧ (I64 (x7 + (1 : Int)) ∧ F_ref_Escaped_l7 A75 A76 A53 A77 A78 n x0 x1 (((16 : Int) * x6) + y2) (x7 + (1 : Int)) Ke))))))) ∧ ((decide ((0 : Int) ≤ y1)) = false → Ke x0 x6 x7)))))) ∧ ((decide (x7 < (x1 + (6 : Int)))) = false → Ke x0 x6 x7)))) ∧ ((decide (x7 < (x0.length : Int))) = false → Ke x0 x6 x7))

def F_ref_Escaped (A75 : T_ref_lost) (A76 : T_ref_Hex) (A53 : T_ref_At) (A77 : T_ref_Space) (A78 : T_ref_UTF8) (a0 : List UInt8) (a1 : Int) (K : List UInt8 → Int → Prop) : Prop :=
  (I64 (a1 + (1 : Int)) ∧ (((decide ((a0.length : Int) ≤ (a1 + (1 : Int)))) = true → (A75 (fun y1 => K y1 (a1 + (1 : Int))))) ∧ ((decide ((a0.length : Int) ≤ (a1 + (1 : Int)))) = false → ((0 ≤ (a1 + (1 : Int)) ∧ (a1 + (1 : Int)) < (a0.length : Int)) ∧ (A76 ((a0.getD (a1 + (1 : Int)).toNat 0).toNat : Int) (fun y2 => (((decide (y2 < (0 : Int))) = true → (I64 ((a1 + (1 : Int)) + (1 : Int)) ∧ ((0 ≤ (a1 + (1 : Int)) ∧ (a1 + (1 : Int)) ≤ ((a1 + (1 : Int)) + (1 : Int)) ∧ ((a1 + (1 : Int)) + (1 : Int)) ≤ (a0.length : Int)) ∧ (I64 ((a1 + (1 : Int)) + (1 : Int)) ∧ K ((a0.drop (a1 + (1 : Int)).toNat).take (((a1 + (1 : Int)) + (1 : Int)).toNat - (a1 + (1 : Int)).toNat)) ((a1 + (1 : Int)) + (1 : Int)))))) ∧ ((decide (y2 < (0 : Int))) = false → (∃ m, F_ref_Escaped_l7 A75 A76 A53 A77 A78 m a0 (a1 + (1 : Int)) (0 : Int) (a1 + (1 : Int)) (fun y3 y4 y5 => (A53 y3 y5 (fun y6 => (A77 y6 (fun y7 => ((y7 = true → (I64 (y5 + (1 : Int)) ∧ (A78 y4 (fun y8 => K y8 (y5 + (1 : Int)))))) ∧ (y7 = false → (A78 y4 (fun y9 => K y9 y5))))))))))))))))))

def C_ref_Escaped (A75 : T_ref_lost) (A76 : T_ref_Hex) (A53 : T_ref_At) (A77 : T_ref_Space) (A78 : T_ref_UTF8) : CallT sg := tab [(75, con [] (q_ref_lost A75)), (76, con [none] (q_ref_Hex A76)), (53, con [none, none] (q_ref_At A53)), (77, con [none] (q_ref_Space A77)), (78, con [none] (q_ref_UTF8 A78))]
theorem Cok_ref_Escaped (A75 : T_ref_lost) (A76 : T_ref_Hex) (A53 : T_ref_At) (A77 : T_ref_Space) (A78 : T_ref_UTF8) (h75 : FnOK sy Tryd.prog GT ovD GL 75 (q_ref_lost A75)) (h76 : FnOK sy Tryd.prog GT ovD GL 76 (q_ref_Hex A76)) (h53 : FnOK sy Tryd.prog GT ovD GL 53 (q_ref_At A53)) (h77 : FnOK sy Tryd.prog GT ovD GL 77 (q_ref_Space A77)) (h78 : FnOK sy Tryd.prog GT ovD GL 78 (q_ref_UTF8 A78)) (o0 : Nat → Prop) : CalOK sy Tryd.prog GT ovD o0 GL (C_ref_Escaped A75 A76 A53 A77 A78) := (tab_cons (con_ok h75) (tab_cons (con_ok h76) (tab_cons (con_ok h53) (tab_cons (con_ok h77) (tab_cons (con_ok h78) tab_nil))))) o0

def ls_ref_Escaped_7 : LS sy ((List UInt8) × Int × Int × Int × Unit) Unit := ⟨[], fCons 0 (vStr sy) (fCons 1 (vInt sy .i64) (fCons 6 (vInt sy .i64) (fCons 7 (vInt sy .i64) (fNil sy)))), hNil sy, 0, []⟩
def le_ref_Escaped_7 : LS sy ((List UInt8) × Int × Int × Unit) Unit := ⟨[], fCons 0 (vStr sy) (fCons 6 (vInt sy .i64) (fCons 7 (vInt sy .i64) (fNil sy))), hNil sy, 0, []⟩
def lr_ref_Escaped_7 : LS sy Unit Unit := ⟨[], fNil sy, hNil sy, 0, []⟩
def FF_ref_Escaped_7 (A75 : T_ref_lost) (A76 : T_ref_Hex) (A53 : T_ref_At) (A77 : T_ref_Space) (A78 : T_ref_UTF8) (n : Nat) (x : ((List UInt8) × Int × Int × Int × Unit) × Unit) (K : Ex → Z sg → Prop) : Prop := F_ref_Escaped_l7 A75 A76 A53 A77 A78 n x.1.1 x.1.2.1 x.1.2.2.1 x.1.2.2.2.1 (fun y0 y1 y2 => K (.exit 0) (le_ref_Escaped_7.put ((y0, y1, y2, ()), ())))
def h_ref_Escaped_7 (A75 : T_ref_lost) (A76 : T_ref_Hex) (A53 : T_ref_At) (A77 : T_ref_Space) (A78 : T_ref_UTF8) (z : Z sg) (K : Ex → Z sg → Prop) : Prop := ls_ref_Escaped_7.get z (fun x => ∃ n, FF_ref_Escaped_7 A75 A76 A53 A77 A78 n x K)
def L_ref_Escaped (A75 : T_ref_lost) (A76 : T_ref_Hex) (A53 : T_ref_At) (A77 : T_ref_Space) (A78 : T_ref_UTF8) : LoopT sg := tabL [(7, h_ref_Escaped_7 A75 A76 A53 A77 A78)]
theorem hs_ref_Escaped_7 (A75 : T_ref_lost) (A76 : T_ref_Hex) (A53 : T_ref_At) (A77 : T_ref_Space) (A78 : T_ref_UTF8) (n : Nat) (x : ((List UInt8) × Int × Int × Int × Unit) × Unit) (K : Ex → Z sg → Prop) : forceZ (ls_ref_Escaped_7.put x) (fun z => sC sy Tryd.prog GT (C_ref_Escaped A75 A76 A53 A77 A78) (L_ref_Escaped A75 A76 A53 A77 A78) Tryd.f59.ntmps (nthLoop (bodyOf Tryd.f59) 0) z (rnd ls_ref_Escaped_7 (czT 0 le_ref_Escaped_7 lr_ref_Escaped_7) (fun x => FF_ref_Escaped_7 A75 A76 A53 A77 A78 n x K) K)) = FF_ref_Escaped_7 A75 A76 A53 A77 A78 (n + 1) x K := by kernel_rfl
theorem hl_ref_Escaped_7 (A75 : T_ref_lost) (A76 : T_ref_Hex) (A53 : T_ref_At) (A77 : T_ref_Space) (A78 : T_ref_UTF8) (z : Z sg) (K : Ex → Z sg → Prop) : (L_ref_Escaped A75 A76 A53 A77 A78) (nthLoop (bodyOf Tryd.f59) 0) z K = ls_ref_Escaped_7.get z (fun x => ∃ n, FF_ref_Escaped_7 A75 A76 A53 A77 A78 n x K) := by kernel_rfl
theorem lo_ref_Escaped_7 (A75 : T_ref_lost) (A76 : T_ref_Hex) (A53 : T_ref_At) (A77 : T_ref_Space) (A78 : T_ref_UTF8) (h75 : FnOK sy Tryd.prog GT ovD GL 75 (q_ref_lost A75)) (h76 : FnOK sy Tryd.prog GT ovD GL 76 (q_ref_Hex A76)) (h53 : FnOK sy Tryd.prog GT ovD GL 53 (q_ref_At A53)) (h77 : FnOK sy Tryd.prog GT ovD GL 77 (q_ref_Space A77)) (h78 : FnOK sy Tryd.prog GT ovD GL 78 (q_ref_UTF8 A78)) : ∀ (o0 : Nat → Prop) (B : Bs sg), B.E.length ≤ 0 → ∀ z K, (L_ref_Escaped A75 A76 A53 A77 A78) (nthLoop (bodyOf Tryd.f59) 0) z K → Sx.Sem sy Tryd.prog GT ovD o0 GL Tryd.f59.ntmps B (.loop (nthLoop (bodyOf Tryd.f59) 0)) z K :=
  loop_ok (Cok_ref_Escaped A75 A76 A53 A77 A78 h75 h76 h53 h77 h78) (lp_of (l := []) (by kernel_rfl) lp_nil) ls_ref_Escaped_7 (by decide) (czT 0 le_ref_Escaped_7 lr_ref_Escaped_7) (fun _ _ hB => czT_ok 0 le_ref_Escaped_7 lr_ref_Escaped_7 (Nat.le_trans hB (by decide)) (Nat.le_trans hB (by decide))) (fun _ _ h => h) (hs_ref_Escaped_7 A75 A76 A53 A77 A78) (hl_ref_Escaped_7 A75 A76 A53 A77 A78)
theorem Lp_ref_Escaped (A75 : T_ref_lost) (A76 : T_ref_Hex) (A53 : T_ref_At) (A77 : T_ref_Space) (A78 : T_ref_UTF8) (h75 : FnOK sy Tryd.prog GT ovD GL 75 (q_ref_lost A75)) (h76 : FnOK sy Tryd.prog GT ovD GL 76 (q_ref_Hex A76)) (h53 : FnOK sy Tryd.prog GT ovD GL 53 (q_ref_At A53)) (h77 : FnOK sy Tryd.prog GT ovD GL 77 (q_ref_Space A77)) (h78 : FnOK sy Tryd.prog GT ovD GL 78 (q_ref_UTF8 A78)) : LpOK sy Tryd.prog GT ovD GL (L_ref_Escaped A75 A76 A53 A77 A78) 0 Tryd.f59.ntmps (bodyOf Tryd.f59) := lp_of (l := [(nthLoop (bodyOf Tryd.f59) 0)]) (by kernel_rfl) (lp_cons (lo_ref_Escaped_7 A75 A76 A53 A77 A78 h75 h76 h53 h77 h78) lp_nil)


theorem raw_ref_Escaped (A75 : T_ref_lost) (A76 : T_ref_Hex) (A53 : T_ref_At) (A77 : T_ref_Space) (A78 : T_ref_UTF8) (a0 : List UInt8) (a1 : Int) (k : W → Prop) : fnT sy Tryd.prog GT (C_ref_Escaped A75 A76 A53 A77 A78) (L_ref_Escaped A75 A76 A53 A77 A78) Tryd.f59.ntmps (bodyOf Tryd.f59) [none, none] Tryd.f59.results.toList [.s a0, .i .i64 a1] k = F_ref_Escaped A75 A76 A53 A77 A78 a0 a1 (fun r0 r1 => k (.t [.s r0, .i .i64 r1])) := by kernel_rfl

theorem ok_ref_Escaped (A75 : T_ref_lost) (A76 : T_ref_Hex) (A53 : T_ref_At) (A77 : T_ref_Space) (A78 : T_ref_UTF8) (h75 : FnOK sy Tryd.prog GT ovD GL 75 (q_ref_lost A75)) (h76 : FnOK sy Tryd.prog GT ovD GL 76 (q_ref_Hex A76)) (h53 : FnOK sy Tryd.prog GT ovD GL 53 (q_ref_At A53)) (h77 : FnOK sy Tryd.prog GT ovD GL 77 (q_ref_Space A77)) (h78 : FnOK sy Tryd.prog GT ovD GL 78 (q_ref_UTF8 A78)) : FnOK sy Tryd.prog GT ovD GL 59 (q_ref_Escaped (F_ref_Escaped A75 A76 A53 A77 A78)) := (fn_ok (rc := [none, none]) (f := 59) (fn := Tryd.f59) (c := bodyOf Tryd.f59) (nt := Tryd.f59.ntmps) (res := Tryd.f59.results.toList) (C := C_ref_Escaped A75 A76 A53 A77 A78) (L := (L_ref_Escaped A75 A76 A53 A77 A78)) (fun _ => rfl) Tryd.func59 (by kernel_rfl) rfl rfl (Cok_ref_Escaped A75 A76 A53 A77 A78 h75 h76 h53 h77 h78) (Lp_ref_Escaped A75 A76 A53 A77 A78 h75 h76 h53 h77 h78)).weak (by
  intro us k h
  unfold q_ref_Escaped at h
  split at h
  · skip
    rename_i a0 a1
    rw [raw_ref_Escaped A75 A76 A53 A77 A78 a0 a1 k]
    exact h
  · exact h.elim)

abbrev T_ref_NameAt := List UInt8 → Int → (Bool → Prop) → Prop
def q_ref_NameAt (A : T_ref_NameAt) (us : List W) (k : W → Prop) : Prop := match us with
  | [.s a0, .i .i64 a1] => A a0 a1 (fun r0 => k (.b r0))
  | _ => False
theorem q_ref_NameAt_weak {A A2 : T_ref_NameAt} (h : FnOK sy Tryd.prog GT ovD GL 33 (q_ref_NameAt A)) (hA : ∀ a0 a1 K, A2 a0 a1 K → A a0 a1 K) : FnOK sy Tryd.prog GT ovD GL 33 (q_ref_NameAt A2) := h.weak (by
  intro us k h
  unfold q_ref_NameAt at h ⊢
  split at h
  · exact hA _ _ _ h
  · exact h.elim)

def F_ref_NameAt (A53 : T_ref_At) (A56 : T_ref_Starts) (A57 : T_ref_Escape) (a0 : List UInt8) (a1 : Int) (K : Bool → Prop) : Prop :=
  (A53 a0 a1 (fun y1 => (((decide (y1 = (45 : Int))) = true → (I64 (a1 + (1 : Int)) ∧ (A53 a0 (a1 + (1 : Int)) (fun y2 => (A56 y2 (fun y3 => ((y3 = false → (I64 (a1 + (1 : Int)) ∧ (A53 a0 (a1 + (1 : Int)) (fun y4 => (((decide (y4 = (45 : Int))) = false → (I64 (a1 + (1 : Int)) ∧ (A57 a0 (a1 + (1 : Int)) (fun y5 => K y5)))) ∧ ((decide (y4 = (45 : Int))) = true → K true)))))) ∧ (y3 = true → K true)))))))) ∧ ((decide (y1 = (45 : Int))) = false → (A53 a0 a1 (fun y6 => (A56 y6 (fun y7 => ((y7 = false → (A57 a0 a1 (fun y8 => K y8))) ∧ (y7 = true → K true))))))))))

def C_ref_NameAt (A53 : T_ref_At) (A56 : T_ref_Starts) (A57 : T_ref_Escape) : CallT sg := tab [(53, con [none, none] (q_ref_At A53)), (56, con [none] (q_ref_Starts A56)), (57, con [none, none] (q_ref_Escape A57))]
theorem Cok_ref_NameAt (A53 : T_ref_At) (A56 : T_ref_Starts) (A57 : T_ref_Escape) (h53 : FnOK sy Tryd.prog GT ovD GL 53 (q_ref_At A53)) (h56 : FnOK sy Tryd.prog GT ovD GL 56 (q_ref_Starts A56)) (h57 : FnOK sy Tryd.prog GT ovD GL 57 (q_ref_Escape A57)) (o0 : Nat → Prop) : CalOK sy Tryd.prog GT ovD o0 GL (C_ref_NameAt A53 A56 A57) := (tab_cons (con_ok h53) (tab_cons (con_ok h56) (tab_cons (con_ok h57) tab_nil))) o0

theorem raw_ref_NameAt (A53 : T_ref_At) (A56 : T_ref_Starts) (A57 : T_ref_Escape) (a0 : List UInt8) (a1 : Int) (k : W → Prop) : fnT sy Tryd.prog GT (C_ref_NameAt A53 A56 A57) noL Tryd.f33.ntmps (bodyOf Tryd.f33) [none] Tryd.f33.results.toList [.s a0, .i .i64 a1] k = F_ref_NameAt A53 A56 A57 a0 a1 (fun r0 => k (.b r0)) := by kernel_rfl

theorem ok_ref_NameAt (A53 : T_ref_At) (A56 : T_ref_Starts) (A57 : T_ref_Escape) (h53 : FnOK sy Tryd.prog GT ovD GL 53 (q_ref_At A53)) (h56 : FnOK sy Tryd.prog GT ovD GL 56 (q_ref_Starts A56)) (h57 : FnOK sy Tryd.prog GT ovD GL 57 (q_ref_Escape A57)) : FnOK sy Tryd.prog GT ovD GL 33 (q_ref_NameAt (F_ref_NameAt A53 A56 A57)) := (fn_ok (rc := [none]) (f := 33) (fn := Tryd.f33) (c := bodyOf Tryd.f33) (nt := Tryd.f33.ntmps) (res := Tryd.f33.results.toList) (C := C_ref_NameAt A53 A56 A57) (L := noL) (fun _ => rfl) Tryd.func33 (by kernel_rfl) rfl rfl (Cok_ref_NameAt A53 A56 A57 h53 h56 h57) (lp_of (l := []) (by kernel_rfl) lp_nil)).weak (by
  intro us k h
  unfold q_ref_NameAt at h
  split at h
  · skip
    rename_i a0 a1
    rw [raw_ref_NameAt A53 A56 A57 a0 a1 k]
    exact h
  · exact h.elim)

abbrev T_ref_Named := List UInt8 → Int → (List UInt8 → Int → Prop) → Prop
def q_ref_Named (A : T_ref_Named) (us : List W) (k : W → Prop) : Prop := match us with
  | [.s a0, .i .i64 a1] => A a0 a1 (fun r0 r1 => k (.t [.s r0, .i .i64 r1]))
  | _ => False
theorem q_ref_Named_weak {A A2 : T_ref_Named} (h : FnOK sy Tryd.prog GT ovD GL 34 (q_ref_Named A)) (hA : ∀ a0 a1 K, A2 a0 a1 K → A a0 a1 K) : FnOK sy Tryd.prog GT ovD GL 34 (q_ref_Named A2) := h.weak (by
  intro us k h
  unfold q_ref_Named at h ⊢
  split at h
  · exact hA _ _ _ h
  · exact h.elim)

def F_ref_Named_l2 (A58 : T_ref_Letter) (A57 : T_ref_Escape) (A59 : T_ref_Escaped) : Nat → List UInt8 → Int → List UInt8 → (List UInt8 → Int → Prop) → Prop
  | 0, _, _, _, _ => False
  | n + 1, x0, x1, x6, Kr => (((decide (x1 < (x0.length : Int))) = true → ((0 ≤ x1 ∧ x1 < (x0.length : Int)) ∧ (A58 ((x0.getD x1.toNat 0).toNat : Int) (fun y1 => ((y1 = true → (I64 (x1 + (1 : Int)) ∧ ((0 ≤ x1 ∧ x1 ≤ (x1 + (1 : Int)) ∧ (x1 + (1 : Int)) ≤ (x0.length : Int)) ∧ (x6.length + ((x0.drop x1.toNat).take ((x1 + (1 : Int)).toNat - x1.toNat)).length ≤ 1099511627776 ∧ (I64 (x1 + (1 : Int)) ∧ F_ref_Named_l2 A58 A57 A59 n x0 (x1 + (1 : Int)) (x6 ++ ((x0.drop x1.toNat).take ((x1 + (1 : Int)).toNat - x1.toNat))) Kr))))) ∧ (y1 = false → (((decide (x1 < (x0.length : Int))) = true → (A57 x0 x1 (fun y2 => ((y2 = true → (A59 x0 x1 (fun y3 y4 => (x6.length + y3.length ≤ 1099511627776 ∧ F_ref_Named_l2 A58 A57 A59 n x0 y4 (x6 ++ y3) Kr)))) ∧ (y2 = false → Kr x6 x1))))) ∧ ((decide (x1 < (x0.length : Int))) = false → Kr x6 x1)))))))) ∧ ((decide (x1 < (x0.length : Int))) = false → (((decide (x1 < (x0.length : Int))) = true → (A57 x0 x1 (fun y5 => ((y5 = true → (A59 x0 x1 (fun y6 y7 => (x6.length + y6.length ≤ 1099511627776 ∧ F_ref_Named_l2 A58 A57 A59 n x0 y7 (x6 ++ y6) Kr)))) ∧ (y5 = false → Kr x6 x1))))) ∧ ((decide (x1 < (x0.length : Int))) = false → Kr x6 x1))))

def F_ref_Named (A58 : T_ref_Letter) (A57 : T_ref_Escape) (A59 : T_ref_Escaped) (a0 : List UInt8) (a1 : Int) (K : List UInt8 → Int → Prop) : Prop :=
  (∃ m, F_ref_Named_l2 A58 A57 A59 m a0 a1 ([] : List UInt8) (fun y1 y2 => K y1 y2))

def C_ref_Named (A58 : T_ref_Letter) (A57 : T_ref_Escape) (A59 : T_ref_Escaped) : CallT sg := tab [(58, con [none] (q_ref_Letter A58)), (57, con [none, none] (q_ref_Escape A57)), (59, con [none, none] (q_ref_Escaped A59))]
theorem Cok_ref_Named (A58 : T_ref_Letter) (A57 : T_ref_Escape) (A59 : T_ref_Escaped) (h58 : FnOK sy Tryd.prog GT ovD GL 58 (q_ref_Letter A58)) (h57 : FnOK sy Tryd.prog GT ovD GL 57 (q_ref_Escape A57)) (h59 : FnOK sy Tryd.prog GT ovD GL 59 (q_ref_Escaped A59)) (o0 : Nat → Prop) : CalOK sy Tryd.prog GT ovD o0 GL (C_ref_Named A58 A57 A59) := (tab_cons (con_ok h58) (tab_cons (con_ok h57) (tab_cons (con_ok h59) tab_nil))) o0

def ls_ref_Named_2 : LS sy ((List UInt8) × Int × (List UInt8) × Unit) Unit := ⟨[], fCons 0 (vStr sy) (fCons 1 (vInt sy .i64) (fCons 6 (vStr sy) (fNil sy))), hNil sy, 0, []⟩
def le_ref_Named_2 : LS sy Unit Unit := ⟨[], fNil sy, hNil sy, 0, []⟩
def lr_ref_Named_2 : LS sy ((List UInt8) × Int × Unit) Unit := ⟨[], fCons 4 (vStr sy) (fCons 5 (vInt sy .i64) (fNil sy)), hNil sy, 0, []⟩
def FF_ref_Named_2 (A58 : T_ref_Letter) (A57 : T_ref_Escape) (A59 : T_ref_Escaped) (n : Nat) (x : ((List UInt8) × Int × (List UInt8) × Unit) × Unit) (K : Ex → Z sg → Prop) : Prop := F_ref_Named_l2 A58 A57 A59 n x.1.1 x.1.2.1 x.1.2.2.1 (fun y0 y1 => K .ret (lr_ref_Named_2.put ((y0, y1, ()), ())))
def h_ref_Named_2 (A58 : T_ref_Letter) (A57 : T_ref_Escape) (A59 : T_ref_Escaped) (z : Z sg) (K : Ex → Z sg → Prop) : Prop := ls_ref_Named_2.get z (fun x => ∃ n, FF_ref_Named_2 A58 A57 A59 n x K)
def L_ref_Named (A58 : T_ref_Letter) (A57 : T_ref_Escape) (A59 : T_ref_Escaped) : LoopT sg := tabL [(2, h_ref_Named_2 A58 A57 A59)]
theorem hs_ref_Named_2 (A58 : T_ref_Letter) (A57 : T_ref_Escape) (A59 : T_ref_Escaped) (n : Nat) (x : ((List UInt8) × Int × (List UInt8) × Unit) × Unit) (K : Ex → Z sg → Prop) : forceZ (ls_ref_Named_2.put x) (fun z => sC sy Tryd.prog GT (C_ref_Named A58 A57 A59) (L_ref_Named A58 A57 A59) Tryd.f34.ntmps (nthLoop (bodyOf Tryd.f34) 0) z (rnd ls_ref_Named_2 (czT 0 le_ref_Named_2 lr_ref_Named_2) (fun x => FF_ref_Named_2 A58 A57 A59 n x K) K)) = FF_ref_Named_2 A58 A57 A59 (n + 1) x K := by kernel_rfl
theorem hl_ref_Named_2 (A58 : T_ref_Letter) (A57 : T_ref_Escape) (A59 : T_ref_Escaped) (z : Z sg) (K : Ex → Z sg → Prop) : (L_ref_Named A58 A57 A59) (nthLoop (bodyOf Tryd.f34) 0) z K = ls_ref_Named_2.get z (fun x => ∃ n, FF_ref_Named_2 A58 A57 A59 n x K) := by kernel_rfl
theorem lo_ref_Named_2 (A58 : T_ref_Letter) (A57 : T_ref_Escape) (A59 : T_ref_Escaped) (h58 : FnOK sy Tryd.prog GT ovD GL 58 (q_ref_Letter A58)) (h57 : FnOK sy Tryd.prog GT ovD GL 57 (q_ref_Escape A57)) (h59 : FnOK sy Tryd.prog GT ovD GL 59 (q_ref_Escaped A59)) : ∀ (o0 : Nat → Prop) (B : Bs sg), B.E.length ≤ 0 → ∀ z K, (L_ref_Named A58 A57 A59) (nthLoop (bodyOf Tryd.f34) 0) z K → Sx.Sem sy Tryd.prog GT ovD o0 GL Tryd.f34.ntmps B (.loop (nthLoop (bodyOf Tryd.f34) 0)) z K :=
  loop_ok (Cok_ref_Named A58 A57 A59 h58 h57 h59) (lp_of (l := []) (by kernel_rfl) lp_nil) ls_ref_Named_2 (by decide) (czT 0 le_ref_Named_2 lr_ref_Named_2) (fun _ _ hB => czT_ok 0 le_ref_Named_2 lr_ref_Named_2 (Nat.le_trans hB (by decide)) (Nat.le_trans hB (by decide))) (fun _ _ h => h) (hs_ref_Named_2 A58 A57 A59) (hl_ref_Named_2 A58 A57 A59)
theorem Lp_ref_Named (A58 : T_ref_Letter) (A57 : T_ref_Escape) (A59 : T_ref_Escaped) (h58 : FnOK sy Tryd.prog GT ovD GL 58 (q_ref_Letter A58)) (h57 : FnOK sy Tryd.prog GT ovD GL 57 (q_ref_Escape A57)) (h59 : FnOK sy Tryd.prog GT ovD GL 59 (q_ref_Escaped A59)) : LpOK sy Tryd.prog GT ovD GL (L_ref_Named A58 A57 A59) 0 Tryd.f34.ntmps (bodyOf Tryd.f34) := lp_of (l := [(nthLoop (bodyOf Tryd.f34) 0)]) (by kernel_rfl) (lp_cons (lo_ref_Named_2 A58 A57 A59 h58 h57 h59) lp_nil)


theorem raw_ref_Named (A58 : T_ref_Letter) (A57 : T_ref_Escape) (A59 : T_ref_Escaped) (a0 : List UInt8) (a1 : Int) (k : W → Prop) : fnT sy Tryd.prog GT (C_ref_Named A58 A57 A59) (L_ref_Named A58 A57 A59) Tryd.f34.ntmps (bodyOf Tryd.f34) [none, none] Tryd.f34.results.toList [.s a0, .i .i64 a1] k = F_ref_Named A58 A57 A59 a0 a1 (fun r0 r1 => k (.t [.s r0, .i .i64 r1])) := by kernel_rfl

theorem ok_ref_Named (A58 : T_ref_Letter) (A57 : T_ref_Escape) (A59 : T_ref_Escaped) (h58 : FnOK sy Tryd.prog GT ovD GL 58 (q_ref_Letter A58)) (h57 : FnOK sy Tryd.prog GT ovD GL 57 (q_ref_Escape A57)) (h59 : FnOK sy Tryd.prog GT ovD GL 59 (q_ref_Escaped A59)) : FnOK sy Tryd.prog GT ovD GL 34 (q_ref_Named (F_ref_Named A58 A57 A59)) := (fn_ok (rc := [none, none]) (f := 34) (fn := Tryd.f34) (c := bodyOf Tryd.f34) (nt := Tryd.f34.ntmps) (res := Tryd.f34.results.toList) (C := C_ref_Named A58 A57 A59) (L := (L_ref_Named A58 A57 A59)) (fun _ => rfl) Tryd.func34 (by kernel_rfl) rfl rfl (Cok_ref_Named A58 A57 A59 h58 h57 h59) (Lp_ref_Named A58 A57 A59 h58 h57 h59)).weak (by
  intro us k h
  unfold q_ref_Named at h
  split at h
  · skip
    rename_i a0 a1
    rw [raw_ref_Named A58 A57 A59 a0 a1 k]
    exact h
  · exact h.elim)

abbrev T_ref_Name := List UInt8 → (List UInt8 → Int → Prop) → Prop
def q_ref_Name (A : T_ref_Name) (us : List W) (k : W → Prop) : Prop := match us with
  | [.s a0] => A a0 (fun r0 r1 => k (.t [.s r0, .i .i64 r1]))
  | _ => False
theorem q_ref_Name_weak {A A2 : T_ref_Name} (h : FnOK sy Tryd.prog GT ovD GL 17 (q_ref_Name A)) (hA : ∀ a0 K, A2 a0 K → A a0 K) : FnOK sy Tryd.prog GT ovD GL 17 (q_ref_Name A2) := h.weak (by
  intro us k h
  unfold q_ref_Name at h ⊢
  split at h
  · exact hA _ _ h
  · exact h.elim)

def F_ref_Name (A33 : T_ref_NameAt) (A34 : T_ref_Named) (a0 : List UInt8) (K : List UInt8 → Int → Prop) : Prop :=
  (((decide ((4000 : Int) < (a0.length : Int))) = true → K ([] : List UInt8) (28 : Int)) ∧ ((decide ((4000 : Int) < (a0.length : Int))) = false → (A33 a0 (0 : Int) (fun y1 => (((!y1) = true → K ([] : List UInt8) (12 : Int)) ∧ ((!y1) = false → (A34 a0 (0 : Int) (fun y2 y3 => (((decide (y3 ≠ (a0.length : Int))) = true → K ([] : List UInt8) (12 : Int)) ∧ ((decide (y3 ≠ (a0.length : Int))) = false → K y2 (0 : Int)))))))))))

def C_ref_Name (A33 : T_ref_NameAt) (A34 : T_ref_Named) : CallT sg := tab [(33, con [none, none] (q_ref_NameAt A33)), (34, con [none, none] (q_ref_Named A34))]
theorem Cok_ref_Name (A33 : T_ref_NameAt) (A34 : T_ref_Named) (h33 : FnOK sy Tryd.prog GT ovD GL 33 (q_ref_NameAt A33)) (h34 : FnOK sy Tryd.prog GT ovD GL 34 (q_ref_Named A34)) (o0 : Nat → Prop) : CalOK sy Tryd.prog GT ovD o0 GL (C_ref_Name A33 A34) := (tab_cons (con_ok h33) (tab_cons (con_ok h34) tab_nil)) o0

theorem raw_ref_Name (A33 : T_ref_NameAt) (A34 : T_ref_Named) (a0 : List UInt8) (k : W → Prop) : fnT sy Tryd.prog GT (C_ref_Name A33 A34) noL Tryd.f17.ntmps (bodyOf Tryd.f17) [none, none] Tryd.f17.results.toList [.s a0] k = F_ref_Name A33 A34 a0 (fun r0 r1 => k (.t [.s r0, .i .i64 r1])) := by kernel_rfl

theorem ok_ref_Name (A33 : T_ref_NameAt) (A34 : T_ref_Named) (h33 : FnOK sy Tryd.prog GT ovD GL 33 (q_ref_NameAt A33)) (h34 : FnOK sy Tryd.prog GT ovD GL 34 (q_ref_Named A34)) : FnOK sy Tryd.prog GT ovD GL 17 (q_ref_Name (F_ref_Name A33 A34)) := (fn_ok (rc := [none, none]) (f := 17) (fn := Tryd.f17) (c := bodyOf Tryd.f17) (nt := Tryd.f17.ntmps) (res := Tryd.f17.results.toList) (C := C_ref_Name A33 A34) (L := noL) (fun _ => rfl) Tryd.func17 (by kernel_rfl) rfl rfl (Cok_ref_Name A33 A34 h33 h34) (lp_of (l := []) (by kernel_rfl) lp_nil)).weak (by
  intro us k h
  unfold q_ref_Name at h
  split at h
  · skip
    rename_i a0
    rw [raw_ref_Name A33 A34 a0 k]
    exact h
  · exact h.elim)

abbrev T_ref_NumberAt := List UInt8 → Int → (Bool → Prop) → Prop
def q_ref_NumberAt (A : T_ref_NumberAt) (us : List W) (k : W → Prop) : Prop := match us with
  | [.s a0, .i .i64 a1] => A a0 a1 (fun r0 => k (.b r0))
  | _ => False
theorem q_ref_NumberAt_weak {A A2 : T_ref_NumberAt} (h : FnOK sy Tryd.prog GT ovD GL 30 (q_ref_NumberAt A)) (hA : ∀ a0 a1 K, A2 a0 a1 K → A a0 a1 K) : FnOK sy Tryd.prog GT ovD GL 30 (q_ref_NumberAt A2) := h.weak (by
  intro us k h
  unfold q_ref_NumberAt at h ⊢
  split at h
  · exact hA _ _ _ h
  · exact h.elim)

def F_ref_NumberAt (A53 : T_ref_At) (A54 : T_ref_Digit) (a0 : List UInt8) (a1 : Int) (K : Bool → Prop) : Prop :=
  (A53 a0 a1 (fun y1 => (((decide (y1 = (43 : Int))) = false → (((decide (y1 = (45 : Int))) = true → (I64 (a1 + (1 : Int)) ∧ (A53 a0 (a1 + (1 : Int)) (fun y2 => (((decide (y2 = (46 : Int))) = true → (I64 ((a1 + (1 : Int)) + (1 : Int)) ∧ (A53 a0 ((a1 + (1 : Int)) + (1 : Int)) (fun y3 => (A54 y3 (fun y4 => K y4)))))) ∧ ((decide (y2 = (46 : Int))) = false → (A53 a0 (a1 + (1 : Int)) (fun y5 => (A54 y5 (fun y6 => K y6)))))))))) ∧ ((decide (y1 = (45 : Int))) = false → (A53 a0 a1 (fun y7 => (((decide (y7 = (46 : Int))) = true → (I64 (a1 + (1 : Int)) ∧ (A53 a0 (a1 + (1 : Int)) (fun y8 => (A54 y8 (fun y9 => K y9)))))) ∧ ((decide (y7 = (46 : Int))) = false → (A53 a0 a1 (fun y10 => (A54 y10 (fun y11 => K y11))))))))))) ∧ ((decide (y1 = (43 : Int))) = true → (I64 (a1 + (1 : Int)) ∧ (A53 a0 (a1 + (1 : Int)) (fun y12 => (((decide (y12 = (46 : Int))) = true → (I64 ((a1 + (1 : Int)) + (1 : Int)) ∧ (A53 a0 ((a1 + (1 : Int)) + (1 : Int)) (fun y13 => (A54 y13 (fun y14 => K y14)))))) ∧ ((decide (y12 = (46 : Int))) = false → (A53 a0 (a1 + (1 : Int)) (fun y15 => (A54 y15 (fun y16 => K y16)))))))))))))

def C_ref_NumberAt (A53 : T_ref_At) (A54 : T_ref_Digit) : CallT sg := tab [(53, con [none, none] (q_ref_At A53)), (54, con [none] (q_ref_Digit A54))]
theorem Cok_ref_NumberAt (A53 : T_ref_At) (A54 : T_ref_Digit) (h53 : FnOK sy Tryd.prog GT ovD GL 53 (q_ref_At A53)) (h54 : FnOK sy Tryd.prog GT ovD GL 54 (q_ref_Digit A54)) (o0 : Nat → Prop) : CalOK sy Tryd.prog GT ovD o0 GL (C_ref_NumberAt A53 A54) := (tab_cons (con_ok h53) (tab_cons (con_ok h54) tab_nil)) o0

theorem raw_ref_NumberAt (A53 : T_ref_At) (A54 : T_ref_Digit) (a0 : List UInt8) (a1 : Int) (k : W → Prop) : fnT sy Tryd.prog GT (C_ref_NumberAt A53 A54) noL Tryd.f30.ntmps (bodyOf Tryd.f30) [none] Tryd.f30.results.toList [.s a0, .i .i64 a1] k = F_ref_NumberAt A53 A54 a0 a1 (fun r0 => k (.b r0)) := by kernel_rfl

theorem ok_ref_NumberAt (A53 : T_ref_At) (A54 : T_ref_Digit) (h53 : FnOK sy Tryd.prog GT ovD GL 53 (q_ref_At A53)) (h54 : FnOK sy Tryd.prog GT ovD GL 54 (q_ref_Digit A54)) : FnOK sy Tryd.prog GT ovD GL 30 (q_ref_NumberAt (F_ref_NumberAt A53 A54)) := (fn_ok (rc := [none]) (f := 30) (fn := Tryd.f30) (c := bodyOf Tryd.f30) (nt := Tryd.f30.ntmps) (res := Tryd.f30.results.toList) (C := C_ref_NumberAt A53 A54) (L := noL) (fun _ => rfl) Tryd.func30 (by kernel_rfl) rfl rfl (Cok_ref_NumberAt A53 A54 h53 h54) (lp_of (l := []) (by kernel_rfl) lp_nil)).weak (by
  intro us k h
  unfold q_ref_NumberAt at h
  split at h
  · skip
    rename_i a0 a1
    rw [raw_ref_NumberAt A53 A54 a0 a1 k]
    exact h
  · exact h.elim)

abbrev T_ref_NumberEnd := List UInt8 → Int → (Int → Bool → Prop) → Prop
def q_ref_NumberEnd (A : T_ref_NumberEnd) (us : List W) (k : W → Prop) : Prop := match us with
  | [.s a0, .i .i64 a1] => A a0 a1 (fun r0 r1 => k (.t [.i .i64 r0, .b r1]))
  | _ => False
theorem q_ref_NumberEnd_weak {A A2 : T_ref_NumberEnd} (h : FnOK sy Tryd.prog GT ovD GL 31 (q_ref_NumberEnd A)) (hA : ∀ a0 a1 K, A2 a0 a1 K → A a0 a1 K) : FnOK sy Tryd.prog GT ovD GL 31 (q_ref_NumberEnd A2) := h.weak (by
  intro us k h
  unfold q_ref_NumberEnd at h ⊢
  split at h
  · exact hA _ _ _ h
  · exact h.elim)

def F_ref_NumberEnd (A53 : T_ref_At) (A55 : T_ref_digits) (A54 : T_ref_Digit) (a0 : List UInt8) (a1 : Int) (K : Int → Bool → Prop) : Prop :=
  (A53 a0 a1 (fun y1 => (((decide (y1 = (43 : Int))) = false → (((decide (y1 = (45 : Int))) = true → (I64 (a1 + (1 : Int)) ∧ (A55 a0 (a1 + (1 : Int)) (fun y2 => (A53 a0 y2 (fun y3 => (((decide (y3 = (46 : Int))) = true → (I64 (y2 + (1 : Int)) ∧ (A53 a0 (y2 + (1 : Int)) (fun y4 => (A54 y4 (fun y5 => ((y5 = true → (I64 (y2 + (1 : Int)) ∧ (A55 a0 (y2 + (1 : Int)) (fun y6 => (A53 a0 y6 (fun y7 => (((decide (y7 = (101 : Int))) = false → (((decide (y7 = (69 : Int))) = true → (I64 (y6 + (1 : Int)) ∧ (A53 a0 (y6 + (1 : Int)) (fun y8 => (((decide (y8 = (43 : Int))) = false → (((decide (y8 = (45 : Int))) = true → (I64 ((y6 + (1 : Int)) + (1 : Int)) ∧ (A53 a0 ((y6 + (1 : Int)) + (1 : Int)) (fun y9 => (A54 y9 (fun y10 => ((y10 = true → (A55 a0 ((y6 + (1 : Int)) + (1 : Int)) (fun y11 => K y11 false))) ∧ (y10 = false → K y6 false)))))))) ∧ ((decide (y8 = (45 : Int))) = false → (A53 a0 (y6 + (1 : Int)) (fun y12 => (A54 y12 (fun y13 => ((y13 = true → (A55 a0 (y6 + (1 : Int)) (fun y14 => K y14 false))) ∧ (y13 = false → K y6 false))))))))) ∧ ((decide (y8 = (43 : Int))) = true → (I64 ((y6 + (1 : Int)) + (1 : Int)) ∧ (A53 a0 ((y6 + (1 : Int)) + (1 : Int)) (fun y15 => (A54 y15 (fun y16 => ((y16 = true → (A55 a0 ((y6 + (1 : Int)) + (1 : Int)) (fun y17 => K y17 false))) ∧ (y16 = false → K y6 false))))))))))))) ∧ ((decide (y7 = (69 : Int))) = false → K y6 false))) ∧ ((decide (y7 = (101 : Int))) = true → (I64 (y6 + (1 : Int)) ∧ (A53 a0 (y6 + (1 : Int)) (fun y18 => (((decide (y18 = (43 : Int))) = false → (((decide (y18 = (45 : Int))) = true → (I64 ((y6 + (1 : Int)) + (1 : Int)) ∧ (A53 a0 ((y6 + (1 : Int)) + (1 : Int)) (fun y19 => (A54 y19 (fun y20 => ((y20 = true → (A55 a0 ((y6 + (1 : Int)) + (1 : Int)) (fun y21 => K y21 false))) ∧ (y20 = false → K y6 false)))))))) ∧ ((decide (y18 = (45 : Int))) = false → (A53 a0 (y6 + (1 : Int)) (fun y22 => (A54 y22 (fun y23 => ((y23 = true → (A55 a0 (y6 + (1 : Int)) (fun y24 => K y24 false))) ∧ (y23 = false → K y6 false))))))))) ∧ ((decide (y18 = (43 : Int))) = true → (I64 ((y6 + (1 : Int)) + (1 : Int)) ∧ (A53 a0 ((y6 + (1 : Int)) + (1 : Int)) (fun y25 => (A54 y25 (fun y26 => ((y26 = true → (A55 a0 ((y6 + (1 : Int)) + (1 : Int)) (fun y27 => K y27 false))) ∧ (y26 = false → K y6 false)))))))))))))))))))) ∧ (y5 = false → (A53 a0 y2 (fun y28 => (((decide (y28 = (101 : Int))) = false → (((decide (y28 = (69 : Int))) = true → (I64 (y2 + (1 : Int)) ∧ (A53 a0 (y2 + (1 : Int)) (fun y29 => (((decide (y29 = (43 : Int))) = false → (((decide (y29 = (45 : Int))) = true → (I64 ((y2 + (1 : Int)) + (1 : Int)) ∧ (A53 a0 ((y2 + (1 : Int)) + (1 : Int)) (fun y30 => (A54 y30 (fun y31 => ((y31 = true → (A55 a0 ((y2 + (1 : Int)) + (1 : Int)) (fun y32 => K y32 false))) ∧ (y31 = false → K y2 true)))))))) ∧ ((decide (y29 = (45 : Int))) = false → (A53 a0 (y2 + (1 : Int)) (fun y33 => (A54 y33 (fun y34 => ((y34 = true → (A55 a0 (y2 + (1 : Int)) (fun y35 => K y35 false))) ∧ (y34 = false → K y2 true))))))))) ∧ ((decide (y29 = (43 : Int))) = true → (I64 ((y2 + (1 : Int)) + (1 : Int)) ∧ (A53 a0 ((y2 + (1 : Int)) + (1 : Int)) (fun y36 => (A54 y36 (fun y37 => ((y37 = true → (A55 a0 ((y2 + (1 : Int)) + (1 : Int)) (fun y38 => K y38 false))) ∧ (y37 = false → K y2 true))))))))))))) ∧ ((decide (y28 = (69 : Int))) = false → K y2 true))) ∧ ((decide (y28 = (101 : Int))) = true → (I64 (y2 + (1 : Int)) ∧ (A53 a0 (y2 + (1 : Int)) (fun y39 => (((decide (y39 = (43 : Int))) = false → (((decide (y39 = (45 : Int))) = true → (I64 ((y2 + (1 : Int)) + (1 : Int)) ∧ (A53 a0 ((y2 + (1 : Int)) + (1 : Int)) (fun y40 => (A54 y40 (fun y41 => ((y41 = true → (A55 a0 ((y2 + (1 : Int)) + (1 : Int)) (fun y42 => K y42 false))) ∧ (y41 = false → K y2 true)))))))) ∧ ((decide (y39 = (45 : Int))) = false → (A53 a0 (y2 + (1 : Int)) (fun y43 => (A54 y43 (fun y44 => ((y44 = true → (A55 a0 (y2 + (1 : Int)) (fun y45 => K y45 false))) ∧ (y44 = false → K y2 true))))))))) ∧ ((decide (y39 = (43 : Int))) = true → (I64 ((y2 + (1 : Int)) + (1 : Int)) ∧ (A53 a0 ((y2 + (1 : Int)) + (1 : Int)) (fun y46 => (A54 y46 (fun y47 => ((y47 = true → (A55 a0 ((y2 + (1 : Int)) + (1 : Int)) (fun y48 => K y48 false))) ∧ (y47 = false → K y2 true)))))))))))))))))))))))) ∧ ((decide (y3 = (46 : Int))) = false → (A53 a0 y2 (fun y49 => (((decide (y49 = (101 : Int))) = false → (((decide (y49 = (69 : Int))) = true → (I64 (y2 + (1 : Int)) ∧ (A53 a0 (y2 + (1 : Int)) (fun y50 => (((decide (y50 = (43 : Int))) = false → (((decide (y50 = (45 : Int))) = true → (I64 ((y2 + (1 : Int)) + (1 : Int)) ∧ (A53 a0 ((y2 + (1 : Int)) + (1 : Int)) (fun y51 => (A54 y51 (fun y52 => ((y52 = true → (A55 a0 ((y2 + (1 : Int)) + (1 : Int)) (fun y53 => K y53 false))) ∧ (y52 = false → K y2 true)))))))) ∧ ((decide (y50 = (45 : Int))) = false → (A53 a0 (y2 + (1 : Int)) (fun y54 => (A54 y54 (fun y55 => ((y55 = true → (A55 a0 (y2 + (1 : Int)) (fun y56 => K y56 false))) ∧ (y55 = false → K y2 true))))))))) ∧ ((decide (y50 = (43 : Int))) = true → (I64 ((y2 + (1 : Int)) + (1 : Int)) ∧ (A53 a0 ((y2 + (1 : Int)) + (1 : Int)) (fun y57 => (A54 y57 (fun y58 => ((y58 = true → (A55 a0 ((y2 + (1 : Int)) + (1 : Int)) (fun y59 => K y59 false))) ∧ (y58 = false → K y2 true))))))))))))) ∧ ((decide (y49 = (69 : Int))) = false → K y2 true))) ∧ ((decide (y49 = (101 : Int))) = true → (I64 (y2 + (1 : Int)) ∧ (A53 a0 (y2 + (1 : Int)) (fun y60 => (((decide (y60 = (43 : Int))) = false → (((decide (y60 = (45 : Int))) = true → (I64 ((y2 + (1 : Int)) + (1 : Int)) ∧ (A53 a0 ((y2 + (1 : Int)) + (1 : Int)) (fun y61 => (A54 y61 (fun y62 => ((y62 = true → (A55 a0 ((y2 + (1 : Int)) + (1 : Int)) (fun y63 => K y63 false))) ∧ (y62 = false → K y2 true)))))))) ∧ ((decide (y60 = (45 : Int))) = false → (A53 a0 (y2 + (1 : Int)) (fun y64 => (A54 y64 (fun y65 => ((y65 = true → (A55 a0 (y2 + (1 : Int)) (fun y66 => K y66 false))) ∧ (y65 = false → K y2 true))))))))) ∧ ((decide (y60 = (43 : Int))) = true → (I64 ((y2 + (1 : Int)) + (1 : Int)) ∧ (A53 a0 ((y2 + (1 : Int)) + (1 : Int)) (fun y67 => (A54 y67 (fun y68 => ((y68 = true → (A55 a0 ((y2 + (1 : Int)) + (1 : Int)) (fun y69 => K y69 false))) ∧ (y68 = false → K y2 true)))))))))))))))))))))))) ∧ ((decide (y1 = (45 : Int))) = false → (A55 a0 a1 (fun y70 => (A53 a0 y70 (fun y71 => (((decide (y71 = (46 : Int))) = true → (I64 (y70 + (1 : Int)) ∧ (A53 a0 (y70 + (1 : Int)) (fun y72 => (A54 y72 (fun y73 => ((y73 = true → (I64 (y70 + (1 : Int)) ∧ (A55 a0 (y70 + (1 : Int)) (fun y74 => (A53 a0 y74 (fun y75 => (((decide (y75 = (101 : Int))) = false → (((decide (y75 = (69 : Int))) = true → (I64 (y74 + (1 : Int)) ∧ (A53 a0 (y74 + (1 : Int)) (fun y76 => (((decide (y76 = (43 : Int))) = false → (((decide (y76 = (45 : Int))) = true → (I64 ((y74 + (1 : Int)) + (1 : Int)) ∧ (A53 a0 ((y74 + (1 : Int)) + (1 : Int)) (fun y77 => (A54 y77 (fun y78 => ((y78 = true → (A55 a0 ((y74 + (1 : Int)) + (1 : Int)) (fun y79 => K y79 false))) ∧ (y78 = false → K y74 false)))))))) ∧ ((decide (y76 = (45 : Int))) = false → (A53 a0 (y74 + (1 : Int)) (fun y80 => (A54 y80 (fun y81 => ((y81 = true → (A55 a0 (y74 + (1 : Int)) (fun y82 => K y82 false))) ∧ (y81 = false → K y74 false))))))))) ∧ ((decide (y76 = (43 : Int))) = true → (I64 ((y74 + (1 : Int)) + (1 : Int)) ∧ (A53 a0 ((y74 + (1 : Int)) + (1 : Int)) (fun y83 => (A54 y83 (fun y84 => ((y84 = true → (A55 a0 ((y74 + (1 : Int)) + (1 : Int)) (fun y85 => K y85 false))) ∧ (y84 = false → K y74 false))))))))))))) ∧ ((decide (y75 = (69 : Int))) = false → K y74 false))) ∧ ((decide (y75 = (101 : Int))) = true → (I64 (y74 + (1 : Int)) ∧ (A53 a0 (y74 + (1 : Int)) (fun y86 => (((decide (y86 = (43 : Int))) = false → (((decide (y86 = (45 : Int))) = true → (I64 ((y74 + (1 : Int)) + (1 : Int)) ∧ (A53 a0 ((y74 + (1 : Int)) + (1 : Int)) (fun y87 => (A54 y87 (fun y88 => ((y88 = true → (A55 a0 ((y74 + (1 : Int)) + (1 : Int)) (fun y89 => K y89 false))) ∧ (y88 = false → K y74 false)))))))) ∧ ((decide (y86 = (45 : Int))) = false → (A53 a0 (y74 + (1 : Int)) (fun y90 => (A54 y90 (fun y91 => ((y91 = true → (A55 a0 (y74 + (1 : Int)) (fun y92 => K y92 false))) ∧ (y91 = false → K y74 false))))))))) ∧ ((decide (y86 = (43 : Int))) = true → (I64 ((y74 + (1 : Int)) + (1 : Int)) ∧ (A53 a0 ((y74 + (1 : Int)) + (1 : Int)) (fun y93 => (A54 y93 (fun y94 => ((y94 = true → (A55 a0 ((y74 + (1 : Int)) + (1 : Int)) (fun y95 => K y95 false))) ∧ (y94 = false → K y74 false)))))))))))))))))))) ∧ (y73 = false → (A53 a0 y70 (fun y96 => (((decide (y96 = (101 : Int))) = false → (((decide (y96 = (69 : Int))) = true → (I64 (y70 + (1 : Int)) ∧ (A53 a0 (y70 + (1 : Int)) (fun y97 => (((decide (y97 = (43 : Int))) = false → (((decide (y97 = (45 : Int))) = true → (I64 ((y70 + (1 : Int)) + (1 : Int)) ∧ (A53 a0 ((y70 + (1 : Int)) + (1 : Int)) (fun y98 => (A54 y98 (fun y99 => ((y99 = true → (A55 a0 ((y70 + (1 : Int)) + (1 : Int)) (fun y100 => K y100 false))) ∧ (y99 = false → K y70 true)))))))) ∧ ((decide (y97 = (45 : Int))) = false → (A53 a0 (y70 + (1 : Int)) (fun y101 => (A54 y101 (fun y102 => ((y102 = true → (A55 a0 (y70 + (1 : Int)) (fun y103 => K y103 false))) ∧ (y102 = false → K y70 true))))))))) ∧ ((decide (y97 = (43 : Int))) = true → (I64 ((y70 + (1 : Int)) + (1 : Int)) ∧ (A53 a0 ((y70 + (1 : Int)) + (1 : Int)) (fun y104 => (A54 y104 (fun y105 => ((y105 = true → (A55 a0 ((y70 + (1 : Int)) + (1 : Int)) (fun y106 => K y106 false))) ∧ (y105 = false → K y70 true))))))))))))) ∧ ((decide (y96 = (69 : Int))) = false → K y70 true))) ∧ ((decide (y96 = (101 : Int))) = true → (I64 (y70 + (1 : Int)) ∧ (A53 a0 (y70 + (1 : Int)) (fun y107 => (((decide (y107 = (43 : Int))) = false → (((decide (y107 = (45 : Int))) = true → (I64 ((y70 + (1 : Int)) + (1 : Int)) ∧ (A53 a0 ((y70 + (1 : Int)) + (1 : Int)) (fun y108 => (A54 y108 (fun y109 => ((y109 = true → (A55 a0 ((y70 + (1 : Int)) + (1 : Int)) (fun y110 => K y110 false))) ∧ (y109 = false → K y70 true)))))))) ∧ ((decide (y107 = (45 : Int))) = false → (A53 a0 (y70 + (1 : Int)) (fun y111 => (A54 y111 (fun y112 => ((y112 = true → (A55 a0 (y70 + (1 : Int)) (fun y113 => K y113 false))) ∧ (y112 = false → K y70 true))))))))) ∧ ((decide (y107 = (43 : Int))) = true → (I64 ((y70 + (1 : Int)) + (1 : Int)) ∧ (A53 a0 ((y70 + (1 : Int)) + (1 : Int)) (fun y114 => (A54 y114 (fun y115 => ((y115 = true → (A55 a0 ((y70 + (1 : Int)) + (1 : Int)) (fun y116 => K y116 false))) ∧ (y115 = false → K y70 true)))))))))))))))))))))))) ∧ ((decide (y71 = (46 : Int))) = false → (A53 a0 y70 (fun y117 => (((decide (y117 = (101 : Int))) = false → (((decide (y117 = (69 : Int))) = true → (I64 (y70 + (1 : Int)) ∧ (A53 a0 (y70 + (1 : Int)) (fun y118 => (((decide (y118 = (43 : Int))) = false → (((decide (y118 = (45 : Int))) = true → (I64 ((y70 + (1 : Int)) + (1 : Int)) ∧ (A53 a0 ((y70 + (1 : Int)) + (1 : Int)) (fun y119 => (A54 y119 (fun y120 => ((y120 = true → (A55 a0 ((y70 + (1 : Int)) + (1 : Int)) (fun y121 => K y121 false))) ∧ (y120 = false → K y70 true)))))))) ∧ ((decide (y118 = (45 : Int))) = false → (A53 a0 (y70 + (1 : Int)) (fun y122 => (A54 y122 (fun y123 => ((y123 = true → (A55 a0 (y70 + (1 : Int)) (fun y124 => K y124 false))) ∧ (y123 = false → K y70 true))))))))) ∧ ((decide (y118 = (43 : Int))) = true → (I64 ((y70 + (1 : Int)) + (1 : Int)) ∧ (A53 a0 ((y70 + (1 : Int)) + (1 : Int)) (fun y125 => (A54 y125 (fun y126 => ((y126 = true → (A55 a0 ((y70 + (1 : Int)) + (1 : Int)) (fun y127 => K y127 false))) ∧ (y126 = false → K y70 true))))))))))))) ∧ ((decide (y117 = (69 : Int))) = false → K y70 true))) ∧ ((decide (y117 = (101 : Int))) = true → (I64 (y70 + (1 : Int)) ∧ (A53 a0 (y70 + (1 : Int)) (fun y128 => (((decide (y128 = (43 : Int))) = false → (((decide (y128 = (45 : Int))) = true → (I64 ((y70 + (1 : Int)) + (1 : Int)) ∧ (A53 a0 ((y70 + (1 : Int)) + (1 : Int)) (fun y129 => (A54 y129 (fun y130 => ((y130 = true → (A55 a0 ((y70 + (1 : Int)) + (1 : Int)) (fun y131 => K y131 false))) ∧ (y130 = false → K y70 true)))))))) ∧ ((decide (y128 = (45 : Int))) = false → (A53 a0 (y70 + (1 : Int)) (fun y132 => (A54 y132 (fun y133 => ((y133 = true → (A55 a0 (y70 + (1 : Int)) (fun y134 => K y134 false))) ∧ (y133 = false → K y70 true))))))))) ∧ ((decide (y128 = (43 : Int))) = true → (I64 ((y70 + (1 : Int)) + (1 : Int)) ∧ (A53 a0 ((y70 + (1 : Int)) + (1 : Int)) (fun y135 => (A54 y135 (fun y136 => ((y136 = true → (A55 a0 ((y70 + (1 : Int)) + (1 : Int)) (fun y137 => K y137 false))) ∧ (y136 = false → K y70 true))))))))))))))))))))))))) ∧ ((decide (y1 = (43 : Int))) = true → (I64 (a1 + (1 : Int)) ∧ (A55 a0 (a1 + (1 : Int)) (fun y138 => (A53 a0 y138 (fun y139 => (((decide (y139 = (46 : Int))) = true → (I64 (y138 + (1 : Int)) ∧ (A53 a0 (y138 + (1 : Int)) (fun y140 => (A54 y140 (fun y141 => ((y141 = true → (I64 (y138 + (1 : Int)) ∧ (A55 a0 (y138 + (1 : Int)) (fun y142 => (A53 a0 y142 (fun y143 => (((decide (y143 = (101 : Int))) = false → (((decide (y143 = (69 : Int))) = true → (I64 (y142 + (1 : Int)) ∧ (A53 a0 (y142 + (1 : Int)) (fun y144 => (((decide (y144 = (43 : Int))) = false → (((decide (y144 = (45 : Int))) = true → (I64 ((y142 + (1 : Int)) + (1 : Int)) ∧ (A53 a0 ((y142 + (1 : Int)) + (1 : Int)) (fun y145 => (A54 y145 (fun y146 => ((y146 = true → (A55 a0 ((y142 + (1 : Int)) + (1 : Int)) (fun y147 => K y147 false))) ∧ (y146 = false → K y142 false)))))))) ∧ ((decide (y144 = (45 : Int))) = false → (A53 a0 (y142 + (1 : Int)) (fun y148 => (A54 y148 (fun y149 => ((y149 = true → (A55 a0 (y142 + (1 : Int)) (fun y150 => K y150 false))) ∧ (y149 = false → K y142 false))))))))) ∧ ((decide (y144 = (43 : Int))) = true → (I64 ((y142 + (1 : Int)) + (1 : Int)) ∧ (A53 a0 ((y142 + (1 : Int)) + (1 : Int)) (fun y151 => (A54 y151 (fun y152 => ((y152 = true → (A55 a0 ((y142 + (1 : Int)) + (1 : Int)) (fun y153 => K y153 false))) ∧ (y152 = false → K y142 false))))))))))))) ∧ ((decide (y143 = (69 : Int))) = false → K y142 false))) ∧ ((decide (y143 = (101 : Int))) = true → (I64 (y142 + (1 : Int)) ∧ (A53 a0 (y142 + (1 : Int)) (fun y154 => (((decide (y154 = (43 : Int))) = false → (((decide (y154 = (45 : Int))) = true → (I64 ((y142 + (1 : Int)) + (1 : Int)) ∧ (A53 a0 ((y142 + (1 : Int)) + (1 : Int)) (fun y155 => (A54 y155 (fun y156 => ((y156 = true → (A55 a0 ((y142 + (1 : Int)) + (1 : Int)) (fun y157 => K y157 false))) ∧ (y156 = false → K y142 false)))))))) ∧ ((decide (y154 = (45 : Int))) = false → (A53 a0 (y142 + (1 : Int)) (fun y158 => (A54 y158 (fun y159 => ((y159 = true → (A55 a0 (y142 + (1 : Int)) (fun y160 => K y160 false))) ∧ (y159 = false → K y142 false))))))))) ∧ ((decide (y154 = (43 : Int))) = true → (I64 ((y142 + (1 : Int)) + (1 : Int)) ∧ (A53 a0 ((y142 + (1 : Int)) + (1 : Int)) (fun y161 => (A54 y161 (fun y162 => ((y162 = true → (A55 a0 ((y142 + (1 : Int)) + (1 : Int)) (fun y163 => K y163 false))) ∧ (y162 = false → K y142 false)))))))))))))))))))) ∧ (y141 = false → (A53 a0 y138 (fun y164 => (((decide (y164 = (101 : Int))) = false → (((decide (y164 = (69 : Int))) = true → (I64 (y138 + (1 : Int)) ∧ (A53 a0 (y138 + (1 : Int)) (fun y165 => (((decide (y165 = (43 : Int))) = false → (((decide (y165 = (45 : Int))) = true → (I64 ((y138 + (1 : Int)) + (1 : Int)) ∧ (A53 a0 ((y138 + (1 : Int)) + (1 : Int)) (fun y166 => (A54 y166 (fun y167 => ((y167 = true → (A55 a0 ((y138 + (1 : Int)) + (1 : Int)) (fun y168 => K y168 false))) ∧ (y167 = false → K y138 true)))))))) ∧ ((decide (y165 = (45 : Int))) = false → (A53 a0 (y138 + (1 : Int)) (fun y169 => (A54 y169 (fun y170 => ((y170 = true → (A55 a0 (y138 + (1 : Int)) (fun y171 => K y171 false))) ∧ (y170 = false → K y138 true))))))))) ∧ ((decide (y165 = (43 : Int))) = true → (I64 ((y138 + (1 : Int)) + (1 : Int)) ∧ (A53 a0 ((y138 + (1 : Int)) + (1 : Int)) (fun y172 => (A54 y172 (fun y173 => ((y173 = true → (A55 a0 ((y138 + (1 : Int)) + (1 : Int)) (fun y174 => K y174 false))) ∧ (y173 = false → K y138 true))))))))))))) ∧ ((decide (y164 = (69 : Int))) = false → K y138 true))) ∧ ((decide (y164 = (101 : Int))) = true → (I64 (y138 + (1 : Int)) ∧ (A53 a0 (y138 + (1 : Int)) (fun y175 => (((decide (y175 = (43 : Int))) = false → (((decide (y175 = (45 : Int))) = true → (I64 ((y138 + (1 : Int)) + (1 : Int)) ∧ (A53 a0 ((y138 + (1 : Int)) + (1 : Int)) (fun y176 => (A54 y176 (fun y177 => ((y177 = true → (A55 a0 ((y138 + (1 : Int)) + (1 : Int)) (fun y178 => K y178 false))) ∧ (y177 = false → K y138 true)))))))) ∧ ((decide (y175 = (45 : Int))) = false → (A53 a0 (y138 + (1 : Int)) (fun y179 => (A54 y179 (fun y180 => ((y180 = true → (A55 a0 (y138 + (1 : Int)) (fun y181 => K y181 false))) ∧ (y180 = false → K y138 true))))))))) ∧ ((decide (y175 = (43 : Int))) = true → (I64 ((y138 + (1 : Int)) + (1 : Int)) ∧ (A53 a0 ((y138 + (1 : Int)) + (1 : Int)) (fun y182 => (A54 y182 (fun y183 => ((y183 = true → (A55 a0 ((y138 + (1 : Int)) + (1 : Int)) (fun y184 => K y184 false))) ∧ (y183 = false → K y138 true)))))))))))))))))))))))) ∧ ((decide (y139 = (46 : Int))) = false → (A53 a0 y138 (fun y185 => (((decide (y185 = (101 : Int))) = false → (((decide (y185 = (69 : Int))) = true → (I64 (y138 + (1 : Int)) ∧ (A53 a0 (y138 + (1 : Int)) (fun y186 => (((decide (y186 = (43 : Int))) = false → (((decide (y186 = (45 : Int))) = true → (I64 ((y138 + (1 : Int)) + (1 : Int)) ∧ (A53 a0 ((y138 + (1 : Int)) + (1 : Int)) (fun y187 => (A54 y187 (fun y188 => ((y188 = true → (A55 a0 ((y138 + (1 : Int)) + (1 : Int)) (fun y189 => K y189 false))) ∧ (y188 = false → K y138 true)))))))) ∧ ((decide (y186 = (45 : Int))) = false → (A53 a0 (y138 + (1 : Int)) (fun y190 => (A54 y190 (fun y191 => ((y191 = true → (A55 a0 (y138 + (1 : Int)) (fun y192 => K y192 false))) ∧ (y191 = false → K y138 true))))))))) ∧ ((decide (y186 = (43 : Int))) = true → (I64 ((y138 + (1 : Int)) + (1 : Int)) ∧ (A53 a0 ((y138 + (1 : Int)) + (1 : Int)) (fun y193 => (A54 y193 (fun y194 => ((y194 = true → (A55 a0 ((y138 + (1 : Int)) + (1 : Int)) (fun y195 => K y195 false))) ∧ (y194 = false → K y138 true))))))))))))) ∧ ((decide (y185 = (69 : Int))) = false → K y138 true))) ∧ ((decide (y185 = (101 : Int))) = true → (I64 (y138 + (1 : Int)) ∧ (A53 a0 (y138 + (1 : Int)) (fun y196 => (((decide (y196 = (43 : Int))) = false → (((decide (y196 = (45 : Int))) = true → (I64 ((y138 + (1 : Int)) + (1 : Int)) ∧ (A53 a0 ((y138 + (1 : Int)) + (1 : Int)) (fun y197 => (A54 y197 (fun y198 => ((y198 = true → (A55 a0 ((y138 + (1 : Int)) + (1 : Int)) (fun y199 => K y199 false))) ∧ (y198 = false → K y138 true)))))))) ∧ ((decide (y196 = (45 : Int))) = false → (A53 a0 (y138 + (1 : Int)) (fun y200 => (A54 y200 (fun y201 => ((y201 = true → (A55 a0 (y138 + (1 : Int)) (fun y202 => K y202 false))) ∧ (y201 = false → K y138 true))))))))) ∧ ((decide (y196 = (43 : Int))) = true → (I64 ((y138 + (1 : Int)) + (1 : Int)) ∧ (A53 a0 ((y138 + (1 : Int)) + (1 : Int)) (fun y203 => (A54 y203 (fun y204 => ((y204 = true → (A55 a0 ((y138 + (1 : Int)) + (1 : Int)) (fun y205 => K y205 false))) ∧ (y204 = false → K y138 true)))))))))))))))))))))))))))

def C_ref_NumberEnd (A53 : T_ref_At) (A55 : T_ref_digits) (A54 : T_ref_Digit) : CallT sg := tab [(53, con [none, none] (q_ref_At A53)), (55, con [none, none] (q_ref_digits A55)), (54, con [none] (q_ref_Digit A54))]
theorem Cok_ref_NumberEnd (A53 : T_ref_At) (A55 : T_ref_digits) (A54 : T_ref_Digit) (h53 : FnOK sy Tryd.prog GT ovD GL 53 (q_ref_At A53)) (h55 : FnOK sy Tryd.prog GT ovD GL 55 (q_ref_digits A55)) (h54 : FnOK sy Tryd.prog GT ovD GL 54 (q_ref_Digit A54)) (o0 : Nat → Prop) : CalOK sy Tryd.prog GT ovD o0 GL (C_ref_NumberEnd A53 A55 A54) := (tab_cons (con_ok h53) (tab_cons (con_ok h55) (tab_cons (con_ok h54) tab_nil))) o0

theorem raw_ref_NumberEnd (A53 : T_ref_At) (A55 : T_ref_digits) (A54 : T_ref_Digit) (a0 : List UInt8) (a1 : Int) (k : W → Prop) : fnT sy Tryd.prog GT (C_ref_NumberEnd A53 A55 A54) noL Tryd.f31.ntmps (bodyOf Tryd.f31) [none, none] Tryd.f31.results.toList [.s a0, .i .i64 a1] k = F_ref_NumberEnd A53 A55 A54 a0 a1 (fun r0 r1 => k (.t [.i .i64 r0, .b r1])) := by kernel_rfl

theorem ok_ref_NumberEnd (A53 : T_ref_At) (A55 : T_ref_digits) (A54 : T_ref_Digit) (h53 : FnOK sy Tryd.prog GT ovD GL 53 (q_ref_At A53)) (h55 : FnOK sy Tryd.prog GT ovD GL 55 (q_ref_digits A55)) (h54 : FnOK sy Tryd.prog GT ovD GL 54 (q_ref_Digit A54)) : FnOK sy Tryd.prog GT ovD GL 31 (q_ref_NumberEnd (F_ref_NumberEnd A53 A55 A54)) := (fn_ok (rc := [none, none]) (f := 31) (fn := Tryd.f31) (c := bodyOf Tryd.f31) (nt := Tryd.f31.ntmps) (res := Tryd.f31.results.toList) (C := C_ref_NumberEnd A53 A55 A54) (L := noL) (fun _ => rfl) Tryd.func31 (by kernel_rfl) rfl rfl (Cok_ref_NumberEnd A53 A55 A54 h53 h55 h54) (lp_of (l := []) (by kernel_rfl) lp_nil)).weak (by
  intro us k h
  unfold q_ref_NumberEnd at h
  split at h
  · skip
    rename_i a0 a1
    rw [raw_ref_NumberEnd A53 A55 A54 a0 a1 k]
    exact h
  · exact h.elim)

abbrev T_ref_Thousandths := List UInt8 → (Int → Prop) → Prop
def q_ref_Thousandths (A : T_ref_Thousandths) (us : List W) (k : W → Prop) : Prop := match us with
  | [.s a0] => A a0 (fun r0 => k (.i .i64 r0))
  | _ => False
theorem q_ref_Thousandths_weak {A A2 : T_ref_Thousandths} (h : FnOK sy Tryd.prog GT ovD GL 32 (q_ref_Thousandths A)) (hA : ∀ a0 K, A2 a0 K → A a0 K) : FnOK sy Tryd.prog GT ovD GL 32 (q_ref_Thousandths A2) := h.weak (by
  intro us k h
  unfold q_ref_Thousandths at h ⊢
  split at h
  · exact hA _ _ h
  · exact h.elim)

def F_ref_Thousandths_l5 (A53 : T_ref_At) (A54 : T_ref_Digit) : Nat → List UInt8 → List UInt8 → Int → Int → Bool → (List UInt8 → List UInt8 → Int → Int → Bool → Prop) → Prop
  | 0, _, _, _, _, _, _ => False
  | n + 1, x0, x3, x4, x5, x6, Ke => (A53 x0 x5 (fun y1 => (A54 y1 (fun y2 => ((y2 = true → (I64 (x5 + (1 : Int)) ∧ ((0 ≤ x5 ∧ x5 ≤ (x5 + (1 : Int)) ∧ (x5 + (1 : Int)) ≤ (x0.length : Int)) ∧ (x3.length + ((x0.drop x5.toNat).take ((x5 + (1 : Int)).toNat - x5.toNat)).length ≤ 1099511627776 ∧ (I64 (x5 + (1 : Int)) ∧ F_ref_Thousandths_l5 A53 A54 n x0 (x3 ++ ((x0.drop x5.toNat).take ((x5 + (1 : Int)).toNat - x5.toNat))) x4 (x5 + (1 : Int)) x6 Ke))))) ∧ (y2 = false → Ke x0 x3 x4 x5 x6))))))

def F_ref_Thousandths_l10 (A53 : T_ref_At) (A54 : T_ref_Digit) : Nat → List UInt8 → List UInt8 → Int → Int → Bool → (List UInt8 → List UInt8 → Int → Int → Bool → Prop) → Prop
  | 0, _, _, _, _, _, _ => False
  | n + 1, x0, x3, x4, x5, x6, Ke => (A53 x0 x5 (fun y1 => (A54 y1 (fun y2 => ((y2 = true → (I64 (x5 + (1 : Int)) ∧ ((0 ≤ x5 ∧ x5 ≤ (x5 + (1 : Int)) ∧ (x5 + (1 : Int)) ≤ (x0.length : Int)) ∧ (x3.length + ((x0.drop x5.toNat).take ((x5 + (1 : Int)).toNat - x5.toNat)).length ≤ 1099511627776 ∧ (I64 (x4 - (1 : Int)) ∧ (I64 (x5 + (1 : Int)) ∧ F_ref_Thousandths_l10 A53 A54 n x0 (x3 ++ ((x0.drop x5.toNat).take ((x5 + (1 : Int)).toNat - x5.toNat))) (x4 - (1 : Int)) (x5 + (1 : Int)) x6 Ke)))))) ∧ (y2 = false → Ke x0 x3 x4 x5 x6))))))

def F_ref_Thousandths_l20 (A53 : T_ref_At) (A54 : T_ref_Digit) : Nat → List UInt8 → List UInt8 → Int → Int → Bool → Bool → Int → (List UInt8 → Int → Bool → Bool → Int → Prop) → Prop
  | 0, _, _, _, _, _, _, _, _ => False
  | n + 1, x0, x3, x4, x5, x6, x7, x8, Ke => (((decide (x5 < (x0.length : Int))) = true → (I64 ((10 : Int) * x8) ∧ ((0 ≤ x5 ∧ x5 < (x0.length : Int)) ∧ (I64 (IntKind.u8.wrap (((x0.getD x5.toNat 0).toNat : Int) - (48 : Int))) ∧ (I64 (((10 : Int) * x8) + (IntKind.u8.wrap (((x0.getD x5.toNat 0).toNat : Int) - (48 : Int)))) ∧ (I64 (x5 + (1 : Int)) ∧ F_ref_Thousandths_l20 A53 A54 n x0 x3 x4 (x5 + (1 : Int)) x6 x7 (if (((10 : Int) * x8) + (IntKind.u8.wrap (((x0.getD x5.toNat 0).toNat : Int) - (48 : Int)))) < (10000 : Int) then (((10 : Int) * x8) + (IntKind.u8.wrap (((x0.getD x5.toNat 0).toNat : Int) - (48 : Int)))) else (10000 : Int)) Ke)))))) ∧ ((decide (x5 < (x0.length : Int))) = false → Ke x3 x4 x6 x7 x8))

def F_ref_Thousandths_l28 (A53 : T_ref_At) (A54 : T_ref_Digit) : Nat → List UInt8 → Int → Bool → Int → Int → (Int → Bool → Int → Prop) → Prop
  | 0, _, _, _, _, _, _ => False
  | n + 1, x3, x4, x6, x9, x10, Ke => (I64 ((x3.length : Int) + x4) ∧ (((decide (x10 < ((x3.length : Int) + x4))) = true → (((decide (x10 < (x3.length : Int))) = true → (I64 ((10 : Int) * x9) ∧ ((0 ≤ x10 ∧ x10 < (x3.length : Int)) ∧ (I64 (IntKind.u8.wrap (((x3.getD x10.toNat 0).toNat : Int) - (48 : Int))) ∧ (I64 (((10 : Int) * x9) + (IntKind.u8.wrap (((x3.getD x10.toNat 0).toNat : Int) - (48 : Int)))) ∧ (I64 (x10 + (1 : Int)) ∧ F_ref_Thousandths_l28 A53 A54 n x3 x4 x6 (if (((10 : Int) * x9) + (IntKind.u8.wrap (((x3.getD x10.toNat 0).toNat : Int) - (48 : Int)))) < (1000000000000 : Int) then (((10 : Int) * x9) + (IntKind.u8.wrap (((x3.getD x10.toNat 0).toNat : Int) - (48 : Int)))) else (1000000000000 : Int)) (x10 + (1 : Int)) Ke)))))) ∧ ((decide (x10 < (x3.length : Int))) = false → Ke x4 x6 x9))) ∧ ((decide (x10 < ((x3.length : Int) + x4))) = false → Ke x4 x6 x9)))

def F_ref_Thousandths_l31 (A53 : T_ref_At) (A54 : T_ref_Digit) : Nat → Int → Bool → Int → (Bool → Int → Prop) → Prop
  | 0, _, _, _, _ => False
  | n + 1, x4, x6, x9, Ke => (((decide ((0 : Int) < x4)) = true → (((decide ((0 : Int) < x9)) = true → (((decide (x9 < (1000000000000 : Int))) = true → (I64 ((10 : Int) * x9) ∧ (I64 (x4 - (1 : Int)) ∧ F_ref_Thousandths_l31 A53 A54 n (x4 - (1 : Int)) x6 (if ((10 : Int) * x9) < (1000000000000 : Int) then ((10 : Int) * x9) else (1000000000000 : Int)) Ke))) ∧ ((decide (x9 < (1000000000000 : Int))) = false → Ke x6 x9))) ∧ ((decide ((0 : Int) < x9)) = false → Ke x6 x9))) ∧ ((decide ((0 : Int) < x4)) = false → Ke x6 x9))

def F_ref_Thousandths (A53 : T_ref_At) (A54 : T_ref_Digit) (a0 : List UInt8) (K : Int → Prop) : Prop :=
  ((0 ≤ (0 : Int) ∧ (0 : Int) < (a0.length : Int)) ∧ ((0 ≤ (0 : Int) ∧ (0 : Int) < (a0.length : Int)) ∧ (((decide (((a0.getD 0 0).toNat : Int) = (43 : Int))) = false → (((decide (((a0.getD 0 0).toNat : Int) = (45 : Int))) = true → (I64 ((0 : Int) + (1 : Int)) ∧ (∃ m, F_ref_Thousandths_l5 A53 A54 m a0 ([] : List UInt8) (3 : Int) ((0 : Int) + (1 : Int)) (decide (((a0.getD 0 0).toNat : Int) = (45 : Int))) (fun y1 y2 y3 y4 y5 => (A53 y1 y4 (fun y6 => (((decide (y6 = (46 : Int))) = true → (I64 (y4 + (1 : Int)) ∧ (∃ m, F_ref_Thousandths_l10 A53 A54 m y1 y2 y3 (y4 + (1 : Int)) y5 (fun y7 y8 y9 y10 y11 => (((decide (y10 < (y7.length : Int))) = true → (I64 (y10 + (1 : Int)) ∧ ((0 ≤ (y10 + (1 : Int)) ∧ (y10 + (1 : Int)) < (y7.length : Int)) ∧ ((0 ≤ (y10 + (1 : Int)) ∧ (y10 + (1 : Int)) < (y7.length : Int)) ∧ (((decide (((y7.getD (y10 + (1 : Int)).toNat 0).toNat : Int) = (43 : Int))) = false → (((decide (((y7.getD (y10 + (1 : Int)).toNat 0).toNat : Int) = (45 : Int))) = true → (I64 ((y10 + (1 : Int)) + (1 : Int)) ∧ (∃ m, F_ref_Thousandths_l20 A53 A54 m y7 y8 y9 ((y10 + (1 : Int)) + (1 : Int)) y11 (decide (((y7.getD (y10 + (1 : Int)).toNat 0).toNat : Int) = (45 : Int))) (0 : Int) (fun y12 y13 y14 y15 y16 => ((y15 = true → (I64 (0 - y16) ∧ (I64 (y13 + (0 - y16)) ∧ (∃ m, F_ref_Thousandths_l28 A53 A54 m y12 (y13 + (0 - y16)) y14 (0 : Int) (0 : Int) (fun y17 y18 y19 => (∃ m, F_ref_Thousandths_l31 A53 A54 m y17 y18 y19 (fun y20 y21 => ((y20 = true → (I64 (0 - y21) ∧ K (0 - y21))) ∧ (y20 = false → K y21))))))))) ∧ (y15 = false → (I64 (y13 + y16) ∧ (∃ m, F_ref_Thousandths_l28 A53 A54 m y12 (y13 + y16) y14 (0 : Int) (0 : Int) (fun y22 y23 y24 => (∃ m, F_ref_Thousandths_l31 A53 A54 m y22 y23 y24 (fun y25 y26 => ((y25 = true → (I64 (0 - y26) ∧ K (0 - y26))) ∧ (y25 = false → K y26))))))))))))) ∧ ((decide (((y7.getD (y10 + (1 : Int)).toNat 0).toNat : Int) = (45 : Int))) = false → (∃ m, F_ref_Thousandths_l20 A53 A54 m y7 y8 y9 (y10 + (1 : Int)) y11 (decide (((y7.getD (y10 + (1 : Int)).toNat 0).toNat : Int) = (45 : Int))) (0 : Int) (fun y27 y28 y29 y30 y31 => ((y30 = true → (I64 (0 - y31) ∧ (I64 (y28 + (0 - y31)) ∧ (∃ m, F_ref_Thousandths_l28 A53 A54 m y27 (y28 + (0 - y31)) y29 (0 : Int) (0 : Int) (fun y32 y33 y34 => (∃ m, F_ref_Thousandths_l31 A53 A54 m y32 y33 y34 (fun y35 y36 => ((y35 = true → (I64 (0 - y36) ∧ K (0 - y36))) ∧ (y35 = false → K y36))))))))) ∧ (y30 = false → (I64 (y28 + y31) ∧ (∃ m, F_ref_Thousandths_l28 A53 A54 m y27 (y28 + y31) y29 (0 : Int) (0 : Int) (fun y37 y38 y39 => (∃ m, F_ref_Thousandths_l31 A53 A54 m y37 y38 y39 (fun y40 y41 => ((y40 = true → (I64 (0 - y41) ∧ K (0 - y41))) ∧ (y40 = false → K y41)))))))))))))) ∧ ((decide (((y7.getD (y10 + (1 : Int)).toNat 0).toNat : Int) = (43 : Int))) = true → (I64 ((y10 + (1 : Int)) + (1 : Int)) ∧ (∃ m, F_ref_Thousandths_l20 A53 A54 m y7 y8 y9 ((y10 + (1 : Int)) + (1 : Int)) y11 (decide (((y7.getD (y10 + (1 : Int)).toNat 0).toNat : Int) = (45 : Int))) (0 : Int) (fun y42 y43 y44 y45 y46 => ((y45 = true → (I64 (0 - y46) ∧ (I64 (y43 + (0 - y46)) ∧ (∃ m, F_ref_Thousandths_l28 A53 A54 m y42 (y43 + (0 - y46)) y44 (0 : Int) (0 : Int) (fun y47 y48 y49 => (∃ m, F_ref_Thousandths_l31 A53 A54 m y47 y48 y49 (fun y50 y51 => ((y50 = true → (I64 (0 - y51) ∧ K (0 - y51))) ∧ (y50 = false → K y51))))))))) ∧ (y45 = false → (I64 (y43 + y46) ∧ (∃ m, F_ref_Thousandths_l28 A53 A54 m y42 (y43 + y46) y44 (0 : Int) (0 : Int) (fun y52 y53 y54 => (∃ m, F_ref_Thousandths_l31 A53 A54 m y52 y53 y54 (fun y55 y56 => ((y55 = true → (I64 (0 - y56) ∧ K (0 - y56))) ∧ (y55 = false → K y56)))))))))))))))))) ∧ ((decide (y10 < (y7.length : Int))) = false → (∃ m, F_ref_Thousandths_l28 A53 A54 m y8 y9 y11 (0 : Int) (0 : Int) (fun y57 y58 y59 => (∃ m, F_ref_Thousandths_l31 A53 A54 m y57 y58 y59 (fun y60 y61 => ((y60 = true → (I64 (0 - y61) ∧ K (0 - y61))) ∧ (y60 = false → K y61)))))))))))) ∧ ((decide (y6 = (46 : Int))) = false → (((decide (y4 < (y1.length : Int))) = true → (I64 (y4 + (1 : Int)) ∧ ((0 ≤ (y4 + (1 : Int)) ∧ (y4 + (1 : Int)) < (y1.length : Int)) ∧ ((0 ≤ (y4 + (1 : Int)) ∧ (y4 + (1 : Int)) < (y1.length : Int)) ∧ (((decide (((y1.getD (y4 + (1 : Int)).toNat 0).toNat : Int) = (43 : Int))) = false → (((decide (((y1.getD (y4 + (1 : Int)).toNat 0).toNat : Int) = (45 : Int))) = true → (I64 ((y4 + (1 : Int)) + (1 : Int)) ∧ (∃ m, F_ref_Thousandths_l20 A53 A54 m y1 y2 y3 ((y4 + (1 : Int)) + (1 : Int)) y5 (decide (((y1.getD (y4 + (1 : Int)).toNat 0).toNat : Int) = (45 : Int))) (0 : Int) (fun y62 y63 y64 y65 y66 => ((y65 = true → (I64 (0 - y66) ∧ (I64 (y63 + (0 - y66)) ∧ (∃ m, F_ref_Thousandths_l28 A53 A54 m y62 (y63 + (0 - y66)) y64 (0 : Int) (0 : Int) (fun y67 y68 y69 => (∃ m, F_ref_Thousandths_l31 A53 A54 m y67 y68 y69 (fun y70 y71 => ((y70 = true → (I64 (0 - y71) ∧ K (0 - y71))) ∧ (y70 = false → K y71))))))))) ∧ (y65 = false → (I64 (y63 + y66) ∧ (∃ m, F_ref_Thousandths_l28 A53 A54 m y62 (y63 + y66) y64 (0 : Int) (0 : Int) (fun y72 y73 y74 => (∃ m, F_ref_Thousandths_l31 A53 A54 m y72 y73 y74 (fun y75 y76 => ((y75 = true → (I64 (0 - y76) ∧ K (0 - y76))) ∧ (y75 = false → K y76))))))))))))) ∧ ((decide (((y1.getD (y4 + (1 : Int)).toNat 0).toNat : Int) = (45 : Int))) = false → (∃ m, F_ref_Thousandths_l20 A53 A54 m y1 y2 y3 (y4 + (1 : Int)) y5 (decide (((y1.getD (y4 + (1 : Int)).toNat 0).toNat : Int) = (45 : Int))) (0 : Int) (fun y77 y78 y79 y80 y81 => ((y80 = true → (I64 (0 - y81) ∧ (I64 (y78 + (0 - y81)) ∧ (∃ m, F_ref_Thousandths_l28 A53 A54 m y77 (y78 + (0 - y81)) y79 (0 : Int) (0 : Int) (fun y82 y83 y84 => (∃ m, F_ref_Thousandths_l31 A53 A54 m y82 y83 y84 (fun y85 y86 => ((y85 = true → (I64 (0 - y86) ∧ K (0 - y86))) ∧ (y85 = false → K y86))))))))) ∧ (y80 = false → (I64 (y78 + y81) ∧ (∃ m, F_ref_Thousandths_l28 A53 A54 m y77 (y78 + y81) y79 (0 : Int) (0 : Int) (fun y87 y88 y89 => (∃ m, F_ref_Thousandths_l31 A53 A54 m y87 y88 y89 (fun y90 y91 => ((y90 = true → (I64 (0 - y91) ∧ K (0 - y91))) ∧ (y90 = false → K y91)))))))))))))) ∧ ((decide (((y1.getD (y4 + (1 : Int)).toNat 0).toNat : Int) = (43 : Int))) = true → (I64 ((y4 + (1 : Int)) + (1 : Int)) ∧ (∃ m, F_ref_Thousandths_l20 A53 A54 m y1 y2 y3 ((y4 + (1 : Int)) + (1 : Int)) y5 (decide (((y1.getD (y4 + (1 : Int)).toNat 0).toNat : Int) = (45 : Int))) (0 : Int) (fun y92 y93 y94 y95 y96 => ((y95 = true → (I64 (0 - y96) ∧ (I64 (y93 + (0 - y96)) ∧ (∃ m, F_ref_Thousandths_l28 A53 A54 m y92 (y93 + (0 - y96)) y94 (0 : Int) (0 : Int) (fun y97 y98 y99 => (∃ m, F_ref_Thousandths_l31 A53 A54 m y97 y98 y99 (fun y100 y101 => ((y100 = true → (I64 (0 - y101) ∧ K (0 - y101))) ∧ (y100 = false → K y101))))))))) ∧ (y95 = false → (I64 (y93 + y96) ∧ (∃ m, F_ref_Thousandths_l28 A53 A54 m y92 (y93 + y96) y94 (0 : Int) (0 : Int) (fun y102 y103 y104 => (∃ m, F_ref_Thousandths_l31 A53 A54 m y102 y103 y104 (fun y105 y106 => ((y105 = true → (I64 (0 - y106) ∧ K (0 - y106))) ∧ (y105 = false → K y106)))))))))))))))))) ∧ ((decide (y4 < (y1.length : Int))) = false → (∃ m, F_ref_Thousandths_l28 A53 A54 m y2 y3 y5 (0 : Int) (0 : Int) (fun y107 y108 y109 => (∃ m, F_ref_Thousandths_l31 A53 A54 m y107 y108 y109 (fun y110 y111 => ((y110 = true → (I64 (0 - y111) ∧ K (0 - y111))) ∧ (y110 = false → K y111)))))))))))))))) ∧ ((decide (((a0.getD 0 0).toNat : Int) = (45 : Int))) = false → (∃ m, F_ref_Thousandths_l5 A53 A54 m a0 ([] : List UInt8) (3 : Int) (0 : Int) (decide (((a0.getD 0 0).toNat : Int) = (45 : Int))) (fun y112 y113 y114 y115 y116 => (A53 y112 y115 (fun y117 => (((decide (y117 = (46 : Int))) = true → (I64 (y115 + (1 : Int)) ∧ (∃ m, F_ref_Thousandths_l10 A53 A54 m y112 y113 y114 (y115 + (1 : Int)) y116 (fun y118 y119 y120 y121 y122 => (((decide (y121 < (y118.length : Int))) = true → (I64 (y121 + (1 : Int)) ∧ ((0 ≤ (y121 + (1 : Int)) ∧ (y121 + (1 : Int)) < (y118.length : Int)) ∧ ((0 ≤ (y121 + (1 : Int)) ∧ (y121 + (1 : Int)) < (y118.length : Int)) ∧ (((decide (((y118.getD (y121 + (1 : Int)).toNat 0).toNat : Int) = (43 : Int))) = false → (((decide (((y118.getD (y121 + (1 : Int)).toNat 0).toNat : Int) = (45 : Int))) = true → (I64 ((y121 + (1 : Int)) + (1 : Int)) ∧ (∃ m, F_ref_Thousandths_l20 A53 A54 m y118 y119 y120 ((y121 + (1 : Int)) + (1 : Int)) y122 (decide (((y118.getD (y121 + (1 : Int)).toNat 0).toNat : Int) = (45 : Int))) (0 : Int) (fun y123 y124 y125 y126 y127 => ((y126 = true → (I64 (0 - y127) ∧ (I64 (y124 + (0 - y127)) ∧ (∃ m, F_ref_Thousandths_l28 A53 A54 m y123 (y124 + (0 - y127)) y125 (0 : Int) (0 : Int) (fun y128 y129 y130 => (∃ m, F_ref_Thousandths_l31 A53 A54 m y128 y129 y130 (fun y131 y132 => ((y131 = true → (I64 (0 - y132) ∧ K (0 - y132))) ∧ (y131 = false → K y132))))))))) ∧ (y126 = false → (I64 (y124 + y127) ∧ (∃ m, F_ref_Thousandths_l28 A53 A54 m y123 (y124 + y127) y125 (0 : Int) (0 : Int) (fun y133 y134 y135 => (∃ m, F_ref_Thousandths_l31 A53 A54 m y133 y134 y135 (fun y136 y137 => ((y136 = true → (I64 (0 - y137) ∧ K (0 - y137))) ∧ (y136 = false → K y137))))))))))))) ∧ ((decide (((y118.getD (y121 + (1 : Int)).toNat 0).toNat : Int) = (45 : Int))) = false → (∃ m, F_ref_Thousandths_l20 A53 A54 m y118 y119 y120 (y121 + (1 : Int)) y122 (decide (((y118.getD (y121 + (1 : Int)).toNat 0).toNat : Int) = (45 : Int))) (0 : Int) (fun y138 y139 y140 y141 y142 => ((y141 = true → (I64 (0 - y142) ∧ (I64 (y139 + (0 - y142)) ∧ (∃ m, F_ref_Thousandths_l28 A53 A54 m y138 (y139 + (0 - y142)) y140 (0 : Int) (0 : Int) (fun y143 y144 y145 => (∃ m, F_ref_Thousandths_l31 A53 A54 m y143 y144 y145 (fun y146 y147 => ((y146 = true → (I64 (0 - y147) ∧ K (0 - y147))) ∧ (y146 = false → K y147))))))))) ∧ (y141 = false → (I64 (y139 + y142) ∧ (∃ m, F_ref_Thousandths_l28 A53 A54 m y138 (y139 + y142) y140 (0 : Int) (0 : Int) (fun y148 y149 y150 => (∃ m, F_ref_Thousandths_l31 A53 A54 m y148 y149 y150 (fun y151 y152 => ((y151 = true → (I64 (0 - y152) ∧ K (0 - y152))) ∧ (y151 = false → K y152)))))))))))))) ∧ ((decide (((y118.getD (y121 + (1 : Int)).toNat 0).toNat : Int) = (43 : Int))) = true → (I64 ((y121 + (1 : Int)) + (1 : Int)) ∧ (∃ m, F_ref_Thousandths_l20 A53 A54 m y118 y119 y120 ((y121 + (1 : Int)) + (1 : Int)) y122 (decide (((y118.getD (y121 + (1 : Int)).toNat 0).toNat : Int) = (45 : Int))) (0 : Int) (fun y153 y154 y155 y156 y157 => ((y156 = true → (I64 (0 - y157) ∧ (I64 (y154 + (0 - y157)) ∧ (∃ m, F_ref_Thousandths_l28 A53 A54 m y153 (y154 + (0 - y157)) y155 (0 : Int) (0 : Int) (fun y158 y159 y160 => (∃ m, F_ref_Thousandths_l31 A53 A54 m y158 y159 y160 (fun y161 y162 => ((y161 = true → (I64 (0 - y162) ∧ K (0 - y162))) ∧ (y161 = false → K y162))))))))) ∧ (y156 = false → (I64 (y154 + y157) ∧ (∃ m, F_ref_Thousandths_l28 A53 A54 m y153 (y154 + y157) y155 (0 : Int) (0 : Int) (fun y163 y164 y165 => (∃ m, F_ref_Thousandths_l31 A53 A54 m y163 y164 y165 (fun y166 y167 => ((y166 = true → (I64 (0 - y167) ∧ K (0 - y167))) ∧ (y166 = false → K y167)))))))))))))))))) ∧ ((decide (y121 < (y118.length : Int))) = false → (∃ m, F_ref_Thousandths_l28 A53 A54 m y119 y120 y122 (0 : Int) (0 : Int) (fun y168 y169 y170 => (∃ m, F_ref_Thousandths_l31 A53 A54 m y168 y169 y170 (fun y171 y172 => ((y171 = true → (I64 (0 - y172) ∧ K (0 - y172))) ∧ (y171 = false → K y172)))))))))))) ∧ ((decide (y117 = (46 : Int))) = false → (((decide (y115 < (y112.length : Int))) = true → (I64 (y115 + (1 : Int)) ∧ ((0 ≤ (y115 + (1 : Int)) ∧ (y115 + (1 : Int)) < (y112.length : Int)) ∧ ((0 ≤ (y115 + (1 : Int)) ∧ (y115 + (1 : Int)) < (y112.length : Int)) ∧ (((decide (((y112.getD (y115 + (1 : Int)).toNat 0).toNat : Int) = (43 : Int))) = false → (((decide (((y112.getD (y115 + (1 : Int)).toNat 0).toNat : Int) = (45 : Int))) = true → (I64 ((y115 + (1 : Int)) + (1 : Int)) ∧ (∃ m, F_ref_Thousandths_l20 A53 A54 m y112 y113 y114 ((y115 + (1 : Int)) + (1 : Int)) y116 (decide (((y112.getD (y115 + (1 : Int)).toNat 0).toNat : Int) = (45 : Int))) (0 : Int) (fun y173 y174 y175 y176 y177 => ((y176 = true → (I64 (0 - y177) ∧ (I64 (y174 + (0 - y177)) ∧ (∃ m, F_ref_Thousandths_l28 A53 A54 m y173 (y174 + (0 - y177)) y175 (0 : Int) (0 : Int) (fun y178 y179 y180 => (∃ m, F_ref_Thousandths_l31 A53 A54 m y178 y179 y180 (fun y181 y182 => ((y181 = true → (I64 (0 - y182) ∧ K (0 - y182))) ∧ (y181 = false → K y182))))))))) ∧ (y176 = false → (I64 (y174 + y177) ∧ (∃ m, F_ref_Thousandths_l28 A53 A54 m y173 (y174 + y177) y175 (0 : Int) (0 : Int) (fun y183 y184 y185 => (∃ m, F_ref_Thousandths_l31 A53 A54 m y183 y184 y185 (fun y186 y187 => ((y186 = true → (I64 (0 - y187) ∧ K (0 - y187))) ∧ (y186 = false → K y187))))))))))))) ∧ ((decide (((y112.getD (y115 + (1 : Int)).toNat 0).toNat : Int) = (45 : Int))) = false → (∃ m, F_ref_Thousandths_l20 A53 A54 m y112 y113 y114 (y115 + (1 : Int)) y116 (decide (((y112.getD (y115 + (1 : Int)).toNat 0).toNat : Int) = (45 : Int))) (0 : Int) (fun y188 y189 y190 y191 y192 => ((y191 = true → (I64 (0 - y192) ∧ (I64 (y189 + (0 - y192)) ∧ (∃ m, F_ref_Thousandths_l28 A53 A54 m y188 (y189 + (0 - y192)) y190 (0 : Int) (0 : Int) (fun y193 y194 y195 => (∃ m, F_ref_Thousandths_l31 A53 A54 m y193 y194 y195 (fun y196 y197 => ((y196 = true → (I64 (0 - y197) ∧ K (0 - y197))) ∧ (y196 = false → K y197))))))))) ∧ (y191 = false → (I64 (y189 + y192) ∧ (∃ m, F_ref_Thousandths_l28 A53 A54 m y188 (y189 + y192) y190 (0 : Int) (0 : Int) (fun y198 y199 y200 => (∃ m, F_ref_Thousandths_l31 A53 A54 m y198 y199 y200 (fun y201 y202 => ((y201 = true → (I64 (0 - y202) ∧ K (0 - y202))) ∧ (y201 = false → K y202)))))))))))))) ∧ ((decide (((y112.getD (y115 + (1 : Int)).toNat 0).toNat : Int) = (43 : Int))) = true → (I64 ((y115 + (1 : Int)) + (1 : Int)) ∧ (∃ m, F_ref_Thousandths_l20 A53 A54 m y112 y113 y114 ((y115 + (1 : Int)) + (1 : Int)) y116 (decide (((y112.getD (y115 + (1 : Int)).toNat 0).toNat : Int) = (45 : Int))) (0 : Int) (fun y203 y204 y205 y206 y207 => ((y206 = true → (I64 (0 - y207) ∧ (I64 (y204 + (0 - y207)) ∧ (∃ m, F_ref_Thousandths_l28 A53 A54 m y203 (y204 + (0 - y207)) y205 (0 : Int) (0 : Int) (fun y208 y209 y210 => (∃ m, F_ref_Thousandths_l31 A53 A54 m y208 y209 y210 (fun y211 y212 => ((y211 = true → (I64 (0 - y212) ∧ K (0 - y212))) ∧ (y211 = false → K y212))))))))) ∧ (y206 = false → (I64 (y204 + y207) ∧ (∃ m, F_ref_Thousandths_l28 A53 A54 m y203 (y204 + y207) y205 (0 : Int) (0 : Int) (fun y213 y214 y215 => (∃ m, F_ref_Thousandths_l31 A53 A54 m y213 y214 y215 (fun y216 y217 => ((y216 = true → (I64 (0 - y217) ∧ K (0 - y217))) ∧ (y216 = false → K y217)))))))))))))))))) ∧ ((decide (y115 < (y112.length : Int))) = false → (∃ m, F_ref_Thousandths_l28 A53 A54 m y113 y114 y116 (0 : Int) (0 : Int) (fun y218 y219 y220 => (∃ m, F_ref_Thousandths_l31 A53 A54 m y218 y219 y220 (fun y221 y222 => ((y221 = true → (I64 (0 - y222) ∧ K (0 - y222))) ∧ (y221 = false → K y222))))))))))))))))) ∧ ((decide (((a0.getD 0 0).toNat : Int) = (43 : Int))) = true → (I64 ((0 : Int) + (1 : Int)) ∧ (∃ m, F_ref_Thousandths_l5 A53 A54 m a0 ([] : List UInt8) (3 : Int) ((0 : Int) + (1 : Int)) (decide (((a0.getD 0 0).toNat : Int) = (45 : Int))) (fun y223 y224 y225 y226 y227 => (A53 y223 y226 (fun y228 => (((decide (y228 = (46 : Int))) = true → (I64 (y226 + (1 : Int)) ∧ (∃ m, F_ref_Thousandths_l10 A53 A54 m y223 y224 y225 (y226 + (1 : Int)) y227 (fun y229 y230 y231 y232 y233 => (((decide (y232 < (y229.length : Int))) = true → (I64 (y232 + (1 : Int)) ∧ ((0 ≤ (y232 + (1 : Int)) ∧ (y232 + (1 : Int)) < (y229.length : Int)) ∧ ((0 ≤ (y232 + (1 : Int)) ∧ (y232 + (1 : Int)) < (y229.length : Int)) ∧ (((decide (((y229.getD (y232 + (1 : Int)).toNat 0).toNat : Int) = (43 : Int))) = false → (((decide (((y229.getD (y232 + (1 : Int)).toNat 0).toNat : Int) = (45 : Int))) = true → (I64 ((y232 + (1 : Int)) + (1 : Int)) ∧ (∃ m, F_ref_Thousandths_l20 A53 A54 m y229 y230 y231 ((y232 + (1 : Int)) + (1 : Int)) y233 (decide (((y229.getD (y232 + (1 : Int)).toNat 0).toNat : Int) = (45 : Int))) (0 : Int) (fun y234 y235 y236 y237 y238 => ((y237 = true → (I64 (0 - y238) ∧ (I64 (y235 + (0 - y238)) ∧ (∃ m, F_ref_Thousandths_l28 A53 A54 m y234 (y235 + (0 - y238)) y236 (0 : Int) (0 : Int) (fun y239 y240 y241 => (∃ m, F_ref_Thousandths_l31 A53 A54 m y239 y240 y241 (fun y242 y243 => ((y242 = true → (I64 (0 - y243) ∧ K (0 - y243))) ∧ (y242 = false → K y243))))))))) ∧ (y237 = false → (I64 (y235 + y238) ∧ (∃ m, F_ref_Thousandths_l28 A53 A54 m y234 (y235 + y238) y236 (0 : Int) (0 : Int) (fun y244 y245 y246 => (∃ m, F_ref_Thousandths_l31 A53 A54 m y244 y245 y246 (fun y247 y248 => ((y247 = true → (I64 (0 - y248) ∧ K (0 - y248))) ∧ (y247 = false → K y248))))))))))))) ∧ ((decide (((y229.getD (y232 + (1 : Int)).toNat 0).toNat : Int) = (45 : Int))) = false → (∃ m, F_ref_Thousandths_l20 A53 A54 m y229 y230 y231 (y232 + (1 : Int)) y233 (decide (((y229.getD (y232 + (1 : Int)).toNat 0).toNat : Int) = (45 : Int))) (0 : Int) (fun y249 y250 y251 y252 y253 => ((y252 = true → (I64 (0 - y253) ∧ (I64 (y250 + (0 - y253)) ∧ (∃ m, F_ref_Thousandths_l28 A53 A54 m y249 (y250 + (0 - y253)) y251 (0 : Int) (0 : Int) (fun y254 y255 y256 => (∃ m, F_ref_Thousandths_l31 A53 A54 m y254 y255 y256 (fun y257 y258 => ((y257 = true → (I64 (0 - y258) ∧ K (0 - y258))) ∧ (y257 = false → K y258))))))))) ∧ (y252 = false → (I64 (y250 + y253) ∧ (∃ m, F_ref_Thousandths_l28 A53 A54 m y249 (y250 + y253) y251 (0 : Int) (0 : Int) (fun y259 y260 y261 => (∃ m, F_ref_Thousandths_l31 A53 A54 m y259 y260 y261 (fun y262 y263 => ((y262 = true → (I64 (0 - y263) ∧ K (0 - y263))) ∧ (y262 = false → K y263)))))))))))))) ∧ ((decide (((y229.getD (y232 + (1 : Int)).toNat 0).toNat : Int) = (43 : Int))) = true → (I64 ((y232 + (1 : Int)) + (1 : Int)) ∧ (∃ m, F_ref_Thousandths_l20 A53 A54 m y229 y230 y231 ((y232 + (1 : Int)) + (1 : Int)) y233 (decide (((y229.getD (y232 + (1 : Int)).toNat 0).toNat : Int) = (45 : Int))) (0 : Int) (fun y264 y265 y266 y267 y268 => ((y267 = true → (I64 (0 - y268) ∧ (I64 (y265 + (0 - y268)) ∧ (∃ m, F_ref_Thousandths_l28 A53 A54 m y264 (y265 + (0 - y268)) y266 (0 : Int) (0 : Int) (fun y269 y270 y271 => (∃ m, F_ref_Thousandths_l31 A53 A54 m y269 y270 y271 (fun y272 y273 => ((y272 = true → (I64 (0 - y273) ∧ K (0 - y273))) ∧ (y272 = false → K y273))))))))) ∧ (y267 = false → (I64 (y265 + y268) ∧ (∃ m, F_ref_Thousandths_l28 A53 A54 m y264 (y265 + y268) y266 (0 : Int) (0 : Int) (fun y274 y275 y276 => (∃ m, F_ref_Thousandths_l31 A53 A54 m y274 y275 y276 (fun y277 y278 => ((y277 = true → (I64 (0 - y278) ∧ K (0 - y278))) ∧ (y277 = false → K y278)))))))))))))))))) ∧ ((decide (y232 < (y229.length : Int))) = false → (∃ m, F_ref_Thousandths_l28 A53 A54 m y230 y231 y233 (0 : Int) (0 : Int) (fun y279 y280 y281 => (∃ m, F_ref_Thousandths_l31 A53 A54 m y279 y280 y281 (fun y282 y283 => ((y282 = true → (I64 (0 - y283) ∧ K (0 - y283))) ∧ (y282 = false → K y283)))))))))))) ∧ ((decide (y228 = (46 : Int))) = false → (((decide (y226 < (y223.length : Int))) = true → (I64 (y226 + (1 : Int)) ∧ ((0 ≤ (y226 + (1 : Int)) ∧ (y226 + (1 : Int)) < (y223.length : Int)) ∧ ((0 ≤ (y226 + (1 : Int)) ∧ (y226 + (1 : Int)) < (y223.length : Int)) ∧ (((decide (((y223.getD (y226 + (1 : Int)).toNat 0).toNat : Int) = (43 : Int))) = false → (((decide (((y223.getD (y226 + (1 : Int)).toNat 0).toNat : Int) = (45 : Int))) = true → (I64 ((y226 + (1 : Int)) + (1 : Int)) ∧ (∃ m, F_ref_Thousandths_l20 A53 A54 m y223 y224 y225 ((y226 + (1 : Int)) + (1 : Int)) y227 (decide (((y223.getD (y226 + (1 : Int)).toNat 0).toNat : Int) = (45 : Int))) (0 : Int) (fun y284 y285 y286 y287 y288 => ((y287 = true → (I64 (0 - y288) ∧ (I64 (y285 + (0 - y288)) ∧ (∃ m, F_ref_Thousandths_l28 A53 A54 m y284 (y285 + (0 - y288)) y286 (0 : Int) (0 : Int) (fun y289 y290 y291 => (∃ m, F_ref_Thousandths_l31 A53 A54 m y289 y290 y291 (fun y292 y293 => ((y292 = true → (I64 (0 - y293) ∧ K (0 - y293))) ∧ (y292 = false → K y293))))))))) ∧ (y287 = false → (I64 (y285 + y288) ∧ (∃ m, F_ref_Thousandths_l28 A53 A54 m y284 (y285 + y288) y286 (0 : Int) (0 : Int) (fun y294 y295 y296 => (∃ m, F_ref_Thousandths_l31 A53 A54 m y294 y295 y296 (fun y297 y298 => ((y297 = true → (I64 (0 - y298) ∧ K (0 - y298))) ∧ (y297 = false → K y298))))))))))))) ∧ ((decide (((y223.getD (y226 + (1 : Int)).toNat 0).toNat : Int) = (45 : Int))) = false → (∃ m, F_ref_Thousandths_l20 A53 A54 m y223 y224 y225 (y226 + (1 : Int)) y227 (decide (((y223.getD (y226 + (1 : Int)).toNat 0).toNat : Int) = (45 : Int))) (0 : Int) (fun y299 y300 y301 y302 y303 => ((y302 = true → (I64 (0 - y303) ∧ (I64 (y300 + (0 - y303)) ∧ (∃ m, F_ref_Thousandths_l28 A53 A54 m y299 (y300 + (0 - y303)) y301 (0 : Int) (0 : Int) (fun y304 y305 y306 => (∃ m, F_ref_Thousandths_l31 A53 A54 m y304 y305 y306 (fun y307 y308 => ((y307 = true → (I64 (0 - y308) ∧ K (0 - y308))) ∧ (y307 = false → K y308))))))))) ∧ (y302 = false → (I64 (y300 + y303) ∧ (∃ m, F_ref_Thousandths_l28 A53 A54 m y299 (y300 + y303) y301 (0 : Int) (0 : Int) (fun y309 y310 y311 => (∃ m, F_ref_Thousandths_l31 A53 A54 m y309 y310 y311 (fun y312 y313 => ((y312 = true → (I64 (0 - y313) ∧ K (0 - y313))) ∧ (y312 = false → K y313)))))))))))))) ∧ ((decide (((y223.getD (y226 + (1 : Int)).toNat 0).toNat : Int) = (43 : Int))) = true → (I64 ((y226 + (1 : Int)) + (1 : Int)) ∧ (∃ m, F_ref_Thousandths_l20 A53 A54 m y223 y224 y225 ((y226 + (1 : Int)) + (1 : Int)) y227 (decide (((y223.getD (y226 + (1 : Int)).toNat 0).toNat : Int) = (45 : Int))) (0 : Int) (fun y314 y315 y316 y317 y318 => ((y317 = true → (I64 (0 - y318) ∧ (I64 (y315 + (0 - y318)) ∧ (∃ m, F_ref_Thousandths_l28 A53 A54 m y314 (y315 + (0 - y318)) y316 (0 : Int) (0 : Int) (fun y319 y320 y321 => (∃ m, F_ref_Thousandths_l31 A53 A54 m y319 y320 y321 (fun y322 y323 => ((y322 = true → (I64 (0 - y323) ∧ K (0 - y323))) ∧ (y322 = false → K y323))))))))) ∧ (y317 = false → (I64 (y315 + y318) ∧ (∃ m, F_ref_Thousandths_l28 A53 A54 m y314 (y315 + y318) y316 (0 : Int) (0 : Int) (fun y324 y325 y326 => (∃ m, F_ref_Thousandths_l31 A53 A54 m y324 y325 y326 (fun y327 y328 => ((y327 = true → (I64 (0 - y328) ∧ K (0 - y328))) ∧ (y327 = false → K y328)))))))))))))))))) ∧ ((decide (y226 < (y223.length : Int))) = false → (∃ m, F_ref_Thousandths_l28 A53 A54 m y224 y225 y227 (0 : Int) (0 : Int) (fun y329 y330 y331 => (∃ m, F_ref_Thousandths_l31 A53 A54 m y329 y330 y331 (fun y332 y333 => ((y332 = true → (I64 (0 - y333) ∧ K (0 - y333))) ∧ (y332 = false → K y333)))))))))))))))))))

def C_ref_Thousandths (A53 : T_ref_At) (A54 : T_ref_Digit) : CallT sg := tab [(53, con [none, none] (q_ref_At A53)), (54, con [none] (q_ref_Digit A54))]
theorem Cok_ref_Thousandths (A53 : T_ref_At) (A54 : T_ref_Digit) (h53 : FnOK sy Tryd.prog GT ovD GL 53 (q_ref_At A53)) (h54 : FnOK sy Tryd.prog GT ovD GL 54 (q_ref_Digit A54)) (o0 : Nat → Prop) : CalOK sy Tryd.prog GT ovD o0 GL (C_ref_Thousandths A53 A54) := (tab_cons (con_ok h53) (tab_cons (con_ok h54) tab_nil)) o0

def ls_ref_Thousandths_5 : LS sy ((List UInt8) × (List UInt8) × Int × Int × Bool × Unit) Unit := ⟨[], fCons 0 (vStr sy) (fCons 3 (vStr sy) (fCons 4 (vInt sy .i64) (fCons 5 (vInt sy .i64) (fCons 6 (vBool sy) (fNil sy))))), hNil sy, 0, []⟩
def le_ref_Thousandths_5 : LS sy ((List UInt8) × (List UInt8) × Int × Int × Bool × Unit) Unit := ⟨[], fCons 0 (vStr sy) (fCons 3 (vStr sy) (fCons 4 (vInt sy .i64) (fCons 5 (vInt sy .i64) (fCons 6 (vBool sy) (fNil sy))))), hNil sy, 0, []⟩
def lr_ref_Thousandths_5 : LS sy Unit Unit := ⟨[], fNil sy, hNil sy, 0, []⟩
def FF_ref_Thousandths_5 (A53 : T_ref_At) (A54 : T_ref_Digit) (n : Nat) (x : ((List UInt8) × (List UInt8) × Int × Int × Bool × Unit) × Unit) (K : Ex → Z sg → Prop) : Prop := F_ref_Thousandths_l5 A53 A54 n x.1.1 x.1.2.1 x.1.2.2.1 x.1.2.2.2.1 x.1.2.2.2.2.1 (fun y0 y1 y2 y3 y4 => K (.exit 0) (le_ref_Thousandths_5.put ((y0, y1, y2, y3, y4, ()), ())))
def h_ref_Thousandths_5 (A53 : T_ref_At) (A54 : T_ref_Digit) (z : Z sg) (K : Ex → Z sg → Prop) : Prop := ls_ref_Thousandths_5.get z (fun x => ∃ n, FF_ref_Thousandths_5 A53 A54 n x K)
def ls_ref_Thousandths_10 : LS sy ((List UInt8) × (List UInt8) × Int × Int × Bool × Unit) Unit := ⟨[], fCons 0 (vStr sy) (fCons 3 (vStr sy) (fCons 4 (vInt sy .i64) (fCons 5 (vInt sy .i64) (fCons 6 (vBool sy) (fNil sy))))), hNil sy, 0, []⟩
def le_ref_Thousandths_10 : LS sy ((List UInt8) × (List UInt8) × Int × Int × Bool × Unit) Unit := ⟨[], fCons 0 (vStr sy) (fCons 3 (vStr sy) (fCons 4 (vInt sy .i64) (fCons 5 (vInt sy .i64) (fCons 6 (vBool sy) (fNil sy))))), hNil sy, 0, []⟩
def lr_ref_Thousandths_10 : LS sy Unit Unit := ⟨[], fNil sy, hNil sy, 0, []⟩
def FF_ref_Thousandths_10 (A53 : T_ref_At) (A54 : T_ref_Digit) (n : Nat) (x : ((List UInt8) × (List UInt8) × Int × Int × Bool × Unit) × Unit) (K : Ex → Z sg → Prop) : Prop := F_ref_Thousandths_l10 A53 A54 n x.1.1 x.1.2.1 x.1.2.2.1 x.1.2.2.2.1 x.1.2.2.2.2.1 (fun y0 y1 y2 y3 y4 => K (.exit 2) (le_ref_Thousandths_10.put ((y0, y1, y2, y3, y4, ()), ())))
def h_ref_Thousandths_10 (A53 : T_ref_At) (A54 : T_ref_Digit) (z : Z sg) (K : Ex → Z sg → Prop) : Prop := ls_ref_Thousandths_10.get z (fun x => ∃ n, FF_ref_Thousandths_10 A53 A54 n x K)
def ls_ref_Thousandths_20 : LS sy ((List UInt8) × (List UInt8) × Int × Int × Bool × Bool × Int × Unit) Unit := ⟨[], fCons 0 (vStr sy) (fCons 3 (vStr sy) (fCons 4 (vInt sy .i64) (fCons 5 (vInt sy .i64) (fCons 6 (vBool sy) (fCons 7 (vBool sy) (fCons 8 (vInt sy .i64) (fNil sy))))))), hNil sy, 0, []⟩
def le_ref_Thousandths_20 : LS sy ((List UInt8) × Int × Bool × Bool × Int × Unit) Unit := ⟨[], fCons 3 (vStr sy) (fCons 4 (vInt sy .i64) (fCons 6 (vBool sy) (fCons 7 (vBool sy) (fCons 8 (vInt sy .i64) (fNil sy))))), hNil sy, 0, []⟩
def lr_ref_Thousandths_20 : LS sy Unit Unit := ⟨[], fNil sy, hNil sy, 0, []⟩
def FF_ref_Thousandths_20 (A53 : T_ref_At) (A54 : T_ref_Digit) (n : Nat) (x : ((List UInt8) × (List UInt8) × Int × Int × Bool × Bool × Int × Unit) × Unit) (K : Ex → Z sg → Prop) : Prop := F_ref_Thousandths_l20 A53 A54 n x.1.1 x.1.2.1 x.1.2.2.1 x.1.2.2.2.1 x.1.2.2.2.2.1 x.1.2.2.2.2.2.1 x.1.2.2.2.2.2.2.1 (fun y0 y1 y2 y3 y4 => K (.exit 4) (le_ref_Thousandths_20.put ((y0, y1, y2, y3, y4, ()), ())))
def h_ref_Thousandths_20 (A53 : T_ref_At) (A54 : T_ref_Digit) (z : Z sg) (K : Ex → Z sg → Prop) : Prop := ls_ref_Thousandths_20.get z (fun x => ∃ n, FF_ref_Thousandths_20 A53 A54 n x K)
def ls_ref_Thousandths_28 : LS sy ((List UInt8) × Int × Bool × Int × Int × Unit) Unit := ⟨[], fCons 3 (vStr sy) (fCons 4 (vInt sy .i64) (fCons 6 (vBool sy) (fCons 9 (vInt sy .i64) (fCons 10 (vInt sy .i64) (fNil sy))))), hNil sy, 0, []⟩
def le_ref_Thousandths_28 : LS sy (Int × Bool × Int × Unit) Unit := ⟨[], fCons 4 (vInt sy .i64) (fCons 6 (vBool sy) (fCons 9 (vInt sy .i64) (fNil sy))), hNil sy, 0, []⟩
def lr_ref_Thousandths_28 : LS sy Unit Unit := ⟨[], fNil sy, hNil sy, 0, []⟩
def FF_ref_Thousandths_28 (A53 : T_ref_At) (A54 : T_ref_Digit) (n : Nat) (x : ((List UInt8) × Int × Bool × Int × Int × Unit) × Unit) (K : Ex → Z sg → Prop) : Prop := F_ref_Thousandths_l28 A53 A54 n x.1.1 x.1.2.1 x.1.2.2.1 x.1.2.2.2.1 x.1.2.2.2.2.1 (fun y0 y1 y2 => K (.exit 6) (le_ref_Thousandths_28.put ((y0, y1, y2, ()), ())))
def h_ref_Thousandths_28 (A53 : T_ref_At) (A54 : T_ref_Digit) (z : Z sg) (K : Ex → Z sg → Prop) : Prop := ls_ref_Thousandths_28.get z (fun x => ∃ n, FF_ref_Thousandths_28 A53 A54 n x K)
def ls_ref_Thousandths_31 : LS sy (Int × Bool × Int × Unit) Unit := ⟨[], fCons 4 (vInt sy .i64) (fCons 6 (vBool sy) (fCons 9 (vInt sy .i64) (fNil sy))), hNil sy, 0, []⟩
def le_ref_Thousandths_31 : LS sy (Bool × Int × Unit) Unit := ⟨[], fCons 6 (vBool sy) (fCons 9 (vInt sy .i64) (fNil sy)), hNil sy, 0, []⟩
def lr_ref_Thousandths_31 : LS sy Unit Unit := ⟨[], fNil sy, hNil sy, 0, []⟩
def FF_ref_Thousandths_31 (A53 : T_ref_At) (A54 : T_ref_Digit) (n : Nat) (x : (Int × Bool × Int × Unit) × Unit) (K : Ex → Z sg → Prop) : Prop := F_ref_Thousandths_l31 A53 A54 n x.1.1 x.1.2.1 x.1.2.2.1 (fun y0 y1 => K (.exit 8) (le_ref_Thousandths_31.put ((y0, y1, ()), ())))
def h_ref_Thousandths_31 (A53 : T_ref_At) (A54 : T_ref_Digit) (z : Z sg) (K : Ex → Z sg → Prop) : Prop := ls_ref_Thousandths_31.get z (fun x => ∃ n, FF_ref_Thousandths_31 A53 A54 n x K)
def L_ref_Thousandths (A53 : T_ref_At) (A54 : T_ref_Digit) : LoopT sg := tabL [(5, h_ref_Thousandths_5 A53 A54), (10, h_ref_Thousandths_10 A53 A54), (20, h_ref_Thousandths_20 A53 A54), (28, h_ref_Thousandths_28 A53 A54), (31, h_ref_Thousandths_31 A53 A54)]
theorem hs_ref_Thousandths_5 (A53 : T_ref_At) (A54 : T_ref_Digit) (n : Nat) (x : ((List UInt8) × (List UInt8) × Int × Int × Bool × Unit) × Unit) (K : Ex → Z sg → Prop) : forceZ (ls_ref_Thousandths_5.put x) (fun z => sC sy Tryd.prog GT (C_ref_Thousandths A53 A54) (L_ref_Thousandths A53 A54) Tryd.f32.ntmps (nthLoop (bodyOf Tryd.f32) 0) z (rnd ls_ref_Thousandths_5 (czT 0 le_ref_Thousandths_5 lr_ref_Thousandths_5) (fun x => FF_ref_Thousandths_5 A53 A54 n x K) K)) = FF_ref_Thousandths_5 A53 A54 (n + 1) x K := by kernel_rfl
theorem hl_ref_Thousandths_5 (A53 : T_ref_At) (A54 : T_ref_Digit) (z : Z sg) (K : Ex → Z sg → Prop) : (L_ref_Thousandths A53 A54) (nthLoop (bodyOf Tryd.f32) 0) z K = ls_ref_Thousandths_5.get z (fun x => ∃ n, FF_ref_Thousandths_5 A53 A54 n x K) := by kernel_rfl
theorem lo_ref_Thousandths_5 (A53 : T_ref_At) (A54 : T_ref_Digit) (h53 : FnOK sy Tryd.prog GT ovD GL 53 (q_ref_At A53)) (h54 : FnOK sy Tryd.prog GT ovD GL 54 (q_ref_Digit A54)) : ∀ (o0 : Nat → Prop) (B : Bs sg), B.E.length ≤ 0 → ∀ z K, (L_ref_Thousandths A53 A54) (nthLoop (bodyOf Tryd.f32) 0) z K → Sx.Sem sy Tryd.prog GT ovD o0 GL Tryd.f32.ntmps B (.loop (nthLoop (bodyOf Tryd.f32) 0)) z K :=
  loop_ok (Cok_ref_Thousandths A53 A54 h53 h54) (lp_of (l := []) (by kernel_rfl) lp_nil) ls_ref_Thousandths_5 (by decide) (czT 0 le_ref_Thousandths_5 lr_ref_Thousandths_5) (fun _ _ hB => czT_ok 0 le_ref_Thousandths_5 lr_ref_Thousandths_5 (Nat.le_trans hB (by decide)) (Nat.le_trans hB (by decide))) (fun _ _ h => h) (hs_ref_Thousandths_5 A53 A54) (hl_ref_Thousandths_5 A53 A54)
theorem hs_ref_Thousandths_10 (A53 : T_ref_At) (A54 : T_ref_Digit) (n : Nat) (x : ((List UInt8) × (List UInt8) × Int × Int × Bool × Unit) × Unit) (K : Ex → Z sg → Prop) : forceZ (ls_ref_Thousandths_10.put x) (fun z => sC sy Tryd.prog GT (C_ref_Thousandths A53 A54) (L_ref_Thousandths A53 A54) Tryd.f32.ntmps (nthLoop (bodyOf Tryd.f32) 1) z (rnd ls_ref_Thousandths_10 (czT 2 le_ref_Thousandths_10 lr_ref_Thousandths_10) (fun x => FF_ref_Thousandths_10 A53 A54 n x K) K)) = FF_ref_Thousandths_10 A53 A54 (n + 1) x K := by kernel_rfl
theorem hl_ref_Thousandths_10 (A53 : T_ref_At) (A54 : T_ref_Digit) (z : Z sg) (K : Ex → Z sg → Prop) : (L_ref_Thousandths A53 A54) (nthLoop (bodyOf Tryd.f32) 1) z K = ls_ref_Thousandths_10.get z (fun x => ∃ n, FF_ref_Thousandths_10 A53 A54 n x K) := by kernel_rfl
theorem lo_ref_Thousandths_10 (A53 : T_ref_At) (A54 : T_ref_Digit) (h53 : FnOK sy Tryd.prog GT ovD GL 53 (q_ref_At A53)) (h54 : FnOK sy Tryd.prog GT ovD GL 54 (q_ref_Digit A54)) : ∀ (o0 : Nat → Prop) (B : Bs sg), B.E.length ≤ 0 → ∀ z K, (L_ref_Thousandths A53 A54) (nthLoop (bodyOf Tryd.f32) 1) z K → Sx.Sem sy Tryd.prog GT ovD o0 GL Tryd.f32.ntmps B (.loop (nthLoop (bodyOf Tryd.f32) 1)) z K :=
  loop_ok (Cok_ref_Thousandths A53 A54 h53 h54) (lp_of (l := []) (by kernel_rfl) lp_nil) ls_ref_Thousandths_10 (by decide) (czT 2 le_ref_Thousandths_10 lr_ref_Thousandths_10) (fun _ _ hB => czT_ok 2 le_ref_Thousandths_10 lr_ref_Thousandths_10 (Nat.le_trans hB (by decide)) (Nat.le_trans hB (by decide))) (fun _ _ h => h) (hs_ref_Thousandths_10 A53 A54) (hl_ref_Thousandths_10 A53 A54)
theorem hs_ref_Thousandths_20 (A53 : T_ref_At) (A54 : T_ref_Digit) (n : Nat) (x : ((List UInt8) × (List UInt8) × Int × Int × Bool × Bool × Int × Unit) × Unit) (K : Ex → Z sg → Prop) : forceZ (ls_ref_Thousandths_20.put x) (fun z => sC sy Tryd.prog GT (C_ref_Thousandths A53 A54) (L_ref_Thousandths A53 A54) Tryd.f32.ntmps (nthLoop (bodyOf Tryd.f32) 2) z (rnd ls_ref_Thousandths_20 (czT 4 le_ref_Thousandths_20 lr_ref_Thousandths_20) (fun x => FF_ref_Thousandths_20 A53 A54 n x K) K)) = FF_ref_Thousandths_20 A53 A54 (n + 1) x K := by kernel_rfl
theorem hl_ref_Thousandths_20 (A53 : T_ref_At) (A54 : T_ref_Digit) (z : Z sg) (K : Ex → Z sg → Prop) : (L_ref_Thousandths A53 A54) (nthLoop (bodyOf Tryd.f32) 2) z K = ls_ref_Thousandths_20.get z (fun x => ∃ n, FF_ref_Thousandths_20 A53 A54 n x K) := by kernel_rfl
theorem lo_ref_Thousandths_20 (A53 : T_ref_At) (A54 : T_ref_Digit) (h53 : FnOK sy Tryd.prog GT ovD GL 53 (q_ref_At A53)) (h54 : FnOK sy Tryd.prog GT ovD GL 54 (q_ref_Digit A54)) : ∀ (o0 : Nat → Prop) (B : Bs sg), B.E.length ≤ 0 → ∀ z K, (L_ref_Thousandths A53 A54) (nthLoop (bodyOf Tryd.f32) 2) z K → Sx.Sem sy Tryd.prog GT ovD o0 GL Tryd.f32.ntmps B (.loop (nthLoop (bodyOf Tryd.f32) 2)) z K :=
  loop_ok (Cok_ref_Thousandths A53 A54 h53 h54) (lp_of (l := []) (by kernel_rfl) lp_nil) ls_ref_Thousandths_20 (by decide) (czT 4 le_ref_Thousandths_20 lr_ref_Thousandths_20) (fun _ _ hB => czT_ok 4 le_ref_Thousandths_20 lr_ref_Thousandths_20 (Nat.le_trans hB (by decide)) (Nat.le_trans hB (by decide))) (fun _ _ h => h) (hs_ref_Thousandths_20 A53 A54) (hl_ref_Thousandths_20 A53 A54)
theorem hs_ref_Thousandths_28 (A53 : T_ref_At) (A54 : T_ref_Digit) (n : Nat) (x : ((List UInt8) × Int × Bool × Int × Int × Unit) × Unit) (K : Ex → Z sg → Prop) : forceZ (ls_ref_Thousandths_28.put x) (fun z => sC sy Tryd.prog GT (C_ref_Thousandths A53 A54) (L_ref_Thousandths A53 A54) Tryd.f32.ntmps (nthLoop (bodyOf Tryd.f32) 3) z (rnd ls_ref_Thousandths_28 (czT 6 le_ref_Thousandths_28 lr_ref_Thousandths_28) (fun x => FF_ref_Thousandths_28 A53 A54 n x K) K)) = FF_ref_Thousandths_28 A53 A54 (n + 1) x K := by kernel_rfl
theorem hl_ref_Thousandths_28 (A53 : T_ref_At) (A54 : T_ref_Digit) (z : Z sg) (K : Ex → Z sg → Prop) : (L_ref_Thousandths A53 A54) (nthLoop (bodyOf Tryd.f32) 3) z K = ls_ref_Thousandths_28.get z (fun x => ∃ n, FF_ref_Thousandths_28 A53 A54 n x K) := by kernel_rfl
theorem lo_ref_Thousandths_28 (A53 : T_ref_At) (A54 : T_ref_Digit) (h53 : FnOK sy Tryd.prog GT ovD GL 53 (q_ref_At A53)) (h54 : FnOK sy Tryd.prog GT ovD GL 54 (q_ref_Digit A54)) : ∀ (o0 : Nat → Prop) (B : Bs sg), B.E.length ≤ 0 → ∀ z K, (L_ref_Thousandths A53 A54) (nthLoop (bodyOf Tryd.f32) 3) z K → Sx.Sem sy Tryd.prog GT ovD o0 GL Tryd.f32.ntmps B (.loop (nthLoop (bodyOf Tryd.f32) 3)) z K :=
  loop_ok (Cok_ref_Thousandths A53 A54 h53 h54) (lp_of (l := []) (by kernel_rfl) lp_nil) ls_ref_Thousandths_28 (by decide) (czT 6 le_ref_Thousandths_28 lr_ref_Thousandths_28) (fun _ _ hB => czT_ok 6 le_ref_Thousandths_28 lr_ref_Thousandths_28 (Nat.le_trans hB (by decide)) (Nat.le_trans hB (by decide))) (fun _ _ h => h) (hs_ref_Thousandths_28 A53 A54) (hl_ref_Thousandths_28 A53 A54)
theorem hs_ref_Thousandths_31 (A53 : T_ref_At) (A54 : T_ref_Digit) (n : Nat) (x : (Int × Bool × Int × Unit) × Unit) (K : Ex → Z sg → Prop) : forceZ (ls_ref_Thousandths_31.put x) (fun z => sC sy Tryd.prog GT (C_ref_Thousandths A53 A54) (L_ref_Thousandths A53 A54) Tryd.f32.ntmps (nthLoop (bodyOf Tryd.f32) 4) z (rnd ls_ref_Thousandths_31 (czT 8 le_ref_Thousandths_31 lr_ref_Thousandths_31) (fun x => FF_ref_Thousandths_31 A53 A54 n x K) K)) = FF_ref_Thousandths_31 A53 A54 (n + 1) x K := by kernel_rfl
theorem hl_ref_Thousandths_31 (A53 : T_ref_At) (A54 : T_ref_Digit) (z : Z sg) (K : Ex → Z sg → Prop) : (L_ref_Thousandths A53 A54) (nthLoop (bodyOf Tryd.f32) 4) z K = ls_ref_Thousandths_31.get z (fun x => ∃ n, FF_ref_Thousandths_31 A53 A54 n x K) := by kernel_rfl
theorem lo_ref_Thousandths_31 (A53 : T_ref_At) (A54 : T_ref_Digit) (h53 : FnOK sy Tryd.prog GT ovD GL 53 (q_ref_At A53)) (h54 : FnOK sy Tryd.prog GT ovD GL 54 (q_ref_Digit A54)) : ∀ (o0 : Nat → Prop) (B : Bs sg), B.E.length ≤ 0 → ∀ z K, (L_ref_Thousandths A53 A54) (nthLoop (bodyOf Tryd.f32) 4) z K → Sx.Sem sy Tryd.prog GT ovD o0 GL Tryd.f32.ntmps B (.loop (nthLoop (bodyOf Tryd.f32) 4)) z K :=
  loop_ok (Cok_ref_Thousandths A53 A54 h53 h54) (lp_of (l := []) (by kernel_rfl) lp_nil) ls_ref_Thousandths_31 (by decide) (czT 8 le_ref_Thousandths_31 lr_ref_Thousandths_31) (fun _ _ hB => czT_ok 8 le_ref_Thousandths_31 lr_ref_Thousandths_31 (Nat.le_trans hB (by decide)) (Nat.le_trans hB (by decide))) (fun _ _ h => h) (hs_ref_Thousandths_31 A53 A54) (hl_ref_Thousandths_31 A53 A54)
theorem Lp_ref_Thousandths (A53 : T_ref_At) (A54 : T_ref_Digit) (h53 : FnOK sy Tryd.prog GT ovD GL 53 (q_ref_At A53)) (h54 : FnOK sy Tryd.prog GT ovD GL 54 (q_ref_Digit A54)) : LpOK sy Tryd.prog GT ovD GL (L_ref_Thousandths A53 A54) 0 Tryd.f32.ntmps (bodyOf Tryd.f32) := lp_of (l := [(nthLoop (bodyOf Tryd.f32) 0), (nthLoop (bodyOf Tryd.f32) 1), (nthLoop (bodyOf Tryd.f32) 2), (nthLoop (bodyOf Tryd.f32) 3), (nthLoop (bodyOf Tryd.f32) 4)]) (by kernel_rfl) (lp_cons (lo_ref_Thousandths_5 A53 A54 h53 h54) (lp_cons (lo_ref_Thousandths_10 A53 A54 h53 h54) (lp_cons (lo_ref_Thousandths_20 A53 A54 h53 h54) (lp_cons (lo_ref_Thousandths_28 A53 A54 h53 h54) (lp_cons (lo_ref_Thousandths_31 A53 A54 h53 h54) lp_nil)))))


theorem raw_ref_Thousandths (A53 : T_ref_At) (A54 : T_ref_Digit) (a0 : List UInt8) (k : W → Prop) : fnT sy Tryd.prog GT (C_ref_Thousandths A53 A54) (L_ref_Thousandths A53 A54) Tryd.f32.ntmps (bodyOf Tryd.f32) [none] Tryd.f32.results.toList [.s a0] k = F_ref_Thousandths A53 A54 a0 (fun r0 => k (.i .i64 r0)) := by kernel_rfl

theorem ok_ref_Thousandths (A53 : T_ref_At) (A54 : T_ref_Digit) (h53 : FnOK sy Tryd.prog GT ovD GL 53 (q_ref_At A53)) (h54 : FnOK sy Tryd.prog GT ovD GL 54 (q_ref_Digit A54)) : FnOK sy Tryd.prog GT ovD GL 32 (q_ref_Thousandths (F_ref_Thousandths A53 A54)) := (fn_ok (rc := [none]) (f := 32) (fn := Tryd.f32) (c := bodyOf Tryd.f32) (nt := Tryd.f32.ntmps) (res := Tryd.f32.results.toList) (C := C_ref_Thousandths A53 A54) (L := (L_ref_Thousandths A53 A54)) (fun _ => rfl) Tryd.func32 (by kernel_rfl) rfl rfl (Cok_ref_Thousandths A53 A54 h53 h54) (Lp_ref_Thousandths A53 A54 h53 h54)).weak (by
  intro us k h
  unfold q_ref_Thousandths at h
  split at h
  · skip
    rename_i a0
    rw [raw_ref_Thousandths A53 A54 a0 k]
    exact h
  · exact h.elim)

abbrev T_ref_Value := List UInt8 → (Int → Bool → Int → Prop) → Prop
def q_ref_Value (A : T_ref_Value) (us : List W) (k : W → Prop) : Prop := match us with
  | [.s a0] => A a0 (fun r0 r1 r2 => k (.t [.i .i64 r0, .b r1, .i .i64 r2]))
  | _ => False
theorem q_ref_Value_weak {A A2 : T_ref_Value} (h : FnOK sy Tryd.prog GT ovD GL 16 (q_ref_Value A)) (hA : ∀ a0 K, A2 a0 K → A a0 K) : FnOK sy Tryd.prog GT ovD GL 16 (q_ref_Value A2) := h.weak (by
  intro us k h
  unfold q_ref_Value at h ⊢
  split at h
  · exact hA _ _ h
  · exact h.elim)

def F_ref_Value (A30 : T_ref_NumberAt) (A31 : T_ref_NumberEnd) (A32 : T_ref_Thousandths) (a0 : List UInt8) (K : Int → Bool → Int → Prop) : Prop :=
  (((decide ((4000 : Int) < (a0.length : Int))) = true → K (0 : Int) false (28 : Int)) ∧ ((decide ((4000 : Int) < (a0.length : Int))) = false → (A30 a0 (0 : Int) (fun y1 => (((!y1) = true → K (0 : Int) false (12 : Int)) ∧ ((!y1) = false → (A31 a0 (0 : Int) (fun y2 y3 => (((decide (y2 ≠ (a0.length : Int))) = true → K (0 : Int) false (12 : Int)) ∧ ((decide (y2 ≠ (a0.length : Int))) = false → (A32 a0 (fun y4 => K y4 y3 (0 : Int)))))))))))))

def C_ref_Value (A30 : T_ref_NumberAt) (A31 : T_ref_NumberEnd) (A32 : T_ref_Thousandths) : CallT sg := tab [(30, con [none, none] (q_ref_NumberAt A30)), (31, con [none, none] (q_ref_NumberEnd A31)), (32, con [none] (q_ref_Thousandths A32))]
theorem Cok_ref_Value (A30 : T_ref_NumberAt) (A31 : T_ref_NumberEnd) (A32 : T_ref_Thousandths) (h30 : FnOK sy Tryd.prog GT ovD GL 30 (q_ref_NumberAt A30)) (h31 : FnOK sy Tryd.prog GT ovD GL 31 (q_ref_NumberEnd A31)) (h32 : FnOK sy Tryd.prog GT ovD GL 32 (q_ref_Thousandths A32)) (o0 : Nat → Prop) : CalOK sy Tryd.prog GT ovD o0 GL (C_ref_Value A30 A31 A32) := (tab_cons (con_ok h30) (tab_cons (con_ok h31) (tab_cons (con_ok h32) tab_nil))) o0

theorem raw_ref_Value (A30 : T_ref_NumberAt) (A31 : T_ref_NumberEnd) (A32 : T_ref_Thousandths) (a0 : List UInt8) (k : W → Prop) : fnT sy Tryd.prog GT (C_ref_Value A30 A31 A32) noL Tryd.f16.ntmps (bodyOf Tryd.f16) [none, none, none] Tryd.f16.results.toList [.s a0] k = F_ref_Value A30 A31 A32 a0 (fun r0 r1 r2 => k (.t [.i .i64 r0, .b r1, .i .i64 r2])) := by kernel_rfl

theorem ok_ref_Value (A30 : T_ref_NumberAt) (A31 : T_ref_NumberEnd) (A32 : T_ref_Thousandths) (h30 : FnOK sy Tryd.prog GT ovD GL 30 (q_ref_NumberAt A30)) (h31 : FnOK sy Tryd.prog GT ovD GL 31 (q_ref_NumberEnd A31)) (h32 : FnOK sy Tryd.prog GT ovD GL 32 (q_ref_Thousandths A32)) : FnOK sy Tryd.prog GT ovD GL 16 (q_ref_Value (F_ref_Value A30 A31 A32)) := (fn_ok (rc := [none, none, none]) (f := 16) (fn := Tryd.f16) (c := bodyOf Tryd.f16) (nt := Tryd.f16.ntmps) (res := Tryd.f16.results.toList) (C := C_ref_Value A30 A31 A32) (L := noL) (fun _ => rfl) Tryd.func16 (by kernel_rfl) rfl rfl (Cok_ref_Value A30 A31 A32 h30 h31 h32) (lp_of (l := []) (by kernel_rfl) lp_nil)).weak (by
  intro us k h
  unfold q_ref_Value at h
  split at h
  · skip
    rename_i a0
    rw [raw_ref_Value A30 A31 A32 a0 k]
    exact h
  · exact h.elim)

abbrev T_vitrinelaw02_TokenValues := List UInt8 → (Bool → Prop) → Prop
def q_vitrinelaw02_TokenValues (A : T_vitrinelaw02_TokenValues) (us : List W) (k : W → Prop) : Prop := match us with
  | [.s a0] => A a0 (fun r0 => k (.b r0))
  | _ => False
theorem q_vitrinelaw02_TokenValues_weak {A A2 : T_vitrinelaw02_TokenValues} (h : FnOK sy Tryd.prog GT ovD GL 4 (q_vitrinelaw02_TokenValues A)) (hA : ∀ a0 K, A2 a0 K → A a0 K) : FnOK sy Tryd.prog GT ovD GL 4 (q_vitrinelaw02_TokenValues A2) := h.weak (by
  intro us k h
  unfold q_vitrinelaw02_TokenValues at h ⊢
  split at h
  · exact hA _ _ h
  · exact h.elim)

def F_vitrinelaw02_TokenValues (A11 : T_token_Value) (A16 : T_ref_Value) (A12 : T_token_Name) (A17 : T_ref_Name) (a0 : List UInt8) (K : Bool → Prop) : Prop :=
  (((decide ((500 : Int) < (a0.length : Int))) = true → (((decide ((a0.length : Int) ≤ (4000 : Int))) = false → (((decide ((4100 : Int) < (a0.length : Int))) = true → K true) ∧ ((decide ((4100 : Int) < (a0.length : Int))) = false → (A11 a0 (fun y1 y2 y3 => (A16 a0 (fun y4 y5 y6 => (A12 a0 (fun y7 y8 => (A17 a0 (fun y9 y10 => (((decide (y1 = y4)) = true → (((y2 == y5) = true → (((decide (y3 = y6)) = true → (((y7 == y9) = true → K (decide (y8 = y10))) ∧ ((y7 == y9) = false → K false))) ∧ ((decide (y3 = y6)) = false → K false))) ∧ ((y2 == y5) = false → K false))) ∧ ((decide (y1 = y4)) = false → K false))))))))))))) ∧ ((decide ((a0.length : Int) ≤ (4000 : Int))) = true → K true))) ∧ ((decide ((500 : Int) < (a0.length : Int))) = false → (((decide ((4100 : Int) < (a0.length : Int))) = true → K true) ∧ ((decide ((4100 : Int) < (a0.length : Int))) = false → (A11 a0 (fun y11 y12 y13 => (A16 a0 (fun y14 y15 y16 => (A12 a0 (fun y17 y18 => (A17 a0 (fun y19 y20 => (((decide (y11 = y14)) = true → (((y12 == y15) = true → (((decide (y13 = y16)) = true → (((y17 == y19) = true → K (decide (y18 = y20))) ∧ ((y17 == y19) = false → K false))) ∧ ((decide (y13 = y16)) = false → K false))) ∧ ((y12 == y15) = false → K false))) ∧ ((decide (y11 = y14)) = false → K false))))))))))))))

def C_vitrinelaw02_TokenValues (A11 : T_token_Value) (A16 : T_ref_Value) (A12 : T_token_Name) (A17 : T_ref_Name) : CallT sg := tab [(11, con [none] (q_token_Value A11)), (16, con [none] (q_ref_Value A16)), (12, con [none] (q_token_Name A12)), (17, con [none] (q_ref_Name A17))]
theorem Cok_vitrinelaw02_TokenValues (A11 : T_token_Value) (A16 : T_ref_Value) (A12 : T_token_Name) (A17 : T_ref_Name) (h11 : FnOK sy Tryd.prog GT ovD GL 11 (q_token_Value A11)) (h16 : FnOK sy Tryd.prog GT ovD GL 16 (q_ref_Value A16)) (h12 : FnOK sy Tryd.prog GT ovD GL 12 (q_token_Name A12)) (h17 : FnOK sy Tryd.prog GT ovD GL 17 (q_ref_Name A17)) (o0 : Nat → Prop) : CalOK sy Tryd.prog GT ovD o0 GL (C_vitrinelaw02_TokenValues A11 A16 A12 A17) := (tab_cons (con_ok h11) (tab_cons (con_ok h16) (tab_cons (con_ok h12) (tab_cons (con_ok h17) tab_nil)))) o0

theorem raw_vitrinelaw02_TokenValues (A11 : T_token_Value) (A16 : T_ref_Value) (A12 : T_token_Name) (A17 : T_ref_Name) (a0 : List UInt8) (k : W → Prop) : fnT sy Tryd.prog GT (C_vitrinelaw02_TokenValues A11 A16 A12 A17) noL Tryd.f4.ntmps (bodyOf Tryd.f4) [none] Tryd.f4.results.toList [.s a0] k = F_vitrinelaw02_TokenValues A11 A16 A12 A17 a0 (fun r0 => k (.b r0)) := by kernel_rfl

theorem ok_vitrinelaw02_TokenValues (A11 : T_token_Value) (A16 : T_ref_Value) (A12 : T_token_Name) (A17 : T_ref_Name) (h11 : FnOK sy Tryd.prog GT ovD GL 11 (q_token_Value A11)) (h16 : FnOK sy Tryd.prog GT ovD GL 16 (q_ref_Value A16)) (h12 : FnOK sy Tryd.prog GT ovD GL 12 (q_token_Name A12)) (h17 : FnOK sy Tryd.prog GT ovD GL 17 (q_ref_Name A17)) : FnOK sy Tryd.prog GT ovD GL 4 (q_vitrinelaw02_TokenValues (F_vitrinelaw02_TokenValues A11 A16 A12 A17)) := (fn_ok (rc := [none]) (f := 4) (fn := Tryd.f4) (c := bodyOf Tryd.f4) (nt := Tryd.f4.ntmps) (res := Tryd.f4.results.toList) (C := C_vitrinelaw02_TokenValues A11 A16 A12 A17) (L := noL) (fun _ => rfl) Tryd.func4 (by kernel_rfl) rfl rfl (Cok_vitrinelaw02_TokenValues A11 A16 A12 A17 h11 h16 h12 h17) (lp_of (l := []) (by kernel_rfl) lp_nil)).weak (by
  intro us k h
  unfold q_vitrinelaw02_TokenValues at h
  split at h
  · skip
    rename_i a0
    rw [raw_vitrinelaw02_TokenValues A11 A16 A12 A17 a0 k]
    exact h
  · exact h.elim)

end Go.Proofs.YtcjoehlflbegpaaDoor
