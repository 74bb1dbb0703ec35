/-
  The law FixedCounts: its ties. Nothing is claimed here.
-/
import Derived.Test.YthjnkibldhfhmaaKe
import Derived.Test.YthjnkibldhfhmaaAs
import Derived.Test.YthjnkibldhfhmaaVl
namespace Go.Proofs.Ythjnkibldhfhmaa
open Go.Vm Go.Sx Go.RowKit
variable {ro : Nat}

theorem t_16 : FnOK sy Try.prog GT (ovD ro) ro 16 (q_bits_Mul64 s_mul64) := by
  intro o0 us k h st vs hn hg ho hr
  unfold q_bits_Mul64 at h
  split at h
  · rename_i a0 a1
    obtain ⟨⟨h0, h1, h2, h3⟩, hk⟩ := h
    obtain ⟨v0, r0, rfl, hv0, hr0⟩ := hr
    obtain ⟨v1, r1, rfl, hv1, hr1⟩ := hr0
    have hr1 : r1 = [] := hr1
    have hv0 : v0 = .i .u64 a0 := hv0
    have hv1 : v1 = .i .u64 a1 := hv1
    subst hr1 hv0 hv1
    obtain ⟨x, rfl⟩ : ∃ c : Nat, a0 = .ofNat c := ⟨a0.toNat, by show a0 = (a0.toNat : Int); omega⟩
    obtain ⟨y, rfl⟩ : ∃ c : Nat, a1 = .ofNat c := ⟨a1.toNat, by show a1 = (a1.toNat : Int); omega⟩
    have hx : x < 18446744073709551616 := by have : ((x : Nat) : Int) < 18446744073709551616 := h1; omega
    have hy : y < 18446744073709551616 := by have : ((y : Nat) : Int) < 18446744073709551616 := h3; omega
    refine ⟨V.t [.i .u64 (.ofNat (x * y / 18446744073709551616)), .i .u64 (.ofNat (x * y % 18446744073709551616))], st, ⟨1, fun n hn => ?_⟩, .t [.i .u64 (.ofNat (x * y / 18446744073709551616)), .i .u64 (.ofNat (x * y % 18446744073709551616))], ⟨_, rfl, _, _, rfl, rfl, _, _, rfl, rfl, rfl⟩, ⟨Nat.le_refl _, fun _ _ => rfl, fun _ _ q => q⟩, hk⟩
    cases n with
    | zero => omega
    | succ n =>
      have e : ovD ro 16 [.i .u64 (.ofNat x), .i .u64 (.ofNat y)] st = some (V.t [.i .u64 (.ofNat (x * y / 18446744073709551616)), .i .u64 (.ofNat (x * y % 18446744073709551616))], st) := by
        have hb : mulB x y = true := by unfold mulB; rw [Bool.and_eq_true, Nat.blt_eq, Nat.blt_eq]; exact ⟨hx, hy⟩
        have h0 : ov2 16 [.i .u64 (.ofNat x), .i .u64 (.ofNat y)] = some (V.t [.i .u64 (.ofNat (x * y / 18446744073709551616)), .i .u64 (.ofNat (x * y % 18446744073709551616))]) := by
          show cond (mulB x y) (some (V.t [.i .u64 (.ofNat (x * y / 18446744073709551616)), .i .u64 (.ofNat (x * y % 18446744073709551616))])) none = _
          rw [hb]
          rfl
        show ofOv0 ov2 16 [.i .u64 (.ofNat x), .i .u64 (.ofNat y)] st = _
        unfold ofOv0
        rw [h0]
      unfold evF callGo
      rw [e]
  · exact h.elim
theorem t_12 : FnOK sy Try.prog GT (ovD ro) ro 12 (q_r6_Hold s_rHold) := q_r6_Hold_weak ok_r6_Hold p_rHold
theorem t_18 : FnOK sy Try.prog GT (ovD ro) ro 18 (q_r6_product s_rPr) := q_r6_product_weak (ok_r6_product s_rHold t_12) p_rPr
theorem t_tmk : ∀ k, FnOK sy Try.prog GT (ovD ro) ro 15 (q_r6_Times (sTm k))
  | 0 => fun o0 us k h => by unfold q_r6_Times at h; split at h <;> exact h.elim
  | k + 1 => q_r6_Times_weak (ok_r6_Times (sTm k) s_rPr (t_tmk k) t_18) (p_rTm k)
theorem t_15 : FnOK sy Try.prog GT (ovD ro) ro 15 (q_r6_Times s_rTm) := t_tmk 2
theorem t_10 : FnOK sy Try.prog GT (ovD ro) ro 10 (q_fixed_checkAll s_chk) := q_fixed_checkAll_weak (ok_fixed_checkAll) p_chk
theorem t_4 : FnOK sy Try.prog GT (ovD ro) ro 4 (q_fixed_Sum s_Sum) := q_fixed_Sum_weak (ok_fixed_Sum s_chk t_10) p_Sum
theorem t_11 : FnOK sy Try.prog GT (ovD ro) ro 11 (q_r6_Is s_rIs) := q_r6_Is_weak (ok_r6_Is) p_rIs
theorem t_5 : FnOK sy Try.prog GT (ovD ro) ro 5 (q_r6_Sum s_rSum) := q_r6_Sum_weak (ok_r6_Sum s_rIs s_rHold t_11 t_12) p_rSum
theorem t_14 : FnOK sy Try.prog GT (ovD ro) ro 14 (q_fixed_size s_size) := q_fixed_size_weak (ok_fixed_size) p_size
theorem t_20 : FnOK sy Try.prog GT (ovD ro) ro 20 (q_bits_Len64 s_len) := q_bits_Len64_weak (ok_bits_Len64) p_len
theorem t_19 : FnOK sy Try.prog GT (ovD ro) ro 19 (q_bits_LeadingZeros64 s_lz) := q_bits_LeadingZeros64_weak (ok_bits_LeadingZeros64 s_len t_20) p_lz
theorem t_17 : FnOK sy Try.prog GT (ovD ro) ro 17 (q_bits_Div64 s_div) := q_bits_Div64_weak (ok_bits_Div64 s_lz t_19) p_div
theorem t_13 : FnOK sy Try.prog GT (ovD ro) ro 13 (q_fixed_heldProduct s_hp) := q_fixed_heldProduct_weak (ok_fixed_heldProduct s_mul64 s_div t_16 t_17) p_hp
theorem t_6 : FnOK sy Try.prog GT (ovD ro) ro 6 (q_fixed_Mul s_Mul) := q_fixed_Mul_weak (ok_fixed_Mul s_chk s_size s_hp t_10 t_14 t_13) p_Mul
theorem t_7 : FnOK sy Try.prog GT (ovD ro) ro 7 (q_r6_Mul s_rMul) := q_r6_Mul_weak (ok_r6_Mul s_rIs s_rTm t_11 t_15) p_rMul
theorem t_8 : FnOK sy Try.prog GT (ovD ro) ro 8 (q_fixed_Within s_Within) := q_fixed_Within_weak (ok_fixed_Within s_chk t_10) p_Within
theorem t_9 : FnOK sy Try.prog GT (ovD ro) ro 9 (q_r6_Within s_rWithin) := q_r6_Within_weak (ok_r6_Within s_rIs t_11) p_rWithin
theorem t_law : FnOK sy Try.prog GT (ovD ro) ro 3 (q_vitrinelaw06_FixedCounts (fun _ _ _ _ K => K true)) :=
  q_vitrinelaw06_FixedCounts_weak (ok_vitrinelaw06_FixedCounts s_Sum s_rSum s_Mul s_rMul s_Within s_rWithin t_4 t_5 t_6 t_7 t_8 t_9) law_counts

theorem one_cell {P : Program} {w : World} {r : Reach} {b0 : Nat} {t e : TypeId} {v : Value} (ht : P.underlying t = some (.slice e)) (hval : Value.okWide P w r b0 t v) : v.cells = #[v] := by
  cases v with
  | agg cs => simp [Value.okWide, ht, Cell.okWide, Cell.ok] at hval
  | _ => rfl
theorem rd_i64 {H : Type} {enc : TypeId × Value → H} {W : World} (N : Nat) : Rd sy Try.prog enc W N 2 Cd.i64 := by
  intro fuel _ cs x h
  obtain ⟨n, rfl, _, _⟩ := DataW.trod_int Try.underlying2 h
  refine ⟨n, rfl, fun j u x hu hx => ?_⟩
  match j, hu, hx with
  | 0, hu, hx =>
    obtain rfl := Option.some.inj hu
    obtain rfl := Option.some.inj hx
    exact ⟨.i .i64 n, rfl, .i _ _⟩
  | j + 1, hu, hx => cases hx
theorem calls (a b c : Int) (W : World) (val : Value) (v : V) (xs : List Int) (hv : toV W.heap.size val = some v) (hd : Dat sy (fun _ => False) (stW W) Cd.i64 xs v) : Calls Try.prog 3 #[.int .i64 a, .int .i64 b, .int .i64 c, val] W fun e w' => e = .returned (.bool true) ∧ Below W.heap.size W w' := by
  obtain ⟨q1, q2, q3⟩ := toV_spec hv
  refine law_callsW (ov := ovA (GL + W.heap.size)) ovA_ok mixed name_of (args := [.i .i64 a, .i .i64 b, .i .i64 c, v]) ⟨trivial, trivial, trivial, q2, trivial⟩ ?_ _ (by simp only [V.reals, V.real, q1])
  obtain ⟨v', st', ⟨M, h1⟩, u, h2, _, h3⟩ := t_law (ro := GL + W.heap.size) (fun _ => False) [.i .i64 a, .i .i64 b, .i .i64 c, .l Cd.i64 xs] (fun u => u = .b true) rfl (stW W) [.i .i64 a, .i .i64 b, .i .i64 c, v] (Nat.le_refl _) (fun g k l h => by cases h) (fun _ q => q.elim) ⟨_, _, rfl, rfl, _, _, rfl, rfl, _, _, rfl, rfl, _, _, rfl, hd, rfl⟩
  subst h3
  have e : v' = .b true := h2
  subst e
  exact ⟨M, st', h1 M (Nat.le_refl _)⟩
end Go.Proofs.Ythjnkibldhfhmaa
