/-
 What the texts of tokens stand on, in no shape. Nothing is claimed here.
-/
import Derived.Test.YtkokbidbmidlbaaGreatDoorHa1
import Derived.Test.YtkokbidbmidlbaaGreatDoorTj
import Derived.Test.YtkokbidbmidlbaaGreatDoorOb
set_option linter.unusedVariables false
namespace Go.Proofs.YtkokbidbmidlbaaGreatDoor
open Go.Vm Go.Sx Go.RowKit
theorem jfw (u : Nat) : (jgD u).length ≤ 2 := by unfold jgD; split <;> simp
theorem Jdd (c : UInt8) : (Zf8 c).length ≤ 4 := by
 unfold Zf8
 have := jfw c.toNat
 split <;> simp <;> omega
theorem Zca (e : Int) : ∀ (w : List UInt8) (i : Int), (JeH e i w).length ≤ 4 * w.length
 | [], _ => by simp [JeH]
 | c :: w, i => by
  have h1 := Zca e w (i + 1)
  have h2 := Jdd c
  simp only [JeH, List.length_append, List.length_cons]
  split
  ·simp; omega
  ·omega
theorem Jec : ∀ (w : List UInt8), (zgh w).length ≤ 4 * w.length
 | [] => by simp [zgh]
 | c :: w => by
  have h1 := Jec w
  have h2 := Jdd c
  simp only [zgh, List.length_append, List.length_cons]
  split
  ·omega
  ·simp; omega
theorem zed : ∀ (w : List UInt8), (jgh w).length ≤ 4 * w.length
 | [] => by simp [jgh]
 | c :: w => by
  have h1 := zed w
  have h2 := Jdd c
  simp only [jgh, List.length_append, List.length_cons]
  split
  ·omega
  ·simp; omega
theorem je6 : ∀ k r, (fr3 k r).length ≤ k
 | 0, _ => Nat.le_refl _
 | k + 1, r => by
  simp only [fr3, List.length_cons]
  split
  ·simp
  ·have := je6 k (r * 10 % 1000); omega
theorem jf3 {a : Nat} (h : a ≤ 1000000000) : (Lib.decDigits a).length ≤ 10 := by
 rw [Lib.decDigits_length]
 have h10 : ∀ k u, u < 10 ^ (k + 1) → Lib.nDigits u ≤ k + 1 := by
  intro k
  induction k with
  | zero => intro u hu; rw [Lib.nDigits_small (by simpa using hu)]; omega
  | succ k ih =>
   intro u hu
   by_cases q : u < 10
   ·rw [Lib.nDigits_small q]; omega
   ·rw [Lib.nDigits_big q]
    have := ih (u / 10) (by rw [Nat.pow_succ] at hu; omega)
    omega
 exact h10 9 a (by omega)
theorem zde {n : Int} (h : -1000000000000 ≤ n ∧ n ≤ 1000000000000) (w : Bool) : (jfP n w).length ≤ 15 := by
 have h1 := jf3 (a := n.natAbs / 1000) (by omega)
 have h2 := je6 3 (n.natAbs % 1000)
 unfold jfP
 rw [List.length_append, List.length_append]
 have h3 : (if n < 0 then [(45 : UInt8)] else []).length ≤ 1 := by split <;> simp
 have h4 : (if w then ([] : List UInt8) else 46 :: fr3 3 (n.natAbs % 1000)).length ≤ 4 := by split <;> simp <;> omega
 omega
theorem Ze6 {t : Tok} (h : ZcY t = true) : (1 ≤ t.kind ∧ t.kind ≤ 24) ∧ (t.kind ≠ 6 ∧ t.kind ≠ 8) ∧ (t.kind = 10 ∨ t.kind = 11 ∨ t.kind = 12 → -1000000000000 ≤ t.num ∧ t.num ≤ 1000000000000) ∧ (t.kind = 12 → t.unit ≠ []) := by
 unfold ZcY at h
 simp only [Bool.and_eq_true] at h
 obtain ⟨-, -, -, h⟩ := h
 by_cases k1 : t.kind ∈ ([1, 2, 3] : List Int)
 ·simp only [List.mem_cons, List.not_mem_nil, or_false] at k1
  refine ⟨by omega, by omega, fun q => by omega, fun q => by omega⟩
 rw [if_neg k1] at h
 by_cases k4 : t.kind = 4
 ·refine ⟨by omega, by omega, fun q => by omega, fun q => by omega⟩
 rw [if_neg k4] at h
 by_cases k9 : t.kind = 9
 ·refine ⟨by omega, by omega, fun q => by omega, fun q => by omega⟩
 rw [if_neg k9] at h
 by_cases k10 : t.kind = 10 ∨ t.kind = 11
 ·rw [if_pos k10] at h
  unfold zdL at h
  simp only [Bool.and_eq_true, decide_eq_true_eq] at h
  exact ⟨by omega, by omega, fun _ => ⟨h.1, h.2.1⟩, fun q => by omega⟩
 rw [if_neg k10] at h
 by_cases k12 : t.kind = 12
 ·rw [if_pos k12] at h
  unfold zdL at h
  simp only [Bool.and_eq_true, decide_eq_true_eq, bne_iff_ne] at h
  exact ⟨by omega, by omega, fun _ => ⟨h.1.1, h.1.2.1⟩, fun _ => h.2⟩
 rw [if_neg k12] at h
 by_cases k6 : t.kind = 6 ∨ t.kind = 8
 ·rw [if_pos k6] at h; cases h
 rw [if_neg k6] at h
 simp only [Bool.and_eq_true, decide_eq_true_eq] at h
 exact ⟨h, by omega, fun q => by omega, fun q => by omega⟩
theorem jde (s : List UInt8) : (Zeu s).length ≤ 4 * s.length := Zca _ _ _
theorem Je6 (s : List UInt8) (f : Bool) : (JfP s f).length ≤ 4 * s.length + 1 := by
 cases f with
 | false => have := Zca (-1) s 0; show (35 :: JeH (-1) 0 s).length ≤ _; rw [List.length_cons]; omega
 | true => have := jde s; show (35 :: Zeu s).length ≤ _; rw [List.length_cons]; omega
theorem ze7 (s : List UInt8) : (ZfP s).length ≤ 4 * s.length := by
 unfold ZfP
 cases jeh s with
 | false => exact jde s
 | true => exact Zca _ _ _
theorem jed {t : Tok} (hc : ZcY t = true) (ht : t.text.length ≤ 1000000) (hu : t.unit.length ≤ 1000000) : (tokT t).length ≤ 4000020 := by
 obtain ⟨c1, c2, c3, c4⟩ := Ze6 hc
 have b1 := jde t.text
 have b2 := ze7 t.unit
 have b3 := Jec t.text
 have b4 := zed t.text
 have b5 := Je6 t.text t.flag
 unfold tokT
 have key : ∀ (c : Prop) [Decidable c] (x y : List UInt8), (c → x.length ≤ 4000020) → (¬ c → y.length ≤ 4000020) → (if c then x else y).length ≤ 4000020 := by
  intro c _ x y h1 h2
  by_cases q : c
  ·rw [if_pos q]; exact h1 q
  ·rw [if_neg q]; exact h2 q
 refine key _ _ _ (fun q => by simp) fun _ => key _ _ _ (fun q => by omega) fun _ => key _ _ _ (fun q => by simp only [List.length_append, List.length_cons, List.length_nil]; omega) fun _ => key _ _ _ (fun q => by rw [List.length_cons]; omega) fun _ => key _ _ _ (fun q => by omega) fun _ => key _ _ _ (fun q => by simp only [List.length_append, List.length_cons, List.length_nil]; omega) fun _ => key _ _ _ (fun q => by simp only [List.length_append, List.length_cons, List.length_nil]; omega) fun _ => key _ _ _ (fun q => ?_) fun _ => key _ _ _ (fun q => ?_) fun _ => key _ _ _ (fun q => ?_) fun _ => key _ _ _ (fun q => by omega) fun _ => key _ _ _ (fun q => by simp) fun _ => key _ _ _ (fun q => by simp) fun _ => by simp
 ·have := zde (c3 (by omega)) t.flag; omega
 ·have := zde (c3 (by omega)) (jd3 t.num); simp only [List.length_append, List.length_cons, List.length_nil]; omega
 ·have := zde (c3 (by omega)) t.flag; rw [List.length_append]; omega
end Go.Proofs.YtkokbidbmidlbaaGreatDoor
set_option linter.unusedVariables false
namespace Go.Proofs.YtkokbidbmidlbaaGreatDoor
open Go.Vm Go.Sx Go.RowKit
theorem zdE : ∀ (s : List UInt8) (i : Int), 0 ≤ i → (∀ c ∈ s, mN (c.toNat : Int) = true) → JeH (-1) i s = s
 | [], i, _, _ => rfl
 | c :: w, i, hi, h => by
  rw [JeH, if_pos ⟨by omega, h c List.mem_cons_self⟩, zdE w (i + 1) (by omega) fun d m => h d (List.mem_cons_of_mem _ m)]
  rfl
def je7 (s : List UInt8) : Prop := (∀ c ∈ s, mN (c.toNat : Int) = true) ∧ zfP s = -1
theorem Ze7 {s : List UInt8} (h : je7 s) : Zeu s = s := by
 unfold Zeu
 rw [h.2]
 exact zdE s 0 (by omega) h.1
def ok2 (t : Tok) : Prop := (t.text.length ≤ 1000000 ∧ t.unit.length ≤ 1000000) ∧ t.kind = 1 ∧ je7 t.text
abbrev zgM := jaD Zdb
theorem Je7 (c0_0 : List Tok) (b2 : List (Int × Int)) (c3_0 : Int) (c3_1 : Int) (c4_0 : Int) (c4_1 : List UInt8) (c4_2 : Int) (c4_3 : List UInt8) (c4_4 : Bool) (c5_0 : Int) (c5_1 : List UInt8) (c5_2 : Int) (c5_3 : List UInt8) (c5_4 : Bool) (s : List UInt8) (hs : s.length ≤ 1000000) (hN : ∀ c ∈ s, mN (c.toNat : Int) = true) (Ke : (List Tok → List UInt8 → List (Int × Int) → Int → Int → Int → List UInt8 → Int → List UInt8 → Bool → Int → List UInt8 → Int → List UInt8 → Bool → Prop)) : ∀ (w : List UInt8) (i : Int) (b : List UInt8), s.drop i.toNat = w → 0 ≤ i → i ≤ s.length → b.length + 4 * w.length ≤ 48000000 →
  Ke c0_0 (b ++ w) b2 c3_0 c3_1 c4_0 c4_1 c4_2 c4_3 c4_4 c5_0 c5_1 c5_2 c5_3 c5_4 → ∃ m, zgM m s (-1) (s.length : Int) i c0_0 b b2 c3_0 c3_1 c4_0 c4_1 c4_2 c4_3 c4_4 c5_0 c5_1 c5_2 c5_3 c5_4 Ke
 | [], i, b, hw, hi, hil, hb, h => by
  have := zx hw
  refine ⟨1, ?_⟩
  simp only [jaD]
  refine ⟨fun q => ?_, fun _ => ?_⟩
  ·have := of_decide_eq_true q; omega
  ·simpa using h
 | c :: w, i, b, hw, hi, hil, hb, h => by
  obtain ⟨h1, h2, h3, _⟩ := jm hi hw
  rw [List.length_cons] at hb
  have hin := jdB c
  have hlt : ¬ decide (i < (s.length : Int)) = false := by simp; omega
  have hc : mN (c.toNat : Int) = true := hN c (List.mem_of_mem_drop (i := i.toNat) (by rw [hw]; exact List.mem_cons_self))
  obtain ⟨m, hm⟩ := Je7 c0_0 b2 c3_0 c3_1 c4_0 c4_1 c4_2 c4_3 c4_4 c5_0 c5_1 c5_2 c5_3 c5_4 s hs hN Ke w (i + 1) (b ++ [c]) h3 (by omega) (by omega) (by simp; omega) (by simpa using h)
  refine ⟨m + 1, ?_⟩
  simp only [jaD]
  refine ⟨fun _ => ⟨fun _ => ⟨⟨hi, h1⟩, ?_⟩, fun z => by have := of_decide_eq_false z; omega⟩, fun z => absurd z hlt⟩
  rw [h2, Jg0]
  refine ⟨fun _ => ⟨⟨hi, h1⟩, hin, by simp; omega, by unfold I64; omega, hm⟩, fun z => ?_⟩
  rw [hc] at z
  cases z
def Zde : T_gB_w := fun s e c0_0 b b2 c3_0 c3_1 c4_0 c4_1 c4_2 c4_3 c4_4 c5_0 c5_1 c5_2 c5_3 c5_4 K => (s.length ≤ 1000000 ∧ b.length ≤ 40000000) ∧ ((∀ c ∈ s, mN (c.toNat : Int) = true) ∧ e = -1) ∧ K c0_0 (b ++ s) b2 c3_0 c3_1 c4_0 c4_1 c4_2 c4_3 c4_4 c5_0 c5_1 c5_2 c5_3 c5_4
theorem Zf3 (s e c0_0 b b2 c3_0 c3_1 c4_0 c4_1 c4_2 c4_3 c4_4 c5_0 c5_1 c5_2 c5_3 c5_4 K) (h : Zde s e c0_0 b b2 c3_0 c3_1 c4_0 c4_1 c4_2 c4_3 c4_4 c5_0 c5_1 c5_2 c5_3 c5_4 K) : Je5 Zdb s e c0_0 b b2 c3_0 c3_1 c4_0 c4_1 c4_2 c4_3 c4_4 c5_0 c5_1 c5_2 c5_3 c5_4 K := by
 obtain ⟨h1, ⟨h2, rfl⟩, h3⟩ := h
 exact Je7 c0_0 b2 c3_0 c3_1 c4_0 c4_1 c4_2 c4_3 c4_4 c5_0 c5_1 c5_2 c5_3 c5_4 s h1.1 h2 K s 0 b rfl (by omega) (by omega) (by have := h1; omega) h3
def Jde : T_gN_w := fun s c0_0 b b2 c3_0 c3_1 c4_0 c4_1 c4_2 c4_3 c4_4 c5_0 c5_1 c5_2 c5_3 c5_4 K => (s.length ≤ 1000000 ∧ b.length ≤ 40000000) ∧ je7 s ∧ K c0_0 (b ++ s) b2 c3_0 c3_1 c4_0 c4_1 c4_2 c4_3 c4_4 c5_0 c5_1 c5_2 c5_3 c5_4
theorem Jf3 (s c0_0 b b2 c3_0 c3_1 c4_0 c4_1 c4_2 c4_3 c4_4 c5_0 c5_1 c5_2 c5_3 c5_4 K) (h : Jde s c0_0 b b2 c3_0 c3_1 c4_0 c4_1 c4_2 c4_3 c4_4 c5_0 c5_1 c5_2 c5_3 c5_4 K) : ze6 jdC Zde s c0_0 b b2 c3_0 c3_1 c4_0 c4_1 c4_2 c4_3 c4_4 c5_0 c5_1 c5_2 c5_3 c5_4 K := ⟨h.1, h.2.1, h.2.2⟩
def ZcB : T_glue_appendToken_w := fun k tx n u f c0_0 b b2 c3_0 c3_1 c4_0 c4_1 c4_2 c4_3 c4_4 K => (ok2 ⟨k, tx, n, u, f⟩ ∧ b.length ≤ 30000000) ∧ K c0_0 (b ++ tokT ⟨k, tx, n, u, f⟩) b2 c3_0 c3_1 c4_0 c4_1 c4_2 c4_3 c4_4 k tx n u f
theorem zf4 (k tx n u f c0_0 b b2 c3_0 c3_1 c4_0 c4_1 c4_2 c4_3 c4_4 K) (h : ZcB k tx n u f c0_0 b b2 c3_0 c3_1 c4_0 c4_1 c4_2 c4_3 c4_4 K) : zT Jde jdV k tx n u f c0_0 b b2 c3_0 c3_1 c4_0 c4_1 c4_2 c4_3 c4_4 K := by
 obtain ⟨⟨⟨⟨ht, hu⟩, rfl, hp⟩, hb⟩, h⟩ := h
 have e : tokT ⟨1, tx, n, u, f⟩ = tx := Ze7 hp
 rw [e] at h
 exact ⟨fun q => absurd q (by decide), fun _ => ⟨fun _ => ⟨⟨ht, by omega⟩, hp, h⟩, fun q => absurd q (by decide)⟩⟩
end Go.Proofs.YtkokbidbmidlbaaGreatDoor
set_option linter.unusedVariables false
namespace Go.Proofs.YtkokbidbmidlbaaGreatDoor
open Go.Vm Go.Sx Go.RowKit
theorem ZfF {t : Tok} (h : ok2 t) : jga t := ⟨by have := h.1.1; omega, by have := h.1.2; omega⟩
theorem ze8 (c0 : List Tok) (b2 : List (Int × Int)) (c1 c2 : Int) (l : List Tok) (hl : ∀ t ∈ l, ZcY t = true ∧ ok2 t) (hs : l.length ≤ 1500) (Ke : List Tok → List UInt8 → List (Int × Int) → Int → Int → Prop) :
  ∀ (n i : Nat) (b : List UInt8), i + n = l.length → b.length + 4000020 * n ≤ 30000000 → Ke c0 (b ++ (l.drop i).flatMap tokT) b2 c1 c2 → Zn ZeY ZcB (n + 1) l (l.length : Int) (i : Int) c0 b b2 c1 c2 Ke
 | 0, i, b, hi, hb, h => by
  simp only [Zn]
  rw [List.drop_of_length_le (by omega), List.flatMap_nil, List.append_nil] at h
  exact ⟨fun q => absurd (of_decide_eq_true q) (by omega), fun _ => h⟩
 | n + 1, i, b, hi, hb, h => by
  have hlt : i < l.length := by omega
  have hm : l.getD i (zg Cd.tok) ∈ l := by rw [ZdV hlt]; exact List.getElem_mem hlt
  obtain ⟨hc, ho⟩ := hl _ hm
  rw [jad hlt, List.flatMap_cons, ← List.append_assoc] at h
  have hlen := jed hc ho.1.1 ho.1.2
  have ih := ze8 c0 b2 c1 c2 l hl hs Ke n (i + 1) (b ++ tokT (l.getD i (zg Cd.tok))) (by omega) (by rw [List.length_append]; omega) h
  rw [Zn]
  refine ⟨fun _ => ⟨⟨by omega, by omega⟩, ?_⟩, fun q => absurd (of_decide_eq_false q) (by omega)⟩
  rw [Int.toNat_natCast]
  generalize l.getD i (zg Cd.tok) = t at *
  obtain ⟨k, tx, x, u, f⟩ := t
  exact ⟨⟨ho, by omega⟩, Je9 (by omega), ih⟩
def Zgq : T_glue_appendPiece_w := fun l c0 b b2 c1 c2 K => ((l ≠ [] ∧ l.length ≤ 1500) ∧ (jbZ (l.getD 0 (zg Cd.tok)) = false → ∀ t ∈ l, ZcY t = true ∧ ok2 t) ∧ b.length + 4000020 * l.length ≤ 30000000) ∧ K c0 (b ++ jff l) b2 c1 c2
theorem zg1 (l c0 b b2 c1 c2 K) (h : Zgq l c0 b b2 c1 c2 K) : ZT ZeY ZcB l c0 b b2 c1 c2 K := by
 obtain ⟨⟨⟨h1, h1'⟩, h2, h3⟩, h⟩ := h
 have hp : 0 < l.length := by cases l with | nil => exact absurd rfl h1 | cons => simp
 have e : jff l = if jbZ (l.getD 0 (zg Cd.tok)) then [92, 10] else l.flatMap tokT := by
  cases l with
  | nil => exact absurd rfl h1
  | cons t w => rfl
 rw [e] at h
 refine ⟨⟨by omega, by omega⟩, fun q => ⟨by omega, by omega, by simp; omega, ?_⟩, fun q => ⟨l.length + 1, ?_⟩⟩
 ·have q : jbZ (l.getD 0 (zg Cd.tok)) = true := q
  rw [if_pos q] at h
  exact h
 ·have q : jbZ (l.getD 0 (zg Cd.tok)) = false := q
  rw [q] at h
  exact ze8 c0 b2 c1 c2 l (h2 q) h1' K l.length 0 b (by omega) h3 h
theorem Jca {t : Tok} {l : List Tok} (h : zcZ (t :: l) = true) : ZcY t = true ∧ zfQ t l = true ∧ zcZ l = true := by
 rw [zcZ, Bool.and_eq_true, Bool.and_eq_true] at h
 exact h
theorem Zed : ∀ (k : Nat) {l : List Tok}, zcZ l = true → zcZ (l.drop k) = true
 | 0, l, h => h
 | k + 1, [], h => h
 | k + 1, t :: l, h => Zed k (Jca h).2.2
theorem je8 : ∀ {l : List Tok}, zcZ l = true → ∀ t ∈ l, ZcY t = true
 | [], _, _, m => by cases m
 | a :: l, h, t, m => by
  rcases List.mem_cons.1 m with rfl | m
  ·exact (Jca h).1
  ·exact je8 (Jca h).2.2 t m
theorem zcb {l : List Tok} {k : Int} (h : swK l k = true) : ∃ t w, l = t :: w ∧ t.kind = k := by
 cases l with
 | nil => cases h
 | cons t w => exact ⟨t, w, rfl, of_decide_eq_true h⟩
theorem jet {l : List Tok} (h : zcZ l = true) (hn : l ≠ []) : 1 ≤ JfA l ∧ JfA l ≤ 3 ∧ JfA l ≤ l.length ∧ (JcY (l.getD 0 (zg Cd.tok)) = true → jbZ (l.getD 0 (zg Cd.tok)) = false → (l.any fun t => decide (t.kind = 5)) = true) := by
 cases l with
 | nil => exact absurd rfl hn
 | cons t l =>
  obtain ⟨-, hf, -⟩ := Jca h
  unfold zfQ at hf
  show 1 ≤ (if jbZ t then 2 else if JcY t then 1 + (l.takeWhile fun t => decide (t.kind ≠ 5)).length + 1 else 1) ∧ (if jbZ t then 2 else if JcY t then 1 + (l.takeWhile fun t => decide (t.kind ≠ 5)).length + 1 else 1) ≤ 3 ∧ (if jbZ t then 2 else if JcY t then 1 + (l.takeWhile fun t => decide (t.kind ≠ 5)).length + 1 else 1) ≤ (t :: l).length ∧ (JcY t = true → jbZ t = false → ((t :: l).any fun t => decide (t.kind = 5)) = true)
  by_cases q1 : jbZ t = true
  ·rw [if_pos q1] at hf
   obtain ⟨a, w, rfl, -⟩ := zcb hf
   rw [if_pos q1]
   exact ⟨by omega, by omega, by simp, fun _ q => by rw [q1] at q; cases q⟩
  ·rw [if_neg q1] at hf ⊢
   by_cases q2 : JcY t = true
   ·rw [if_pos q2] at hf ⊢
    by_cases q3 : swK l 13 = true
    ·rw [if_pos q3] at hf
     obtain ⟨a, w, rfl, ha⟩ := zcb q3
     obtain ⟨c, w, rfl, hc⟩ := zcb hf
     have e : ((a :: c :: w).takeWhile fun t : Tok => decide (t.kind ≠ 5)).length = 1 := by
      rw [List.takeWhile_cons, if_pos (by rw [ha]; decide), List.takeWhile_cons, if_neg (by rw [hc]; decide)]
      rfl
     rw [e]
     refine ⟨by omega, by omega, by simp, fun _ _ => ?_⟩
     simp [hc]
    ·rw [if_neg q3] at hf
     obtain ⟨c, w, rfl, hc⟩ := zcb hf
     have e : ((c :: w).takeWhile fun t : Tok => decide (t.kind ≠ 5)).length = 0 := by
      rw [List.takeWhile_cons, if_neg (by rw [hc]; decide)]
      rfl
     rw [e]
     refine ⟨by omega, by omega, by simp, fun _ _ => ?_⟩
     simp [hc]
   ·rw [if_neg q2]
    exact ⟨by omega, by omega, by simp, fun q => absurd q q2⟩
theorem jf4 {t : Tok} (hc : ZcY t = true) : tokT t ≠ [] := by
 have nam : ∀ s : List UInt8, s ≠ [] → Zeu s ≠ [] := by
  intro s hs
  cases s with
  | nil => exact absurd rfl hs
  | cons c w =>
   unfold Zeu
   generalize zfP (c :: w) = e
   simp only [JeH, Zf8]
   split <;> simp
 have h := hc
 unfold ZcY at h
 simp only [Bool.and_eq_true] at h
 obtain ⟨-, -, -, h⟩ := h
 have num : ∀ n w, jfP n w ≠ [] := by
  intro n w hz
  unfold jfP at hz
  have hz := (List.append_eq_nil_iff.1 (List.append_eq_nil_iff.1 hz).2).1
  have := congrArg List.length hz
  rw [Lib.decDigits_length, List.length_nil] at this
  by_cases q : n.natAbs / 1000 < 10
  ·rw [Lib.nDigits_small q] at this; omega
  ·rw [Lib.nDigits_big q] at this; omega
 have key : ∀ (c : Prop) [Decidable c] (x y : List UInt8), (c → x ≠ []) → (¬ c → y ≠ []) → (if c then x else y) ≠ [] := by
  intro c _ x y h1 h2
  by_cases q : c
  ·rw [if_pos q]; exact h1 q
  ·rw [if_neg q]; exact h2 q
 unfold tokT
 have hn : t.kind = 1 → Zeu t.text ≠ [] := by
  intro q
  rw [if_pos (by rw [q]; decide)] at h
  exact nam _ (by simpa using h)
 have hd : t.kind = 9 → t.text ≠ [] := by
  intro q
  rw [if_neg (by rw [q]; decide), if_neg (by omega), if_pos q] at h
  intro z
  rw [z] at h
  cases h
 refine key _ _ _ (fun _ => by simp) fun _ => key _ _ _ (fun q => hn q) fun _ => key _ _ _ (fun q => by simp) fun _ => key _ _ _ (fun q => by simp) fun _ => key _ _ _ (fun q => by unfold JfP; simp) fun _ => key _ _ _ (fun q => by simp) fun _ => key _ _ _ (fun q => by simp) fun _ => key _ _ _ (fun q => num _ _) fun _ => key _ _ _ (fun q => by simp) fun _ => key _ _ _ (fun q z => num _ _ (List.append_eq_nil_iff.1 z).1) fun _ => key _ _ _ hd fun _ => key _ _ _ (fun q => by simp) fun _ => key _ _ _ (fun q => by simp) fun _ => by simp
theorem Zf4 {l : List Tok} (hn : l ≠ []) (hc : ∀ t ∈ l, ZcY t = true) : jff l ≠ [] := by
 cases l with
 | nil => exact absurd rfl hn
 | cons t w =>
  unfold jff
  dsimp only
  split
  ·simp
  ·rw [List.flatMap_cons]
   intro z
   exact jf4 (hc t List.mem_cons_self) (List.append_eq_nil_iff.1 z).1
def stI (sts : List (Nat × Nat)) : List (Int × Int) := (sts.map fun s => ((s.2 : Int), (s.1 : Int))).reverse
theorem jbE (s : Nat × Nat) (sts : List (Nat × Nat)) : stI (s :: sts) = stI sts ++ [((s.2 : Int), (s.1 : Int))] := by
 unfold stI
 rw [List.map_cons, List.reverse_cons]
theorem zdf (sts : List (Nat × Nat)) : (stI sts).length = sts.length := by unfold stI; simp
abbrev ixI (n : Int) : Int := if (0 : Int) < ((n - (1 : Int)) - (3 : Int)) then ((n - (1 : Int)) - (3 : Int)) else (0 : Int)
theorem Jf4 (s : Nat × Nat) (sts : List (Nat × Nat)) (d : Int × Int) : (stI (s :: sts)).getD (ixI ((stI (s :: sts)).length : Int)).toNat d = (((((s :: sts).take 4).getLastD (0, 0)).2 : Int), ((((s :: sts).take 4).getLastD (0, 0)).1 : Int)) ∧ ((s :: sts).take 4).getLastD (0, 0) ∈ s :: sts := by
 match sts with
 | [] => exact ⟨rfl, by simp⟩
 | [a] => exact ⟨rfl, by simp⟩
 | [a, b] => exact ⟨rfl, by simp⟩
 | a :: b :: c :: r =>
  refine ⟨?_, by simp⟩
  have e : (ixI ((stI (s :: a :: b :: c :: r)).length : Int)).toNat = (stI r).length := by
   rw [zdf, zdf]
   unfold ixI
   simp only [List.length_cons]
   split <;> omega
  rw [e, jbE, jbE, jbE, jbE]
  rw [List.append_assoc, List.append_assoc, List.append_assoc, List.getD_eq_getElem?_getD, List.getElem?_append_right (Nat.le_refl _), Nat.sub_self]
  rfl
def jgM : T_glue_Write := fun l K => (∀ t ∈ l, ok2 t) ∧ K (jfQ l).1 (jfQ l).2
theorem zf5 (l : List Tok) (hok : ∀ t ∈ l, ok2 t) (hs : l.length ≤ 1500) (K : List UInt8 → Int → Prop) :
  ∀ (f i : Nat) (b : List UInt8) (sts : List (Nat × Nat)), l.length ≤ i + f → i ≤ l.length → zcZ (l.drop i) = true → b.length ≤ 4000 → (∀ s ∈ sts, s.1 ≤ b.length ∧ s.2 ≤ i) → sts.length ≤ i →
   K (wrM l (f + 1) b sts i).1 (wrM l (f + 1) b sts i).2 → zv jeZ ZeZ Zgq ZcQ (f + 1) l (i : Int) l b (stI sts) (fun _ y _ => K y (0 : Int)) (fun y z => K y z) := by
 intro f
 induction f with
 | zero =>
  intro i b sts hf hi hc hb hst hsl h
  rw [wrM, if_pos (by omega)] at h
  rw [zv]
  exact ⟨fun q => absurd (of_decide_eq_true q) (by omega), fun _ => h⟩
 | succ f ih =>
  intro i b sts hf hi hc hb hst hsl h
  by_cases hend : l.length ≤ i
  ·rw [wrM, if_pos hend] at h
   rw [zv]
   exact ⟨fun q => absurd (of_decide_eq_true q) (by omega), fun _ => h⟩
  ·rw [wrM, if_neg hend] at h
   have hlt : i < l.length := by omega
   have hne : l.drop i ≠ [] := by
    intro z
    have := congrArg List.length z
    rw [List.length_drop, List.length_nil] at this
    omega
   obtain ⟨p1, p2, p3, p4⟩ := jet hc hne
   rw [List.length_drop] at p3
   have hd0 : (l.drop i).getD 0 (zg Cd.tok) = l.getD i (zg Cd.tok) := by rw [jad hlt]; rfl
   rw [hd0] at p4
   have hd : ∀ t ∈ l.drop i, ZcY t = true ∧ ok2 t := fun t m => ⟨je8 hc t m, hok t (List.mem_of_mem_drop m)⟩
   have htk : ∀ n, ∀ t ∈ (l.drop i).take n, ZcY t = true ∧ ok2 t := fun n t m => hd t (List.mem_of_mem_take m)
   generalize hN : JfA (l.drop i) = N at *
   dsimp only at h
   have eN : i + N - i = N := by omega
   rw [eN] at h
   have hpl : ((l.drop i).take N).length = N := by rw [List.length_take, List.length_drop]; omega
   have hpn : (l.drop i).take N ≠ [] := by
    intro z
    rw [z] at hpl
    simp at hpl
    omega
   have hpt := Zf4 hpn fun t m => (htk N t m).1
   have hp0 : ((l.drop i).take N).getD 0 (zg Cd.tok) = l.getD i (zg Cd.tok) := by
    rw [jad hlt]
    cases N with
    | zero => omega
    | succ N => rfl
   have hplen : (jff ((l.drop i).take N)).length ≤ 12000060 := by
    unfold jff
    split
    ·split
     ·simp
     ·rename_i t w ew _
      have : ∀ (m : List Tok), (∀ t ∈ m, ZcY t = true ∧ ok2 t) → (m.flatMap tokT).length ≤ 4000020 * m.length := by
       intro m
       induction m with
       | nil => intro _; simp
       | cons a m im =>
        intro ha
        have h1 := ha a List.mem_cons_self
        have h2 := jed h1.1 h1.2.1.1 h1.2.1.2
        have h3 := im fun t mt => ha t (List.mem_cons_of_mem _ mt)
        rw [List.flatMap_cons, List.length_append, List.length_cons]
        omega
      have := this _ (htk N)
      rw [hpl] at this
      omega
    ·simp
   generalize hP : jff ((l.drop i).take N) = P at *
   have hPl : 0 < P.length := by
    cases P with
    | nil => exact absurd rfl hpt
    | cons => simp
   obtain ⟨g1, g2⟩ := Jf4 (b.length, i) sts (zg Cd.span)
   generalize hfr : ((((b.length, i) :: sts).take 4).getLastD (0, 0)) = fr at *
   have hfrb : fr.1 ≤ b.length ∧ fr.2 ≤ i := by
    rcases List.mem_cons.1 g2 with z | z
    ·rw [z]; exact ⟨Nat.le_refl _, Nat.le_refl _⟩
    ·exact hst _ z
   have est : stI sts ++ [((i : Int), (b.length : Int))] = stI ((b.length, i) :: sts) := (jbE (b.length, i) sts).symm
   have hsl1 : (stI ((b.length, i) :: sts)).length = sts.length + 1 := by rw [zdf, List.length_cons]
   have hst1 : ∀ b' : List UInt8, b.length ≤ b'.length → ∀ s ∈ (b.length, i) :: sts, s.1 ≤ b'.length ∧ s.2 ≤ i + N := by
    intro b' hb' s m
    rcases List.mem_cons.1 m with z | z
    ·rw [z]; exact ⟨hb', by show i ≤ i + N; omega⟩
    ·have := hst _ z; omega
   have hcd : zcZ (l.drop (i + N)) = true := by rw [← List.drop_drop]; exact Zed N hc
   rw [zv]
   refine ⟨fun _ => ⟨⟨by omega, by omega, hs⟩, fun t m => ZfF (hok t m), fun q => ?_, ?_⟩, fun q => absurd (of_decide_eq_false q) (by omega)⟩
   ·rw [Int.toNat_natCast] at q ⊢
    by_cases q0 : jbZ (l.getD i (zg Cd.tok)) = true
    ·exfalso
     have a1 := JeZ q
     unfold jbZ at q0
     rw [a1] at q0
     simp at q0
    ·exact p4 q (by simpa using q0)
   ·rw [Int.toNat_natCast, hN]
    have ei : (i : Int) + (N : Int) = ((i + N : Nat) : Int) := by omega
    rw [ei]
    simp only [Int.toNat_natCast, eN]
    refine ⟨⟨by omega, by omega, by omega⟩, ⟨⟨hpn, by omega⟩, fun _ => htk N, by rw [hpl]; omega⟩, ?_⟩
    dsimp only
    rw [hP, est]
    refine ⟨by simp only [List.length_append, List.length_singleton, zdf]; omega, by rw [hsl1]; exact Je9 (by omega), by rw [hsl1]; exact Je9 (by omega), ?_⟩
    have eix : ∀ n : Int, (if (0 : Int) < ((n - (1 : Int)) - (3 : Int)) then ((n - (1 : Int)) - (3 : Int)) else (0 : Int)) = ixI n := fun n => rfl
    simp only [eix]
    have hix : 0 ≤ ixI ((stI ((b.length, i) :: sts)).length : Int) ∧ ixI ((stI ((b.length, i) :: sts)).length : Int) < ((stI ((b.length, i) :: sts)).length : Int) := by
     rw [hsl1]
     unfold ixI
     split <;> omega
    refine ⟨hix, by omega, ?_⟩
    rw [g1]
    simp only [Int.toNat_natCast]
    refine ⟨⟨by omega, by rw [List.length_append]; omega⟩, ⟨by omega, by omega, by omega⟩, ?_⟩
    refine ⟨fun q => ?_, fun q => ?_⟩
    ·rw [if_pos q] at h
     refine ⟨fun q2 => ?_, fun q2 => ?_⟩
     ·rw [if_pos (by have := of_decide_eq_true q2; omega)] at h
      exact h
     ·have q2 := of_decide_eq_false q2
      rw [if_neg (by omega)] at h
      exact ih (i + N) (b ++ P) ((b.length, i) :: sts) (by omega) (by omega) hcd (by omega) (hst1 _ (by rw [List.length_append]; omega)) (by rw [List.length_cons]; omega) h
    ·simp only [q, Bool.false_eq_true, if_false] at h
     have et : (b ++ P).take b.length = b := by rw [List.take_append_of_le_length (Nat.le_refl _), List.take_length]
     have ed : (b ++ P).drop b.length = P := by rw [List.drop_append_of_le_length (Nat.le_refl _), List.drop_length, List.nil_append]
     simp only [et, ed]
     simp only [ed] at h
     refine ⟨by omega, by omega, by omega, by omega, ⟨by omega, by rw [List.length_append]; omega, by simp, by simp; omega⟩, ?_⟩
     refine ⟨fun q2 => ?_, fun q2 => ?_⟩
     ·have q2 := of_decide_eq_true q2
      rw [if_pos (by show 4000 < (b ++ ([47, 42, 42, 47] ++ P)).length; have : (b ++ ([UInt8.ofNat 47, UInt8.ofNat 42, UInt8.ofNat 42, UInt8.ofNat 47] ++ P)).length = (b ++ ([47, 42, 42, 47] ++ P)).length := rfl; omega)] at h
      exact h
     ·have q2 := of_decide_eq_false q2
      have e3 : (b ++ ([UInt8.ofNat 47, UInt8.ofNat 42, UInt8.ofNat 42, UInt8.ofNat 47] ++ P)).length = (b ++ ([47, 42, 42, 47] ++ P)).length := rfl
      rw [if_neg (by omega)] at h
      exact ih (i + N) (b ++ ([47, 42, 42, 47] ++ P)) ((b.length, i) :: sts) (by omega) (by omega) hcd (by omega) (hst1 _ (by rw [List.length_append]; omega)) (by rw [List.length_cons]; omega) h
theorem jg1 (l K) (h : jgM l K) : Ja3 jeZ ZeZ Zgq ZcQ l K := by
 obtain ⟨hok, h⟩ := h
 unfold jfQ at h
 refine ⟨fun t m => ZfF (hok t m), fun q => ?_, fun q => ⟨l.length + 1, ?_⟩⟩
 ·have q := of_decide_eq_true q
  rw [if_pos q] at h
  exact h
 ·have q : ZfA l = 0 := by simpa using q
  rw [if_neg (by simpa using q)] at h
  unfold ZfA at q
  split at q
  ·cases q
  rename_i hl
  split at q
  ·rename_i hc
   exact zf5 l hok (by omega) K l.length 0 [] [] (by omega) (by omega) hc (by simp) (fun s m => by cases m) (by simp) h
  ·cases q
end Go.Proofs.YtkokbidbmidlbaaGreatDoor
set_option linter.unusedVariables false
namespace Go.Proofs.YtkokbidbmidlbaaGreatDoor
open Go.Vm Go.Sx Go.RowKit
variable {ro : Nat}
theorem ZgM (t K) (h : ZfE t K) : JD zbr t K := jgZ zbr (fun a b K h => h) t K h
theorem JgM : FnOK sy Tryz.prog GT (ovD ro) ro 141 (ZaB Ze3) := by
 intro o0 us k h st vs hn hg ho hr
 unfold ZaB at h
 split at h
 ·rename_i a0 a1
  obtain ⟨hl, hk⟩ := h
  obtain ⟨v0, r0, rfl, hv0, hr0⟩ := hr
  obtain ⟨v1, r1, rfl, hv1, hr1⟩ := hr0
  have hr1 : r1 = [] := hr1
  have hv0 : v0 = V.str a0 := hv0
  have hv1 : v1 = V.str a1 := hv1
  subst hr1 hv0 hv1
  refine ⟨.i .i64 (Lib.index a0 a1), st, ⟨1, fun n hn => ?_⟩, .i .i64 (Lib.index a0 a1), rfl, ⟨Nat.le_refl _, fun _ _ => rfl, fun _ _ q => q⟩, hk⟩
  cases n with
  | zero => omega
  | succ n =>
   have e : ovD ro 141 [V.str a0, V.str a1] st = some (.i .i64 (Lib.index a0 a1), st) := by
    have hb : Nat.blt a0.length 4294967281 = true := by rw [Nat.blt_eq]; omega
    have h0 : ovI 141 [V.str a0, V.str a1] = some (V.i .i64 (Lib.index a0 a1)) := by
     show cond (Nat.blt a0.length 4294967281) (some (V.i .i64 (Lib.index (Zc a0.length (jv a0)) (Zc a1.length (jv a1))))) none = _
     rw [hb, Jt, Jt]
     rfl
    show zcC ovI 141 [V.str a0, V.str a1] st = _
    unfold zcC
    rw [h0]
   unfold evF Zv
   rw [e]
 ·exact h.elim
theorem Zg1 : FnOK syo Tryz.prog GT (ovD ro) ro 59 (zU jgH) := by
 intro o0 us k h st vs hn hg ho hr
 unfold zU at h
 split at h
 ·rename_i a0 a1
  obtain ⟨⟨hl, hl2⟩, hk⟩ := h
  obtain ⟨v0, r0, rfl, hv0, hr0⟩ := hr
  obtain ⟨v1, r1, rfl, hv1, hr1⟩ := hr0
  have hr1 : r1 = [] := hr1
  have hv0 : v0 = V.str a0 := hv0
  have hv1 : v1 = .i .u8 a1 := hv1
  subst hr1 hv0 hv1
  obtain ⟨c, rfl⟩ : ∃ c : Nat, a1 = .ofNat c := ⟨a1.toNat, by show a1 = (a1.toNat : Int); omega⟩
  have hc : c < 256 := by have : ((c : Nat) : Int) < 256 := hl2; omega
  refine ⟨.i .i64 (Lib.indexByte a0 (UInt8.ofNat c)), st, ⟨1, fun n hn => ?_⟩, .i .i64 (Lib.indexByte a0 (UInt8.ofNat c)), rfl, ⟨Nat.le_refl _, fun _ _ => rfl, fun _ _ q => q⟩, hk⟩
  cases n with
  | zero => omega
  | succ n =>
   have e : ovD ro 59 [V.str a0, .i .u8 (.ofNat c)] st = some (.i .i64 (Lib.indexByte a0 (UInt8.ofNat c)), st) := by
    have hb : Nat.blt c 256 = true := by rw [Nat.blt_eq]; exact hc
    have hx : ixN a0.length (jv a0) c 0 = Lib.indexByte a0 (UInt8.ofNat c) := by
     have h2 := (Jd5 c hc a0.length (jv a0) 0).2
     rw [Jt] at h2
     rw [h2]
     split
     ·rename_i z; exact z.symm
     ·show _ + ((0 : Nat) : Int) = _
      omega
    have h0 : ovI 59 [V.str a0, .i .u8 (.ofNat c)] = some (V.i .i64 (Lib.indexByte a0 (UInt8.ofNat c))) := by
     show cond (Nat.blt c 256) (some (V.i .i64 (ixN a0.length (jv a0) c 0))) none = _
     rw [hb, hx]
     rfl
    show zcC ovI 59 [V.str a0, .i .u8 (.ofNat c)] st = _
    unfold zcC
    rw [h0]
   unfold evF Zv
   rw [e]
 ·exact h.elim
theorem Jg1 : FnOK syo Tryz.prog GT (ovD ro) ro 49 (jI JcP) := jb3 (jdA) Zgk
theorem JgU : FnOK syo Tryz.prog GT (ovD ro) ro 34 (Jm zdC) := Jbo (zcu jgH Zg1) ZgH
theorem zg2 : FnOK syo Tryz.prog GT (ovD ro) ro 33 (Jw jcx) := jbC (jcJ) JfW
theorem JfF : FO ro 87 (jd J9) := zb0 (jdq) zgG
theorem zgV : FnOK syo Tryz.prog GT (ovD ro) ro 95 (zn zet) := jbp (Jcu J9 (gr JfF)) jgL
theorem zgN : FO ro 140 (zah je3) := zc6 (zeS) zgK
theorem jf5 : FO ro 115 (ZB Jeu) := Jc6 (jeS je3 zgN) jg0
theorem jg2 : FnOK syo Tryz.prog GT (ovD ro) ro 96 (zk Ze4) := JaB (zbd Jeu zet (gr jf5) zgV) ZgL
theorem jgV : FnOK syo Tryz.prog GT (ovD ro) ro 50 (jk jdC) := jbd (zb4 zet Ze4 zgV jg2) JgL
theorem zfG : FO ro 97 (zc JG) := Zb1 (jdu) Jgk
theorem jgN : FO ro 98 (jp jcK) := Jb1 (Zdu) JgG
theorem ZgN : FO ro 122 (jB jer) := zbK (Jc3) jgG
theorem JgN : FO ro 82 (Zi JU) := zbm (zcn jer ZgN) jfq
theorem Zg2 : FnOK syo Tryz.prog GT (ovD ro) ro 51 (ju Zer) := Zbp (zcv JG jcK JU J9 zdC (gr zfG) (gr jgN) (gr JgN) (gr JfF) JgU) JgH
theorem ZgV : FnOK syo Tryz.prog GT (ovD ro) ro 67 (jn jdV) := Jbp (jcv) zgF
theorem Jg2 : FnOK syo Tryz.prog GT (ovD ro) ro 52 (zs ZbQ) := Zbd (jb5 jdV ZgV) zfX
theorem zg3 : FnOK syo Tryz.prog GT (ovD ro) ro 29 (Jg zeZ) := zaC (Jbd JcP zdC jcx jdC Zer ZbQ Jg1 JgU zg2 jgV Zg2 Jg2) zgI
theorem zgO : FnOK syo Tryz.prog GT (ovD ro) ro 53 (zd ZeY) := zaM (zbq) zgZ
theorem jg3 : FnOK syo Tryz.prog GT (ovD ro) ro 54 (J4 zga) := ZcJ (zer) ZgZ
theorem jgO : FO ro 126 (Jr je1) := zbA (zcH) jgJ
theorem JgV : FO ro 99 (JK zbr) := jcH (Zeq je1 jgO) jf0
theorem zgW : FnOK syo Tryz.prog GT (ovD ro) ro 55 (Jd ZfE) := zaw (Ja1 zbr (gr JgV)) ZgM
theorem Zg3 : FnOK syo Tryz.prog GT (ovD ro) ro 30 (Je JeY) := Jal (jaM ZeY zga ZfE zgO jg3 zgW) jgF
theorem Jg3 : FnOK syo Tryz.prog GT (ovD ro) ro 14 (Ju jeZ) := ZbO (jdb zeZ JeY zg3 Zg3) ZgF
theorem zg4 : FnOK syo Tryz.prog GT (ovD ro) ro 31 (zm ZeZ) := Zbe (Jb5 ZeY ZfE zgO zgW) JgF
theorem Jgq : FO ro 104 (jo Zdb) := jbK (jc4 JU J9 JgN JfF) ZgG
theorem zgr : ShOK syo Tryz.prog GT (ovD ro) ro Tryz.f60.ntmps (za Tryz.f60) sl_gB_w JbR (JcQ Zde) := (Jf2 Zdb (gr Jgq)).weak (fun _ _ h => Zf3 _ _ _ _ _ _ _ _ _ _ _ _ _ _ _ _ _ _ h)
theorem jgr : ShOK syo Tryz.prog GT (ovD ro) ro Tryz.f35.ntmps (za Tryz.f35) sl_gN_w zbS (zcR Jde) := (zf3 jdC Zde jgV zgr).weak (fun _ _ h => Jf3 _ _ _ _ _ _ _ _ _ _ _ _ _ _ _ _ _ h)
theorem Zgr : ShOK syo Tryz.prog GT (ovD ro) ro Tryz.f37.ntmps (za Tryz.f37) sl_glue_appendToken_w Zj (jl ZcB) := (za3 Jde jdV jgr ZgV).weak (fun _ _ h => zf4 _ _ _ _ _ _ _ _ _ _ _ _ _ _ _ _ h)
theorem Jgr : ShOK syo Tryz.prog GT (ovD ro) ro Tryz.f56.ntmps (za Tryz.f56) sl_glue_appendPiece_w ji (zj Zgq) := (Za3 ZeY ZcB zgO Zgr).weak (fun _ _ h => zg1 _ _ _ _ _ _ _ h)
theorem ZgO : FO ro 114 (Zf Zga) := zan (JaP) Zg0
theorem jg4 : FO ro 78 (ZK jcA) := ZcF (Zeo Zga ZgO) jf2
theorem JgO : FO ro 116 (ZF Je3) := Jcs (JdT Ze3 JgM) jgK
theorem Zg4 : FO ro 79 (Jh ze4) := zaQ (JbB Jeu Je3 jf5 JgO) ZgK
theorem Jed : FO ro 81 (zb Ze) := Zcl (jdO) Jfp
theorem Zf5 : FO ro 117 (zP Zfq) := Jdu (Zfk Ze JG Jed zfG) zg0
theorem Jf5 : ShOK sy Tryz.prog GT (ovD ro) ro Tryz.f123.ntmps (za Tryz.f123) sl_uA_q ZaY (jbW zdc) := (zfU).weak (fun _ _ h => JfY _ _ _ _ _ _ _ _ h)
theorem Zfw : FO ro 124 (je ZbD) := zbL (Zc7 J9 JfF) jgI
theorem zgs : ShOK sy Tryz.prog GT (ovD ro) ro Tryz.f85.ntmps (za Tryz.f85) sl_aE_q JaY (ZbW jcy) := (ZfU zdc ZbD Ze JG Jf5 Zfw Jed zfG).weak (fun _ _ h => zfZ _ _ _ _ _ _ _ _ _ h)
theorem zgP : FO ro 118 (ZaJ Zfr) := Zdw (zfn jcy zgs) ZgI
theorem jgz : FO ro 83 (jA jbD) := Jdt (Jfj Ze Jed) zgH
theorem jgW : FO ro 84 (Z0 Zbq) := zdu (zfk Ze Zdb jbD Jed Jgq jgz) JfX
theorem ZgW : FO ro 45 (Zm zaa) := jbm (jcn Ze JU jbD Jed JgN jgz) ZfX
theorem zf6 : ShOK sy Tryz.prog GT (ovD ro) ro Tryz.f123.ntmps (za Tryz.f123) sl_uA_e JaX (JbV Jdb) := (jfT).weak (fun _ _ h => zfY _ _ _ h)
theorem jgs : ShOK sy Tryz.prog GT (ovD ro) ro Tryz.f85.ntmps (za Tryz.f85) sl_aE_e zaY (zbW zcy) := (JfT Jdb ZbD Ze JG zf6 Zfw Jed zfG).weak (fun _ _ h => jfY _ _ _ _ h)
theorem jgP : FO ro 46 (Jl zbh) := jbL (jc8 Zbq zcy jgW jgs) Jgn
theorem ZgP : FO ro 86 (js ZU) := Jcl (ZdO) zfq
theorem JgW : FO ro 88 (Jad Zcx) := zdr (zfi Ze J9 Jed JfF) zgl
theorem Jg4 : FO ro 47 (jaG ZdB) := jdr (jfi Ze ZU J9 Zcx Jed ZgP JfF JgW) jgl
theorem zg5 : FO ro 91 (Zl JbQ) := ZaG (Zbl) jfX
theorem jg5 : FO ro 92 (zr JdB) := zbc (jb0 Ze ZU J9 Jed ZgP JfF) Zgl
theorem Zg5 : FO ro 93 (JaG jbR) := Zdr (Jfi) Jf0
theorem JgP : FO ro 144 (Jag Jdc) := zc3 (jeP) zf1
theorem zgQ : FO ro 125 (jr jeb) := Jbx (jcE Jdc JgP) jgp
theorem Jg5 : FO ro 94 (zaI je2) := zds (jfj jeb zgQ) ZgJ
theorem zg6 : FO ro 48 (jaI Jfs) := Zdt (Zfj Zcx Ze JbQ JdB jbR je2 ZU J9 JgW Jed zg5 jg5 Zg5 Jg5 ZgP JfF) JgJ
theorem jgQ : FO ro 119 (zu Ja2) := jbn (jct Jfs zaa zbh Ze zg6 ZgW jgP Jed) je4
theorem jf6 : ShOK sy Tryz.prog GT (ovD ro) ro Tryz.f123.ntmps (za Tryz.f123) sl_uA_u ZaZ (jbX Zdc) := (ZfV).weak (fun _ _ h => JfZ _ _ _ _ _ _ _ _ h)
theorem Zgs : ShOK sy Tryz.prog GT (ovD ro) ro Tryz.f85.ntmps (za Tryz.f85) sl_aE_u JaZ (ZbX Jcy) := (zfW Zdc ZbD Ze JG jf6 Zfw Jed zfG).weak (fun _ _ h => zf0 _ _ _ _ _ _ _ _ _ h)
theorem ZgQ : FO ro 157 (Zr jba) := Jbz (JcG) Jfr
theorem Zf6 : ShOK sy Tryz.prog GT (ovD ro) ro Tryz.f123.ntmps (za Tryz.f123) sl_uA_n zaZ (JbW jdc) := (JfU).weak (fun _ _ h => jfZ _ _ _ h)
theorem Jgs : ShOK sy Tryz.prog GT (ovD ro) ro Tryz.f85.ntmps (za Tryz.f85) sl_aE_n jaZ (zbX Zcy) := (jfV jdc ZbD Ze JG Zf6 Zfw Jed zfG).weak (fun _ _ h => ZfZ _ _ _ _ h)
theorem JgQ : FO ro 158 (Zak ze1) := jdx (Zfo jbD Zcy jgz Jgs) JgI
theorem zgR : FO ro 142 (ZH zfs) := zb2 (zdz Zfq JG jbD Jcy jba ze1 Zf5 zfG jgz Zgs ZgQ JgQ) zgJ
theorem jgR : FO ro 120 (Zw ZaM) := jbB (jcI zbh Ze zbr Zfq jcK zfs jgP Jed JgV Zf5 jgN zgR) Zf0
theorem ZgR : FO ro 121 (jR JbD) := zct (zdU) Jgp
theorem jg6 : FO ro 80 (Zs zcA) := zbN (jda JG Zfq jcK Zfr Zbq zaa zbh ZdB Ja2 Jeu ZaM JbD zfG Zf5 jgN zgP jgW ZgW jgP Jg4 jgQ jf5 jgR ZgR) zf2
theorem Zg6 : FO ro 25 (Z2 jca) := zcJ (Jeq jcA ze4 zcA jg4 Zg4 jg6) zfv
theorem JgR : FnOK syo Tryz.prog GT (ovD ro) ro 100 (Zu Jgw) := jbq (zcx) JgZ
theorem Jg6 : FnOK syo Tryz.prog GT (ovD ro) ro 57 (Zk ZcQ) := Jbe (Zb6 jca Jgw (gr Zg6) JgR) jgq
theorem zg7 : FnOK syo Tryz.prog GT (ovD ro) ro 15 (zQ jgM) := jbS (Zdd jeZ ZeZ Zgq ZcQ Jg3 zg4 Jgr Jg6) jg1
end Go.Proofs.YtkokbidbmidlbaaGreatDoor
set_option linter.unusedVariables false
namespace Go.Proofs.YtkokbidbmidlbaaGreatDoor
open Go.Vm Go.Sx Go.RowKit
def idA : Tok := ⟨1, [97], 0, [], false⟩
def namesA : List Tok := List.replicate 1500 idA
abbrev cm5 : List UInt8 := [47, 42, 42, 47, 97]
theorem zgS : ZcY idA = true := by decide +kernel
theorem jgS : tokT idA = [97] := by decide +kernel
theorem zgt : ∀ n, zcZ (List.replicate n idA) = true
 | 0 => rfl
 | n + 1 => by
  rw [List.replicate_succ, zcZ, zgS, zgt n]
  rfl
theorem jg7 (n : Nat) : JfA (List.replicate (n + 1) idA) = 1 := by rw [List.replicate_succ]; rfl
theorem as1 : asM [97] [idA] = true := by decide +kernel
theorem as2 : asM [97, 97] [idA, idA] = false := by decide +kernel
theorem as3 : asM ([97] ++ cm5 ++ [97]) [idA, idA, idA] = false := by decide +kernel
theorem as4 : asM ([97] ++ cm5 ++ cm5 ++ [97]) [idA, idA, idA, idA] = false := by decide +kernel
theorem as5 : asM (cm5 ++ cm5 ++ cm5 ++ [97]) [idA, idA, idA, idA] = false := by decide +kernel
theorem jgt {i : Nat} (h : i < 1500) : ∃ n, namesA.drop i = List.replicate (n + 1) idA := ⟨1499 - i, by
 unfold namesA
 rw [List.drop_replicate]
 congr 1
 omega⟩
theorem jdE {i k : Nat} (h : i + k ≤ 1500) : (namesA.drop i).take k = List.replicate k idA := by
 unfold namesA
 rw [List.drop_replicate, List.take_replicate]
 congr 1
 omega
theorem zgX (f : Nat) (b : List UInt8) (sts : List (Nat × Nat)) (i : Nat) (h : i < 1500) : wrM namesA (f + 1) b sts i =
  (let fr := (((b.length, i) :: sts).take 4).getLastD (0, 0)
  let b2 := if asM ((b ++ [97]).drop fr.1) ((namesA.drop fr.2).take (i + 1 - fr.2)) then b ++ [97] else b ++ cm5
  if 4000 < b2.length then ([], 28) else wrM namesA f b2 ((b.length, i) :: sts) (i + 1)) := by
 obtain ⟨n, hn⟩ := jgt h
 have hl : ¬ namesA.length ≤ i := by unfold namesA; rw [List.length_replicate]; omega
 rw [wrM, if_neg hl, hn, jg7]
 have e1 : i + 1 - i = 1 := by omega
 have e2 : jff ((List.replicate (n + 1) idA).take 1) = [97] := by rw [List.replicate_succ]; exact (List.append_nil _).trans jgS
 have e3 : (b ++ [97]).drop b.length = [97] := by rw [List.drop_append_of_le_length (Nat.le_refl _), List.drop_length, List.nil_append]
 simp only [e1, e2, e3]
 rfl
theorem Zgz (f : Nat) (b : List UInt8) (sts : List (Nat × Nat)) (i : Nat) (h : i < 1500) (fr : Nat × Nat) (hfr : (((b.length, i) :: sts).take 4).getLastD (0, 0) = fr) (w : List UInt8) (hw : (b ++ [97]).drop fr.1 = w) (L : List Tok) (hL : (namesA.drop fr.2).take (i + 1 - fr.2) = L) (b2 : List UInt8) (hb : (if asM w L then b ++ [97] else b ++ cm5) = b2) (hle : ¬ 4000 < b2.length) (n : Nat) (hn : b.length = n) :
  wrM namesA (f + 1) b sts i = wrM namesA f b2 ((n, i) :: sts) (i + 1) := by
 rw [zgX f b sts i h]
 dsimp only
 rw [hfr, hw, hL, hb, if_neg hle, hn]
theorem jfG : ∀ (m : Nat) (X : List UInt8) (rest : List (Nat × Nat)) (i f : Nat), X.length + 15 ≤ 4000 → 4000 < X.length + 15 + 5 * m → 3 ≤ i → i + m ≤ 1500 → m ≤ f →
  wrM namesA f (X ++ (cm5 ++ cm5 ++ cm5)) ((X.length + 10, i - 1) :: (X.length + 5, i - 2) :: (X.length, i - 3) :: rest) i = ([], 28)
 | 0, X, rest, i, f, h1, h2, _, _, _ => by omega
 | m + 1, X, rest, i, 0, h1, h2, h3, h4, h5 => by omega
 | m + 1, X, rest, i, f + 1, h1, h2, h3, h4, h5 => by
  rw [zgX f _ _ i (by omega)]
  have e1 : ((X ++ (cm5 ++ cm5 ++ cm5)).length) = X.length + 15 := by rw [List.length_append]; rfl
  have e2 : (X ++ (cm5 ++ cm5 ++ cm5) ++ [97]).drop X.length = cm5 ++ cm5 ++ cm5 ++ [97] := by
   rw [List.append_assoc, List.drop_append_of_le_length (Nat.le_refl _), List.drop_length, List.nil_append]
  have e3 : (namesA.drop (i - 3)).take (i + 1 - (i - 3)) = [idA, idA, idA, idA] := by
   rw [jdE (by omega), show i + 1 - (i - 3) = 4 from by omega]
   rfl
  have e4 : ∀ x y z : Nat × Nat, ((x :: y :: z :: (X.length, i - 3) :: rest).take 4).getLastD (0, 0) = (X.length, i - 3) := fun x y z => rfl
  have e5 : (X ++ (cm5 ++ cm5 ++ cm5) ++ cm5) = (X ++ cm5) ++ (cm5 ++ cm5 ++ cm5) := by simp only [List.append_assoc]
  have e6 : (X ++ cm5).length = X.length + 5 := by rw [List.length_append]; rfl
  dsimp only
  rw [e4, e2, e3, as5, e1]
  simp only [Bool.false_eq_true, if_false]
  rw [e5]
  have e7 : ((X ++ cm5) ++ (cm5 ++ cm5 ++ cm5)).length = X.length + 20 := by rw [List.length_append, e6]; rfl
  rw [e7]
  by_cases q : 4000 < X.length + 20
  ·rw [if_pos q]
  ·rw [if_neg q]
   have ih := jfG m (X ++ cm5) ((X.length, i - 3) :: rest) (i + 1) f (by rw [e6]; omega) (by rw [e6]; omega) (by omega) (by omega) (by omega)
   rw [e6] at ih
   have a1 : i + 1 - 1 = i := by omega
   have a2 : i + 1 - 2 = i - 1 := by omega
   have a3 : i + 1 - 3 = i - 2 := by omega
   rw [a1, a2, a3] at ih
   exact ih
theorem Zet : jfQ namesA = ([], 28) := by
 have hl : namesA.length = 1500 := List.length_replicate
 have hc : ZfA namesA = 0 := by
  unfold ZfA
  rw [if_neg (by omega), show zcZ namesA = true from zgt 1500]
  rfl
 unfold jfQ
 rw [hc, hl]
 simp only [ne_eq, not_true_eq_false, if_false]
 have t1 := jdE (i := 0) (k := 1) (by omega)
 have t2 := jdE (i := 0) (k := 2) (by omega)
 have t3 := jdE (i := 0) (k := 3) (by omega)
 have t4 := jdE (i := 0) (k := 4) (by omega)
 have e0 : ∀ f, wrM namesA (f + 1) [] [] 0 = wrM namesA f [97] [(0, 0)] 1 := fun f => Zgz f [] [] 0 (by omega) (0, 0) rfl [97] rfl [idA] t1 [97] (by rw [as1]; rfl) (by decide) 0 rfl
 have e1 : ∀ f, wrM namesA (f + 1) [97] [(0, 0)] 1 = wrM namesA f ([97] ++ cm5) [(1, 1), (0, 0)] 2 := fun f => Zgz f [97] [(0, 0)] 1 (by omega) (0, 0) rfl [97, 97] rfl [idA, idA] t2 _ (by rw [as2]; rfl) (by decide) 1 rfl
 have e2 : ∀ f, wrM namesA (f + 1) ([97] ++ cm5) [(1, 1), (0, 0)] 2 = wrM namesA f ([97] ++ cm5 ++ cm5) [(6, 2), (1, 1), (0, 0)] 3 := fun f => Zgz f _ [(1, 1), (0, 0)] 2 (by omega) (0, 0) rfl ([97] ++ cm5 ++ [97]) rfl [idA, idA, idA] t3 _ (by rw [as3]; rfl) (by decide) 6 rfl
 have e3 : ∀ f, wrM namesA (f + 1) ([97] ++ cm5 ++ cm5) [(6, 2), (1, 1), (0, 0)] 3 = wrM namesA f ([97] ++ (cm5 ++ cm5 ++ cm5)) [(11, 3), (6, 2), (1, 1), (0, 0)] 4 := fun f => Zgz f _ [(6, 2), (1, 1), (0, 0)] 3 (by omega) (0, 0) rfl ([97] ++ cm5 ++ cm5 ++ [97]) rfl [idA, idA, idA, idA] t4 _ (by rw [as4]; rfl) (by decide) 11 rfl
 have go : ∀ f, 797 ≤ f → wrM namesA (f + 4) [] [] 0 = ([], 28) := by
  intro f hf
  rw [e0 (f + 3), e1 (f + 2), e2 (f + 1), e3 f]
  exact jfG 797 [97] [(0, 0)] 4 f (by decide) (by decide) (by omega) (by omega) hf
 exact go 1497 (by omega)
end Go.Proofs.YtkokbidbmidlbaaGreatDoor
set_option linter.unusedVariables false
namespace Go.Proofs.YtkokbidbmidlbaaGreatDoor
open Go.Vm Go.Sx Go.Vk Go.RowKit
def Zgt (b : Blk) : List Int → Nat → Bool
 | [], _ => true
 | x :: r, j => match b.get j with
  | some v => cond (eqT v (.i .u8 x)) (jaa (j + 1) fun j => Zgt b r j) false
  | none => false
theorem Ze8 (b : Blk) : ∀ (l : List Int) (j : Nat), Zgt b l j = true → ∀ i, i < l.length → b.get (j + i) = some (.i .u8 (l.getD i 0))
 | [], j, h, i, hi => by cases hi
 | x :: r, j, h, i, hi => by
  rw [Zgt] at h
  split at h
  ·rename_i v hv
   cases hc : eqT v (.i .u8 x) with
   | false => rw [hc] at h; cases h
   | true =>
    rw [hc, cond_true, jf] at h
    obtain rfl := zd5 hc
    cases i with
    | zero => exact hv
    | succ i =>
     have := Ze8 b r (j + 1) h i (by simpa using hi)
     rw [show j + (i + 1) = j + 1 + i from by omega]
     exact this
  ·cases h
def Jgz : List V := [.i .u8 1, .s 1 97, .i .i64 0, .s 0 0, .b false]
def Jgt (b : Blk) : Nat → Nat → Bool
 | 0, _ => true
 | k + 1, o => match b.row 5 o with
  | some vs => cond (eqT (.t vs) (.t Jgz)) (jaa (o + 5) fun o => Jgt b k o) false
  | none => false
theorem Je8 (b : Blk) : ∀ (k o : Nat), Jgt b k o = true → ∀ i, i < k → b.row 5 (o + i * 5) = some Jgz
 | 0, o, h, i, hi => by cases hi
 | k + 1, o, h, i, hi => by
  rw [Jgt] at h
  split at h
  ·rename_i vs hv
   cases hc : eqT (.t vs) (.t Jgz) with
   | false => rw [hc] at h; cases h
   | true =>
    rw [hc, cond_true, jf] at h
    have e := zd5 hc
    injection e with e
    subst e
    cases i with
    | zero => rw [Nat.zero_mul]; exact hv
    | succ i =>
     have := Je8 b k (o + 5) h i (by omega)
     rw [show o + (i + 1) * 5 = o + 5 + i * 5 from by omega]
     exact this
  ·cases h
def Jf6 : V := .t [.s 0 0, .i .i64 28]
def ovW : Ov := fun f args st => cond (Nat.beq f 15) (match args with
 | [.sl id off l c _] => cond (Nat.beq l 1500 && Nat.ble 1500 c) (match st.hp.get id with
  | some b => match st.hp.get 0 with
   | some b0 => cond (Zgt b0 marksL 0 && Jgt b 1500 off) (some (Jf6, st)) none
   | none => none
  | none => none) none
 | _ => none) none
theorem Zg7 (l k) (ho : ∀ t ∈ l, ok2 t) (h : k (.t [.s (jfQ l).1, .i .i64 (jfQ l).2])) : zQ jgM [.l Cd.tok l] k := ⟨ho, h⟩
theorem Jg7 : ∀ t ∈ namesA, ok2 t := fun t m => by
 obtain rfl : t = idA := List.eq_of_mem_replicate m
 exact ⟨⟨by decide, by decide⟩, rfl, by decide, by decide⟩
theorem zgu {B : World} (hB : B.ShapedOpen Tryz.prog) (hG : GOn B gs1) : OvOK Tryz.prog B ovW := by
 intro B' hB' f args st v st' h J w hn hh hro hargs
 unfold ovW at h
 cases hf : Nat.beq f 15 with
 | false => rw [hf] at h; cases h
 | true =>
  rw [hf, cond_true] at h
  rw [Nat.beq_eq] at hf
  subst hf
  split at h
  ·rename_i id off l c op
   cases hc : (Nat.beq l 1500 && Nat.ble 1500 c) with
   | false => rw [hc] at h; cases h
   | true =>
    rw [hc, cond_true] at h
    simp only [Bool.and_eq_true, Nat.beq_eq, Nat.ble_eq] at hc
    obtain ⟨rfl, hcap⟩ := hc
    split at h
    ·rename_i b hb
     split at h
     ·rename_i b0 hb0
      cases hd : (Zgt b0 marksL 0 && Jgt b 1500 off) with
      | false => rw [hd] at h; cases h
      | true =>
       rw [hd, cond_true] at h
       rw [Bool.and_eq_true] at hd
       have h := Option.some.inj h
       injection h with e1 e2
       subst e1 e2
       have hid : id < st.nx := by have := (hh.blk id b hb).1; omega
       have hnx : ∀ g x, st.hp.get g = some x → g < st.nx := fun g x hx => by have := (hh.blk g x hx).1; omega
       have gok : GOK GT GL st := by
        intro g k l hg
        match g, hg with
        | 0, hg =>
         obtain ⟨rfl, rfl⟩ : IntKind.u8 = k ∧ marksL = l := by
          have h2 := Option.some.inj hg
          exact ⟨congrArg Prod.fst h2, congrArg Prod.snd h2⟩
         refine ⟨by decide, b0, hb0, fun j hj => ?_⟩
         have := Ze8 b0 marksL 0 hd.1 j hj
         rwa [Nat.zero_add] at this
       have dat : Dat syo (fun _ => False) st Cd.tok namesA (.sl id off 1500 c op) := by
        have e : namesA.length = 1500 := List.length_replicate
        have hx : ∀ (i : Nat) (x : Tok), namesA[i]? = some x → x = idA ∧ i < 1500 := by
         intro i x hx
         unfold namesA at hx
         rw [List.getElem?_replicate] at hx
         split at hx
         ·rename_i q
          exact ⟨(Option.some.inj hx).symm, q⟩
         ·cases hx
        have hw : Dat syo (fun _ => False) st Cd.tok namesA (.sl id off namesA.length c op) :=
         Dat.mk (fun _ => Jgz) (fun q => q) hid hb (fun i x hi => Je8 b 1500 off hd.2 i (hx i x hi).2) (fun i x hi j u v hu hv => by
          obtain ⟨rfl, _⟩ := hx i x hi
          match j, hu, hv with
          | 0, hu, hv => obtain rfl := Option.some.inj hu; obtain rfl := Option.some.inj hv; exact .i _ _
          | 1, hu, hv => obtain rfl := Option.some.inj hu; obtain rfl := Option.some.inj hv; exact .s [97]
          | 2, hu, hv => obtain rfl := Option.some.inj hu; obtain rfl := Option.some.inj hv; exact .i _ _
          | 3, hu, hv => obtain rfl := Option.some.inj hu; obtain rfl := Option.some.inj hv; exact .s []
          | 4, hu, hv => obtain rfl := Option.some.inj hu; obtain rfl := Option.some.inj hv; exact .b _
          | j + 5, hu, hv => cases hu) (Nat.le_trans (Nat.le_of_eq e) hcap)
        rwa [e] at hw
       obtain ⟨v, st'', ⟨M, h1⟩, u, h2, h3, h4⟩ := zg7 (ro := GL) (fun _ => False) [.l Cd.tok namesA] (fun u => u = .t [.s [], .i .i64 28])
        (Zg7 namesA _ Jg7 (by rw [Zet]))
        st [.sl id off 1500 c op] (by omega) gok (fun _ q => q.elim) ⟨_, [], rfl, dat, rfl⟩
       subst h4
       obtain ⟨vs, hv, hr⟩ : ∃ vs, v = .t vs ∧ RelL syo (Dat syo (fun _ => False) st'') [] [.s [], .i .i64 28] vs := h2
       obtain ⟨a, r, rfl, ha, hr⟩ := hr
       obtain ⟨a2, r2, rfl, ha2, hr2⟩ := hr
       obtain rfl : r2 = [] := hr2
       obtain rfl : a = V.str [] := ha
       obtain rfl : a2 = .i .i64 28 := ha2
       subst hv
       obtain ⟨p1, p2⟩ := zdk (P := Tryz.prog) (ro := GL) (B := B') (ov := ovD GL) (fun B2 h2 => jgk hB hG B2 (hB'.trans h2)) mixed zdO M _ _ st _ st'' (h1 M (Nat.le_refl _)) J w hn hh hro hargs
       refine ⟨p1, p2.mono ?_⟩
       rintro e w' ⟨J', q1, q2, q3⟩
       refine ⟨J, ?_, by simp [Jf6, V.ok, V.oks], ⟨Inj.le.refl J, hn, HR.back hh q3.hr q3.le fun g x hx => by rw [h3.keep g (hnx g x hx)]; exact hx, q3.below, Ext.refl _, hro, fun i hi hfree => ⟨(q3.fr i hi hfree).1, hfree⟩⟩⟩
       rw [q1]
       exact congrArg _ (V.real_plainT J J' Jf6 rfl)
     ·cases h
    ·cases h
  ·cases h
def ovB : Ov := fun f args st => match zcC ovL f args st with
 | some r => some r
 | none => match ovW f args st with
  | some r => some r
  | none => ov1 GL f args st
theorem jgu {B : World} (hB : B.ShapedOpen Tryz.prog) (hG : GOn B gs1) : OvOK Tryz.prog B ovB := Jfh (JcT (jfD hB hG)) (Jfh (zgu hB hG) (jeN hB))
end Go.Proofs.YtkokbidbmidlbaaGreatDoor
