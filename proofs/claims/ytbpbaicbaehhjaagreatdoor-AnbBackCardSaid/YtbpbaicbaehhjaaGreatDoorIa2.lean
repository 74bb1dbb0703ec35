/-
 What is written is read, whatever stands behind it: numbers, percentages, dimensions. Nothing is claimed here.
-/
import Derived.Test.YtbpbaicbaehhjaaGreatDoorIa1
set_option linter.unusedVariables false
set_option linter.unusedSimpArgs false
namespace Go.Proofs.YtbpbaicbaehhjaaGreatDoor
open Go.Vm Go.Sx Go.RowKit
theorem jbM {x : List UInt8} (h : Zbm x = true) : ZN x = zQ x := by
 have hx : (hb x = 43 ∨ hb x = 45) ∨ (48 ≤ hb x ∧ hb x ≤ 57) ∨ hb x = 46 := by
  unfold Zbm at h
  split at h
  ·rename_i q
   unfold mSg at q
   simp only [Bool.or_eq_true, decide_eq_true_eq] at q
   exact .inl q
  ·simp only [Bool.or_eq_true, mD, jar, Bool.and_eq_true, decide_eq_true_eq] at h
   rcases h with h | h
   ·exact .inr (.inl h)
   ·exact .inr (.inr h.1)
 have h1 : mSp (hb x) = false := by unfold mSp; simp; omega
 have h2 : mQ (hb x) = false := by unfold mQ; simp; omega
 unfold ZN
 rw [h1, if_neg (by decide), h2, if_neg (by decide), if_neg (fun z => by have := z.1; omega)]
 unfold Je9
 rw [if_pos h]
theorem JfN (n : Int) (f : Bool) (v : List UInt8) : zaJ n f ++ v = (if decide (n < 0) then [45] else []) ++ (Lib.decDigits (n.natAbs / 1000) ++ ((if (if f then [] else fr3 3 (n.natAbs % 1000)) = [] then [] else 46 :: (if f then [] else fr3 3 (n.natAbs % 1000))) ++ v)) := by
 have h2 := (I.fr_ok (r := n.natAbs % 1000) (Nat.mod_lt _ (by decide))).2.1
 unfold zaJ
 have e1 : (if n < 0 then [(45 : UInt8)] else []) = if decide (n < 0) then [45] else [] := by by_cases q : n < 0 <;> simp [q]
 rw [e1]
 cases f with
 | true => simp
 | false => simp [h2]
theorem Zef (n : Int) (f : Bool) : (zaJ n f).length = ((if decide (n < 0) then [45] else []) ++ (Lib.decDigits (n.natAbs / 1000) ++ (if (if f then [] else fr3 3 (n.natAbs % 1000)) = [] then [] else 46 :: (if f then [] else fr3 3 (n.natAbs % 1000))))).length := by
 have := JfN n f []
 rw [List.append_nil, List.append_nil] at this
 rw [← this]
theorem jhC {n : Int} (h : n.tmod 1000 = 0) : n.natAbs % 1000 = 0 := by
 rcases Int.le_total 0 n with q | q
 ·have h2 := I.tm (x := n) (y := n.natAbs) (by omega) 1000
  rw [show ((1000 : Nat) : Int) = 1000 from rfl, h] at h2
  omega
 ·have h2 := Int.neg_tmod n 1000
  have h3 := I.tm (x := -n) (y := n.natAbs) (by omega) 1000
  rw [show ((1000 : Nat) : Int) = 1000 from rfl, h2, h] at h3
  omega
structure NumOK (n : Int) (f : Bool) : Prop where
 lo : -1000000000000 ≤ n
 hi : n ≤ 1000000000000
 wh : f = true → n.tmod 1000 = 0
theorem jb2 {n : Int} {f : Bool} (h : NumOK n f) {v : List UInt8} (hv : mD (hb v) = false) (hv2 : f = true → jar v = false) :
  Zbm (zaJ n f ++ v) = true ∧ (zb1 (zaJ n f ++ v)).2 = (f && decide ((Ja9 v).2 = 0), (zaJ n f).length + (Ja9 v).2) ∧ ((Ja9 v).1 = 0 → (zb1 (zaJ n f ++ v)).1 = n) := by
 obtain ⟨d1, d2, d3⟩ := I.dec_ok (n.natAbs / 1000)
 obtain ⟨f1, f2, f3, _⟩ := I.fr_ok (r := n.natAbs % 1000) (Nat.mod_lt _ (by decide))
 have hlF := I.fr3_len 3 (n.natAbs % 1000)
 have hF : I.AllDg (if f then [] else fr3 3 (n.natAbs % 1000)) := by
  cases f with
  | true => intro b hb; cases hb
  | false => exact f1
 have hFe : (if f then ([] : List UInt8) else fr3 3 (n.natAbs % 1000)) = [] → f = true := by
  intro z
  cases f with
  | true => rfl
  | false => exact absurd z f2
 have hFd : decide ((if f then ([] : List UInt8) else fr3 3 (n.natAbs % 1000)) = []) = f := by
  cases f with
  | true => rfl
  | false => exact decide_eq_false f2
 have g := I.num_gen (v := v) (decide (n < 0)) d1 d2 hF hv (fun z => hv2 (hFe z))
 rw [← JfN n f v] at g
 refine ⟨g.1, ?_, fun he => ?_⟩
 ·rw [g.2, ← Zef, hFd]
 ·rw [g.2, he]
  dsimp only
  have hlo := h.lo
  have hhi := h.hi
  have hnat : n.natAbs = n.natAbs / 1000 * 1000 + n.natAbs % 1000 := by omega
  have hc : jdH (Lib.decDigits (n.natAbs / 1000) ++ (if f then [] else fr3 3 (n.natAbs % 1000))) (((Lib.decDigits (n.natAbs / 1000)).length : Int) + 0 + 3) = (n.natAbs : Int) := by
   cases f with
   | true =>
    have hr0 := jhC (h.wh rfl)
    have := I.cut_val (a := n.natAbs / 1000) (r := 0) (by omega) (by omega) [] (by simp) (by simp [I.dv])
    simp only [if_true] at this ⊢
    rw [this]; omega
   | false =>
    have := I.cut_val (a := n.natAbs / 1000) (r := n.natAbs % 1000) (by omega) (by omega) _ hlF f3
    simp only [Bool.false_eq_true, if_false] at this ⊢
    rw [this]; omega
  rw [hc]
  by_cases q : n < 0
  ·rw [if_pos (by simpa using q)]; omega
  ·rw [if_neg (by simpa using q)]; omega
def jfc (f : Bool) (v : List UInt8) : Prop := mD (hb v) = false ∧ (f = true → jar v = false) ∧ ZK v = false ∧ hb v ≠ 37
theorem zgS {v : List UInt8} (h : mE (hb v) = true) : ZK v = true := by
 have : hb v = 101 ∨ hb v = 69 := by unfold mE at h; simpa using h
 unfold ZK
 rw [if_pos (by omega)]
 have h0 : mN0 (hb v) = true := by
  rcases this with q | q <;> rw [q] <;> decide
 rw [h0]; rfl
theorem zeF {v : List UInt8} (h : ZK v = false) : Ja9 v = (0, 0) := by
 refine jef ?_
 unfold ZgQ
 cases q : mE (hb v) with
 | false => rfl
 | true => rw [zgS q] at h; cases h
theorem zfO {n : Int} {f : Bool} (h : NumOK n f) {v : List UInt8} (hv : jfc f v) : ZN (zaJ n f ++ v) = (tk 10 [] n [] f, (zaJ n f).length) := by
 obtain ⟨v1, v2, v3, v4⟩ := hv
 obtain ⟨g1, g2, g3⟩ := jb2 h v1 v2
 have he := zeF v3
 rw [he] at g2 g3
 have g3 := g3 rfl
 have hd : (zaJ n f ++ v).drop (zaJ n f).length = v := List.drop_left
 rw [jbM g1]
 unfold zQ
 simp only [g2, g3, Nat.add_zero, hd, v3, if_neg v4, Bool.false_eq_true, if_false]
 simp
theorem jgS {n : Int} (h : NumOK n (Zcm n)) (v : List UInt8) : ZN (zaJ n (Zcm n) ++ [37] ++ v) = (tk 11 [] n, (zaJ n (Zcm n) ++ [37]).length) := by
 rw [List.append_assoc, List.singleton_append]
 have hn : ZK (37 :: v) = false := rfl
 obtain ⟨g1, g2, g3⟩ := jb2 h (v := 37 :: v) (by show mD 37 = false; decide) (fun _ => rfl)
 have he := zeF hn
 rw [he] at g2 g3
 have g3 := g3 rfl
 have hd : (zaJ n (Zcm n) ++ 37 :: v).drop (zaJ n (Zcm n)).length = 37 :: v := List.drop_left
 rw [jbM g1]
 unfold zQ
 simp only [g2, g3, Nat.add_zero, hd, hn, Bool.false_eq_true, if_false]
 rw [if_pos (by rfl)]
 simp [List.length_append]
theorem zgk {u : List UInt8} (hu : u ≠ []) (h0 : (0 : UInt8) ∉ u) (v : List UInt8) : ZK (Za6 u ++ v) = true ∧ Jn (Za6 u ++ v) = (u ++ (Jn v).1, (Za6 u).length + (Jn v).2) := by
 unfold Za6
 split
 ·refine ⟨?_, ?_⟩
  ·obtain ⟨c, w, rfl⟩ := List.exists_cons_of_ne_nil hu
   have : jby 0 0 (c :: w) = jcv c ++ jby 0 (0 + 1) w := by simp [jby]
   rw [this, List.append_assoc]
   exact Jcm c _
  ·refine JdK 0 u 0 v h0 ?_
   rename_i q
   obtain ⟨c, w, rfl⟩ := List.exists_cons_of_ne_nil hu
   unfold zen at q
   simp only [Bool.and_eq_true, Jf] at q
   have hc : (c.toNat : Int) = 101 ∨ (c.toNat : Int) = 69 := by have := q.1; unfold mE at this; simpa using this
   unfold okE
   first | (refine ⟨?_, Ja6 _ _ _ (by omega)⟩; intro; omega) | (exact ⟨fun _ => by omega, Ja6 _ _ _ (by omega)⟩) | (simp only [okE]; omega)
 ·exact ⟨ZZ hu v, zdL h0 v⟩
theorem jgk {x : List UInt8} (h : ZK x = true) : mD (hb x) = false ∧ jar x = false ∧ hb x ≠ 37 := by
 have h2 := jcA h
 refine ⟨?_, ?_, ?_⟩
 ·unfold mD
  simp only [Bool.and_eq_false_iff, decide_eq_false_iff_not]
  rcases h2 with q | q | q
  ·have := jdm q; omega
  ·omega
  ·omega
 ·unfold jar
  simp only [Bool.and_eq_false_iff, decide_eq_false_iff_not]
  left
  rcases h2 with q | q | q
  ·have := jdm q; omega
  ·omega
  ·omega
 ·rcases h2 with q | q | q
  ·have := jdm q; omega
  ·omega
  ·omega
def ZgS (u v : List UInt8) : Prop := j4 v = false ∧ ZgQ (Za6 u ++ v) = false
theorem JgS {n : Int} {f : Bool} {u : List UInt8} (h : NumOK n f) (hu : u ≠ []) (h0 : (0 : UInt8) ∉ u) {v : List UInt8} (he : ZgQ (Za6 u ++ v) = false) :
  ZN (zaJ n f ++ Za6 u ++ v) = (tk 12 [] n (u ++ (Jn v).1) f, (zaJ n f ++ Za6 u).length + (Jn v).2) := by
 obtain ⟨n1, n2⟩ := zgk hu h0 v
 obtain ⟨s1, s2, s3⟩ := jgk n1
 rw [List.append_assoc]
 obtain ⟨g1, g2, g3⟩ := jb2 h s1 (fun _ => s2)
 rw [jef he] at g2 g3
 have g3 := g3 rfl
 have hd : (zaJ n f ++ (Za6 u ++ v)).drop (zaJ n f).length = Za6 u ++ v := List.drop_left
 rw [jbM g1]
 unfold zQ
 simp only [g2, g3, Nat.add_zero, hd, n1, if_true, n2]
 refine Prod.ext ?_ ?_
 ·simp
 ·simp only [List.length_append]; omega
theorem zgT {n : Int} {f : Bool} {u : List UInt8} (h : NumOK n f) (hu : u ≠ []) (h0 : (0 : UInt8) ∉ u) {v : List UInt8} (hv : ZgS u v) : ZN (zaJ n f ++ Za6 u ++ v) = (tk 12 [] n u f, (zaJ n f ++ Za6 u).length) := by
 rw [JgS h hu h0 hv.2, jbv hv.1]
 simp
end Go.Proofs.YtbpbaicbaehhjaaGreatDoor
set_option linter.unusedVariables false
set_option linter.unusedSimpArgs false
namespace Go.Proofs.YtbpbaicbaehhjaaGreatDoor
open Go.Vm Go.Sx Go.RowKit
theorem zc1 : ∀ w : List UInt8, Zy (w ++ [48]) = if Zy w = [] then [] else Zy w ++ [48]
 | [] => rfl
 | c :: w => by
  have ih := zc1 w
  unfold Zy at ih ⊢
  rw [List.cons_append, List.dropWhile_cons, List.dropWhile_cons]
  by_cases q : (c == 48) = true
  ·rw [if_pos q, if_pos q, ih]
  ·rw [if_neg q, if_neg q, if_neg (by simp), List.cons_append]
theorem jc1 : ∀ (w : List UInt8) (k : Nat) (a : Int), zaD k (w ++ [48]) a = zaD k w a
 | [], 0, a => rfl
 | [], k + 1, a => by
  show zaD k [] (a * 10 + (((48 : UInt8).toNat : Int) - 48)) = zaD k [] (a * 10)
  rw [show a * 10 + (((48 : UInt8).toNat : Int) - 48) = a * 10 by simp]
 | c :: w, 0, a => rfl
 | c :: w, k + 1, a => jc1 w k _
theorem Zgk (w : List UInt8) (p : Int) : jdH (w ++ [48]) p = jdH w p := by
 unfold jdH
 dsimp only
 rw [zc1, List.length_append]
 by_cases q : Zy w = []
 ·rw [if_pos q, if_pos (.inl rfl), if_pos (.inl q)]
 ·rw [if_neg q, List.length_append]
  have hz := I.zeros0_len w
  simp only [List.length_cons, List.length_nil]
  have e : p - (((w.length + (0 + 1) : Nat) : Int) - ((((Zy w).length + (0 + 1) : Nat)) : Int)) = p - ((w.length : Int) - ((Zy w).length : Int)) := by omega
  rw [e]
  have h1 : (Zy w ++ [48] = [] ∨ p - ((w.length : Int) - ((Zy w).length : Int)) ≤ 0) ↔ (Zy w = [] ∨ p - ((w.length : Int) - ((Zy w).length : Int)) ≤ 0) := by simp [q]
  by_cases q2 : Zy w = [] ∨ p - ((w.length : Int) - ((Zy w).length : Int)) ≤ 0
  ·rw [if_pos q2, if_pos (h1.2 q2)]
  ·rw [if_neg q2, if_neg (fun z => q2 (h1.1 z)), jc1]
theorem Jgk (w : List UInt8) (p : Int) : jdH (48 :: w) (p + 1) = jdH w p := by
 have hz : Zy (48 :: w) = Zy w := rfl
 unfold jdH
 dsimp only
 rw [hz, List.length_cons]
 have e : p + 1 - (((w.length + 1 : Nat) : Int) - ((Zy w).length : Int)) = p - ((w.length : Int) - ((Zy w).length : Int)) := by omega
 rw [e]
theorem jgT {d : UInt8} (hd : mD (d.toNat : Int) = true) (W : List UInt8) : ZN (48 :: 46 :: d :: W) = ((ZN (46 :: d :: W)).1, (ZN (46 :: d :: W)).2 + 1) := by
 have n1 : Zbm (48 :: 46 :: d :: W) = true := by
  unfold Zbm
  rw [if_neg (by show ¬ mSg 48 = true; decide)]
  show (mD 48 || _) = true
  rw [show mD 48 = true by decide]; rfl
 have f1 : jar (46 :: d :: W) = true := by simp [jar, hd]
 have n2 : Zbm (46 :: d :: W) = true := by
  unfold Zbm
  rw [if_neg (by show ¬ mSg 46 = true; decide), f1]; simp
 rw [jbM n1, jbM n2]
 have s1 : zai (48 :: 46 :: d :: W) = 0 := rfl
 have s2 : zai (46 :: d :: W) = 0 := rfl
 have w2 : j8 (46 :: d :: W) = [] := by unfold j8; rw [s2]; exact I.digs_neg (by show mD 46 = false; decide)
 have w1 : j8 (48 :: 46 :: d :: W) = [48] := by
  unfold j8; rw [s1]
  show JI (48 :: 46 :: d :: W) = [48]
  rw [I.digs_pos (by show mD 48 = true; decide), I.digs_neg (by show mD 46 = false; decide)]
 have b1 : Zo (48 :: 46 :: d :: W) = 1 := by unfold Zo; rw [s1, w1]; rfl
 have b2 : Zo (46 :: d :: W) = 0 := by unfold Zo; rw [s2, w2]; rfl
 have r1 : (48 :: 46 :: d :: W).drop 1 = 46 :: d :: W := rfl
 have r2 : (46 :: d :: W).drop 0 = 46 :: d :: W := rfl
 have g1 : ZaE (48 :: 46 :: d :: W) = JI (d :: W) := by unfold ZaE; rw [b1, r1, if_pos f1]; rfl
 have g2 : ZaE (46 :: d :: W) = JI (d :: W) := by unfold ZaE; rw [b2, r2, if_pos f1]; rfl
 have c2 : Jg (46 :: d :: W) = 1 + (JI (d :: W)).length := by unfold Jg; rw [b2, r2, if_pos f1, g2]; omega
 have c1 : Jg (48 :: 46 :: d :: W) = Jg (46 :: d :: W) + 1 := by rw [c2]; unfold Jg; rw [b1, r1, if_pos f1, g1]; omega
 have dr : ∀ k, (48 :: 46 :: d :: W).drop (k + 1) = (46 :: d :: W).drop k := fun k => rfl
 have e1 : JX (48 :: 46 :: d :: W) = JX (46 :: d :: W) + 1 := by unfold JX; rw [c1, dr]; omega
 have m1 : zb1 (48 :: 46 :: d :: W) = ((zb1 (46 :: d :: W)).1, (zb1 (46 :: d :: W)).2.1, (zb1 (46 :: d :: W)).2.2 + 1) := by
  unfold zb1
  rw [w1, w2, g1, g2, c1, dr, b1, b2, r1, r2, e1]
  have k1 : ¬ hb (48 :: 46 :: d :: W) = 45 := by show ¬ (48 : Int) = 45; decide
  have k2 : ¬ hb (46 :: d :: W) = 45 := by show ¬ (46 : Int) = 45; decide
  simp only [if_neg k1, if_neg k2]
  refine Prod.ext ?_ rfl
  dsimp only
  rw [List.singleton_append, List.nil_append]
  have e : ∀ x : Int, ((([48] : List UInt8).length : Int)) + x + 3 = ((([] : List UInt8).length : Int)) + x + 3 + 1 := fun x => by
   show (1 : Int) + x + 3 = 0 + x + 3 + 1
   omega
  rw [e]
  exact Jgk _ _
 unfold zQ
 rw [m1]
 dsimp only
 rw [dr]
 split
 ·refine Prod.ext rfl ?_
  dsimp only; omega
 ·split
  ·rfl
  ·rfl
theorem ZgT {n : Int} (h : NumOK n false) {d : UInt8} (hd : mD (d.toNat : Int) = true) (W : List UInt8) : ZN (zaJ n false ++ 48 :: 46 :: d :: W) = (tk 10 [] n [] false, (zaJ n false).length + 1) := by
 obtain ⟨d1, d2, d3⟩ := I.dec_ok (n.natAbs / 1000)
 obtain ⟨f1, f2, f3, _⟩ := I.fr_ok (r := n.natAbs % 1000) (Nat.mod_lt _ (by decide))
 have hlF := I.fr3_len 3 (n.natAbs % 1000)
 have hlo := h.lo
 have hhi := h.hi
 have hF : I.AllDg (fr3 3 (n.natAbs % 1000) ++ [48]) := by
  intro b hb
  rcases List.mem_append.1 hb with q | q
  ·exact f1 b q
  ·rw [List.mem_singleton] at q; subst q; decide
 have hne : fr3 3 (n.natAbs % 1000) ++ [48] ≠ [] := by simp
 have hnm : ZK (46 :: d :: W) = false := rfl
 have hex := zeF hnm
 have g := I.num_gen (v := 46 :: d :: W) (decide (n < 0)) d1 d2 hF (by show mD 46 = false; decide) (fun z => absurd z hne)
 rw [if_neg hne, hex] at g
 have e := JfN n false (48 :: 46 :: d :: W)
 simp only [Bool.false_eq_true, if_false, if_neg f2] at e
 have e2 : (46 :: fr3 3 (n.natAbs % 1000)) ++ 48 :: 46 :: d :: W = (46 :: (fr3 3 (n.natAbs % 1000) ++ [48])) ++ 46 :: d :: W := by simp
 rw [e2] at e
 rw [← e] at g
 have hl := Zef n false
 simp only [Bool.false_eq_true, if_false, if_neg f2] at hl
 have hc := I.cut_val (a := n.natAbs / 1000) (r := n.natAbs % 1000) (by omega) (by omega) _ hlF f3
 have hv : zb1 (zaJ n false ++ 48 :: 46 :: d :: W) = (n, false, (zaJ n false).length + 1) := by
  rw [g.2, ← List.append_assoc, Zgk, hc, hl]
  refine Prod.ext ?_ (Prod.ext ?_ ?_)
  ·dsimp only
   by_cases q : n < 0
   ·rw [if_pos (by simpa using q)]; omega
   ·rw [if_neg (by simpa using q)]; omega
  ·simp
  ·simp; omega
 rw [jbM g.1]
 have hdrop : (zaJ n false ++ 48 :: 46 :: d :: W).drop ((zaJ n false).length + 1) = 46 :: d :: W := by
  rw [← List.drop_drop, List.drop_left]; rfl
 unfold zQ
 rw [hv]
 dsimp only
 rw [hdrop, hnm, if_neg (by decide), if_neg (by show ¬ (46 : Int) = 37; decide)]
end Go.Proofs.YtbpbaicbaehhjaaGreatDoor
set_option linter.unusedVariables false
set_option linter.unusedSimpArgs false
namespace Go.Proofs.YtbpbaicbaehhjaaGreatDoor
open Go.Vm Go.Sx Go.RowKit
inductive RD : List UInt8 → List Tok → Prop where
 | nil {u : List UInt8} : u.drop (zav u) = [] → RD u []
 | cons {u : List UInt8} {L : List Tok} : u.drop (zav u) ≠ [] → RD ((u.drop (zav u)).drop (ZN (u.drop (zav u))).2) L → RD u ((ZN (u.drop (zav u))).1 :: L)
theorem zhj {u : List UInt8} {t : Tok} {L : List Tok} (h : RD u (t :: L)) : u.drop (zav u) ≠ [] ∧ (ZN (u.drop (zav u))).1 = t ∧ RD ((u.drop (zav u)).drop (ZN (u.drop (zav u))).2) L := by
 generalize hM : t :: L = M at h
 cases h with
 | nil _ => cases hM
 | cons h1 h2 =>
  injection hM with e1 e2
  subst e1 e2
  exact ⟨h1, rfl, h2⟩
theorem jdL {u : List UInt8} {t : Tok} {L : List Tok} (hc : zav u = 0) (h : RD u (t :: L)) : u ≠ [] ∧ (ZN u).1 = t ∧ RD (u.drop (ZN u).2) L := by
 have := zhj h
 rw [hc, List.drop_zero] at this
 exact this
theorem jfO {u : List UInt8} {t : Tok} {n : Nat} {L : List Tok} (hc : zav u = 0) (hu : u ≠ []) (ht : ZN u = (t, n)) (h : RD (u.drop n) L) : RD u (t :: L) := by
 have h2 : RD u ((ZN (u.drop (zav u))).1 :: L) := by
  refine .cons ?_ ?_
  ·rw [hc, List.drop_zero]; exact hu
  ·rw [hc, List.drop_zero, ht]; exact h
 rw [hc, List.drop_zero, ht] at h2
 exact h2
theorem ZfO {X V : List UInt8} {t : Tok} {L : List Tok} (hX : X ≠ []) (hc : zav (X ++ V) = 0) (ht : ZN (X ++ V) = (t, X.length)) : RD (X ++ V) (t :: L) ↔ RD V L := by
 refine ⟨fun h => ?_, fun h => ?_⟩
 ·have := (jdL hc h).2.2
  rw [ht, List.drop_left] at this
  exact this
 ·exact jfO hc (by simp [hX]) ht (by rw [List.drop_left]; exact h)
def exV (t : Tok) (v : List UInt8) : Prop := t.kind = 10 ∧ t.flag = false ∧ ∃ (d : UInt8) (W : List UInt8), mD (d.toNat : Int) = true ∧ v = 48 :: 46 :: d :: W
def stM (t : Tok) (v : List UInt8) : Prop :=
 if t.kind = 1 then ZeE t.text v
 else if t.kind = 3 then j4 v = false
 else if t.kind = 4 then j4 v = false
 else if t.kind = 9 then ∀ c, t.text = [c] → Zgj c v
 else if t.kind = 10 then jfc t.flag v ∨ exV t v
 else if t.kind = 12 then ZgS t.unit v
 else if t.kind = 13 then mSp (hb v) = false
 else True
theorem Zfc {a b : Tok} (h : ZfK a b = true) : a = b := by
 unfold ZfK at h
 simp only [Bool.and_eq_true, decide_eq_true_eq] at h
 obtain ⟨h1, h2, h3, h4, h5⟩ := h
 cases a; cases b
 simp only at h1 h2 h3 h4 h5
 subst h1 h2 h3 h4 h5
 rfl
inductive Can : Tok → Prop where
 | ident (a : List UInt8) (ha : a ≠ []) (h0 : (0 : UInt8) ∉ a) : Can (tk 1 a)
 | func (a : List UInt8) (ha : a ≠ []) (h0 : (0 : UInt8) ∉ a) : Can (tk 2 a)
 | atk (a : List UInt8) (ha : a ≠ []) (h0 : (0 : UInt8) ∉ a) : Can (tk 3 a)
 | hash (a : List UInt8) (f : Bool) (ha : a ≠ []) (h0 : (0 : UInt8) ∉ a) (hf : f = true ∨ Zdl a ≠ -1) : Can (tk 4 a 0 [] f)
 | str (a : List UInt8) (h0 : (0 : UInt8) ∉ a) : Can (tk 5 a)
 | url (a : List UInt8) (h0 : (0 : UInt8) ∉ a) : Can (tk 7 a)
 | del (c : UInt8) (hc : DelOK c) (h0 : c ≠ 0) : Can (tk 9 [c])
 | num (n : Int) (f : Bool) (h : NumOK n f) : Can (tk 10 [] n [] f)
 | pct (n : Int) (h : NumOK n (Zcm n)) : Can (tk 11 [] n)
 | dim (n : Int) (u : List UInt8) (f : Bool) (h : NumOK n f) (hu : u ≠ []) (h0 : (0 : UInt8) ∉ u) : Can (tk 12 [] n u f)
 | sp : Can (tk 13)
 | cdo : Can (tk 14)
 | cdc : Can (tk 15)
 | mark (k : Int) (hk : 16 ≤ k ∧ k ≤ 24) : Can (tk k)
end Go.Proofs.YtbpbaicbaehhjaaGreatDoor
set_option linter.unusedVariables false
set_option linter.unusedSimpArgs false
namespace Go.Proofs.YtbpbaicbaehhjaaGreatDoor
open Go.Vm Go.Sx Go.RowKit
theorem jci {X V : List UInt8} {t : Tok} {L : List Tok} (hX : X ≠ []) (h47 : hb X ≠ 47) (ht : ZN (X ++ V) = (t, X.length)) : RD (X ++ V) (t :: L) ↔ RD V L := by
 refine ZfO hX (Zbv fun z => h47 ?_) ht
 rw [← z.1, JfK (List.length_pos_iff.2 hX)]
theorem jhj {x : List UInt8} (h : Zbm x = true) : hb x = 43 ∨ hb x = 45 ∨ hb x = 46 ∨ mD (hb x) = true := by
 unfold Zbm at h
 split at h
 ·rename_i q
  unfold mSg at q
  simp only [Bool.or_eq_true, decide_eq_true_eq] at q
  omega
 ·simp only [Bool.or_eq_true, jar, Bool.and_eq_true, decide_eq_true_eq] at h
  rcases h with h | h
  ·exact .inr (.inr (.inr h))
  ·exact .inr (.inr (.inl h.1))
theorem Zhj {c : Int} (h : mD c = true) : 48 ≤ c ∧ c ≤ 57 := by unfold mD at h; simpa using h
theorem Jgv {n : Int} {f : Bool} (h : NumOK n f) : Zbm (zaJ n f) = true := by
 have := (jb2 h (v := []) (by decide) (fun _ => by decide)).1
 rwa [List.append_nil] at this
theorem Zc1 {n : Int} {f : Bool} (h : NumOK n f) : zaJ n f ≠ [] := fun z => by
 have := Jgv h; rw [z] at this; exact absurd this (by decide)
theorem ZdL {n : Int} {f : Bool} (h : NumOK n f) : hb (zaJ n f) ≠ 47 := fun z => by
 rcases jhj (Jgv h) with q | q | q | q
 ·omega
 ·omega
 ·omega
 ·have := Zhj q; omega
theorem zeT {X Y : List UInt8} (hX : X ≠ []) (h : hb X ≠ 47) : hb (X ++ Y) ≠ 47 := by
 rw [JfK (List.length_pos_iff.2 hX)]; exact h
theorem JhQ {V : List UInt8} (h : mSp (hb V) = false) : nSp V = 0 := by
 cases V with
 | nil => rfl
 | cons c w => simp only [nSp]; rw [Jf] at h; rw [h]; rfl
theorem zgw {a : List UInt8} (ha : a ≠ []) : hb (jas a) ≠ 47 := (Zee (Jfb ha)).1
theorem JfO {k : Int} (hk : 16 ≤ k ∧ k ≤ 24) : zgv (tk k) = [marksT.getD (k - 16).toNat 0] := by
 have h : ∀ j : Int, j < 16 → k ≠ j := fun j hj => by omega
 have e : ∀ j : Int, j < 16 → (tk k).kind ≠ j := h
 unfold zgv
 simp only [e 13 (by decide), e 1 (by decide), e 2 (by decide), e 3 (by decide), e 4 (by decide), e 5 (by decide), e 7 (by decide), e 10 (by decide), e 11 (by decide), e 12 (by decide), e 9 (by decide), e 14 (by decide), e 15 (by decide), if_false]
 rfl
theorem Jbv {t : Tok} {V : List UInt8} {L : List Tok} (hc : Can t) (hb1 : JhA t = false) (hu1 : zhB t = false) (h : stM t V) : RD (zgv t ++ V) (t :: L) ↔ RD V L := by
 cases hc with
 | ident a ha h0 =>
  have h : ZeE a V := h
  exact jci (ZfL ha) (zgw ha) (ZfM ha h0 h)
 | func a ha h0 =>
  have hu : zad a [117, 114, 108] = false := by simpa [zhB, tk] using hu1
  show RD (jas a ++ [40] ++ V) _ ↔ _
  refine jci (by simp) (zeT (ZfL ha) (zgw ha)) ?_
  rw [List.append_assoc, List.singleton_append, ZgP ha h0 (fun z => by rw [hu] at z; cases z)]
  simp
 | atk a ha h0 =>
  have h : j4 V = false := h
  exact jci (X := 64 :: jas a) (by simp) (by show ¬ (64 : Int) = 47; decide) (jhi ha h0 h)
 | hash a f ha h0 hf =>
  have h : j4 V = false := h
  exact jci (X := JeD a f) (by simp [JeD]) (by show ¬ (35 : Int) = 47; decide) (jgj ha h0 hf h)
 | str a h0 => exact jci (X := 34 :: (Jdl a ++ [34])) (by simp) (by show ¬ (34 : Int) = 47; decide) (JgP h0)
 | url a h0 => exact jci (X := [117, 114, 108, 40] ++ (Jc2 a ++ [41])) (by simp) (by show ¬ (117 : Int) = 47; decide) (zgQ h0)
 | del c hc h0 =>
  have h : Zgj c V := h c rfl
  refine ZfO (X := [c]) (by simp) (Zbv fun z => h.2.2.2.2.2.2 z) (zgR hc h)
 | num n f hn =>
  have h : jfc f V ∨ exV (tk 10 [] n [] f) V := h
  show RD (zaJ n f ++ V) _ ↔ _
  rcases h with h | ⟨_, hf, d, W, hd, rfl⟩
  ·exact jci (Zc1 hn) (ZdL hn) (zfO hn h)
  ·have hf : f = false := hf
   subst hf
   have hr := ZgT hn hd W
   have hc0 : zav (zaJ n false ++ 48 :: 46 :: d :: W) = 0 := Zbv fun z => zeT (Zc1 hn) (ZdL hn) z.1
   have hdr : (zaJ n false ++ 48 :: 46 :: d :: W).drop ((zaJ n false).length + 1) = 46 :: d :: W := by rw [← List.drop_drop, List.drop_left]; rfl
   have e1 : RD (zaJ n false ++ 48 :: 46 :: d :: W) (tk 10 [] n [] false :: L) ↔ RD (46 :: d :: W) L := by
    refine ⟨fun z => ?_, fun z => ?_⟩
    ·have := (jdL hc0 z).2.2
     rw [hr, hdr] at this
     exact this
    ·exact jfO hc0 (by simp) hr (by rw [hdr]; exact z)
   rw [e1]
   have k1 : zav (48 :: 46 :: d :: W) = 0 := Zbv fun z => absurd z.1 (by show ¬ (48 : Int) = 47; decide)
   have k2 : zav (46 :: d :: W) = 0 := Zbv fun z => absurd z.1 (by show ¬ (46 : Int) = 47; decide)
   have hs := jgT hd W
   cases L with
   | nil =>
    refine ⟨fun z => ?_, fun z => ?_⟩
    ·cases z with
     | nil z => rw [k2] at z; cases z
    ·cases z with
     | nil z => rw [k1] at z; cases z
   | cons b L =>
    refine ⟨fun z => ?_, fun z => ?_⟩
    ·obtain ⟨-, z2, z3⟩ := jdL k2 z
     exact jfO k1 (by simp) (hs.trans (by rw [z2])) z3
    ·obtain ⟨-, z2, z3⟩ := jdL k1 z
     rw [hs] at z2 z3
     exact jfO k2 (by simp) (Prod.ext z2 rfl) z3
 | pct n hn =>
  show RD (zaJ n (Zcm n) ++ [37] ++ V) _ ↔ _
  exact jci (by simp) (zeT (Zc1 hn) (ZdL hn)) (jgS hn V)
 | dim n u f hn hu h0 =>
  have h : ZgS u V := h
  show RD (zaJ n f ++ Za6 u ++ V) _ ↔ _
  exact jci (by simp [Zc1 hn]) (zeT (Zc1 hn) (ZdL hn)) (zgT hn hu h0 h)
 | sp =>
  have h : mSp (hb V) = false := h
  refine jci (X := [32]) (by simp) (by show ¬ (32 : Int) = 47; decide) ?_
  rw [List.singleton_append, Jhi 32 (.inl rfl), JhQ h]
  rfl
 | cdo => exact jci (X := [60, 33, 45, 45]) (by simp) (by show ¬ (60 : Int) = 47; decide) (jgQ V)
 | cdc => exact jci (X := [45, 45, 62]) (by simp) (by show ¬ (45 : Int) = 47; decide) (jgR V)
 | mark k hk =>
  have e := JfO hk
  rw [e]
  refine jci (by simp) ?_ (Jgj hk V)
  obtain ⟨n, rfl⟩ : ∃ n : Nat, k = 16 + (n : Int) := ⟨(k - 16).toNat, by omega⟩
  have key : ∀ n : Nat, n < 9 → (((marksT.getD n 0).toNat : Int)) ≠ 47 := by decide +kernel
  rw [show (16 + (n : Int) - 16).toNat = n by omega]
  exact key n (by omega)
inductive Pc : List Tok → List UInt8 → Prop where
 | one (t : Tok) (hc : Can t) (h1 : JhA t = false) (h2 : zhB t = false) : Pc [t] (zgv t)
 | bs : Pc [tk 9 [92], tk 13] [92, 10]
 | uf (a s : List UInt8) (ha : a ≠ []) (h0 : (0 : UInt8) ∉ a) (hu : zad a [117, 114, 108] = true) (hs : (0 : UInt8) ∉ s) : Pc [tk 2 a, tk 5 s] (jas a ++ [40] ++ (34 :: (Jdl s ++ [34])))
 | ufs (a s : List UInt8) (ha : a ≠ []) (h0 : (0 : UInt8) ∉ a) (hu : zad a [117, 114, 108] = true) (hs : (0 : UInt8) ∉ s) : Pc [tk 2 a, tk 13, tk 5 s] (jas a ++ [40] ++ (32 :: 34 :: (Jdl s ++ [34])))
end Go.Proofs.YtbpbaicbaehhjaaGreatDoor
set_option linter.unusedVariables false
set_option linter.unusedSimpArgs false
namespace Go.Proofs.YtbpbaicbaehhjaaGreatDoor
open Go.Vm Go.Sx Go.RowKit
inductive First (T : List Tok) (X : List UInt8) : Prop where
 | name (a tl : List UInt8) (ha : a ≠ []) (h0 : (0 : UInt8) ∉ a) (hX : X = jas a ++ tl) (h : (T = [tk 1 a] ∧ tl = []) ∨ (T = [tk 2 a] ∧ tl = [40]) ∨ zad a [117, 114, 108] = true)
 | num (n : Int) (f : Bool) (tl : List UInt8) (hn : NumOK n f) (hX : X = zaJ n f ++ tl) (h : (T = [tk 10 [] n [] f] ∧ tl = []) ∨ (T = [tk 11 [] n] ∧ tl = [37]) ∨ (∃ u, u ≠ [] ∧ (0 : UInt8) ∉ u ∧ T = [tk 12 [] n u f] ∧ tl = Za6 u))
 | del (c : UInt8) (hc : DelOK c) (hX : X = [c])
 | sp (hX : X = [32]) (hT : T = [tk 13])
 | other (h1 : hb X ≠ 42) (h2 : mSp (hb X) = false) (h3 : mD (hb X) = false) (h4 : mE (hb X) = false) (h5 : ¬ (mSg (hb X) = true ∧ mD (hb X.tail) = true))
end Go.Proofs.YtbpbaicbaehhjaaGreatDoor
set_option linter.unusedVariables false
set_option linter.unusedSimpArgs false
namespace Go.Proofs.YtbpbaicbaehhjaaGreatDoor
open Go.Vm Go.Sx Go.RowKit
end Go.Proofs.YtbpbaicbaehhjaaGreatDoor
set_option linter.unusedVariables false
set_option linter.unusedSimpArgs false
namespace Go.Proofs.YtbpbaicbaehhjaaGreatDoor
open Go.Vm Go.Sx Go.RowKit
end Go.Proofs.YtbpbaicbaehhjaaGreatDoor
set_option linter.unusedVariables false
set_option linter.unusedSimpArgs false
namespace Go.Proofs.YtbpbaicbaehhjaaGreatDoor
open Go.Vm Go.Sx Go.RowKit
structure Pi where
 T : List Tok
 X : List UInt8
 c : Bool
def Pi.ok (p : Pi) : Prop := Pc p.T p.X
def Pi.tx (p : Pi) : List UInt8 := (if p.c then [47, 42, 42, 47] else []) ++ p.X
def txs (ps : List Pi) : List UInt8 := ps.flatMap Pi.tx
def zhR (ps : List Pi) : List Tok := ps.flatMap Pi.T
inductive Built : List Pi → Prop where
 | nil : Built []
 | com {ps : List Pi} {p : Pi} : Built ps → p.ok → p.c = true → Built (ps ++ [p])
 | win {pre w : List Pi} {p : Pi} : Built (pre ++ w) → p.ok → p.c = false → (pre = [] ∨ 3 ≤ (txs w).length) → RD (txs w ++ p.X) (zhR w ++ p.T) → Built (pre ++ w ++ [p])
theorem jgw (hpos : ∀ w : List UInt8, w ≠ [] → 1 ≤ (ZN w).2) : ∀ (f : Nat) (u : List UInt8) (p : Nat) (L : List Tok), (u.drop (zav u)).length ≤ f → (RD u L ↔ (zgb f (u.drop (zav u)) p).map (·.1) = L)
 | 0, u, p, L, hl => by
  have h0 : u.drop (zav u) = [] := List.length_eq_zero_iff.1 (by omega)
  constructor
  ·intro h
   cases h with
   | nil _ => rfl
   | cons h1 _ => exact absurd h0 h1
  ·intro h
   have h : [] = L := h
   rw [← h]; exact .nil h0
 | f + 1, u, p, L, hl => by
  cases hw : u.drop (zav u) with
  | nil =>
   constructor
   ·intro h
    cases h with
    | nil _ => rfl
    | cons h1 _ => exact absurd hw h1
   ·intro h
    have h : [] = L := h
    rw [← h]; exact .nil hw
  | cons c w =>
   rw [hw] at hl
   have hp := hpos (c :: w) (by simp)
   have ih := jgw hpos f ((c :: w).drop (ZN (c :: w)).2) (p + (ZN (c :: w)).2 + zav ((c :: w).drop (ZN (c :: w)).2))
   have hdd : (c :: w).drop ((ZN (c :: w)).2 + zav ((c :: w).drop (ZN (c :: w)).2)) = ((c :: w).drop (ZN (c :: w)).2).drop (zav ((c :: w).drop (ZN (c :: w)).2)) := (List.drop_drop ..).symm
   have hlen : (((c :: w).drop (ZN (c :: w)).2).drop (zav ((c :: w).drop (ZN (c :: w)).2))).length ≤ f := by
    rw [List.length_drop, List.length_drop]; omega
   unfold zgb
   rw [List.map_cons, hdd]
   constructor
   ·intro h
    cases h with
    | nil h => rw [hw] at h; cases h
    | cons h1 h2 =>
     rw [hw] at h2 ⊢
     rw [(ih _ hlen).1 h2]
   ·intro h
    rw [← h]
    have h2 := (ih _ hlen).2 rfl
    have h3 : RD u ((ZN (u.drop (zav u))).1 :: _) := .cons (by rw [hw]; simp) (by rw [hw]; exact h2)
    rw [hw] at h3
    exact h3
theorem jeF (hpos : ∀ w : List UInt8, w ≠ [] → 1 ≤ (ZN w).2) (u : List UInt8) (L : List Tok) : RD u L ↔ (JgY u).map (·.1) = L :=
 jgw hpos u.length u (zav u) L (by rw [List.length_drop]; omega)
theorem Zcv : ∀ a b : List Tok, jc3 a b = true → a = b
 | [], [], _ => rfl
 | [], _ :: _, h => by cases h
 | _ :: _, [], h => by cases h
 | a :: x, b :: y, h => by
  unfold jc3 at h
  simp only [Bool.and_eq_true] at h
  rw [Zfc h.1, Zcv x y h.2]
end Go.Proofs.YtbpbaicbaehhjaaGreatDoor
