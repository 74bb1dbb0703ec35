/-
  The law GlueNamed about the printed definitions, and its ties. Nothing is claimed here. (The texts Gq, Gr, Gs, Gt, one behind the other.)
-/
import Derived.Test.YtkmgbibhkilffaaGreatDoorWg
import Derived.Test.YtkmgbibhkilffaaGreatDoorTi
set_option linter.unusedVariables false
namespace Go.Proofs.YtkmgbibhkilffaaGreatDoor
open Go.Vm Go.Sx Go.RowKit

/-! ### The text of a name -/
def escT (c : UInt8) : Bt := 92 :: (if (33 ≤ (c.toNat : Int) ∧ (c.toNat : Int) ≤ 126) ∧ mD (c.toNat : Int) = false ∧ mL (c.toNat : Int) = false then [c] else hexL c.toNat ++ [32])
def butT (e : Int) : Int → Bt → Bt
  | _, [] => []
  | i, c :: w => (if i ≠ e ∧ mN (c.toNat : Int) = true then [c] else escT c) ++ butT e (i + 1) w
def obsM (s : Bt) : Int := if s = [45] then 0 else if mD (hb s) = true then 0 else if hb s = 45 ∧ mD (hb s.tail) = true then 1 else -1
def namT (s : Bt) : Bt := butT (obsM s) 0 s

theorem hexL_len (u : Nat) : (hexL u).length ≤ 2 := by unfold hexL; split <;> simp
theorem escT_len (c : UInt8) : (escT c).length ≤ 4 := by
  unfold escT
  have := hexL_len c.toNat
  split <;> simp <;> omega
theorem butT_len (e : Int) : ∀ (w : Bt) (i : Int), (butT e i w).length ≤ 4 * w.length
  | [], _ => by simp [butT]
  | c :: w, i => by
    have h1 := butT_len e w (i + 1)
    have h2 := escT_len c
    simp only [butT, List.length_append, List.length_cons]
    split
    · simp; omega
    · omega

theorem u8of (c : UInt8) : UInt8.ofNat (c.toNat : Int).toNat = c := u8id c
def s_gIsNm : T_glue_isName := fun s K => K (!(s == []))
theorem p_gIsNm (s K) (h : s_gIsNm s K) : F_glue_isName s K := h
def s_sWD : T_g_sWithDigit := fun s K => K (mD (hb s))
theorem p_sWD (s K) (h : s_sWD s K) : F_g_sWithDigit s_isD s K := by
  cases s with
  | nil => exact ⟨fun q => by exact absurd q (by decide), fun _ => h⟩
  | cons c w => exact ⟨fun _ => ⟨⟨by omega, by rw [List.length_cons]; omega⟩, h⟩, fun q => by simp at q⟩
def s_sWM : T_g_sWithMinusDigit := fun s K => K (decide (hb s = 45) && mD (hb s.tail))
theorem p_sWM (s K) (h : s_sWM s K) : F_g_sWithMinusDigit s_HP s_sWD s K := by
  unfold s_sWM at h
  unfold F_g_sWithMinusDigit s_HP
  cases s with
  | nil => exact ⟨fun q => by exact absurd q (by decide), fun _ => h⟩
  | cons c w =>
    refine ⟨fun q => ⟨⟨by omega, by rw [List.length_cons]; omega⟩, ?_⟩, fun q => ?_⟩
    · have e : c = 45 := (show (45 : UInt8) = c by simpa [List.isPrefixOf] using q).symm
      subst e
      exact h
    · have e : ¬ (c.toNat : Int) = 45 := by
        intro z
        have : c = 45 := UInt8.toNat_inj.mp (by show c.toNat = 45; omega)
        subst this
        simp [List.isPrefixOf] at q
      rw [hb_cons, decide_eq_false e, Bool.false_and] at h
      exact h
def s_obs : T_glue_obstacle := fun s K => K (obsM s)
theorem p_obs (s K) (h : s_obs s K) : F_glue_obstacle s_sWD s_sWM s K := by
  unfold s_obs obsM at h
  refine ⟨fun q => ?_, fun q => ?_⟩
  · have q : ¬ s = [45] := by simpa using q
    rw [if_neg q] at h
    refine ⟨fun q2 => ?_, fun q2 => ⟨fun q3 => ?_, fun q3 => ?_⟩⟩
    · rw [if_pos q2] at h; exact h
    · rw [if_neg (by rw [q2]; decide)] at h
      rw [if_pos (by simpa using q3)] at h
      exact h
    · rw [if_neg (by rw [q2]; decide)] at h
      rw [if_neg (by simpa using q3)] at h
      exact h
  · have q : s = [45] := by simpa using q
    rw [if_pos q] at h
    exact h
def s_gEsc : T_gE_m := fun c b K => (0 ≤ c ∧ c ≤ 255) ∧ b.length ≤ 5000000 ∧ K (b ++ escT (UInt8.ofNat c.toNat))
theorem intB16 {c : Int} (h : 0 ≤ c ∧ c ≤ 255) : intB c 16 = true := by unfold intB; simp; omega
theorem intT16 (c : Int) : intT c 16 = hexL c.toNat := by unfold intT; simp
theorem p_gEsc (c b K) (h : s_gEsc c b K) : F_gE_m s_isD s_isL c b K := by
  obtain ⟨hc, hb, hk⟩ := h
  have hl := hexL_len c.toNat
  have ec : (((UInt8.ofNat c.toNat).toNat : Nat) : Int) = c := by rw [UInt8.toNat_ofNat']; omega
  have en : (UInt8.ofNat c.toNat).toNat = c.toNat := by omega
  unfold escT at hk
  rw [ec, en] at hk
  have fin : ¬ ((33 ≤ c ∧ c ≤ 126) ∧ mD c = false ∧ mL c = false) → (I64 c ∧ (intB c (16 : Int) = true ∧ (((b ++ [UInt8.ofNat 92]).length + (intT c (16 : Int)).length) * 1 ≤ 1099511627776 ∧ ((0 ≤ (32 : Int) ∧ (32 : Int) ≤ 255) ∧ ((((b ++ [UInt8.ofNat 92]) ++ (intT c (16 : Int))).length + [UInt8.ofNat 32].length) * 1 ≤ 1099511627776 ∧ K (((b ++ [UInt8.ofNat 92]) ++ (intT c (16 : Int))) ++ [UInt8.ofNat 32])))))) := by
    intro q
    rw [if_neg q] at hk
    rw [intT16]
    refine ⟨by unfold I64; omega, intB16 hc, by simp; omega, by omega, by simp; omega, ?_⟩
    simpa using hk
  refine ⟨by omega, by simp; omega, fun q1 => ⟨fun q2 => ⟨fun q3 => ⟨fun q4 => ⟨hc, by simp; omega, ?_⟩, fun q4 => ?_⟩, fun q3 => ?_⟩, fun q2 => ?_⟩, fun q1 => ?_⟩
  · have q1 := of_decide_eq_true q1
    have q2 := of_decide_eq_true q2
    have q3 : mD c = false := by simpa using q3
    have q4 : mL c = false := by simpa using q4
    rw [if_pos ⟨⟨q1, q2⟩, q3, q4⟩] at hk
    simpa using hk
  · exact fin fun z => by rw [z.2.2] at q4; cases q4
  · exact fin fun z => by rw [z.2.1] at q3; cases q3
  · exact fin fun z => by have := of_decide_eq_false q2; omega
  · exact fin fun z => by have := of_decide_eq_false q1; omega
abbrev lpB := F_gB_m_l2 s_isN s_gEsc
theorem p_btL (s : Bt) (hs : s.length ≤ 5000) (e : Int) (Ke : Bt → Prop) : ∀ (w : Bt) (i : Int) (b : Bt), s.drop i.toNat = w → 0 ≤ i → i ≤ s.length → b.length + 4 * w.length ≤ 1000000 →
    Ke (b ++ butT e i w) → ∃ m, lpB m s e (s.length : Int) i b Ke
  | [], i, b, hw, hi, hil, hb, h => by
    have := drop_nil hw
    refine ⟨1, ?_⟩
    simp only [F_gB_m_l2]
    refine ⟨fun q => ?_, fun _ => ?_⟩
    · have := of_decide_eq_true q; omega
    · simpa [butT] using h
  | c :: w, i, b, hw, hi, hil, hb, h => by
    obtain ⟨h1, h2, h3, _⟩ := drop_cons hi hw
    rw [List.length_cons] at hb
    have hin := u8in c
    have hel := escT_len c
    have hlt : ¬ decide (i < (s.length : Int)) = false := by simp; omega
    simp only [butT] at h
    by_cases q : i ≠ e ∧ mN (c.toNat : Int) = true
    · rw [if_pos q] at h
      obtain ⟨m, hm⟩ := p_btL s hs e Ke w (i + 1) (b ++ [c]) h3 (by omega) (by omega) (by simp; omega) (by simpa using h)
      refine ⟨m + 1, ?_⟩
      simp only [F_gB_m_l2]
      refine ⟨fun _ => ⟨fun _ => ⟨⟨hi, h1⟩, ?_⟩, fun z => absurd (of_decide_eq_false z) (by simpa using q.1)⟩, fun z => absurd z hlt⟩
      rw [h2, u8of]
      refine ⟨fun _ => ⟨⟨hi, h1⟩, hin, by simp; omega, by unfold I64; omega, hm⟩, fun z => ?_⟩
      rw [q.2] at z
      cases z
    · rw [if_neg q] at h
      obtain ⟨m, hm⟩ := p_btL s hs e Ke w (i + 1) (b ++ escT c) h3 (by omega) (by omega) (by rw [List.length_append]; omega) (by rw [List.append_assoc]; exact h)
      refine ⟨m + 1, ?_⟩
      simp only [F_gB_m_l2]
      have esc : s_gEsc (c.toNat : Int) b (fun y => I64 (i + 1) ∧ lpB m s e (s.length : Int) (i + 1) y Ke) := by
        refine ⟨hin, by omega, ?_⟩
        rw [u8of]
        exact ⟨by unfold I64; omega, hm⟩
      refine ⟨fun _ => ⟨fun z => ⟨⟨hi, h1⟩, ?_⟩, fun z => ⟨⟨hi, h1⟩, ?_⟩⟩, fun z => absurd z hlt⟩
      · rw [h2]
        refine ⟨fun z2 => absurd ⟨of_decide_eq_true z, z2⟩ q, fun _ => ⟨⟨hi, h1⟩, esc⟩⟩
      · rw [h2]
        exact esc
def s_gBut : T_gB_m := fun s e b K => (s.length ≤ 5000 ∧ b.length ≤ 100000) ∧ K (b ++ butT e 0 s)
theorem p_gBut (s e b K) (h : s_gBut s e b K) : F_gB_m s_isN s_gEsc s e b K :=
  p_btL s h.1.1 e K s 0 b rfl (by omega) (by omega) (by have := h.1; omega) h.2
def s_gNm : T_gN_m := fun s b K => (s.length ≤ 5000 ∧ b.length ≤ 100000) ∧ K (b ++ namT s)
theorem p_gNm (s b K) (h : s_gNm s b K) : F_gN_m s_obs s_gBut s b K := h
def s_ib : T_gslIndexByte := fun s c K => (0 ≤ c ∧ c < 256) ∧ K (Lib.indexByte s (UInt8.ofNat c.toNat))
def s_ibS : T_gs_IndexByte := fun s c K => (0 ≤ c ∧ c < 256) ∧ K (Lib.indexByte s (UInt8.ofNat c.toNat))
theorem p_ibS (s c K) (h : s_ibS s c K) : F_gs_IndexByte s_ib s c K := h
/-- What Name tells of a short text. -/
def s_GName : T_glue_Name := fun s K => s.length ≤ 300 ∧ (s = [] ∨ (0 : UInt8) ∈ s → K [] 8) ∧ (s ≠ [] → (0 : UInt8) ∉ s → K (namT s) 0)
theorem ib_ge : ∀ (s : Bt) (c : UInt8), -1 ≤ Lib.indexByte s c
  | [], _ => by simp [Lib.indexByte]
  | d :: w, c => by
    have := ib_ge w c
    unfold Lib.indexByte
    split
    · omega
    · split
      · omega
      · omega
theorem ib_mem (s : Bt) (c : UInt8) : 0 ≤ Lib.indexByte s c ↔ c ∈ s := by
  induction s with
  | nil => simp [Lib.indexByte]
  | cons d w ih =>
    have hg := ib_ge w c
    unfold Lib.indexByte
    by_cases q : d = c
    · subst q; simp
    · have q1 : (d == c) = false := by simpa using q
      have q2 : ¬ c = d := fun z => q z.symm
      simp only [q1, Bool.false_eq_true, if_false, List.mem_cons, q2, false_or]
      rw [← ih]
      by_cases z : Lib.indexByte w c = -1
      · simp [z]
      · simp only [beq_iff_eq, z, if_false]
        omega
theorem p_GName (s K) (h : s_GName s K) : F_glue_Name s_gIsNm s_ibS s_gNm s K := by
  obtain ⟨hl, h1, h2⟩ := h
  have hbl := butT_len (obsM s) s 0
  refine ⟨fun q => ⟨by omega, ?_⟩, fun q => h1 (.inl (by simpa using q))⟩
  have hne : s ≠ [] := by simpa using q
  have hz : UInt8.ofNat (0 : Int).toNat = 0 := rfl
  rw [hz]
  refine ⟨fun z => h1 (.inr ((ib_mem s 0).1 (of_decide_eq_true z))), fun z => ⟨fun z2 => ?_, fun _ => ⟨⟨by omega, by simp⟩, fun z3 => ?_, fun _ => ?_⟩⟩⟩
  · have := of_decide_eq_true z2; omega
  · have := of_decide_eq_true z3
    rw [List.nil_append] at this
    unfold namT at this
    omega
  · rw [List.nil_append]
    exact h2 hne fun m => of_decide_eq_false z ((ib_mem s 0).2 m)
end Go.Proofs.YtkmgbibhkilffaaGreatDoor

set_option linter.unusedVariables false
namespace Go.Proofs.YtkmgbibhkilffaaGreatDoor
open Go.Vm Go.Sx Go.RowKit

/-! ### Escapes -/
theorem hexB_read : ∀ d, d < 16 → hexM ((hexB d).toNat : Int) = ((d : Int), true) ∧ ((hexB d).toNat : Int) ≠ 10 ∧ ((hexB d).toNat : Int) ≠ 0 ∧ ((hexB d).toNat : Int) ≠ 12 ∧ ((hexB d).toNat : Int) ≠ 13 := by decide
theorem hexRun1 (k : Nat) (d : Nat) (hd : d < 16) (w : Bt) (a : Int) : hexRun (k + 1) (hexB d :: w) a = ((hexRun k w (a * 16 + d)).1, (hexRun k w (a * 16 + d)).2 + 1) := by
  simp only [hexRun, hb_cons, (hexB_read d hd).1, if_true, List.tail_cons]
theorem hexRun0 (k : Nat) (r : Bt) (a : Int) : hexRun (k + 1) (32 :: r) a = (a, 0) := by
  have h : (hexM (hb (32 :: r))).2 = false := rfl
  unfold hexRun
  rw [if_neg (by rw [h]; decide)]
theorem hex_not : ∀ c : UInt8, (33 ≤ (c.toNat : Int) ∧ (c.toNat : Int) ≤ 126) ∧ mD (c.toNat : Int) = false ∧ mL (c.toNat : Int) = false → (hexM (c.toNat : Int)).2 = false := by
  intro c h
  obtain ⟨h1, h2, h3⟩ := h
  unfold hexM
  rw [if_neg (by rw [h2]; decide)]
  unfold mL at h3
  simp only [Bool.or_eq_false_iff, Bool.and_eq_false_iff, decide_eq_false_iff_not] at h3
  rw [if_neg (by omega), if_neg (by omega)]
theorem esc_read (c : UInt8) (h0 : c ≠ 0) (h1 : (c.toNat : Int) < 128) (r : Bt) : escM ((escT c).tail ++ r) = ([c], (escT c).length - 1) := by
  have hc0 : ¬ (c.toNat : Int) = 0 := fun z => h0 (UInt8.toNat_inj.mp (by show c.toNat = 0; omega))
  unfold escT
  simp only [List.tail_cons, List.length_cons]
  by_cases q : (33 ≤ (c.toNat : Int) ∧ (c.toNat : Int) ≤ 126) ∧ mD (c.toNat : Int) = false ∧ mL (c.toNat : Int) = false
  · rw [if_pos q]
    show escH c r = _
    unfold escH
    rw [if_neg (by rw [hex_not c q]; decide)]
    rfl
  · rw [if_neg q]
    have e8 : utfM (c.toNat : Int) = [c] := by
      unfold utfM
      rw [if_pos (by omega)]
      show [UInt8.ofNat (c.toNat : Int).toNat] = _
      rw [u8id]
    by_cases hu : c.toNat < 16
    · have hl : hexL c.toNat = [hexB c.toNat] := by unfold hexL; rw [if_pos hu]
      rw [hl]
      show escH (hexB c.toNat) (32 :: r) = _
      have hr : hexRun 6 (hexB c.toNat :: 32 :: r) 0 = ((c.toNat : Int), 1) := by rw [hexRun1 _ _ hu, hexRun0]; simp
      unfold escH
      rw [(hexB_read _ hu).1, if_pos rfl, hr, if_neg hc0, e8]
      rfl
    · have hl : hexL c.toNat = [hexB (c.toNat / 16), hexB (c.toNat % 16)] := by unfold hexL; rw [if_neg hu]
      have hd1 : c.toNat / 16 < 16 := by omega
      have hd2 : c.toNat % 16 < 16 := by omega
      rw [hl]
      show escH (hexB (c.toNat / 16)) (hexB (c.toNat % 16) :: 32 :: r) = _
      have hr : hexRun 6 (hexB (c.toNat / 16) :: hexB (c.toNat % 16) :: 32 :: r) 0 = ((c.toNat : Int), 2) := by
        rw [hexRun1 _ _ hd1, hexRun1 _ _ hd2, hexRun0]
        refine Prod.ext ?_ rfl
        show (0 * 16 + ((c.toNat / 16 : Nat) : Int)) * 16 + ((c.toNat % 16 : Nat) : Int) = _
        omega
      unfold escH
      rw [(hexB_read _ hd1).1, if_pos rfl, hr, if_neg hc0, e8]
      rfl
/-- The byte behind an escape's backslash. -/
theorem esc_next (c : UInt8) : ∃ d v, escT c = 92 :: d :: v ∧ (d.toNat : Int) ≠ 10 := by
  unfold escT
  by_cases q : (33 ≤ (c.toNat : Int) ∧ (c.toNat : Int) ≤ 126) ∧ mD (c.toNat : Int) = false ∧ mL (c.toNat : Int) = false
  · rw [if_pos q]
    exact ⟨c, [], rfl, by omega⟩
  · rw [if_neg q]
    have hlt := c.toNat_lt
    unfold hexL
    by_cases hu : c.toNat < 16
    · rw [if_pos hu]
      exact ⟨_, _, rfl, (hexB_read _ hu).2.1⟩
    · rw [if_neg hu]
      exact ⟨_, _, rfl, (hexB_read _ (by omega)).2.1⟩
theorem escS_esc (c : UInt8) (r : Bt) : escS (escT c ++ r) = true := by
  obtain ⟨d, v, h, hd⟩ := esc_next c
  rw [h]
  unfold escS
  simp only [List.cons_append, hb_cons, List.tail_cons]
  rw [Bool.and_eq_true]
  exact ⟨rfl, decide_eq_true hd⟩
theorem mN_92 : mN 92 = false := by decide
theorem name_raw {c : UInt8} (h : mN (c.toNat : Int) = true) (r : Bt) : nameM (c :: r) = (c :: (nameM r).1, 1 + (nameM r).2) := by
  rw [nameM]
  rw [if_pos (by unfold nameG; rw [hb_cons, h]; rfl)]
  rw [if_neg (fun z => by rw [z, mN_92] at h; cases h)]
theorem name_esc (c : UInt8) (h0 : c ≠ 0) (h1 : (c.toNat : Int) < 128) (r : Bt) : nameM (escT c ++ r) = (c :: (nameM r).1, (escT c).length + (nameM r).2) := by
  have hs := escS_esc c r
  have he := esc_read c h0 h1 r
  have hl : escT c = 92 :: (escT c).tail := rfl
  rw [hl, List.cons_append] at hs ⊢
  rw [nameM]
  rw [if_pos (by unfold nameG; rw [hs, Bool.or_true]), if_pos (show ((92 : UInt8).toNat : Int) = 92 from rfl), he]
  have hd : ((escT c).tail ++ r).drop ((escT c).length - 1) = r := by
    rw [show (escT c).length - 1 = (escT c).tail.length from by rw [List.length_tail], List.drop_left]
  rw [hd]
  refine Prod.ext rfl ?_
  show 1 + ((escT c).length - 1) + (nameM r).2 = (92 :: (escT c).tail).length + (nameM r).2
  rw [← hl]
  have : 1 ≤ (escT c).length := by rw [hl]; simp
  omega

/-- What stands at the obstacle is a byte below 128. -/
def okE (e : Int) : Int → Bt → Prop
  | _, [] => True
  | i, c :: w => (i = e → (c.toNat : Int) < 128) ∧ okE e (i + 1) w
theorem okE_past (e : Int) : ∀ (w : Bt) (i : Int), e < i → okE e i w
  | [], _, _ => trivial
  | c :: w, i, h => ⟨fun z => by omega, okE_past e w (i + 1) (by omega)⟩
theorem not_name {c : UInt8} (h : mN (c.toNat : Int) = false) : (c.toNat : Int) < 128 := by
  unfold mN mN0 at h
  simp only [Bool.or_eq_false_iff, decide_eq_false_iff_not] at h
  omega
theorem but_read (e : Int) : ∀ (w : Bt) (i : Int), (0 : UInt8) ∉ w → okE e i w → nameM (butT e i w) = (w, (butT e i w).length)
  | [], _, _, _ => by simp [butT, nameM]
  | c :: w, i, h0, hk => by
    obtain ⟨k1, k2⟩ := hk
    have h0' : (0 : UInt8) ∉ w := fun z => h0 (List.mem_cons_of_mem _ z)
    have hc : c ≠ 0 := fun z => h0 (by rw [z]; exact List.mem_cons_self ..)
    have ih := but_read e w (i + 1) h0' k2
    simp only [butT]
    by_cases q : i ≠ e ∧ mN (c.toNat : Int) = true
    · rw [if_pos q, List.singleton_append, name_raw q.2, ih, List.length_cons, Nat.add_comm]
    · rw [if_neg q]
      have h128 : (c.toNat : Int) < 128 := by
        by_cases z : i = e
        · exact k1 z
        · cases hm : mN (c.toNat : Int) with
          | false => exact not_name hm
          | true => exact absurd ⟨z, hm⟩ q
      rw [name_esc c hc h128, ih, List.length_append]
theorem mD_128 {c : Int} (h : mD c = true) : c < 128 := by
  unfold mD at h
  simp only [Bool.and_eq_true, decide_eq_true_eq] at h
  omega
theorem obs_ok (s : Bt) : okE (obsM s) 0 s := by
  unfold obsM
  split
  · rename_i h; subst h; exact ⟨fun _ => by decide, trivial⟩
  · split
    · rename_i h
      cases s with
      | nil => trivial
      | cons c w => exact ⟨fun _ => mD_128 h, okE_past 0 w _ (by omega)⟩
    · split
      · rename_i h
        cases s with
        | nil => trivial
        | cons c w =>
          refine ⟨fun z => by omega, ?_⟩
          cases w with
          | nil => trivial
          | cons d v => exact ⟨fun _ => mD_128 h.2, okE_past 1 v _ (by omega)⟩
      · exact okE_past _ _ _ (by omega)
theorem nam_read {a : Bt} (h0 : (0 : UInt8) ∉ a) : nameM (namT a) = (a, (namT a).length) := but_read _ a 0 h0 (obs_ok a)

/-! ### A name starts -/
theorem but_first (e i : Int) (c : UInt8) (w : Bt) : (i ≠ e ∧ mN (c.toNat : Int) = true ∧ butT e i (c :: w) = c :: butT e (i + 1) w) ∨ (¬ (i ≠ e ∧ mN (c.toNat : Int) = true) ∧ butT e i (c :: w) = escT c ++ butT e (i + 1) w) := by
  simp only [butT]
  by_cases q : i ≠ e ∧ mN (c.toNat : Int) = true
  · left; rw [if_pos q]; exact ⟨q.1, q.2, rfl⟩
  · right; rw [if_neg q]; exact ⟨q, rfl⟩
theorem mN_split {c : Int} (h : mN c = true) : mN0 c = true ∨ mD c = true ∨ c = 45 := by
  unfold mN at h
  simpa only [Bool.or_eq_true, decide_eq_true_eq] using h
theorem escS_start {w : Bt} (h : escS w = true) : nameS w = true := by
  have h1 : hb w = 92 := by
    unfold escS at h
    simp only [Bool.and_eq_true, decide_eq_true_eq] at h
    exact h.1
  unfold nameS
  rw [if_pos (by omega), h, Bool.or_true]
theorem nam_starts {a : Bt} (ha : a ≠ []) : nameS (namT a) = true := by
  obtain ⟨c, w, rfl⟩ := List.exists_cons_of_ne_nil ha
  unfold namT
  rcases but_first (obsM (c :: w)) 0 c w with ⟨q1, q2, q3⟩ | ⟨_, q3⟩
  · rw [q3]
    have hD : mD (c.toNat : Int) = false := by
      cases z : mD (c.toNat : Int) with
      | false => rfl
      | true =>
        exfalso
        apply q1
        unfold obsM
        split
        · rfl
        · rw [hb_cons, z, if_pos rfl]
    rcases mN_split q2 with z | z | z
    · unfold nameS
      rw [hb_cons, if_pos (fun y => by rw [y] at z; exact absurd z (by decide)), z, Bool.true_or]
    · rw [z] at hD; cases hD
    · have hne : w ≠ [] := by
        intro y
        subst y
        apply q1
        unfold obsM
        have : c = 45 := UInt8.toNat_inj.mp (by show c.toNat = 45; omega)
        rw [this, if_pos rfl]
      obtain ⟨d, v, rfl⟩ := List.exists_cons_of_ne_nil hne
      have key : ∀ r : Bt, mN0 (hb r) = true ∨ hb r = 45 ∨ escS r = true → nameS (c :: r) = true := by
        intro r hr
        unfold nameS
        rw [hb_cons, if_neg (by omega), List.tail_cons]
        rcases hr with x | x | x
        · rw [x, Bool.true_or]
        · rw [decide_eq_true x, Bool.true_or, Bool.or_true]
        · rw [x, Bool.or_true, Bool.or_true]
      apply key
      rcases but_first (obsM (c :: d :: v)) (0 + 1) d v with ⟨p1, p2, p3⟩ | ⟨_, p3⟩
      · rw [p3, hb_cons]
        rcases mN_split p2 with y | y | y
        · exact .inl y
        · exfalso
          apply p1
          unfold obsM
          rw [if_neg (by simp), hb_cons, if_neg (by rw [hD]; decide), List.tail_cons, hb_cons, if_pos ⟨z, y⟩]
          rfl
        · exact .inr (.inl y)
      · rw [p3]
        exact .inr (.inr (escS_esc d _))
  · rw [q3]
    exact escS_start (escS_esc c _)
/-- The first byte where a name starts. -/
theorem start_hb {x : Bt} (h : nameS x = true) : mN0 (hb x) = true ∨ hb x = 92 ∨ (hb x = 45 ∧ (mN0 (hb x.tail) = true ∨ hb x.tail = 45 ∨ hb x.tail = 92)) := by
  unfold nameS at h
  have e92 : ∀ w : Bt, escS w = true → hb w = 92 := fun w hw => by
    unfold escS at hw
    simp only [Bool.and_eq_true, decide_eq_true_eq] at hw
    exact hw.1
  split at h
  · simp only [Bool.or_eq_true] at h
    exact h.imp id fun z => .inl (e92 _ z)
  · rename_i q
    have q : hb x = 45 := by omega
    simp only [Bool.or_eq_true, decide_eq_true_eq] at h
    exact .inr (.inr ⟨q, h.imp id fun z => z.imp id (e92 _)⟩)
theorem mN0_in {c : Int} (h : mN0 c = true) : (97 ≤ c ∧ c ≤ 122) ∨ (65 ≤ c ∧ c ≤ 90) ∨ c = 95 ∨ 128 ≤ c := by
  unfold mN0 mL at h
  simp only [Bool.or_eq_true, Bool.and_eq_true, decide_eq_true_eq] at h
  omega
theorem start_num {x : Bt} (h : nameS x = true) : numS x = false := by
  unfold numS fracS mSg mD
  rcases start_hb h with q | q | ⟨q, q2⟩
  · have := mN0_in q
    rw [if_neg (by simp; omega)]
    simp
    omega
  · rw [q, if_neg (by decide)]; rfl
  · rw [q]
    have : ¬ hb x.tail = 46 ∧ ¬ (48 ≤ hb x.tail ∧ hb x.tail ≤ 57) := by
      rcases q2 with z | z | z
      · have := mN0_in z; omega
      · omega
      · omega
    simp
    omega

/-! ### One token -/
def okB (c : UInt8) : Prop := ¬ (c.toNat : Int) = 0 ∧ ¬ (c.toNat : Int) = 12 ∧ ¬ (c.toNat : Int) = 13
theorem cleanM_id : ∀ w : Bt, (∀ c ∈ w, okB c) → cleanM w = w
  | [], _ => rfl
  | c :: w, h => by
    obtain ⟨h1, h2, h3⟩ := h c (List.mem_cons_self ..)
    simp only [cleanM, if_neg h1, if_neg h2, if_neg h3]
    rw [cleanM_id w fun d hd => h d (List.mem_cons_of_mem _ hd)]
theorem okB_name {c : UInt8} (h : mN (c.toNat : Int) = true) : okB c := by
  unfold okB
  rcases mN_split h with q | q | q
  · have := mN0_in q; omega
  · unfold mD at q; simp only [Bool.and_eq_true, decide_eq_true_eq] at q; omega
  · omega
theorem okB_esc (c : UInt8) : ∀ d ∈ escT c, okB d := by
  intro d hd
  unfold escT at hd
  have h92 : okB 92 := by unfold okB; decide
  have h32 : okB 32 := by unfold okB; decide
  have hH : ∀ n, n < 16 → okB (hexB n) := fun n hn => ⟨(hexB_read n hn).2.2.1, (hexB_read n hn).2.2.2.1, (hexB_read n hn).2.2.2.2⟩
  have hlt := c.toNat_lt
  rcases List.mem_cons.1 hd with rfl | hd
  · exact h92
  · split at hd
    · rename_i q
      rw [List.mem_singleton] at hd
      subst hd
      unfold okB
      omega
    · rcases List.mem_append.1 hd with hd | hd
      · unfold hexL at hd
        split at hd
        · rename_i hu
          rw [List.mem_singleton] at hd
          subst hd
          exact hH _ hu
        · simp only [List.mem_cons, List.not_mem_nil, or_false] at hd
          rcases hd with rfl | rfl
          · exact hH _ (by omega)
          · exact hH _ (by omega)
      · rw [List.mem_singleton] at hd
        subst hd
        exact h32
theorem okB_but (e : Int) : ∀ (w : Bt) (i : Int), ∀ d ∈ butT e i w, okB d
  | [], _, d, hd => by simp [butT] at hd
  | c :: w, i, d, hd => by
    rcases but_first e i c w with ⟨_, q2, q3⟩ | ⟨_, q3⟩
    · rw [q3] at hd
      rcases List.mem_cons.1 hd with rfl | hd
      · exact okB_name q2
      · exact okB_but e w _ d hd
    · rw [q3] at hd
      rcases List.mem_append.1 hd with hd | hd
      · exact okB_esc c d hd
      · exact okB_but e w _ d hd
/-- Behind a byte, or two, no ">" stands by itself. -/
theorem but_hb (e i : Int) (w : Bt) : hb (butT e i w) ≠ 62 := by
  cases w with
  | nil =>
    show (0 : Int) ≠ 62
    decide
  | cons c w =>
    rcases but_first e i c w with ⟨_, q2, q3⟩ | ⟨_, q3⟩
    · rw [q3, hb_cons]
      intro z
      rw [z] at q2
      exact absurd q2 (by decide)
    · rw [q3]
      show (92 : Int) ≠ 62
      decide
theorem nam_cdc (a : Bt) : [45, 45, 62].isPrefixOf (namT a) = false := by
  cases h : [45, 45, 62].isPrefixOf (namT a) with
  | false => rfl
  | true =>
    exfalso
    obtain ⟨t, ht⟩ := List.isPrefixOf_iff_prefix.1 h
    have ht : namT a = 45 :: 45 :: 62 :: t := ht.symm
    unfold namT at ht
    generalize obsM a = e at ht
    have one : ∀ (i : Int) (w r : Bt), butT e i w = 45 :: r → ∃ c v, w = c :: v ∧ r = butT e (i + 1) v := by
      intro i w r hr
      cases w with
      | nil => simp [butT] at hr
      | cons c v =>
        rcases but_first e i c v with ⟨_, _, q3⟩ | ⟨_, q3⟩
        · rw [q3] at hr
          exact ⟨c, v, rfl, (List.cons.inj hr).2.symm⟩
        · rw [q3] at hr
          have : (92 : UInt8) = 45 := (List.cons.inj hr).1
          exact absurd this (by decide)
    obtain ⟨c, v, rfl, h2⟩ := one 0 a _ ht
    obtain ⟨d, u, rfl, h3⟩ := one _ v _ h2.symm
    have h4 := but_hb e (0 + 1 + 1) u
    rw [← h3] at h4
    exact h4 rfl
theorem prefix_hb {p x : Bt} {c : UInt8} (h : (c :: p).isPrefixOf x = true) : hb x = (c.toNat : Int) := by
  obtain ⟨t, ht⟩ := List.isPrefixOf_iff_prefix.1 h
  rw [← ht]
  rfl
theorem nam_token {a : Bt} (ha : a ≠ []) (h0 : (0 : UInt8) ∉ a) : (allM (cleanM (namT a))).map tkOf = [tk 1 a] := by
  have hS := nam_starts ha
  have hR := nam_read h0
  have hC : cleanM (namT a) = namT a := cleanM_id _ (okB_but _ a 0)
  have hcdc := nam_cdc a
  rw [hC]
  have hne : namT a ≠ [] := by
    intro z
    rw [z] at hS
    exact absurd hS (by decide)
  generalize hx : namT a = x at hS hR hcdc hne
  have hf := start_hb hS
  have hfb : hb x ≠ 47 ∧ hb x ≠ 60 ∧ hb x ≠ 35 ∧ hb x ≠ 64 ∧ hb x ≠ 34 ∧ hb x ≠ 39 ∧ hb x ≠ 10 ∧ hb x ≠ 9 ∧ hb x ≠ 32 := by
    rcases hf with q | q | ⟨q, _⟩
    · have := mN0_in q; omega
    · omega
    · omega
  have hcom : comM x = 0 := by
    rw [comM]
    rw [if_neg]
    intro z
    exact hfb.1 (prefix_hb z)
  have htok : tokM x = (tk 1 a, x.length) := by
    unfold tokM
    rw [if_neg (by unfold mSp; simp; omega), if_neg (by unfold mQ; simp; omega), if_neg (fun z => hfb.2.2.1 z.1)]
    unfold tok2
    rw [start_num hS, if_neg (by decide), hcdc, if_neg (by decide), if_neg (fun z => hfb.2.1 (prefix_hb z))]
    unfold tok4
    rw [if_neg (fun z => hfb.2.2.2.1 z.1)]
    unfold tok5
    rw [hS, if_pos rfl]
    unfold namedM
    simp only [hR, List.drop_length, hb_nil]
    rw [if_pos (by decide)]
  obtain ⟨c, w, rfl⟩ := List.exists_cons_of_ne_nil hne
  unfold allM
  rw [hcom, List.drop_zero, List.length_cons]
  simp only [tksM]
  rw [htok]
  simp only [List.drop_length]
  have hc0 : comM [] = 0 := by rw [comM]; rfl
  rw [hc0, Nat.add_zero, List.drop_length]
  have : ∀ f p, tksM f [] p = [] := fun f p => by cases f <;> rfl
  rw [this]
  rfl
theorem nam_inj {a b : Bt} (ha : (0 : UInt8) ∉ a) (hb : (0 : UInt8) ∉ b) (h : namT a = namT b) : a = b := by
  have h1 := nam_read ha
  have h2 := nam_read hb
  rw [h, h2] at h1
  exact (congrArg Prod.fst h1).symm
end Go.Proofs.YtkmgbibhkilffaaGreatDoor

set_option linter.unusedVariables false
namespace Go.Proofs.YtkmgbibhkilffaaGreatDoor
open Go.Vm Go.Sx Go.RowKit

def s_alive : T_l_alive := fun K => K true
def s_ident : T_l_ident := fun s K => K (Tok.mk 1 s 0 [] false)
theorem p_ident (s K) (h : s_ident s K) : F_l_ident s K := h
theorem law_named (a0 a1 K) (hK : K true) : F_l_GlueNamed s_alive s_GName s_nam s_tokens s_ident a0 a1 K := by
  unfold F_l_GlueNamed
  refine ⟨fun q => ⟨fun _ => hK, fun q2 => ?_⟩, fun _ => hK⟩
  have q := of_decide_eq_false q
  have q2 := of_decide_eq_false q2
  refine ⟨by omega, fun _ => ⟨by omega, fun _ => ⟨fun z => by exact absurd z (by decide), fun _ => hK⟩, fun _ _ => ⟨fun z => by exact absurd z (by decide), fun _ => hK⟩⟩, fun ha h0 => ⟨by omega, fun _ => ⟨fun _ => ⟨fun _ => hK, fun z => by exact absurd z (by decide)⟩, fun z => by exact absurd z (by decide)⟩, fun hb hb0 => ⟨fun _ => ⟨fun z => by exact absurd z (by decide), fun _ => ?_⟩, fun z => by exact absurd z (by decide)⟩⟩⟩
  have hlen : (namT a0).length ≤ 1200 := by have := butT_len (obsM a0) a0 0; unfold namT; omega
  have hS := nam_starts ha
  have hR := nam_read h0
  have hT := nam_token ha h0
  have hl1 : (allM (cleanM (namT a0))).length = 1 := by
    have := congrArg List.length hT
    simpa using this
  have hinj : (namT a0 == namT a1) = (a0 == a1) := by
    rw [Bool.eq_iff_iff, beq_iff_eq, beq_iff_eq]
    exact ⟨nam_inj h0 hb0, fun z => by rw [z]⟩
  refine ⟨fun z => by omega, fun _ z => ?_, fun _ _ _ => ?_⟩
  · exfalso
    rw [hS, hR] at z
    rcases z with z | z
    · cases z
    · exact z rfl
  rw [hR]
  refine ⟨fun z => by omega, fun _ _ => ?_, fun _ z => by omega⟩
  rw [hT]
  refine ⟨fun _ => ⟨fun _ => ⟨fun _ => ⟨fun _ => ⟨⟨by omega, by simp⟩, ⟨fun _ => ⟨fun _ => hK, fun z => ?_⟩, fun z => ?_⟩⟩, fun z => by exact absurd z (by simp)⟩, fun z => by exact absurd z (by decide)⟩, fun z => ?_⟩, fun z => by exact absurd z (by decide)⟩
  · rw [hinj] at z
    simp at z
  · exfalso
    revert z
    show ¬ (decide ((1 : Int) = 1) && ((a0 == a0) && (decide ((0 : Int) = 0) && ((([] : Bt) == []) && ((false == false) && true))))) = false
    simp
  · simp at z
end Go.Proofs.YtkmgbibhkilffaaGreatDoor

namespace Go.Proofs.YtkmgbibhkilffaaGreatDoor
open Go.Vm Go.Sx Go.RowKit
variable {ro : Nat}

theorem gok' : GOK GT GL (st0 gs1) := by
  intro g k l h
  match g, h with
  | 0, h =>
    obtain ⟨rfl, rfl⟩ : IntKind.u8 = k ∧ marksL = l := by
      have h2 := Option.some.inj h
      exact ⟨congrArg Prod.fst h2, congrArg Prod.snd h2⟩
    have e : ((st0 gs1).hp.get 0).map (fun b => (List.range 126).map fun j => b.get j) = some ((List.range 126).map fun j => some (V.i .u8 (marksL.getD j 0))) := by kernel_rfl
    cases hh : (st0 gs1).hp.get 0 with
    | none => rw [hh] at e; cases e
    | some b =>
    rw [hh] at e
    have h2 := Option.some.inj e
    refine ⟨by decide, b, rfl, fun j hj => ?_⟩
    have hj2 : j < 126 := hj
    have h3 := congrArg (fun x => x[j]?) h2
    simpa [hj2] using h3
  | _ + 1, h => cases h

/-! ### The law -/
theorem t_17 : FO ro 17 (q_l_alive s_alive) := by
  intro o0 us k h st vs hn hg ho hr
  unfold q_l_alive at h
  split at h
  · have e : vs = [] := hr
    subst e
    exact ⟨.b true, st, ⟨1, fun n hn => by
      cases n with
      | zero => omega
      | succ n => rfl⟩, .b true, rfl, ⟨Nat.le_refl _, fun _ _ => rfl, fun _ _ q => q⟩, h⟩
  · exact h.elim
theorem t_59 : FO ro 59 (q_gslIndexByte s_ib) := by
  intro o0 us k h st vs hn hg ho hr
  unfold q_gslIndexByte at h
  split at h
  · rename_i a0 a1
    obtain ⟨⟨hl, hl2⟩, hk⟩ := h
    obtain ⟨v0, r0, rfl, hv0, hr0⟩ := hr
    obtain ⟨v1, r1, rfl, hv1, hr1⟩ := hr0
    have hr1 : r1 = [] := hr1
    have hv0 : v0 = V.str a0 := hv0
    have hv1 : v1 = .i .u8 a1 := hv1
    subst hr1 hv0 hv1
    obtain ⟨c, rfl⟩ : ∃ c : Nat, a1 = .ofNat c := ⟨a1.toNat, by show a1 = (a1.toNat : Int); omega⟩
    have hc : c < 256 := by have : ((c : Nat) : Int) < 256 := hl2; omega
    refine ⟨.i .i64 (Lib.indexByte a0 (UInt8.ofNat c)), st, ⟨1, fun n hn => ?_⟩, .i .i64 (Lib.indexByte a0 (UInt8.ofNat c)), rfl, ⟨Nat.le_refl _, fun _ _ => rfl, fun _ _ q => q⟩, hk⟩
    cases n with
    | zero => omega
    | succ n =>
      have e : ovD ro 59 [V.str a0, .i .u8 (.ofNat c)] st = some (.i .i64 (Lib.indexByte a0 (UInt8.ofNat c)), st) := by
        have hb : Nat.blt c 256 = true := by rw [Nat.blt_eq]; exact hc
        have hx : ixN a0.length (packL a0) c 0 = Lib.indexByte a0 (UInt8.ofNat c) := by
          have h2 := (ixN_eq c hc a0.length (packL a0) 0).2
          rw [unpackL_packL] at h2
          rw [h2]
          split
          · rename_i z; exact z.symm
          · show _ + ((0 : Nat) : Int) = _
            omega
        have h0 : ovI 59 [V.str a0, .i .u8 (.ofNat c)] = some (V.i .i64 (Lib.indexByte a0 (UInt8.ofNat c))) := by
          show cond (Nat.blt c 256) (some (V.i .i64 (ixN a0.length (packL a0) c 0))) none = _
          rw [hb, hx]
          rfl
        show ofOv0 ovI 59 [V.str a0, .i .u8 (.ofNat c)] st = _
        unfold ofOv0
        rw [h0]
      unfold evF callGo
      rw [e]
  · exact h.elim
theorem t_141 : FnOK sy Tryz.prog GT (ovD ro) ro 141 (q_gslIndex s_Ind1) := by
  intro o0 us k h st vs hn hg ho hr
  unfold q_gslIndex at h
  split at h
  · rename_i a0 a1
    obtain ⟨hl, hk⟩ := h
    obtain ⟨v0, r0, rfl, hv0, hr0⟩ := hr
    obtain ⟨v1, r1, rfl, hv1, hr1⟩ := hr0
    have hr1 : r1 = [] := hr1
    have hv0 : v0 = V.str a0 := hv0
    have hv1 : v1 = V.str a1 := hv1
    subst hr1 hv0 hv1
    refine ⟨.i .i64 (Lib.index a0 a1), st, ⟨1, fun n hn => ?_⟩, .i .i64 (Lib.index a0 a1), rfl, ⟨Nat.le_refl _, fun _ _ => rfl, fun _ _ q => q⟩, hk⟩
    cases n with
    | zero => omega
    | succ n =>
      have e : ovD ro 141 [V.str a0, V.str a1] st = some (.i .i64 (Lib.index a0 a1), st) := by
        have hb : Nat.blt a0.length 4294967281 = true := by rw [Nat.blt_eq]; omega
        have h0 : ovI 141 [V.str a0, V.str a1] = some (V.i .i64 (Lib.index a0 a1)) := by
          show cond (Nat.blt a0.length 4294967281) (some (V.i .i64 (Lib.index (unpackL a0.length (packL a0)) (unpackL a1.length (packL a1))))) none = _
          rw [hb, unpackL_packL, unpackL_packL]
          rfl
        show ofOv0 ovI 141 [V.str a0, V.str a1] st = _
        unfold ofOv0
        rw [h0]
      unfold evF callGo
      rw [e]
  · exact h.elim
theorem t_33 : FO ro 33 (q_glue_isName s_gIsNm) := q_glue_isName_weak (ok_glue_isName) p_gIsNm
theorem t_34 : FO ro 34 (q_gs_IndexByte s_ibS) := q_gs_IndexByte_weak (ok_gs_IndexByte s_ib t_59) p_ibS
theorem t_87 : FO ro 87 (q_c_IsDigit s_isD) := q_c_IsDigit_weak (ok_c_IsDigit) p_isD
theorem t_95 : FO ro 95 (q_g_sWithDigit s_sWD) := q_g_sWithDigit_weak (ok_g_sWithDigit s_isD t_87) p_sWD
theorem t_140 : FO ro 140 (q_gslHPx s_HP1) := q_gslHPx_weak (ok_gslHPx) p_HP1
theorem t_115 : FO ro 115 (q_gs_HPx s_HP) := q_gs_HPx_weak (ok_gs_HPx s_HP1 t_140) p_HP
theorem t_96 : FO ro 96 (q_g_sWithMinusDigit s_sWM) := q_g_sWithMinusDigit_weak (ok_g_sWithMinusDigit s_HP s_sWD t_115 t_95) p_sWM
theorem t_50 : FO ro 50 (q_glue_obstacle s_obs) := q_glue_obstacle_weak (ok_glue_obstacle s_sWD s_sWM t_95 t_96) p_obs
theorem t_122 : FO ro 122 (q_c_IsLetter s_isL) := q_c_IsLetter_weak (ok_c_IsLetter) p_isL
theorem t_82 : FO ro 82 (q_c_StartsName s_starts) := q_c_StartsName_weak (ok_c_StartsName s_isL t_122) p_starts
theorem t_104 : FO ro 104 (q_c_IsOfName s_isN) := q_c_IsOfName_weak (ok_c_IsOfName s_starts s_isD t_82 t_87) p_isN
theorem t_105_m : ShOK sy Tryz.prog GT (ovD ro) ro Tryz.f105.ntmps (bodyOf Tryz.f105) sl_gE_m sr_gE_m (g_gE_m s_gEsc) := (ok_gE_m s_isD s_isL t_87 t_122).weak (fun _ _ h => p_gEsc _ _ _ h)
theorem t_60_m : ShOK sy Tryz.prog GT (ovD ro) ro Tryz.f60.ntmps (bodyOf Tryz.f60) sl_gB_m sr_gB_m (g_gB_m s_gBut) := (ok_gB_m s_isN s_gEsc t_104 t_105_m).weak (fun _ _ h => p_gBut _ _ _ _ h)
theorem t_35_m : ShOK sy Tryz.prog GT (ovD ro) ro Tryz.f35.ntmps (bodyOf Tryz.f35) sl_gN_m sr_gN_m (g_gN_m s_gNm) := (ok_gN_m s_obs s_gBut t_50 t_60_m).weak (fun _ _ h => p_gNm _ _ _ h)
theorem t_16 : FO ro 16 (q_glue_Name s_GName) := q_glue_Name_weak (ok_glue_Name s_gIsNm s_ibS s_gNm t_33 t_34 t_35_m) p_GName
theorem t_81 : FO ro 81 (q_k_byteAt s_byteAt) := q_k_byteAt_weak (ok_k_byteAt) p_byteAt
theorem t_83 : FO ro 83 (q_k_eSt s_esS) := q_k_eSt_weak (ok_k_eSt s_byteAt t_81) p_esS
theorem t_45 : FO ro 45 (q_k_nameStarts s_nameS) := q_k_nameStarts_weak (ok_k_nameStarts s_byteAt s_starts s_esS t_81 t_82 t_83) p_nameS
theorem t_84 : FO ro 84 (q_k_nGO s_nameG) := q_k_nGO_weak (ok_k_nGO s_byteAt s_isN s_esS t_81 t_104 t_83) p_nameG
theorem t_123_e : ShOK sy Tryz.prog GT (ovD ro) ro Tryz.f123.ntmps (bodyOf Tryz.f123) sl_uA_e sr_uA_e (g_uA_e s_utf_e) := (ok_uA_e).weak (fun _ _ h => p_utf_e _ _ _ h)
theorem t_124 : FO ro 124 (q_k_hexDigit s_hex) := q_k_hexDigit_weak (ok_k_hexDigit s_isD t_87) p_hex
theorem t_97 : FO ro 97 (q_c_IsSpace s_isSp) := q_c_IsSpace_weak (ok_c_IsSpace) p_isSp
theorem t_85_e : ShOK sy Tryz.prog GT (ovD ro) ro Tryz.f85.ntmps (bodyOf Tryz.f85) sl_aE_e sr_aE_e (g_aE_e s_esc_e) := (ok_aE_e s_utf_e s_hex s_byteAt s_isSp t_123_e t_124 t_81 t_97).weak (fun _ _ h => p_esc_e _ _ _ _ h)
theorem t_46 : FO ro 46 (q_k_readName s_name) := q_k_readName_weak (ok_k_readName s_nameG s_esc_e t_84 t_85_e) p_name
theorem t_27 : FO ro 27 (q_k_Name s_nam) := q_k_Name_weak (ok_k_Name s_nameS s_name t_45 t_46) p_nam
theorem t_114 : FO ro 114 (q_i_startsWithLineEnd s_LE) := q_i_startsWithLineEnd_weak (ok_i_startsWithLineEnd) p_LE
theorem t_78 : FO ro 78 (q_i_Clean s_clean) := q_i_Clean_weak (ok_i_Clean s_LE t_114) p_clean
theorem t_116 : FO ro 116 (q_gs_Index s_Ind) := q_gs_Index_weak (ok_gs_Index s_Ind1 t_141) p_Ind
theorem t_79 : FO ro 79 (q_behindCommentsA s_com) := q_behindCommentsA_weak (ok_behindCommentsA s_HP s_Ind t_115 t_116) p_com
theorem t_117 : FO ro 117 (q_k_bSp s_sp) := q_k_bSp_weak (ok_k_bSp s_byteAt s_isSp t_81 t_97) p_sp
theorem t_98 : FO ro 98 (q_c_IsQuote s_isQ) := q_c_IsQuote_weak (ok_c_IsQuote) p_isQ
theorem t_123_q : ShOK sy Tryz.prog GT (ovD ro) ro Tryz.f123.ntmps (bodyOf Tryz.f123) sl_uA_q sr_uA_q (g_uA_q s_utf_q) := (ok_uA_q).weak (fun _ _ h => p_utf_q _ _ _ _ _ _ _ _ h)
theorem t_85_q : ShOK sy Tryz.prog GT (ovD ro) ro Tryz.f85.ntmps (bodyOf Tryz.f85) sl_aE_q sr_aE_q (g_aE_q s_esc_q) := (ok_aE_q s_utf_q s_hex s_byteAt s_isSp t_123_q t_124 t_81 t_97).weak (fun _ _ h => p_esc_q _ _ _ _ _ _ _ _ _ h)
theorem t_118 : FO ro 118 (q_k_rSt s_str) := q_k_rSt_weak (ok_k_rSt s_esc_q t_85_q) p_str
theorem t_86 : FO ro 86 (q_k_isSign s_isSign) := q_k_isSign_weak (ok_k_isSign) p_isSign
theorem t_88 : FO ro 88 (q_k_fSt s_frac) := q_k_fSt_weak (ok_k_fSt s_byteAt s_isD t_81 t_87) p_frac
theorem t_47 : FO ro 47 (q_k_nSt s_numS) := q_k_nSt_weak (ok_k_nSt s_byteAt s_isSign s_isD s_frac t_81 t_86 t_87 t_88) p_numS
theorem t_91 : FO ro 91 (q_k_isExponentMark s_isExp) := q_k_isExponentMark_weak (ok_k_isExponentMark) p_isExp
theorem t_92 : FO ro 92 (q_k_digitStarts s_digS) := q_k_digitStarts_weak (ok_k_digitStarts s_byteAt s_isSign s_isD t_81 t_86 t_87) p_digS
theorem t_93 : FO ro 93 (q_k_wNu s_whole) := q_k_wNu_weak (ok_k_wNu) p_whole
theorem t_144 : FO ro 144 (q_gs_tLB s_trimB) := q_gs_tLB_weak (ok_gs_tLB) p_trimB
theorem t_125 : FO ro 125 (q_gs_TrimLeft s_trim) := q_gs_TrimLeft_weak (ok_gs_TrimLeft s_trimB t_144) p_trim
theorem t_94 : FO ro 94 (q_k_cNu s_cut) := q_k_cNu_weak (ok_k_cNu s_trim t_125) p_cut
theorem t_48 : FO ro 48 (q_k_rNu s_num) := q_k_rNu_weak (ok_k_rNu s_frac s_byteAt s_isExp s_digS s_whole s_cut s_isSign s_isD t_88 t_81 t_91 t_92 t_93 t_94 t_86 t_87) p_num
theorem t_119 : FO ro 119 (q_readNumericA s_numeric) := q_readNumericA_weak (ok_readNumericA s_num s_nameS s_name s_byteAt t_48 t_45 t_46 t_81) p_numeric
theorem t_126 : FO ro 126 (q_i_lowerByte s_low) := q_i_lowerByte_weak (ok_i_lowerByte) p_low
theorem t_99 : FO ro 99 (q_i_Alike s_alike) := q_i_Alike_weak (ok_i_Alike s_low t_126) p_alike
theorem t_123_u : ShOK sy Tryz.prog GT (ovD ro) ro Tryz.f123.ntmps (bodyOf Tryz.f123) sl_uA_u sr_uA_u (g_uA_u s_utf_u) := (ok_uA_u).weak (fun _ _ h => p_utf_u _ _ _ _ _ _ _ _ h)
theorem t_85_u : ShOK sy Tryz.prog GT (ovD ro) ro Tryz.f85.ntmps (bodyOf Tryz.f85) sl_aE_u sr_aE_u (g_aE_u s_esc_u) := (ok_aE_u s_utf_u s_hex s_byteAt s_isSp t_123_u t_124 t_81 t_97).weak (fun _ _ h => p_esc_u _ _ _ _ _ _ _ _ _ h)
theorem t_157 : FO ro 157 (q_k_spoilsURL s_spoils) := q_k_spoilsURL_weak (ok_k_spoilsURL) p_spoils
theorem t_123_n : ShOK sy Tryz.prog GT (ovD ro) ro Tryz.f123.ntmps (bodyOf Tryz.f123) sl_uA_n sr_uA_n (g_uA_n s_utf_n) := (ok_uA_n).weak (fun _ _ h => p_utf_n _ _ _ h)
theorem t_85_n : ShOK sy Tryz.prog GT (ovD ro) ro Tryz.f85.ntmps (bodyOf Tryz.f85) sl_aE_n sr_aE_n (g_aE_n s_esc_n) := (ok_aE_n s_utf_n s_hex s_byteAt s_isSp t_123_n t_124 t_81 t_97).weak (fun _ _ h => p_esc_n _ _ _ _ h)
theorem t_158 : FO ro 158 (q_k_bBU s_bad) := q_k_bBU_weak (ok_k_bBU s_esS s_esc_n t_83 t_85_n) p_bad
theorem t_142 : FO ro 142 (q_k_readURL s_url) := q_k_readURL_weak (ok_k_readURL s_sp s_isSp s_esS s_esc_u s_spoils s_bad t_117 t_97 t_83 t_85_u t_157 t_158) p_url
theorem t_120 : FO ro 120 (q_k_readNamed s_named) := q_k_readNamed_weak (ok_k_readNamed s_name s_byteAt s_alike s_sp s_isQ s_url t_46 t_81 t_99 t_117 t_98 t_142) p_named
theorem t_121 : FO ro 121 (q_k_isMark s_mark) := q_k_isMark_weak (ok_k_isMark) p_mark
theorem t_80 : FO ro 80 (q_readTokenA s_token) := q_readTokenA_weak (ok_readTokenA s_isSp s_sp s_isQ s_str s_nameG s_nameS s_name s_numS s_numeric s_HP s_named s_mark t_97 t_117 t_98 t_118 t_84 t_45 t_46 t_47 t_119 t_115 t_120 t_121) p_token
theorem t_25 : FO ro 25 (q_TokensA s_tokens) := q_TokensA_weak (ok_TokensA s_clean s_com s_token t_78 t_79 t_80) p_tokens
theorem t_13 : FO ro 13 (q_l_ident s_ident) := q_l_ident_weak (ok_l_ident) p_ident
theorem t_law : FO ro 7 (q_l_GlueNamed (fun _ _ K => K true)) :=
  q_l_GlueNamed_weak (ok_l_GlueNamed s_alive s_GName s_nam s_tokens s_ident t_17 t_16 t_27 t_25 t_13) law_named

theorem named (a b : Bt) : ∃ m st', evF Tryz.prog (ovA GL) GL m 7 [V.str a, V.str b] (st0 gs1) = some (.b true, st') := by
  obtain ⟨v, st', ⟨M, h1⟩, u, h2, _, h3⟩ := t_law (ro := GL) (fun _ => False) [.s a, .s b] (fun u => u = .b true) rfl (st0 gs1) [V.str a, V.str b] (Nat.le_refl _) gok' (fun _ q => q.elim) ⟨_, _, rfl, rfl, _, _, rfl, rfl, rfl⟩
  subst h3
  have e : v = .b true := h2
  subst e
  exact ⟨M, st', h1 M (Nat.le_refl _)⟩
end Go.Proofs.YtkmgbibhkilffaaGreatDoor

