/-
  Tokens of what is left behind a token: the model, the law TokenRest about the printed definitions, and its ties. Nothing is claimed here.
-/
import Derived.Test.YthjnfeihngjchaaDoorWg
import Derived.Test.YthjnfeihngjchaaDoorTi
namespace Go.Proofs.YthjnfeihngjchaaDoor
open Go.Vm Go.Sx Go.RowKit

/-! ### A clean text stays as it is -/
def okB (c : UInt8) : Prop := ¬ (c.toNat : Int) = 0 ∧ ¬ (c.toNat : Int) = 12 ∧ ¬ (c.toNat : Int) = 13
theorem cleanM_id : ∀ w : List UInt8, (∀ c ∈ w, okB c) → cleanM w = w
  | [], _ => rfl
  | c :: w, h => by
    obtain ⟨h1, h2, h3⟩ := h c (List.mem_cons_self ..)
    simp only [cleanM, if_neg h1, if_neg h2, if_neg h3]
    rw [cleanM_id w fun d hd => h d (List.mem_cons_of_mem _ hd)]
theorem cleanM_ok : ∀ w : List UInt8, ∀ c ∈ cleanM w, okB c
  | [], c, h => by cases h
  | d :: w, c, h => by
    have ih := cleanM_ok w c
    have ten : okB 10 := by unfold okB; decide
    simp only [cleanM] at h
    split at h
    · rcases List.mem_append.1 h with q | q
      · simp only [List.mem_cons, List.not_mem_nil, or_false] at q
        rcases q with rfl | rfl | rfl <;> (unfold okB; decide)
      · exact ih q
    · split at h
      · rcases List.mem_cons.1 h with rfl | q
        · exact ten
        · exact ih q
      · split at h
        · split at h
          · exact ih h
          · rcases List.mem_cons.1 h with rfl | q
            · exact ten
            · exact ih q
        · rename_i h1 h2 h3
          rcases List.mem_cons.1 h with rfl | q
          · exact ⟨h1, h2, h3⟩
          · exact ih q
theorem cleanM_drop (s : List UInt8) (n : Nat) : cleanM ((cleanM s).drop n) = (cleanM s).drop n := cleanM_id _ fun c hc => cleanM_ok s c (List.mem_of_mem_drop hc)

/-! ### Tokens, one by one -/
theorem tks_same : ∀ (f g : Nat) (w : List UInt8) (p q : Nat), w.length ≤ f → w.length ≤ g → (tksM f w p).map tkOf = (tksM g w q).map tkOf
  | 0, g, w, p, q, hf, hg => by
    have : w = [] := List.length_eq_zero_iff.1 (by omega)
    subst this
    cases g <;> rfl
  | f + 1, 0, w, p, q, hf, hg => by
    have : w = [] := List.length_eq_zero_iff.1 (by omega)
    subst this
    rfl
  | f + 1, g + 1, [], p, q, hf, hg => rfl
  | f + 1, g + 1, c :: w, p, q, hf, hg => by
    have hn := tokM_len (w := c :: w) (by simp)
    simp only [tksM, List.map_cons]
    refine congrArg (List.cons _) (tks_same f g _ _ _ ?_ ?_) <;> (rw [List.length_drop]; omega)
theorem tks_at (c : List UInt8) : ∀ (f : Nat) (w : List UInt8) (p k : Nat) (t : Tok × Nat × Nat), w.length ≤ f → c.drop p = w → p ≤ c.length → (tksM f w p)[k]? = some t →
    t.2.2 ≤ c.length ∧ ((tksM f w p).drop (k + 1)).map tkOf = (allM (c.drop t.2.2)).map tkOf
  | 0, w, p, k, t, _, _, _, h => by simp [tksM] at h
  | f + 1, [], p, k, t, _, _, _, h => by simp [tksM] at h
  | f + 1, d :: w, p, k, t, hf, hw, hp, h => by
    have hn := tokM_len (w := d :: w) (by simp)
    have hlen : (d :: w).length = c.length - p := by rw [← hw, List.length_drop]
    simp only [tksM] at h ⊢
    generalize (tokM (d :: w)).2 = n at *
    generalize (tokM (d :: w)).1 = x at *
    have hv : c.drop (p + n) = (d :: w).drop n := by rw [← hw, List.drop_drop]
    have hk := comM_len ((d :: w).drop n)
    cases k with
    | zero =>
      simp only [List.getElem?_cons_zero, Option.some.injEq] at h
      subst h
      refine ⟨by show p + n ≤ _; omega, ?_⟩
      show ((tksM f _ _).drop 0).map tkOf = (allM (c.drop (p + n))).map tkOf
      rw [List.drop_zero, hv]
      unfold allM
      rw [show (d :: w).drop (n + comM ((d :: w).drop n)) = ((d :: w).drop n).drop (comM ((d :: w).drop n)) from by rw [List.drop_drop]]
      refine tks_same _ _ _ _ _ ?_ ?_ <;> (simp only [List.length_drop] at *; omega)
    | succ k =>
      simp only [List.getElem?_cons_succ] at h
      simp only [List.length_drop] at hk
      have := tks_at c f ((d :: w).drop (n + comM ((d :: w).drop n))) (p + n + comM ((d :: w).drop n)) k t (by rw [List.length_drop]; omega) (by rw [← hw, List.drop_drop, List.drop_drop]; congr 1; omega) (by omega) h
      exact this

/-! ### Comparing -/
theorem p_rSameL (a : List Tok) (ha : a.length ≤ 1000000) (Ke : Unit → Prop) (Kr : Bool → Prop) : ∀ (n k : Nat), a.length - k ≤ n → Ke () → ∃ m, F_ref_Same_l4 m a a (k : Int) Ke Kr
  | 0, k, hn, h => ⟨1, fun q => (by exfalso; have := of_decide_eq_true q; omega), fun _ => h⟩
  | n + 1, k, hn, h => by
    by_cases hk : k < a.length
    · obtain ⟨m, hm⟩ := p_rSameL a ha Ke Kr n (k + 1) (by omega) h
      refine ⟨m + 1, fun _ => ⟨⟨by omega, by omega⟩, ⟨by omega, by omega⟩, fun q => ?_, fun _ => ⟨I64b (by omega), hm⟩⟩, fun q => (by exfalso; have := of_decide_eq_false q; omega)⟩
      exfalso
      simp at q
    · exact ⟨1, fun q => (by exfalso; have := of_decide_eq_true q; omega), fun _ => h⟩
def s_rSame : T_ref_Same := fun a b K => (a = b ∧ a.length ≤ 1000000) ∧ K true
theorem p_rSame (a b K) (h : s_rSame a b K) : F_ref_Same a b K := by
  obtain ⟨⟨rfl, ha⟩, h⟩ := h
  exact ⟨fun q => absurd rfl (of_decide_eq_true q), fun _ => p_rSameL a ha _ _ a.length 0 (by omega) h⟩

def s_alive : T_vitrinelaw02_alive := fun K => K true
theorem allM_len (c : List UInt8) : (allM c).length ≤ c.length := by
  have h := tksM_len c.length (c.drop (comM c)) (comM c)
  rw [List.length_drop] at h
  unfold allM
  omega
theorem t_alive : FnOK sy Tryd.prog GT ovD GL 4 (q_vitrinelaw02_alive s_alive) := by
  intro o0 us k h st vs hn hg ho hr
  unfold q_vitrinelaw02_alive at h
  split at h
  · have e : vs = [] := hr
    subst e
    exact ⟨.b true, st, ⟨1, fun n hn => by
      cases n with
      | zero => omega
      | succ n => rfl⟩, .b true, rfl, ⟨Nat.le_refl _, fun _ _ => rfl, fun _ _ q => q⟩, h⟩
  · exact h.elim
theorem gok' : GOK GT GL (st0 gs1) := by
  intro g k l h
  match g, h with
  | 0, h =>
    obtain ⟨rfl, rfl⟩ : IntKind.u8 = k ∧ marksL = l := by
      have h2 := Option.some.inj h
      exact ⟨congrArg Prod.fst h2, congrArg Prod.snd h2⟩
    have e : ((st0 gs1).hp.get 0).map (fun b => (List.range 126).map fun j => b.get j) = some ((List.range 126).map fun j => some (V.i .u8 (marksL.getD j 0))) := by kernel_rfl
    cases hh : (st0 gs1).hp.get 0 with
    | none => rw [hh] at e; cases e
    | some b =>
    rw [hh] at e
    have h2 := Option.some.inj e
    refine ⟨by decide, b, rfl, fun j hj => ?_⟩
    have hj2 : j < 126 := hj
    have h3 := congrArg (fun x => x[j]?) h2
    simpa [hj2] using h3
  | _ + 1, h => cases h

/-! ### The law -/
theorem dec_f {p : Prop} [Decidable p] (h : decide p = false) : ¬ p := of_decide_eq_false h
theorem law_rest (s a K) (h : K true) : F_vitrinelaw02_TokenRest s_alive s_clean s_tokens s_spans s_rSame s a K := by
  refine ⟨fun _ => h, fun q => ?_⟩
  have q := of_decide_eq_false q
  have hc := cleanM_len s
  have hL := allM_len (cleanM s)
  refine ⟨fun p => (by exfalso; omega), fun _ => ⟨fun p => (by exfalso; omega), fun _ _ => ⟨fun p => (by exfalso; omega), fun _ _ => ⟨fun _ => ⟨fun _ => ⟨fun _ => ⟨fun p => ?_, fun _ => ⟨fun p1 => ⟨fun _ => h, fun p2 => ?_⟩, fun _ => h⟩⟩, fun p => absurd p (by decide)⟩, fun p => absurd p (by decide)⟩, fun p => absurd p (by decide)⟩, fun _ p => (by exfalso; omega)⟩, fun _ p => (by exfalso; omega)⟩⟩
  · exfalso
    have p := of_decide_eq_true p
    rw [List.length_map, List.length_map] at p
    exact p rfl
  · have p1 := of_decide_eq_false p1
    have p2 := of_decide_eq_false p2
    rw [List.length_map] at p2
    have hk : a.toNat < (allM (cleanM s)).length := by omega
    have hget := List.getElem?_eq_getElem hk
    generalize (allM (cleanM s))[a.toNat] = t at hget
    obtain ⟨e1, e2⟩ := tks_at (cleanM s) (cleanM s).length ((cleanM s).drop (comM (cleanM s))) (comM (cleanM s)) a.toNat t (by rw [List.length_drop]; omega) rfl (comM_len _) hget
    have hsp : ((allM (cleanM s)).map spOf).getD a.toNat (dfltD Cd.span) = spOf t := by
      have key : ∀ (l : List (Int × Int)) (k : Nat) (x d : Int × Int), l[k]? = some x → l.getD k d = x := fun l k x d h => by rw [List.getD_eq_getElem?_getD, h]; rfl
      exact key _ _ _ _ (by rw [List.getElem?_map, hget]; rfl)
    have h2 : (spOf t).2 = (t.2.2 : Int) := rfl
    have hR := allM_len ((cleanM s).drop t.2.2)
    rw [List.length_drop] at hR
    simp only [hsp, h2]
    refine ⟨⟨by omega, by rw [List.length_map]; omega⟩, ⟨by omega, by omega⟩, fun _ => ⟨⟨by omega, by rw [List.length_map]; omega⟩, ⟨by omega, by omega⟩, fun p => (by exfalso; have := of_decide_eq_true p; omega), fun _ => ⟨⟨by omega, by rw [List.length_map]; omega⟩, ⟨by omega, by omega⟩, ⟨by omega, by omega⟩, ?_⟩⟩, fun p => (by exfalso; have := of_decide_eq_true p; omega)⟩
    rw [Int.toNat_natCast]
    refine ⟨fun p => (by exfalso; rw [List.length_drop] at p; omega), fun _ _ => ?_, fun _ p => (by exfalso; rw [cleanM_drop] at p; omega)⟩
    refine ⟨fun _ => ⟨I64b (by omega), ⟨by omega, by rw [List.length_map]; omega⟩, ⟨?_, ?_⟩, ?_⟩, fun p => absurd p (by decide)⟩
    · rw [cleanM_drop, ← e2, ← List.map_drop]
      show List.map tkOf ((allM (cleanM s)).drop (a.toNat + 1)) = _
      rw [show (a + 1).toNat = a.toNat + 1 from by omega]
    · rw [cleanM_drop, List.length_map]; omega
    · exact ⟨fun _ => h, fun p => absurd p (by decide)⟩

/-! ### The ties -/
theorem t_30 : FnOK sy Tryd.prog GT ovD GL 30 (q_stringslite_Index s_Ind1) := by
  intro o0 us k h st vs hn hg ho hr
  unfold q_stringslite_Index at h
  split at h
  · rename_i a0 a1
    obtain ⟨hl, hk⟩ := h
    obtain ⟨v0, r0, rfl, hv0, hr0⟩ := hr
    obtain ⟨v1, r1, rfl, hv1, hr1⟩ := hr0
    have hr1 : r1 = [] := hr1
    have hv0 : v0 = V.str a0 := hv0
    have hv1 : v1 = V.str a1 := hv1
    subst hr1 hv0 hv1
    refine ⟨.i .i64 (Lib.index a0 a1), st, ⟨1, fun n hn => ?_⟩, .i .i64 (Lib.index a0 a1), rfl, ⟨Nat.le_refl _, fun _ _ => rfl, fun _ _ q => q⟩, hk⟩
    cases n with
    | zero => omega
    | succ n =>
      have e : ovD 30 [V.str a0, V.str a1] st = some (.i .i64 (Lib.index a0 a1), st) := by
        have hb : Nat.blt a0.length 4294967281 = true := by rw [Nat.blt_eq]; omega
        have h0 : ovI 30 [V.str a0, V.str a1] = some (V.i .i64 (Lib.index a0 a1)) := by
          show cond (Nat.blt a0.length 4294967281) (some (V.i .i64 (Lib.index (unpackL a0.length (packL a0)) (unpackL a1.length (packL a1))))) none = _
          rw [hb, unpackL_packL, unpackL_packL]
          rfl
        show ofOv0 ovI 30 [V.str a0, V.str a1] st = _
        unfold ofOv0
        rw [h0]
      unfold evF callGo
      rw [e]
  · exact h.elim
theorem t_4 : FnOK sy Tryd.prog GT ovD GL 4 (q_vitrinelaw02_alive s_alive) := t_alive
theorem t_31 : FnOK sy Tryd.prog GT ovD GL 31 (q_token_byteAt s_byteAt) := q_token_byteAt_weak (ok_token_byteAt) p_byteAt
theorem t_37 : FnOK sy Tryd.prog GT ovD GL 37 (q_char_IsDigit s_isD) := q_char_IsDigit_weak (ok_char_IsDigit) p_isD
theorem t_36 : FnOK sy Tryd.prog GT ovD GL 36 (q_token_isSign s_isSign) := q_token_isSign_weak (ok_token_isSign) p_isSign
theorem t_38 : FnOK sy Tryd.prog GT ovD GL 38 (q_token_fractionStarts s_frac) := q_token_fractionStarts_weak (ok_token_fractionStarts s_byteAt s_isD t_31 t_37) p_frac
theorem t_25 : FnOK sy Tryd.prog GT ovD GL 25 (q_token_numberStarts s_numS) := q_token_numberStarts_weak (ok_token_numberStarts s_byteAt s_isSign s_isD s_frac t_31 t_36 t_37 t_38) p_numS
theorem t_51 : FnOK sy Tryd.prog GT ovD GL 51 (q_token_isExponentMark s_isExp) := q_token_isExponentMark_weak (ok_token_isExponentMark) p_isExp
theorem t_52 : FnOK sy Tryd.prog GT ovD GL 52 (q_token_digitStarts s_digS) := q_token_digitStarts_weak (ok_token_digitStarts s_byteAt s_isSign s_isD t_31 t_36 t_37) p_digS
theorem t_53 : FnOK sy Tryd.prog GT ovD GL 53 (q_token_wholeNumber s_whole) := q_token_wholeNumber_weak (ok_token_wholeNumber) p_whole
theorem t_62 : FnOK sy Tryd.prog GT ovD GL 62 (q_strings_trimLeftByte s_trimB) := q_strings_trimLeftByte_weak (ok_strings_trimLeftByte) p_trimB
theorem t_61 : FnOK sy Tryd.prog GT ovD GL 61 (q_strings_TrimLeft s_trim) := q_strings_TrimLeft_weak (ok_strings_TrimLeft s_trimB t_62) p_trim
theorem t_54 : FnOK sy Tryd.prog GT ovD GL 54 (q_token_cutNumber s_cut) := q_token_cutNumber_weak (ok_token_cutNumber s_trim t_61) p_cut
theorem t_39 : FnOK sy Tryd.prog GT ovD GL 39 (q_token_readNumber s_num) := q_token_readNumber_weak (ok_token_readNumber s_frac s_byteAt s_isExp s_digS s_whole s_cut s_isSign s_isD t_38 t_31 t_51 t_52 t_53 t_54 t_36 t_37) p_num
theorem t_48 : FnOK sy Tryd.prog GT ovD GL 48 (q_char_IsLetter s_isL) := q_char_IsLetter_weak (ok_char_IsLetter) p_isL
theorem t_35 : FnOK sy Tryd.prog GT ovD GL 35 (q_char_StartsName s_starts) := q_char_StartsName_weak (ok_char_StartsName s_isL t_48) p_starts
theorem t_34 : FnOK sy Tryd.prog GT ovD GL 34 (q_token_escapeStarts s_esS) := q_token_escapeStarts_weak (ok_token_escapeStarts s_byteAt t_31) p_esS
theorem t_23 : FnOK sy Tryd.prog GT ovD GL 23 (q_token_nameStarts s_nameS) := q_token_nameStarts_weak (ok_token_nameStarts s_byteAt s_starts s_esS t_31 t_35 t_34) p_nameS
theorem t_33 : FnOK sy Tryd.prog GT ovD GL 33 (q_char_IsOfName s_isN) := q_char_IsOfName_weak (ok_char_IsOfName s_starts s_isD t_35 t_37) p_isN
theorem t_22 : FnOK sy Tryd.prog GT ovD GL 22 (q_token_nameGoesOn s_nameG) := q_token_nameGoesOn_weak (ok_token_nameGoesOn s_byteAt s_isN s_esS t_31 t_33 t_34) p_nameG
theorem t_18 : FnOK sy Tryd.prog GT ovD GL 18 (q_char_IsSpace s_isSp) := q_char_IsSpace_weak (ok_char_IsSpace) p_isSp
theorem t_20 : FnOK sy Tryd.prog GT ovD GL 20 (q_char_IsQuote s_isQ) := q_char_IsQuote_weak (ok_char_IsQuote) p_isQ
theorem t_19 : FnOK sy Tryd.prog GT ovD GL 19 (q_token_behindSpaces s_sp) := q_token_behindSpaces_weak (ok_token_behindSpaces s_byteAt s_isSp t_31 t_18) p_sp
theorem t_29 : FnOK sy Tryd.prog GT ovD GL 29 (q_stringslite_HasPrefix s_HP1) := q_stringslite_HasPrefix_weak (ok_stringslite_HasPrefix) p_HP1
theorem t_16 : FnOK sy Tryd.prog GT ovD GL 16 (q_strings_HasPrefix s_HP) := q_strings_HasPrefix_weak (ok_strings_HasPrefix s_HP1 t_29) p_HP
theorem t_10 : FnOK sy Tryd.prog GT ovD GL 10 (q_input_startsWithLineEnd s_LE) := q_input_startsWithLineEnd_weak (ok_input_startsWithLineEnd) p_LE
theorem t_5 : FnOK sy Tryd.prog GT ovD GL 5 (q_input_Clean s_clean) := q_input_Clean_weak (ok_input_Clean s_LE t_10) p_clean
theorem t_47 : FnOK sy Tryd.prog GT ovD GL 47 (q_token_hexDigit s_hex) := q_token_hexDigit_weak (ok_token_hexDigit s_isD t_37) p_hex
theorem t_46_e : ShOK sy Tryd.prog GT ovD GL Tryd.f46.ntmps (bodyOf Tryd.f46) sl_utf8_AppendRune_e sr_utf8_AppendRune_e (g_utf8_AppendRune_e s_utf_e) := (ok_utf8_AppendRune_e).weak (fun _ _ h => p_utf_e _ _ _ h)
theorem t_32_e : ShOK sy Tryd.prog GT ovD GL Tryd.f32.ntmps (bodyOf Tryd.f32) sl_token_appendEscape_e sr_token_appendEscape_e (g_token_appendEscape_e s_esc_e) := (ok_token_appendEscape_e s_utf_e s_hex s_byteAt s_isSp t_46_e t_47 t_31 t_18).weak (fun _ _ h => p_esc_e _ _ _ _ h)
theorem t_24 : FnOK sy Tryd.prog GT ovD GL 24 (q_token_readName s_name) := q_token_readName_weak (ok_token_readName s_nameG s_esc_e t_22 t_32_e) p_name
theorem t_46_q : ShOK sy Tryd.prog GT ovD GL Tryd.f46.ntmps (bodyOf Tryd.f46) sl_utf8_AppendRune_q sr_utf8_AppendRune_q (g_utf8_AppendRune_q s_utf_q) := (ok_utf8_AppendRune_q).weak (fun _ _ h => p_utf_q _ _ _ _ _ _ _ _ h)
theorem t_32_q : ShOK sy Tryd.prog GT ovD GL Tryd.f32.ntmps (bodyOf Tryd.f32) sl_token_appendEscape_q sr_token_appendEscape_q (g_token_appendEscape_q s_esc_q) := (ok_token_appendEscape_q s_utf_q s_hex s_byteAt s_isSp t_46_q t_47 t_31 t_18).weak (fun _ _ h => p_esc_q _ _ _ _ _ _ _ _ _ h)
theorem t_21 : FnOK sy Tryd.prog GT ovD GL 21 (q_token_readString s_str) := q_token_readString_weak (ok_token_readString s_esc_q t_32_q) p_str
theorem t_46_n : ShOK sy Tryd.prog GT ovD GL Tryd.f46.ntmps (bodyOf Tryd.f46) sl_utf8_AppendRune_n sr_utf8_AppendRune_n (g_utf8_AppendRune_n s_utf_n) := (ok_utf8_AppendRune_n).weak (fun _ _ h => p_utf_n _ _ _ h)
theorem t_32_n : ShOK sy Tryd.prog GT ovD GL Tryd.f32.ntmps (bodyOf Tryd.f32) sl_token_appendEscape_n sr_token_appendEscape_n (g_token_appendEscape_n s_esc_n) := (ok_token_appendEscape_n s_utf_n s_hex s_byteAt s_isSp t_46_n t_47 t_31 t_18).weak (fun _ _ h => p_esc_n _ _ _ _ h)
theorem t_57 : FnOK sy Tryd.prog GT ovD GL 57 (q_token_behindBadURL s_bad) := q_token_behindBadURL_weak (ok_token_behindBadURL s_esS s_esc_n t_34 t_32_n) p_bad
theorem t_56 : FnOK sy Tryd.prog GT ovD GL 56 (q_token_spoilsURL s_spoils) := q_token_spoilsURL_weak (ok_token_spoilsURL) p_spoils
theorem t_55 : FnOK sy Tryd.prog GT ovD GL 55 (q_input_lowerByte s_low) := q_input_lowerByte_weak (ok_input_lowerByte) p_low
theorem t_40 : FnOK sy Tryd.prog GT ovD GL 40 (q_input_Alike s_alike) := q_input_Alike_weak (ok_input_Alike s_low t_55) p_alike
theorem t_46_u : ShOK sy Tryd.prog GT ovD GL Tryd.f46.ntmps (bodyOf Tryd.f46) sl_utf8_AppendRune_u sr_utf8_AppendRune_u (g_utf8_AppendRune_u s_utf_u) := (ok_utf8_AppendRune_u).weak (fun _ _ h => p_utf_u _ _ _ _ _ _ _ _ h)
theorem t_32_u : ShOK sy Tryd.prog GT ovD GL Tryd.f32.ntmps (bodyOf Tryd.f32) sl_token_appendEscape_u sr_token_appendEscape_u (g_token_appendEscape_u s_esc_u) := (ok_token_appendEscape_u s_utf_u s_hex s_byteAt s_isSp t_46_u t_47 t_31 t_18).weak (fun _ _ h => p_esc_u _ _ _ _ _ _ _ _ _ h)
theorem t_41 : FnOK sy Tryd.prog GT ovD GL 41 (q_token_readURL s_url) := q_token_readURL_weak (ok_token_readURL s_sp s_isSp s_esS s_esc_u s_spoils s_bad t_19 t_18 t_34 t_32_u t_56 t_57) p_url
theorem t_27 : FnOK sy Tryd.prog GT ovD GL 27 (q_token_readNamed s_named) := q_token_readNamed_weak (ok_token_readNamed s_name s_byteAt s_alike s_sp s_isQ s_url t_24 t_31 t_40 t_19 t_20 t_41) p_named
theorem t_17 : FnOK sy Tryd.prog GT ovD GL 17 (q_strings_Index s_Ind) := q_strings_Index_weak (ok_strings_Index s_Ind1 t_30) p_Ind
theorem t_28 : FnOK sy Tryd.prog GT ovD GL 28 (q_token_isMark s_mark) := q_token_isMark_weak (ok_token_isMark) p_mark
theorem t_26 : FnOK sy Tryd.prog GT ovD GL 26 (q_readNumericA s_numeric) := q_readNumericA_weak (ok_readNumericA s_num s_nameS s_name s_byteAt t_39 t_23 t_24 t_31) p_numeric
theorem t_14 : FnOK sy Tryd.prog GT ovD GL 14 (q_behindCommentsA s_com) := q_behindCommentsA_weak (ok_behindCommentsA s_HP s_Ind t_16 t_17) p_com
theorem t_15 : FnOK sy Tryd.prog GT ovD GL 15 (q_readTokenA s_token) := q_readTokenA_weak (ok_readTokenA s_isSp s_sp s_isQ s_str s_nameG s_nameS s_name s_numS s_numeric s_HP s_named s_mark t_18 t_19 t_20 t_21 t_22 t_23 t_24 t_25 t_26 t_16 t_27 t_28) p_token
theorem t_6 : FnOK sy Tryd.prog GT ovD GL 6 (q_TokensA s_tokens) := q_TokensA_weak (ok_TokensA s_clean s_com s_token t_5 t_14 t_15) p_tokens
theorem t_7 : FnOK sy Tryd.prog GT ovD GL 7 (q_SpansA s_spans) := q_SpansA_weak (ok_SpansA s_clean s_com s_token t_5 t_14 t_15) p_spans
theorem t_8 : FnOK sy Tryd.prog GT ovD GL 8 (q_ref_Same s_rSame) := q_ref_Same_weak (ok_ref_Same) p_rSame
theorem t_law : FnOK sy Tryd.prog GT ovD GL 3 (q_vitrinelaw02_TokenRest (fun _ _ K => K true)) :=
  q_vitrinelaw02_TokenRest_weak (ok_vitrinelaw02_TokenRest s_alive s_clean s_tokens s_spans s_rSame t_4 t_5 t_6 t_7 t_8) law_rest

theorem rest (a : List UInt8) (b : Int) : ∃ m st', evF Tryd.prog ovA GL m 3 [V.str a, .i .i64 b] (st0 gs1) = some (.b true, st') := by
  obtain ⟨v, st', ⟨M, h1⟩, u, h2, _, h3⟩ := t_law (fun _ => False) [.s a, .i .i64 b] (fun u => u = .b true) rfl (st0 gs1) [V.str a, .i .i64 b] (Nat.le_refl _) gok' (fun _ q => q.elim) ⟨_, _, rfl, rfl, _, _, rfl, rfl, rfl⟩
  subst h3
  have e : v = .b true := h2
  subst e
  exact ⟨M, st', h1 M (Nat.le_refl _)⟩
end Go.Proofs.YthjnfeihngjchaaDoor
