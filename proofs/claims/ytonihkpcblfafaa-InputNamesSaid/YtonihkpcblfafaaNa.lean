/-
  What is known beforehand of cleaning and checking long texts of zeros, and that it is so. Nothing is claimed here.
-/
import Derived.Test.YtonihkpcblfafaaFj
import Derived.Test.YtonihkpcblfafaaVl
namespace Go.Proofs.Ytonihkpcblfafaa
open Go.Vm Go.Lay1 Go.RowKit

def known11 (l x : Nat) : Option V := cond (Nat.beq x 0) (cond (Nat.ble l 4000) (some (.t [.s (3 * l) (rep l), .i .i64 0])) (cond (Nat.ble l 1099511627776) (some (.t [.s 0 0, .i .i64 28])) none)) none
def known12 (l x : Nat) : Option V := cond (Nat.blt 12000 l && Nat.ble l 1099511627776) (some (.i .i64 28)) (cond (Nat.blt 0 l && Nat.beq x 0 && Nat.ble l 12000) (some (.i .i64 8)) (cond (Nat.ble l 12000 && Nat.beq l (3 * (l / 3)) && Nat.beq x (rep (l / 3))) (some (.i .i64 0)) none))
def ov2 : Ov := fun f args => match args with
  | [] => cond (Nat.beq f 17) (some (.b true)) none
  | [.s l x] => cond (Nat.beq f 11) (known11 l x) (cond (Nat.beq f 12) (known12 l x) none)
  | _ => none
def answersWith (P : Program) (ov : Ov) (n : Nat) (f : FuncId) (args : List V) : Bool := match evF P ov 0 n f args ⟨0, .e, 0⟩ with
  | some (.b x, _) => x
  | _ => false

/-- What is followed at one text, from the empty memory, is so in every world. -/
theorem known_of {f n : Nat} {s : List UInt8} {r : V} (h : Ev Try.prog ov1 0 n f [V.str s] ⟨0, .e, 0⟩ (fun v _ => v = r)) (hr : r.plainT = true) (J : Inj) (w : World) :
    Calls Try.prog f (V.reals J [V.str s]).toArray w fun e w' => e = .returned (r.real J) ∧ Below w.heap.size w w' := by
  obtain ⟨v, st', h1, rfl⟩ := h
  have q := (evF_sound (P := Try.prog) (ro := 0) (B := w.heap.size) ov1_ok mixed name_of n f [V.str s] ⟨0, .e, 0⟩ _ st' h1 ⟨0, fun _ => (0, 0, 0)⟩ w rfl (HR.empty 0 _ w (Nat.le_refl _)) (Nat.le_refl _) (by simp only [V.oks, V.str_ok, and_self])).2
  rw [V.reals_plain J _ [V.str s] rfl] at q
  refine q.mono ?_
  rintro e w' ⟨J', h2, _, h3⟩
  exact ⟨by rw [h2, V.real_plainT J J' v hr], h3.below⟩

theorem known11_ok {l x : Nat} {v : V} (h : known11 l x = some v) : v.plainT = true ∧ v.ok 0 ∧ ∃ s n, V.s l x = V.str s ∧ Ev Try.prog ov1 0 n 11 [V.str s] ⟨0, .e, 0⟩ (fun u _ => u = v) := by
  unfold known11 at h
  cases hx : Nat.beq x 0 with
  | false => rw [hx] at h; cases h
  | true =>
    rw [hx] at h
    rw [Nat.beq_eq] at hx
    subst hx
    have hs : V.s l 0 = V.str (zs l) := by unfold V.str; rw [zs_len, pack_zs]
    have ev := cleanAll_ev (n := l + 150) (zs l) ⟨0, .e, 0⟩ (by rw [zs_len]; exact Nat.le_refl _)
    cases hl : Nat.ble l 4000 with
    | true =>
      rw [hl] at h
      rw [Nat.ble_eq] at hl
      cases h
      have hv : V.s (3 * l) (rep l) = V.str (rs l) := by unfold V.str; rw [rs_len, pack_rs]
      have hc := clean_short (s := zs l) (by rw [zs_len]; omega)
      rw [hc.1, hc.2, cleaned_zs] at ev
      refine ⟨rfl, ?_, zs l, l + 150, hs, ev.mono fun u _ q => by rw [q.1, hv]⟩
      rw [hv]
      simp only [V.ok, V.oks, V.str_ok, and_self]
    | false =>
      have hl' : ¬ l ≤ 4000 := fun q => by rw [← Nat.ble_eq, hl] at q; cases q
      rw [hl] at h
      cases h2 : Nat.ble l 1099511627776 with
      | false => rw [h2] at h; cases h
      | true =>
        rw [h2] at h
        cases h
        have hc := clean_long (s := zs l) (by rw [zs_len]; omega)
        rw [hc.1, hc.2] at ev
        exact ⟨rfl, by simp [V.ok, V.oks], zs l, l + 150, hs, ev.mono fun u _ q => q.1⟩

theorem known12_ok {l x : Nat} {v : V} (hx : x < 256 ^ l) (h : known12 l x = some v) : ∃ s n, V.s l x = V.str s ∧ Ev Try.prog ov1 0 n 12 [V.str s] ⟨0, .e, 0⟩ (fun u _ => u = v) := by
  unfold known12 at h
  cases h1 : (Nat.blt 12000 l && Nat.ble l 1099511627776) with
  | true =>
    rw [h1] at h
    cases h
    rw [Bool.and_eq_true, Nat.blt_eq, Nat.ble_eq] at h1
    refine ⟨unpackL l x, l + 60, str_of l x hx, ?_⟩
    have ev := check_ev (ro := 0) (n := l + 60) (unpackL l x) (by rw [length_unpackL]; exact h1.2) ⟨0, .e, 0⟩ (by rw [length_unpackL]; exact Nat.le_refl _)
    rw [check_long (by rw [length_unpackL]; exact h1.1)] at ev
    exact ev.mono fun u _ q => q.1
  | false =>
    rw [h1] at h
    cases h2 : (Nat.blt 0 l && Nat.beq x 0 && Nat.ble l 12000) with
    | true =>
      rw [h2] at h
      cases h
      rw [Bool.and_eq_true, Bool.and_eq_true, Nat.blt_eq, Nat.beq_eq, Nat.ble_eq] at h2
      obtain ⟨⟨h3, rfl⟩, h4⟩ := h2
      refine ⟨zs l, l + 60, by unfold V.str; rw [zs_len, pack_zs], ?_⟩
      have ev := check_ev (ro := 0) (n := l + 60) (zs l) (by rw [zs_len]; omega) ⟨0, .e, 0⟩ (by rw [zs_len]; exact Nat.le_refl _)
      rw [check_bad (by rw [zs_len]; omega) (isClean_not (i := 0) (by rw [zs_len]; exact h3) (by rw [zs_get h3]; rfl))] at ev
      exact ev.mono fun u _ q => q.1
    | false =>
      rw [h2] at h
      cases h5 : (Nat.ble l 12000 && Nat.beq l (3 * (l / 3)) && Nat.beq x (rep (l / 3))) with
      | false => rw [h5] at h; cases h
      | true =>
        rw [h5] at h
        cases h
        rw [Bool.and_eq_true, Bool.and_eq_true, Nat.ble_eq, Nat.beq_eq, Nat.beq_eq] at h5
        obtain ⟨⟨h6, h7⟩, h8⟩ := h5
        have hl : (rs (l / 3)).length = l := by rw [rs_len]; omega
        refine ⟨rs (l / 3), l + 60, by unfold V.str; rw [hl, pack_rs, h8], ?_⟩
        have ev := check_ev (ro := 0) (n := l + 60) (rs (l / 3)) (by rw [hl]; omega) ⟨0, .e, 0⟩ (by rw [hl]; exact Nat.le_refl _)
        rw [check_ok (by rw [hl]; omega) (by rw [← cleaned_zs]; exact cleaned_clean _)] at ev
        exact ev.mono fun u _ q => q.1
theorem known12_plain {l x : Nat} {v : V} (h : known12 l x = some v) : v.plainT = true ∧ v.ok 0 := by
  unfold known12 at h
  cases h1 : (Nat.blt 12000 l && Nat.ble l 1099511627776) with
  | true => rw [h1] at h; cases h; exact ⟨rfl, by simp [V.ok]⟩
  | false =>
    rw [h1] at h
    cases h2 : (Nat.blt 0 l && Nat.beq x 0 && Nat.ble l 12000) with
    | true => rw [h2] at h; cases h; exact ⟨rfl, by simp [V.ok]⟩
    | false =>
      rw [h2] at h
      cases h5 : (Nat.ble l 12000 && Nat.beq l (3 * (l / 3)) && Nat.beq x (rep (l / 3))) with
      | false => rw [h5] at h; cases h
      | true => rw [h5] at h; cases h; exact ⟨rfl, by simp [V.ok]⟩

theorem ov2_ok : OvOK Try.prog ov2 := by
  intro f args v h
  cases args with
  | nil =>
    refine ov1_ok f [] v ?_
    unfold ov2 at h
    unfold ov1
    exact h
  | cons a r =>
    cases r with
    | cons b r => cases a <;> (unfold ov2 at h; cases h)
    | nil =>
      cases a with
      | s l x =>
        unfold ov2 at h
        dsimp only at h
        cases h1 : Nat.beq f 11 with
        | true =>
          rw [h1] at h
          rw [Nat.beq_eq] at h1
          subst h1
          obtain ⟨q1, q2, s, n, q3, q4⟩ := known11_ok h
          refine ⟨q1, q2, ⟨_, _, Try.func11, rfl⟩, fun J w _ => ?_⟩
          rw [q3]
          exact known_of q4 q1 J w
        | false =>
          rw [h1] at h
          cases h2 : Nat.beq f 12 with
          | false => rw [h2] at h; cases h
          | true =>
            rw [h2] at h
            rw [Nat.beq_eq] at h2
            subst h2
            obtain ⟨q1, q2⟩ := known12_plain h
            refine ⟨q1, q2, ⟨_, _, Try.func12, rfl⟩, fun J w ho => ?_⟩
            obtain ⟨s, n, q3, q4⟩ := known12_ok (by simpa only [V.oks, V.ok, and_true] using ho) h
            rw [q3]
            exact known_of q4 q1 J w
      | _ => unfold ov2 at h; cases h

set_option maxRecDepth 10000000 in
theorem namesTrue : answersWith Try.prog ov2 20000 3 [] = true := by kernel_rfl
theorem InputNames_ev : ∃ n st', evF Try.prog ov2 0 n 3 [] ⟨0, .e, 0⟩ = some (.b true, st') := by
  have h := namesTrue
  unfold answersWith at h
  generalize hr : evF Try.prog ov2 0 20000 3 [] ⟨0, .e, 0⟩ = o at h
  cases o with
  | none => cases h
  | some r =>
    obtain ⟨v, st'⟩ := r
    cases v <;> cases h
    exact ⟨_, _, hr⟩
end Go.Proofs.Ytonihkpcblfafaa
