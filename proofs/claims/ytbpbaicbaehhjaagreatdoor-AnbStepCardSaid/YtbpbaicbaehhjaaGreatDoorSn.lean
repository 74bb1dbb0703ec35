/-
  Calls that are handed pointers and named buffers: by transformers of data, too. Nothing is claimed here.
-/
import Derived.Test.YtbpbaicbaehhjaaGreatDoorSm
namespace Go.Sx
open Go.Vm

section
variable {S : Sg} (Y : Sy S) (P : Program) (G : Gl) (ov : Ov) (ro : Nat)

def fin2 {A2 H2 : Type} {Y : Sy S} (le : LS Y A2 H2) (K : A2 × H2 → Prop) (e : Ex) (z : Z S) : Prop := match e with
  | .nrm => le.get z K
  | .ret => le.get z K
  | _ => False
/-- What a body does, from a state that is told by data, is told by a transformer. -/
def ShOK {A H A2 H2 : Type} (nt : Nat) (c : Code) (l : LS Y A H) (le : LS Y A2 H2) (Af : A × H → (A2 × H2 → Prop) → Prop) : Prop :=
  ∀ (o0 : Nat → Prop) (B : Bs S), B.E.length ≤ l.nx → ∀ x K, Af x K → Sem Y P G ov o0 ro nt B c (l.put x) (fin2 le K)
def shp {A H A2 H2 : Type} (nt : Nat) (l : LS Y A H) (le : LS Y A2 H2) (res : List ResultVar) (Af : A × H → (A2 × H2 → Prop) → Prop) : List (U S) → Nat → T (Ct S) → Kn S → Prop := fun us nx m k =>
  cond (Nat.ble us.length nt && Nat.ble nx l.nx) (l.get ⟨frU us 0 .e, nx, m, []⟩ fun x => Af x fun y => forceZ (le.put y) fun z => sResL Y P G z.fr z.m res fun us => k (some (oneU us)) z.nx z.m z.ks [0]) False
variable {Y P G ov ro}

theorem sh_of {A H A2 H2 : Type} {nt : Nat} {c : Code} {l : LS Y A H} {le : LS Y A2 H2} {C : CallT S} {L : LoopT S} {F : A × H → (A2 × H2 → Prop) → Prop} (hC : ∀ o0, CalOK Y P G ov o0 ro C) (hL : LpOK Y P G ov ro L l.nx nt c)
    (h : ∀ x K, forceZ (l.put x) (fun z => sC Y P G C L nt c z (fin2 le K)) = F x K) : ShOK Y P G ov ro nt c l le F :=
  fun o0 B hB x K hF => sC_ok (hC o0) c (hL o0 B hB) _ _ (by have := (h x K).mpr hF; rwa [forceZ_eq] at this)
theorem ShOK.weak {A H A2 H2 : Type} {nt : Nat} {c : Code} {l : LS Y A H} {le : LS Y A2 H2} {F F2 : A × H → (A2 × H2 → Prop) → Prop} (h : ShOK Y P G ov ro nt c l le F) (hw : ∀ x K, F2 x K → F x K) : ShOK Y P G ov ro nt c l le F2 :=
  fun o0 B hB x K hF => h o0 B hB x K (hw x K hF)

theorem shp_ok {A H A2 H2 : Type} {f : FuncId} {fn : Func} {c : Code} {nt : Nat} {res : List ResultVar} {l : LS Y A H} {le : LS Y A2 H2} {Af : A × H → (A2 × H2 → Prop) → Prop} (hov : ∀ vs st, ov f vs st = none) (hf : P.funcs[f]? = some fn) (hb : fn.body = some c) (hnt : fn.ntmps = nt) (hres : fn.results.toList = res)
    (hle : l.nx ≤ le.nx) (h : ShOK Y P G ov ro nt c l le Af) : EntOK Y P G ov ro f (shp Y P G nt l le res Af) := by
  intro o0 us nx m k hk E st vs hI hr
  unfold shp at hk
  cases hl : (Nat.ble us.length nt && Nat.ble nx l.nx) with
  | false => rw [hl] at hk; exact hk.elim
  | true =>
    rw [hl, cond_true] at hk
    rw [Bool.and_eq_true, Nat.ble_eq, Nat.ble_eq] at hl
    have hz : Zat Y G o0 ro ⟨E, m, st⟩ (⟨frU us 0 .e, nx, m, []⟩ : Z S) (frameOf vs 0 .e) st :=
      ⟨E, hI, (Step.refl o0 E m st).anyW, frU_rel hr (fun t u hu => by rw [T.get_e] at hu; cases hu)⟩
    have hB : E.length ≤ l.nx := by rw [hI.len]; exact hl.2
    obtain ⟨x, h1, h2⟩ := l.ok (B := ⟨E, m, st⟩) hB hk hz
    obtain ⟨e, frV', st', hev, z', hz', hfin⟩ := h o0 ⟨E, m, st⟩ hB x _ h1 _ st h2
    have fin' : le.get z' (fun y => forceZ (le.put y) fun z => sResL Y P G z.fr z.m res fun us => k (some (oneU us)) z.nx z.m z.ks [0]) → (e = .nrm ∨ e = .ret) → ∃ v st', (∃ M, ∀ n, M ≤ n → evF P ov ro n f vs st = some (v, st')) ∧ Done Y G o0 ro E m st k (some v) st' := by
      intro hg he
      obtain ⟨y, q1, E', hI', hS', hf'⟩ := le.ok (B := ⟨E, m, st⟩) (Nat.le_trans hB hle) hg hz'
      rw [forceZ_eq] at q1
      obtain ⟨us', ws, g1, g2, g3⟩ := sResL_ok hI' hf' q1
      exact ⟨oneOf ws, st', call_of (hov vs _) hf hb hnt hres (by rw [hr.length]; exact hl.1) he hev g1, some (oneU us'), (le.put y).nx, (le.put y).m, (le.put y).ks, [0], E', hI', hS', oneU_rel g2, g3⟩
    cases e with
    | nrm => exact fin' hfin (.inl rfl)
    | ret => exact fin' hfin (.inr rfl)
    | exit i => exact hfin.elim
    | goto i => exact hfin.elim
end
end Go.Sx
