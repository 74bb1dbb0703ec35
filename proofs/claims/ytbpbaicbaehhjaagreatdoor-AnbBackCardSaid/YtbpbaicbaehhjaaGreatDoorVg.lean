/-
 The faster evaluator tells nothing but what the evaluator tells: code and calls. Nothing is claimed here.
-/
import Derived.Test.YtbpbaicbaehhjaaGreatDoorVh
namespace Go.Vk
open Go.Vm
section
variable {P : Program} {ov : Ov} {ro mask nt L : Nat} {Jb : List Nat} {fr fr0 : T V} {ls : List V} {st : St}
theorem Zg7 {n : Nat} : evF P ov ro n = ZH P ov (evC P ov ro n) := rfl
theorem JT (hr : Rel mask Jb fr ls fr0) {ops : Array Oper} {o : Oper} {t f : Bool} (h : (J5 mask Jb ops o.guard).run fr ls t f = true) :
  (zm ops fr0 o = some true ∧ t = true) ∨ (zm ops fr0 o = some false ∧ f = true) := by
 unfold zm
 cases hg : o.guard with
 | none => rw [hg] at h; exact .inl ⟨rfl, h⟩
 | some g =>
  obtain ⟨j, want⟩ := g
  rw [hg] at h
  simp only [J5] at h
  dsimp only
  cases hd : (ops[j]?).bind (·.dst) with
  | none => rw [hd] at h; exact .inr ⟨rfl, h⟩
  | some d =>
   rw [hd] at h
   dsimp only
   cases want with
   | true =>
    obtain ⟨v, h1, h2⟩ := Zbc hr (show (Jfq mask Jb d).run fr ls _ = true from h)
    rw [h1]
    rcases ZdV h2 with ⟨rfl, h3⟩ | ⟨rfl, h3⟩ | ⟨hx, h3⟩
    ·exact .inl ⟨rfl, h3⟩
    ·exact .inr ⟨rfl, h3⟩
    ·refine .inr ⟨?_, h3⟩
     cases v <;> first | rfl | exact absurd rfl (hx _)
   | false =>
    obtain ⟨v, h1, h2⟩ := Zbc hr (show (Jfq mask Jb d).run fr ls _ = true from h)
    rw [h1]
    rcases ZdV h2 with ⟨rfl, h3⟩ | ⟨rfl, h3⟩ | ⟨hx, h3⟩
    ·exact .inr ⟨rfl, h3⟩
    ·exact .inl ⟨rfl, h3⟩
    ·refine .inr ⟨?_, h3⟩
     cases v <;> first | rfl | exact absurd rfl (hx _)
theorem JbT {call : KCall} (hc : KOK P ov ro call) {ops : Array Oper} : ∀ (l : List Oper) {Jb : List Nat} {fr fr0 : T V} {ls : List V} {st : St} {k : T V → St → Bool}, Rel mask Jb fr ls fr0 → (Zfs P ro nt mask ops Jb l).run call fr ls st k = true →
  ∃ fr0' st', Even (fun m => JbA P ro nt (evF P ov ro m) ops l fr0 st) (fr0', st') ∧ ∃ fr', Rel mask [] fr' [] fr0' ∧ k fr' st' = true
 | [], Jb, fr, fr0, ls, st, k, hr, h => ⟨fr0, st, ⟨0, fun _ _ => rfl⟩, fr, hr.drop, h⟩
 | o :: r, Jb, fr, fr0, ls, st, k, hr, h => by
  have yes : zm ops fr0 o = some true → (kop P ro mask Jb o.op).run call fr ls st (fun v st => (Zc5 nt mask o.dst).run fr ls v fun fr ls => (Zfs P ro nt mask ops (ZJ mask Jb o.dst) r).run call fr ls st k) = true →
    ∃ fr0' st', Even (fun m => JbA P ro nt (evF P ov ro m) ops (o :: r) fr0 st) (fr0', st') ∧ ∃ fr', Rel mask [] fr' [] fr0' ∧ k fr' st' = true := by
   intro hw h
   obtain ⟨v, st1, ⟨m1, h1⟩, h2⟩ := ZbT hr hc h
   obtain ⟨fr1, h3, fr2, ls2, hr2, h4⟩ := hr.put h2
   obtain ⟨fr3, st3, ⟨m2, h5⟩, h6⟩ := JbT hc r hr2 h4
   dsimp only at h1 h5
   exact ⟨fr3, st3, ⟨max m1 m2, fun m' hm => by simp only [JbA, hw, h1 m' (by omega), h3, h5 m' (by omega)]⟩, h6⟩
  cases hg : o.guard with
  | none =>
   simp only [Zfs, hg] at h
   exact yes (by unfold zm; rw [hg]) h
  | some g =>
   simp only [Zfs, hg] at h
   rw [← hg] at h
   rcases JT hr h with ⟨hw, h1⟩ | ⟨hw, h1⟩
   ·exact yes hw h1
   ·obtain ⟨fr1, h3, fr2, ls2, hr2, h4⟩ := hr.put h1
    obtain ⟨fr3, st3, ⟨m2, h5⟩, h6⟩ := JbT hc r hr2 h4
    dsimp only at h5
    exact ⟨fr3, st3, ⟨m2, fun m' hm => by simp only [JbA, hw, h3, h5 m' hm]⟩, h6⟩
theorem Zbr {call : KCall} (hc : KOK P ov ro call) {ops : Array Oper} : ∀ (l : List Oper) {Jb : List Nat} {fr fr0 : T V} {ls : List V} {st : St} {k : T V → St → Bool}, Rel mask Jb fr ls fr0 → (Jc5 P ro nt mask ops Jb l).run call fr ls st k = true →
  ∃ fr0', Even (fun m => JZ P ro nt (evF P ov ro m) ops l fr0 st) fr0' ∧ ∃ fr', Rel mask [] fr' [] fr0' ∧ k fr' st = true
 | [], Jb, fr, fr0, ls, st, k, hr, h => ⟨fr0, ⟨0, fun _ _ => rfl⟩, fr, hr.drop, h⟩
 | o :: r, Jb, fr, fr0, ls, st, k, hr, h => by
  have skip : zm ops fr0 o = some false → (Zc5 nt mask o.dst).run fr ls none (fun fr ls => (Jc5 P ro nt mask ops (ZJ mask Jb o.dst) r).run call fr ls st k) = true →
    ∃ fr0', Even (fun m => JZ P ro nt (evF P ov ro m) ops (o :: r) fr0 st) fr0' ∧ ∃ fr', Rel mask [] fr' [] fr0' ∧ k fr' st = true := by
   intro hw h1
   obtain ⟨fr1, h3, fr2, ls2, hr2, h4⟩ := hr.put h1
   obtain ⟨fr3, ⟨m2, h5⟩, h6⟩ := Zbr hc r hr2 h4
   dsimp only at h5
   exact ⟨fr3, ⟨m2, fun m' hm => by simp only [JZ, hw, h3, h5 m' hm]⟩, h6⟩
  simp only [Jc5] at h
  cases hq : jJ o.op with
  | true =>
   rw [hq] at h
   rcases JT hr (show (J5 mask Jb ops o.guard).run fr ls _ _ = true from h) with ⟨hw, h1⟩ | ⟨hw, h1⟩
   ·obtain ⟨v, st1, ⟨m1, h2⟩, h3⟩ := ZbT hr hc h1
    obtain ⟨h4, h5⟩ := ja8 h3
    obtain ⟨fr1, h6, fr2, ls2, hr2, h7⟩ := hr.put h5
    obtain ⟨fr3, ⟨m2, h8⟩, h9⟩ := Zbr hc r hr2 h7
    dsimp only at h2 h8
    exact ⟨fr3, ⟨max m1 m2, fun m' hm => by simp only [JZ, hw, hq, h2 m' (by omega), h4, cond_true, h6, h8 m' (by omega)]⟩, h9⟩
   ·exact skip hw h1
  | false =>
   rw [hq] at h
   rcases JT hr (show (J5 mask Jb ops o.guard).run fr ls _ _ = true from h) with ⟨hw, h1⟩ | ⟨hw, h1⟩
   ·exact no h1
   ·exact skip hw h1
theorem Zb6 {call : KCall} (hc : KOK P ov ro call) {ops : Array Oper} {tl : List Oper} : ∀ (l : List Oper) {Jb : List Nat} {fr fr0 : T V} {ls : List V} {st : St} {k : T V → St → Bool}, Rel mask Jb fr ls fr0 → (jdV P ro nt mask ops tl Jb l).run call fr ls st k = true →
  ∃ fr0' fr1' st', Even (fun m => JZ P ro nt (evF P ov ro m) ops l fr0 st) fr0' ∧ Even (fun m => JbA P ro nt (evF P ov ro m) ops tl fr0' st) (fr1', st') ∧ ∃ fr', Rel mask [] fr' [] fr1' ∧ k fr' st' = true
 | [], Jb, fr, fr0, ls, st, k, hr, h => by
  obtain ⟨fr1, st1, h1, h2⟩ := JbT hc tl hr (show (Zfs P ro nt mask ops Jb tl).run call fr ls st k = true from h)
  exact ⟨fr0, fr1, st1, ⟨0, fun _ _ => rfl⟩, h1, h2⟩
 | o :: r, Jb, fr, fr0, ls, st, k, hr, h => by
  have skip : zm ops fr0 o = some false → (Zc5 nt mask o.dst).run fr ls none (fun fr ls => (jdV P ro nt mask ops tl (ZJ mask Jb o.dst) r).run call fr ls st k) = true →
    ∃ fr0' fr1' st', Even (fun m => JZ P ro nt (evF P ov ro m) ops (o :: r) fr0 st) fr0' ∧ Even (fun m => JbA P ro nt (evF P ov ro m) ops tl fr0' st) (fr1', st') ∧ ∃ fr', Rel mask [] fr' [] fr1' ∧ k fr' st' = true := by
   intro hw h1
   obtain ⟨fr1, h3, fr2, ls2, hr2, h4⟩ := hr.put h1
   obtain ⟨fr3, fr4, st4, ⟨m2, h5⟩, h6⟩ := Zb6 hc r hr2 h4
   dsimp only at h5
   exact ⟨fr3, fr4, st4, ⟨m2, fun m' hm => by simp only [JZ, hw, h3, h5 m' hm]⟩, h6⟩
  simp only [jdV] at h
  cases hq : jJ o.op with
  | true =>
   rw [hq] at h
   rcases JT hr (show (J5 mask Jb ops o.guard).run fr ls _ _ = true from h) with ⟨hw, h1⟩ | ⟨hw, h1⟩
   ·obtain ⟨v, st1, ⟨m1, h2⟩, h3⟩ := ZbT hr hc h1
    obtain ⟨h4, h5⟩ := ja8 h3
    obtain ⟨fr1, h6, fr2, ls2, hr2, h7⟩ := hr.put h5
    obtain ⟨fr3, fr4, st4, ⟨m2, h8⟩, h9⟩ := Zb6 hc r hr2 h7
    dsimp only at h2 h8
    exact ⟨fr3, fr4, st4, ⟨max m1 m2, fun m' hm => by simp only [JZ, hw, hq, h2 m' (by omega), h4, cond_true, h6, h8 m' (by omega)]⟩, h9⟩
   ·exact skip hw h1
  | false =>
   rw [hq] at h
   rcases JT hr (show (J5 mask Jb ops o.guard).run fr ls _ _ = true from h) with ⟨hw, h1⟩ | ⟨hw, h1⟩
   ·exact no h1
   ·exact skip hw h1
theorem Zdi {st : St} {b : Bool} : ∀ {es : List Ent}, jf2 P st es b = true → jbw P st es = true ∧ b = true
 | [], h => ⟨rfl, h⟩
 | e :: r, h => by
  have h' : (Jeo P e.t).run st e.id e.off (fun v => ifB (zdn v e.v) (jf2 P st r b) false) = true := h
  obtain ⟨v, h1, h2⟩ := jbr h'
  obtain ⟨h3, h4⟩ := ja8 h2
  obtain ⟨h5, h6⟩ := Zdi h4
  exact ⟨by simp only [jbw, h1, h3, cond_true, h5], h6⟩
theorem Zeq {c : Bool} {st : St} {b : Bool} {es : List Ent} (h : Jgq P c st es b = true) : (c || jbw P st es) = true ∧ b = true := by
 cases c with
 | true => exact ⟨rfl, h⟩
 | false =>
  obtain ⟨h1, h2⟩ := Zdi (show jf2 P st es b = true from h)
  exact ⟨by rw [h1]; rfl, h2⟩
theorem Zbd {call : KCall} (hc : KOK P ov ro call) {ops : Array Oper} : ∀ (l : List (Nat × Oper)) {Jb : List Nat} {fr fr0 : T V} {ls : List V} {es : List Ent} {st : St} {k : T V → St → Bool}, Rel mask Jb fr ls fr0 → (Jfs P ro nt mask ops Jb l).run call fr ls es st k = true →
  ∃ fr0' st', Even (fun m => zbO P ro nt (evF P ov ro m) ops l es fr0 st) (fr0', st') ∧ ∃ fr', Rel mask [] fr' [] fr0' ∧ k fr' st' = true
 | [], Jb, fr, fr0, ls, es, st, k, hr, h => ⟨fr0, st, ⟨0, fun _ _ => rfl⟩, fr, hr.drop, h⟩
 | (i, o) :: r, Jb, fr, fr0, ls, es, st, k, hr, h => by
  have skip : zm ops fr0 o = some false → (Zc5 nt mask o.dst).run fr ls none (fun fr ls => (Jfs P ro nt mask ops (ZJ mask Jb o.dst) r).run call fr ls es st k) = true →
    ∃ fr0' st', Even (fun m => zbO P ro nt (evF P ov ro m) ops ((i, o) :: r) es fr0 st) (fr0', st') ∧ ∃ fr', Rel mask [] fr' [] fr0' ∧ k fr' st' = true := by
   intro hw h1
   obtain ⟨fr1, h3, fr2, ls2, hr2, h4⟩ := hr.put h1
   obtain ⟨fr3, st3, ⟨m2, h5⟩, h6⟩ := Zbd hc r hr2 h4
   dsimp only at h5
   exact ⟨fr3, st3, ⟨m2, fun m' hm => by simp only [zbO, hw, h3, h5 m' hm]⟩, h6⟩
  simp only [Jfs] at h
  split at h
  ·rename_i hcl
   rcases JT hr (show (J5 mask Jb ops o.guard).run fr ls _ _ = true from h) with ⟨hw, h1⟩ | ⟨hw, h1⟩
   ·obtain ⟨v, st1, ⟨m1, h2⟩, h3⟩ := ZbT hr hc h1
    obtain ⟨fr1, h6, fr2, ls2, hr2, h7⟩ := hr.put h3
    obtain ⟨fr3, st3, ⟨m2, h8⟩, h9⟩ := Zbd hc r hr2 h7
    dsimp only at h2 h8
    exact ⟨fr3, st3, ⟨max m1 m2, fun m' hm => by simp only [zbO, hw, hcl, h2 m' (by omega), h6, h8 m' (by omega)]⟩, h9⟩
   ·exact skip hw h1
  ·rename_i hcl
   split at h
   ·rename_i t x hop
    rcases JT hr (show (J5 mask Jb ops o.guard).run fr ls _ _ = true from h) with ⟨hw, h1⟩ | ⟨hw, h1⟩
    ·obtain ⟨v, h2, h3⟩ := jg hr h1
     obtain ⟨id, off, rfl, h4⟩ := Jbq h3
     obtain ⟨u, h5, h6⟩ := jbr h4
     obtain ⟨fr1, h7, fr2, ls2, hr2, h8⟩ := hr.put h6
     obtain ⟨fr3, st3, ⟨m2, h9⟩, h10⟩ := Zbd hc r hr2 h8
     dsimp only at h9
     exact ⟨fr3, st3, ⟨m2, fun m' hm => by
      unfold zbO
      simp only [hw, hcl]
      rw [hop]
      simp only [h2, h5, h7]
      exact h9 m' hm⟩, h10⟩
    ·exact skip hw h1
   ·exact no h
  ·rename_i h0 h1'
   rcases JT hr (show (J5 mask Jb ops o.guard).run fr ls _ _ = true from h) with ⟨hw, h1⟩ | ⟨hw, h1⟩
   ·obtain ⟨v, st1, ⟨m1, h2⟩, h3⟩ := ZbT hr hc h1
    obtain ⟨h4, h5⟩ := Zeq h3
    obtain ⟨fr1, h6, fr2, ls2, hr2, h7⟩ := hr.put h5
    rw [zx] at h7
    obtain ⟨fr3, st3, ⟨m2, h8⟩, h9⟩ := Zbd hc r hr2 h7
    dsimp only at h2 h8
    refine ⟨fr3, st3, ⟨max m1 m2, fun m' hm => ?_⟩, h9⟩
    obtain ⟨n, hn⟩ : ∃ n, jaW o.op = n + 2 := by
     cases hq : jaW o.op with
     | zero => exact absurd hq h0
     | succ q => cases q with
      | zero => exact absurd hq h1'
      | succ q => exact ⟨q, rfl⟩
    unfold zbO
    simp only [hw, hn, h2 m' (by omega), h4, h6, jh]
    exact h8 m' (by omega)
   ·exact skip hw h1
theorem Jeq {e : Ex} {k : Nat → Bool} {d : Bool} (h : zgr e k d = true) : (∃ i, e = .exit i ∧ k i = true) ∨ ((∀ i, e ≠ .exit i) ∧ d = true) := by
 cases e with
 | exit i => exact .inl ⟨i, rfl, h⟩
 | nrm => exact .inr ⟨fun i q => (by cases q), h⟩
 | goto l => exact .inr ⟨fun i q => (by cases q), h⟩
 | ret => exact .inr ⟨fun i q => (by cases q), h⟩
def CT (P : Program) (ov : Ov) (ro nt mask : Nat) (c : Code) (fr0 : T V) (st : St) (kn : T V → St → Bool) (kx : Ex → T V → St → Bool) : Prop :=
 ∃ e fr0' st', Even (fun n => evC P ov ro n nt c fr0 st) (e, fr0', st') ∧ ∃ fr', Rel mask [] fr' [] fr0' ∧ ((e = .nrm ∧ kn fr' st' = true) ∨ (e ≠ .nrm ∧ kx e fr' st' = true))
def BT (P : Program) (ov : Ov) (ro nt mask : Nat) (call : KCall) (c : Code) (b : KB) : Prop :=
 ∀ fr fr0 st kn kx, Rel mask [] fr [] fr0 → b.run call fr st kn kx = true → CT P ov ro nt mask c fr0 st kn kx
theorem CT.now {c : Code} {kn : T V → St → Bool} {kx : Ex → T V → St → Bool} {e : Ex} (hr : Rel mask [] fr [] fr0) (h : ∀ n, evC P ov ro (n + 1) nt c fr0 st = some (e, fr0, st)) (hk : (e = .nrm ∧ kn fr st = true) ∨ (e ≠ .nrm ∧ kx e fr st = true)) : CT P ov ro nt mask c fr0 st kn kx :=
 ⟨e, fr0, st, ⟨1, fun m' hm => by obtain ⟨n, rfl⟩ : ∃ n, m' = n + 1 := ⟨m' - 1, by omega⟩; exact h n⟩, fr, hr, hk⟩
theorem Jdi {b : Code} {kb : KB} {call : KCall} (hb : BT P ov ro nt mask call b kb) {kx : Ex → T V → St → Bool} : ∀ (n : Nat) (fr fr0 : T V) (st : St), Rel mask [] fr [] fr0 → Zf2 kb call kx n fr st = true →
  ∃ e fr0' st', (∃ m, ∀ n' j, m ≤ n' → m ≤ j → Zav (evC P ov ro n' nt b) j fr0 st = some (e, fr0', st')) ∧ ∃ fr', Rel mask [] fr' [] fr0' ∧ e ≠ .nrm ∧ kx e fr' st' = true
 | 0, fr, fr0, st, hr, h => no h
 | n + 1, fr, fr0, st, hr, h => by
  obtain ⟨e, fr1, st1, ⟨m1, h1⟩, fr2, hr2, h2⟩ := hb fr fr0 st (Zf2 kb call kx n) kx hr h
  dsimp only at h1
  rcases h2 with ⟨rfl, h2⟩ | ⟨hne, h2⟩
  ·obtain ⟨e, fr3, st3, ⟨m2, h3⟩, h4⟩ := Jdi hb n fr2 fr1 st1 hr2 h2
   refine ⟨e, fr3, st3, ⟨max m1 m2 + 1, fun n' j hn hj => ?_⟩, h4⟩
   obtain ⟨i, rfl⟩ : ∃ i, j = i + 1 := ⟨j - 1, by omega⟩
   simp only [Zav, h1 n' (by omega), h3 n' i (by omega) (by omega)]
  ·refine ⟨e, fr1, st1, ⟨m1 + 1, fun n' j hn hj => ?_⟩, fr2, hr2, hne, h2⟩
   obtain ⟨i, rfl⟩ : ∃ i, j = i + 1 := ⟨j - 1, by omega⟩
   simp only [Zav, h1 n' (by omega)]
   cases e <;> first | rfl | exact absurd rfl hne
theorem zgG {call : KCall} (hc : KOK P ov ro call) : ∀ c : Code, BT P ov ro nt mask call c (kC P ro nt mask L c) := by
 intro c
 induction c with
 | skip => intro fr fr0 st kn kx hr h; exact CT.now hr (fun n => rfl) (.inl ⟨rfl, h⟩)
 | label l => intro fr fr0 st kn kx hr h; exact CT.now hr (fun n => rfl) (.inl ⟨rfl, h⟩)
 | exit i => intro fr fr0 st kn kx hr h; exact CT.now hr (fun n => rfl) (.inr ⟨fun q => (by cases q), h⟩)
 | goto l => intro fr fr0 st kn kx hr h; exact CT.now hr (fun n => rfl) (.inr ⟨fun q => (by cases q), h⟩)
 | ret => intro fr fr0 st kn kx hr h; exact CT.now hr (fun n => rfl) (.inr ⟨fun q => (by cases q), h⟩)
 | refuse w => intro fr fr0 st kn kx hr h; exact no h
 | rangeFunc f ps a b _ _ => intro fr fr0 st kn kx hr h; exact no h
 | region i ops draw =>
  intro fr fr0 st kn kx hr h
  simp only [kC] at h
  cases draw with
  | false =>
   obtain ⟨fr1, st1, ⟨m, h1⟩, fr2, hr2, h2⟩ := JbT hc ops.toList hr (show (Zfs P ro nt mask ops [] ops.toList).run call fr [] st kn = true from h)
   dsimp only at h1
   refine ⟨.nrm, fr1, st1, ⟨m + 1, fun m' hm => ?_⟩, fr2, hr2, .inl ⟨rfl, h2⟩⟩
   obtain ⟨n, rfl⟩ : ∃ n, m' = n + 1 := ⟨m' - 1, by omega⟩
   have := h1 n (by omega)
   simp only [evC]
   rw [← Zg7, this]
  | true =>
   cases hB : Zeh P ops with
   | false =>
    rw [hB] at h
    dsimp only at h
    cases hT : jeh ops with
    | true =>
     rw [hT] at h
     obtain ⟨fr1, fr1', st1, ⟨m, h1⟩, ⟨m2, h1'⟩, fr2, hr2, h2⟩ := Zb6 hc (ops.toList.take (ops.size - 1)) hr (show (jdV P ro nt mask ops (ops.toList.drop (ops.size - 1)) [] (ops.toList.take (ops.size - 1))).run call fr [] st kn = true from h)
     dsimp only at h1 h1'
     refine ⟨.nrm, fr1', st1, ⟨max m m2 + 1, fun m' hm => ?_⟩, fr2, hr2, .inl ⟨rfl, h2⟩⟩
     obtain ⟨n, rfl⟩ : ∃ n, m' = n + 1 := ⟨m' - 1, by omega⟩
     have e1 := h1 n (by omega)
     have e2 := h1' n (by omega)
     simp only [evC, hB, hT]
     rw [← Zg7, e1]
     dsimp only
     rw [e2]
    | false =>
     rw [hT] at h
     dsimp only at h
     cases hpl : jcj P ops with
     | none =>
      rw [hpl] at h
      dsimp only at h
      cases hL : jfW ops with
      | false => rw [hL] at h; exact no h
      | true =>
       rw [hL] at h
       obtain ⟨fr1, ⟨m, h1⟩, fr2, hr2, h2⟩ := Zbr hc ops.toList hr (show (Jc5 P ro nt mask ops [] ops.toList).run call fr [] st kn = true from h)
       dsimp only at h1
       refine ⟨.nrm, fr1, st, ⟨m + 1, fun m' hm => ?_⟩, fr2, hr2, .inl ⟨rfl, h2⟩⟩
       obtain ⟨n, rfl⟩ : ∃ n, m' = n + 1 := ⟨m' - 1, by omega⟩
       have := h1 n (by omega)
       simp only [evC, hB, hT, hpl, hL]
       rw [← Zg7, this]
     | some pl =>
      rw [hpl] at h
      obtain ⟨fr1, st1, ⟨m, h1⟩, fr2, hr2, h2⟩ := Zbd hc pl hr (show (Jfs P ro nt mask ops [] pl).run call fr [] [] st kn = true from h)
      dsimp only at h1
      refine ⟨.nrm, fr1, st1, ⟨m + 1, fun m' hm => ?_⟩, fr2, hr2, .inl ⟨rfl, h2⟩⟩
      obtain ⟨n, rfl⟩ : ∃ n, m' = n + 1 := ⟨m' - 1, by omega⟩
      have := h1 n (by omega)
      simp only [evC, hB, hT, hpl]
      rw [← Zg7, this]
   | true =>
    rw [hB] at h
    obtain ⟨fr1, ⟨m, h1⟩, fr2, hr2, h2⟩ := Zbr hc ops.toList hr (show (Jc5 P ro nt mask ops [] ops.toList).run call fr [] st kn = true from h)
    dsimp only at h1
    refine ⟨.nrm, fr1, st, ⟨m + 1, fun m' hm => ?_⟩, fr2, hr2, .inl ⟨rfl, h2⟩⟩
    obtain ⟨n, rfl⟩ : ∃ n, m' = n + 1 := ⟨m' - 1, by omega⟩
    have := h1 n (by omega)
    simp only [evC, hB]
    rw [← Zg7, this]
 | seq a b iha ihb =>
  intro fr fr0 st kn kx hr h
  obtain ⟨e, fr1, st1, ⟨m1, h1⟩, fr2, hr2, h2⟩ := iha fr fr0 st _ kx hr (show (kC P ro nt mask L a).run call fr st _ kx = true from h)
  dsimp only at h1
  rcases h2 with ⟨rfl, h2⟩ | ⟨hne, h2⟩
  ·obtain ⟨e, fr3, st3, ⟨m2, h3⟩, fr4, hr4, h4⟩ := ihb fr2 fr1 st1 kn kx hr2 h2
   dsimp only at h3
   refine ⟨e, fr3, st3, ⟨max m1 m2 + 1, fun m' hm => ?_⟩, fr4, hr4, h4⟩
   obtain ⟨n, rfl⟩ : ∃ n, m' = n + 1 := ⟨m' - 1, by omega⟩
   simp only [evC, h1 n (by omega), h3 n (by omega)]
  ·refine ⟨e, fr1, st1, ⟨m1 + 1, fun m' hm => ?_⟩, fr2, hr2, .inr ⟨hne, h2⟩⟩
   obtain ⟨n, rfl⟩ : ∃ n, m' = n + 1 := ⟨m' - 1, by omega⟩
   simp only [evC, h1 n (by omega)]
   cases e <;> first | rfl | exact absurd rfl hne
 | cond x a b iha ihb =>
  intro fr fr0 st kn kx hr h
  obtain ⟨v, h1, h2⟩ := jg hr (show (JA mask [] x).run fr [] _ = true from h)
  rcases Jdt h2 with ⟨rfl, h3⟩ | ⟨rfl, h3⟩
  ·obtain ⟨e, fr1, st1, ⟨m, h4⟩, h5⟩ := iha fr fr0 st kn kx hr h3
   dsimp only at h4
   refine ⟨e, fr1, st1, ⟨m + 1, fun m' hm => ?_⟩, h5⟩
   obtain ⟨n, rfl⟩ : ∃ n, m' = n + 1 := ⟨m' - 1, by omega⟩
   simp only [evC, h1, h4 n (by omega)]
  ·obtain ⟨e, fr1, st1, ⟨m, h4⟩, h5⟩ := ihb fr fr0 st kn kx hr h3
   dsimp only at h4
   refine ⟨e, fr1, st1, ⟨m + 1, fun m' hm => ?_⟩, h5⟩
   obtain ⟨n, rfl⟩ : ∃ n, m' = n + 1 := ⟨m' - 1, by omega⟩
   simp only [evC, h1, h4 n (by omega)]
 | block i b ih =>
  intro fr fr0 st kn kx hr h
  obtain ⟨e, fr1, st1, ⟨m, h1⟩, fr2, hr2, h2⟩ := ih fr fr0 st kn _ hr (show (kC P ro nt mask L b).run call fr st kn _ = true from h)
  dsimp only at h1
  have up : ∀ r, (∀ n, m ≤ n → evC P ov ro (n + 1) nt (.block i b) fr0 st = some r) → Even (fun n => evC P ov ro n nt (.block i b) fr0 st) r := fun r hh => ⟨m + 1, fun m' hm => by
   obtain ⟨n, rfl⟩ : ∃ n, m' = n + 1 := ⟨m' - 1, by omega⟩
   exact hh n (by omega)⟩
  rcases h2 with ⟨rfl, h2⟩ | ⟨hne, h2⟩
  ·exact ⟨.nrm, fr1, st1, up _ fun n hn => by simp only [evC, h1 n hn], fr2, hr2, .inl ⟨rfl, h2⟩⟩
  ·rcases Jeq h2 with ⟨j, rfl, h3⟩ | ⟨hx, h3⟩
   ·rcases Zbq h3 with ⟨h4, h5⟩ | ⟨h4, h5⟩
    ·exact ⟨.nrm, fr1, st1, up _ fun n hn => by simp only [evC, h1 n hn, h4, cond_true], fr2, hr2, .inl ⟨rfl, h5⟩⟩
    ·exact ⟨.exit j, fr1, st1, up _ fun n hn => by simp only [evC, h1 n hn, h4, cond_false], fr2, hr2, .inr ⟨hne, h5⟩⟩
   ·refine ⟨e, fr1, st1, up _ fun n hn => ?_, fr2, hr2, .inr ⟨hne, h3⟩⟩
    simp only [evC, h1 n hn]
    cases e <;> first | rfl | exact absurd rfl (hx _)
 | loop b ih =>
  intro fr fr0 st kn kx hr h
  obtain ⟨e, fr1, st1, ⟨m, h1⟩, fr2, hr2, hne, h2⟩ := Jdi ih L fr fr0 st hr (show Zf2 (kC P ro nt mask L b) call kx L fr st = true from h)
  refine ⟨e, fr1, st1, ⟨m + 1, fun m' hm => ?_⟩, fr2, hr2, .inr ⟨hne, h2⟩⟩
  obtain ⟨n, rfl⟩ : ∃ n, m' = n + 1 := ⟨m' - 1, by omega⟩
  simp only [evC]
  exact h1 n n (by omega) (by omega)
 | scope b ih =>
  intro fr fr0 st kn kx hr h
  obtain ⟨e, fr1, st1, ⟨m, h1⟩, fr2, hr2, h2⟩ := ih fr fr0 st kn _ hr (show (kC P ro nt mask L b).run call fr st kn _ = true from h)
  dsimp only at h1
  have fin : (∀ l, e ≠ .goto l) → Even (fun n => evC P ov ro n nt (.scope b) fr0 st) (e, fr1, st1) := fun hno => ⟨m + 2, fun m' hm => by
   obtain ⟨n, rfl⟩ : ∃ n, m' = n + 2 := ⟨m' - 2, by omega⟩
   show evC P ov ro (n + 2) nt (.scope b) fr0 st = _
   rw [show evC P ov ro (n + 2) nt (.scope b) fr0 st = jae (evC P ov ro (n + 1) nt) b (n + 1) b fr0 st from rfl]
   simp only [jae, h1 (n + 1) (by omega)]
   cases e <;> first | rfl | exact absurd rfl (hno _)⟩
  rcases h2 with ⟨rfl, h2⟩ | ⟨hne, h2⟩
  ·exact ⟨.nrm, fr1, st1, fin (fun l q => by cases q), fr2, hr2, .inl ⟨rfl, h2⟩⟩
  ·cases e with
   | goto l => exact no h2
   | nrm => exact absurd rfl hne
   | exit i => exact ⟨_, fr1, st1, fin (fun l q => by cases q), fr2, hr2, .inr ⟨hne, h2⟩⟩
   | ret => exact ⟨_, fr1, st1, fin (fun l q => by cases q), fr2, hr2, .inr ⟨hne, h2⟩⟩
theorem ZcK {k : T V → Bool} : ∀ (l : List V) (i : Nat) (fr : T V), (List.rec (motive := fun _ => Nat → T V → Bool) (fun _ fr => k fr) (fun v _ ih i fr => JgE (zaw i) fr v fun fr => Jao (i + 1) fun i => ih i fr) l i fr : Bool) = k (jV l i fr)
 | [], i, fr => rfl
 | v :: r, i, fr => by
  have := ZcK (k := k) r (i + 1) (fr.upd i (some v))
  show JgE (zaw i) fr v (fun fr => Jao (i + 1) fun i => _) = _
  rw [jfu, zx, jV, V.force_eq]
  exact this
theorem zfv (l : List V) (k : T V → Bool) : jgr l k = k (jV l 0 .e) := ZcK l 0 .e
theorem JcK (hr : Rel mask [] fr [] fr0) : ∀ {l : List ResultVar} {k : List V → Bool}, (jgY P mask l).run fr st k = true → ∃ vs, jr P fr0 st l = some vs ∧ k vs = true
 | [], k, h => ⟨[], rfl, h⟩
 | .tmp t :: r, k, h => by
  obtain ⟨v, h1, h2⟩ := Zbc hr (show (Jfq mask [] t).run fr [] _ = true from h)
  obtain ⟨vs, h3, h4⟩ := JcK hr h2
  exact ⟨v :: vs, by simp only [jr, Jai, h1, h3], h4⟩
 | .cell a t :: r, k, h => by
  obtain ⟨v, h1, h2⟩ := Zbc hr (show (Jfq mask [] a).run fr [] _ = true from h)
  obtain ⟨g, o, rfl, h3⟩ := Jbq h2
  obtain ⟨v, h4, h5⟩ := jbr h3
  obtain ⟨vs, h6, h7⟩ := JcK hr h5
  exact ⟨v :: vs, by simp only [jr, Jai, h1, h4, h6], h7⟩
theorem Je0 {e : Ex} {d : Bool} (h : jg7 e d = true) : e = .ret ∧ d = true := by
 cases e with
 | ret => exact ⟨rfl, h⟩
 | _ => exact no h
theorem zdj {ZdX : Nat → Nat} : ∀ n : Nat, KOK P ov ro (Jf2 P ZdX ov ro L n)
 | 0 => fun f args st k h => no h
 | n + 1 => by
  intro f args st k h
  have ih : KOK P ov ro (Jf2 P ZdX ov ro L n) := zdj n
  have h' : (match ov f args st with
   | some (v, st) => jaB v fun v => k v st
   | none => (Jhs P ZdX ro L f).run (Jf2 P ZdX ov ro L n) args st k) = true := h
  cases ho : ov f args st with
  | some v =>
   obtain ⟨v, st1⟩ := v
   rw [ho] at h'
   dsimp only at h'
   rw [ZY] at h'
   exact ⟨v, st1, ⟨0, fun m _ => by unfold evF ZH; simp only [ho]⟩, h'⟩
  | none =>
   rw [ho] at h'
   dsimp only at h'
   unfold Jhs at h'
   cases hf : P.funcs[f]? with
   | none => rw [hf] at h'; exact no h'
   | some fn =>
    rw [hf] at h'
    dsimp only at h'
    cases hb : fn.body with
    | none => rw [hb] at h'; exact no h'
    | some c =>
     rw [hb] at h'
     dsimp only at h'
     rw [jh, jh] at h'
     obtain ⟨h1, h2⟩ := ja8 h'
     rw [zfv] at h2
     have hr0 : Rel (ZdX f) [] (jV args 0 .e) [] (jV args 0 .e) := ⟨fun _ _ _ q => q, fun t j v e => (by cases e), fun t j e => (by cases e)⟩
     obtain ⟨e, fr1, st1, ⟨m, h3⟩, fr2, hr2, h4⟩ := zgG (nt := fn.ntmps) (mask := ZdX f) (L := L) ih c _ _ st _ _ hr0 h2
     dsimp only at h3
     have fin : (e = .nrm ∨ e = .ret) → (jgY P (ZdX f) fn.results.toList).run fr2 st1 (fun vs => k (JaO vs) st1) = true → ∃ v st', Even (fun m => evF P ov ro m f args st) (v, st') ∧ k v st' = true := by
      intro he hk
      obtain ⟨vs, h5, h6⟩ := JcK hr2 hk
      refine ⟨JaO vs, st1, ⟨m, fun m' hm => ?_⟩, h6⟩
      unfold evF ZH
      simp only [ho, hf, hb, h1, cond_true, h3 m' hm]
      rcases he with rfl | rfl <;> simp only [h5]
     rcases h4 with ⟨rfl, h4⟩ | ⟨hne, h4⟩
     ·exact fin (.inl rfl) h4
     ·obtain ⟨rfl, h5⟩ := Je0 h4
      exact fin (.inr rfl) h5
theorem zdv {ZdX : Nat → Nat} {gs : List (Nat × List V)} {n f : Nat} {args : List V} (h : JeN P ZdX ov gs L n f args = true) : ∃ m st', evF P ov GL m f args (st0 gs) = some (.b true, st') := by
 obtain ⟨v, st', ⟨m, h1⟩, h2⟩ := zdj n f args (st0 gs) _ h
 rcases Jdt h2 with ⟨rfl, _⟩ | ⟨_, h3⟩
 ·exact ⟨m, st', h1 m (Nat.le_refl _)⟩
 ·exact no h3
end
end Go.Vk
