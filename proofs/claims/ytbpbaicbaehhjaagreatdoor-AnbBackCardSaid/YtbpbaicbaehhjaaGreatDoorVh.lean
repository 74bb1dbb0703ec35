/-
 The faster evaluator tells nothing but what the evaluator tells: operations, one behind the other. Nothing is claimed here.
-/
import Derived.Test.YtbpbaicbaehhjaaGreatDoorVi4
namespace Go.Vk
open Go.Vm
section
variable {P : Program} {ov : Ov} {ro mask : Nat} {Jb : List Nat} {fr fr0 : T V} {ls : List V} {st : St}
def KOK (P : Program) (ov : Ov) (ro : Nat) (call : KCall) : Prop :=
 ∀ f args st k, call f args st k = true → ∃ v st', Even (fun m => evF P ov ro m f args st) (v, st') ∧ k v st' = true
def OpT (P : Program) (ov : Ov) (ro : Nat) (fr0 : T V) (st : St) (op : Op) (k : Option V → St → Bool) : Prop :=
 ∃ v st', Even (fun m => vop P ro (evF P ov ro m) fr0 st op) (v, st') ∧ k v st' = true
theorem OpT.now {op : Op} {k : Option V → St → Bool} {v : Option V} {st' : St} (h : ∀ call, vop P ro call fr0 st op = some (v, st')) (hk : k v st' = true) : OpT P ov ro fr0 st op k :=
 ⟨v, st', ⟨0, fun _ _ => h _⟩, hk⟩
theorem Ze0 {l : List V} {k : V → V → Bool} (h : Jg6 l k = true) : ∃ x y, l = [x, y] ∧ k x y = true := by
 cases l with
 | nil => exact no h
 | cons x r => cases r with
  | nil => exact no h
  | cons y r => cases r with
   | nil => exact ⟨x, y, rfl, h⟩
   | cons _ _ => exact no h
theorem jdi {l : List V} {k : V → Bool} (h : ZgF l k = true) : ∃ x, l = [x] ∧ k x = true := by
 cases l with
 | nil => exact no h
 | cons x r => cases r with
  | nil => exact ⟨x, rfl, h⟩
  | cons _ _ => exact no h
theorem jcK (hr : Rel mask Jb fr ls fr0) {xs : Array Operand} {b : Builtin} {ts : Array TypeId} {call : KCall} {k : Option V → St → Bool} (h : (ZeN P ro (jaw mask Jb xs.toList) b ts.toList).run call fr ls st k = true) :
  OpT P ov ro fr0 st (.call ⟨.builtin b, xs, ts⟩) k := by
 obtain ⟨args, h1, h2⟩ := ZV hr (show (jaw mask Jb xs.toList).run fr ls _ = true from h)
 obtain ⟨v, st', h3, h4⟩ := ZaS h2
 rw [ZY] at h4
 exact OpT.now (fun call => by simp only [vop, h1, h3]) h4
theorem Jdu (hr : Rel mask Jb fr ls fr0) {xs : Array Operand} {b : Builtin} {ts : Array TypeId} {call : KCall} {k : Option V → St → Bool} (h : (Zdt P ro (jaw mask Jb xs.toList) b ts.toList).run call fr ls st k = true) :
  OpT P ov ro fr0 st (.call ⟨.builtin b, xs, ts⟩) k := by
 unfold Zdt at h
 split at h
 ·rename_i t u hts
  split at h
  ·exact no h
  ·rename_i d hni hu
   obtain ⟨args, h1, h2⟩ := ZV hr (show (jaw mask Jb xs.toList).run fr ls _ = true from h)
   obtain ⟨s, x, rfl, h3⟩ := Ze0 h2
   obtain ⟨v, st', h4, h5⟩ := JdW h3
   refine OpT.now (fun call => ?_) h5
   have hb : ju P ro .append [t, u] [s, x] st = zR P ro st t s x := by
    simp only [ju, hu]
   simp only [vop, h1, hts, hb, h4]
  ·exact no h
 ·rename_i t hts
  split at h
  ·rename_i hu
   obtain ⟨args, h1, h2⟩ := ZV hr (show (jaw mask Jb xs.toList).run fr ls _ = true from h)
   obtain ⟨x, rfl, h3⟩ := jdi h2
   obtain ⟨l, y, rfl, h4⟩ := zdu h3
   exact OpT.now (fun call => by simp only [vop, h1, hts, ju, Zal, hu]) h4
  ·rename_i e hu
   obtain ⟨args, h1, h2⟩ := ZV hr (show (jaw mask Jb xs.toList).run fr ls _ = true from h)
   obtain ⟨x, rfl, h3⟩ := jdi h2
   rcases zft h3 with ⟨⟨g, o, q, rfl⟩ | ⟨a, rfl⟩, h4⟩ | h3
   ·exact OpT.now (fun call => by simp only [vop, h1, hts, ju, Zal, hu]; rfl) h4
   ·exact OpT.now (fun call => by simp only [vop, h1, hts, ju, Zal, hu]; rfl) h4
   rcases ZbS h3 with ⟨id, off, l, c, op, rfl, h4⟩ | ⟨rfl, h4⟩ | ⟨_, _, _, h4⟩
   ·exact OpT.now (fun call => by simp only [vop, h1, hts, ju, Zal, hu]) h4
   ·exact OpT.now (fun call => by simp only [vop, h1, hts, ju, Zal, hu]; rfl) h4
   ·exact no h4
  ·have h' : (ZeN P ro (jaw mask Jb xs.toList) .len ts.toList).run call fr ls st k = true := h
   exact jcK hr h'
 ·exact jcK hr h
theorem zdX (hr : Rel mask Jb fr ls fr0) {c : Call} {call : KCall} (hc : KOK P ov ro call) {k : Option V → St → Bool} (h : (jfs P ro mask Jb (jaw mask Jb c.args.toList) c.argTypes.toList c.callee).run call fr ls st k = true) :
  OpT P ov ro fr0 st (.call c) k := by
 obtain ⟨callee, xs, ts⟩ := c
 cases callee with
 | builtin b => exact Jdu hr h
 | invoke _ _ => exact no h
 | value o =>
  have slow : (∀ f, o ≠ .func f) → OpT P ov ro fr0 st (.call ⟨.value o, xs, ts⟩) k := by
   intro hno
   have h' : (jaw mask Jb xs.toList).run fr ls (fun args => (JA mask Jb o).run fr ls fun g => onF g fun fn first caps => match fn with
    | .func f => call f (first ++ args ++ caps) st fun v st => k (some v) st
    | _ => false) = true := by
    cases o with
    | func f => exact absurd rfl (hno f)
    | _ => exact h
   obtain ⟨args, h1, h2⟩ := ZV hr h'
   obtain ⟨g, h3, h4⟩ := jg hr h2
   obtain ⟨fn, first, caps, rfl, h5⟩ := zf3 h4
   cases fn with
   | func f =>
    obtain ⟨v, st', ⟨m, h6⟩, h7⟩ := hc f _ st _ h5
    exact ⟨some v, st', ⟨m, fun m' hm => by dsimp only at h6; simp only [vop, h1, h3, h6 m' hm]⟩, h7⟩
   | _ => exact no h5
  cases o with
  | func f =>
   obtain ⟨args, h1, h2⟩ := ZV hr (show (jaw mask Jb xs.toList).run fr ls _ = true from h)
   obtain ⟨v, st', ⟨m, h3⟩, h4⟩ := hc f args st _ h2
   exact ⟨some v, st', ⟨m, fun m' hm => by dsimp only at h3; simp only [vop, h1, Zx, List.nil_append, List.append_nil, h3 m' hm]⟩, h4⟩
  | _ => exact slow (fun f e => by cases e)
theorem ZbT (hr : Rel mask Jb fr ls fr0) {call : KCall} (hc : KOK P ov ro call) {op : Op} {k : Option V → St → Bool} (h : (kop P ro mask Jb op).run call fr ls st k = true) : OpT P ov ro fr0 st op k := by
 cases op with
 | move x =>
  obtain ⟨v, h1, h2⟩ := jg hr (show (JA mask Jb x).run fr ls _ = true from h)
  exact OpT.now (fun call => by simp only [vop, h1]) h2
 | assign x =>
  obtain ⟨v, h1, h2⟩ := jg hr (show (JA mask Jb x).run fr ls _ = true from h)
  exact OpT.now (fun call => by simp only [vop, h1]) h2
 | pick c a b =>
  obtain ⟨v, h1, h2⟩ := jg hr (show (JA mask Jb c).run fr ls _ = true from h)
  rcases Jdt h2 with ⟨rfl, h3⟩ | ⟨rfl, h3⟩
  ·obtain ⟨v, h4, h5⟩ := jg hr h3
   exact OpT.now (fun call => by simp only [vop, h1, cond_true, h4]) h5
  ·obtain ⟨v, h4, h5⟩ := jg hr h3
   exact OpT.now (fun call => by simp only [vop, h1, cond_false, h4]) h5
 | binOp op t x y u =>
  obtain ⟨a, h1, h2⟩ := jg hr (show (JA mask Jb x).run fr ls _ = true from h)
  obtain ⟨b, h3, h4⟩ := jg hr h2
  obtain ⟨v, h5, h6⟩ := Zfu h4
  exact OpT.now (fun call => by simp only [vop, h1, h3, h5]) h6
 | unOp op t x =>
  obtain ⟨a, h1, h2⟩ := jg hr (show (JA mask Jb x).run fr ls _ = true from h)
  obtain ⟨v, h3, h4⟩ := jaS h2
  exact OpT.now (fun call => by simp only [vop, h1, h3]) h4
 | convert s d x =>
  obtain ⟨a, h1, h2⟩ := jg hr (show (JA mask Jb x).run fr ls _ = true from h)
  obtain ⟨v, st', h3, h4⟩ := jeq h2
  exact OpT.now (fun call => by simp only [vop, h1, h3]) h4
 | field t x f =>
  obtain ⟨a, h1, h2⟩ := jg hr (show (JA mask Jb x).run fr ls _ = true from h)
  obtain ⟨v, h3, h4⟩ := jaS h2
  exact OpT.now (fun call => by simp only [vop, h1, h3]) h4
 | index t x i =>
  obtain ⟨a, h1, h2⟩ := jg hr (show (JA mask Jb x).run fr ls _ = true from h)
  obtain ⟨b, h3, h4⟩ := jg hr h2
  obtain ⟨kd, n, v, rfl, h5, h6⟩ := Zep h4
  exact OpT.now (fun call => by simp only [vop, h1, h3, h5]) h6
 | indexAddr t x i =>
  obtain ⟨a, h1, h2⟩ := jg hr (show (JA mask Jb x).run fr ls _ = true from h)
  obtain ⟨b, h3, h4⟩ := jg hr h2
  obtain ⟨kd, n, rfl, h5⟩ := Zax h4
  obtain ⟨v, h6, h7⟩ := jaS h5
  exact OpT.now (fun call => by simp only [vop, h1, h3, h6]) h7
 | fieldAddr t x f =>
  obtain ⟨a, h1, h2⟩ := jg hr (show (JA mask Jb x).run fr ls _ = true from h)
  obtain ⟨g, o, rfl, h3⟩ := Jbq h2
  obtain ⟨v, h4, h5⟩ := jaS h3
  exact OpT.now (fun call => by simp only [vop, h1, h4]) h5
 | load t x =>
  obtain ⟨a, h1, h2⟩ := jg hr (show (JA mask Jb x).run fr ls _ = true from h)
  obtain ⟨g, o, rfl, h3⟩ := Jbq h2
  obtain ⟨v, h4, h5⟩ := jbr h3
  exact OpT.now (fun call => by simp only [vop, h1, h4]) h5
 | store t x v =>
  obtain ⟨a, h1, h2⟩ := jg hr (show (JA mask Jb x).run fr ls _ = true from h)
  obtain ⟨b, h3, h4⟩ := jg hr h2
  obtain ⟨g, o, rfl, h5⟩ := Jbq h4
  obtain ⟨st', h6, h7⟩ := Jep h5
  exact OpT.now (fun call => by simp only [vop, h1, h3, h6]) h7
 | alloc t =>
  simp only [kop] at h
  cases hz : jal P t with
  | none => rw [hz] at h; exact no h
  | some z => cases hs : jH P t with
   | none => rw [hz, hs] at h; exact no h
   | some n =>
    rw [hz, hs] at h
    dsimp only at h
    rw [jh] at h
    dsimp only at h
    obtain ⟨v, st', h1, h2⟩ := jcl h
    exact OpT.now (fun call => by simp only [vop, hz, hs, h1]) h2
 | box t x =>
  simp only [kop] at h
  cases hs : jH P t with
  | none => rw [hs] at h; exact no h
  | some n =>
   rw [hs] at h
   dsimp only at h
   rw [jh] at h
   obtain ⟨a, h1, h2⟩ := jg hr (show (JA mask Jb x).run fr ls _ = true from h)
   obtain ⟨v, st', h3, h4⟩ := jcl h2
   exact OpT.now (fun call => by simp only [vop, h1, hs, h3]) h4
 | build t ps =>
  obtain ⟨vs, h1, h2⟩ := JbD hr (show (Jdg mask Jb ps.toList).run fr ls _ = true from h)
  obtain ⟨v, h3, h4⟩ := jaS h2
  exact OpT.now (fun call => by simp only [vop, h1, h3]) h4
 | buildSlice t len ps =>
  simp only [kop] at h
  split at h
  ·rename_i o hps
   obtain ⟨v, h1, h2⟩ := jg hr (show (JA mask Jb o).run fr ls _ = true from h)
   obtain ⟨x, st', h3, h4⟩ := Jfu h2
   exact OpT.now (fun call => by simp only [vop, hps, ZQ, h1, h3]) h4
  ·obtain ⟨vs, h1, h2⟩ := JbD hr (show (Jdg mask Jb ps.toList).run fr ls _ = true from h)
   obtain ⟨v, st', h3, h4⟩ := ZaS h2
   rw [ZY] at h4
   exact OpT.now (fun call => by simp only [vop, h1, h3]) h4
 | makeSlice t l c =>
  obtain ⟨a, h1, h2⟩ := jg hr (show (JA mask Jb l).run fr ls _ = true from h)
  obtain ⟨b, h3, h4⟩ := jg hr h2
  obtain ⟨k1, n, rfl, h5⟩ := Zax h4
  obtain ⟨k2, m, rfl, h6⟩ := Zax h5
  obtain ⟨v, st', h7, h8⟩ := ZaS h6
  rw [ZY] at h8
  exact OpT.now (fun call => by simp only [vop, h1, h3, h7]) h8
 | slice t x lo hi mx =>
  obtain ⟨a, h1, h2⟩ := jg hr (show (JA mask Jb x).run fr ls _ = true from h)
  clear h
  rcases ZbD hr h2 with ⟨rfl, h3⟩ | ⟨o1, v1, rfl, e1, h3⟩ <;> clear h2 <;> rcases ZbD hr h3 with ⟨rfl, h4⟩ | ⟨o2, v2, rfl, e2, h4⟩ <;> clear h3 <;> rcases ZbD hr h4 with ⟨rfl, h5⟩ | ⟨o3, v3, rfl, e3, h5⟩ <;> clear h4 <;> obtain ⟨v, h6, h7⟩ := jaS h5 <;>
   exact OpT.now (fun call => by simp only [vop, Option.map_some, *]) h7
 | nilCheck x =>
  obtain ⟨a, h1, h2⟩ := jg hr (show (JA mask Jb x).run fr ls _ = true from h)
  obtain ⟨g, o, rfl, h3⟩ := Jbq h2
  exact OpT.now (fun call => by simp only [vop, h1]) h3
 | makeFunc fn first caps =>
  obtain ⟨xs, h1, h2⟩ := ZV hr (show (jaw mask Jb first.toList).run fr ls _ = true from h)
  obtain ⟨ys, h3, h4⟩ := ZV hr h2
  exact OpT.now (fun call => by simp only [vop, h1, h3]) h4
 | extract x i =>
  obtain ⟨a, h1, h2⟩ := jg hr (show (JA mask Jb x).run fr ls _ = true from h)
  obtain ⟨vs, rfl, h3⟩ := jf3 h2
  obtain ⟨v, h4, h5⟩ := jdh h3
  exact OpT.now (fun call => by simp only [vop, h1, h4]) h5
 | call c => exact zdX hr hc h
 | _ => exact no h
theorem Rel.put {nt : Nat} (hr : Rel mask Jb fr ls fr0) {dst : Option Nat} {v : Option V} {k : T V → List V → Bool} (h : (Zc5 nt mask dst).run fr ls v k = true) :
  ∃ fr0', zax nt fr0 dst v = some fr0' ∧ ∃ fr' ls', Rel mask (ZJ mask Jb dst) fr' ls' fr0' ∧ k fr' ls' = true := by
 cases dst with
 | none => exact ⟨fr0, rfl, fr, ls, hr, h⟩
 | some d =>
  simp only [Zc5] at h
  cases hd : Nat.blt d nt with
  | false => rw [hd] at h; exact no h
  | true =>
   rw [hd] at h
   have key : ∀ u : V, zax nt fr0 (some d) v = some (fr0.upd d (some u)) → (match zc5 mask d with | true => JgE (zaw d) fr u (fun fr => k fr ls) | false => k fr (u :: ls)) = true →
     ∃ fr0', zax nt fr0 (some d) v = some fr0' ∧ ∃ fr' ls', Rel mask (ZJ mask Jb (some d)) fr' ls' fr0' ∧ k fr' ls' = true := by
    intro u hu hk
    refine ⟨_, hu, ?_⟩
    simp only [ZJ]
    cases hl : zc5 mask d with
    | true =>
     rw [hl] at hk
     dsimp only at hk
     rw [jfu] at hk
     refine ⟨fr.upd d (some u), ls, ⟨fun t v ht hg => ?_, fun t j v hp hj => ?_, hr.sep⟩, hk⟩
     ·rw [T.get_upd] at hg ⊢
      by_cases e : t = d
      ·rw [if_pos e] at hg ⊢; exact hg
      ·rw [if_neg e] at hg ⊢; exact hr.tree t v ht hg
     ·by_cases e : t = d
      ·subst e; rw [hr.sep t j hp] at hl; cases hl
      ·rw [T.get_upd, if_neg e]; exact hr.loc t j v hp hj
    | false =>
     rw [hl] at hk
     refine ⟨fr, u :: ls, ⟨fun t v ht hg => ?_, fun t j v hp hj => ?_, fun t j hp => ?_⟩, hk⟩
     ·rw [T.get_upd]
      by_cases e : t = d
      ·subst e; rw [hl] at ht; cases ht
      ·rw [if_neg e]; exact hr.tree t v ht hg
     ·simp only [zdt] at hp
      rw [T.get_upd]
      cases hq : Nat.beq d t with
      | true =>
       rw [hq] at hp
       obtain rfl := Option.some.inj hp
       rw [Nat.beq_eq] at hq
       rw [if_pos hq.symm]
       simpa using hj
      | false =>
       rw [hq] at hp
       have hne : t ≠ d := fun e => by subst e; rw [Nat.beq_refl] at hq; cases hq
       rw [if_neg hne]
       cases hq2 : zdt Jb t with
       | none => rw [hq2] at hp; cases hp
       | some i =>
        rw [hq2] at hp
        obtain rfl := Option.some.inj hp
        exact hr.loc t i v hq2 (by simpa using hj)
     ·simp only [zdt] at hp
      cases hq : Nat.beq d t with
      | true => rw [Nat.beq_eq] at hq; subst hq; exact hl
      | false =>
       rw [hq] at hp
       cases hq2 : zdt Jb t with
       | none => rw [hq2] at hp; cases hp
       | some i => exact hr.sep t i hq2
   cases v with
   | none => exact key JgF (by simp only [zax, hd, cond_true]; rfl) (by cases hl : zc5 mask d <;> (rw [hl] at h; exact h))
   | some u => exact key u (by simp only [zax, hd, cond_true, V.force_eq]) (by cases hl : zc5 mask d <;> (rw [hl] at h; exact h))
end
end Go.Vk
