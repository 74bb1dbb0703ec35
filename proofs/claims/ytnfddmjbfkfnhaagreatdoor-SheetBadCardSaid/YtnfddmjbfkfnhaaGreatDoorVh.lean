/-
  The faster evaluator tells nothing but what the evaluator tells: operations, one behind the other. Nothing is claimed here.
-/
import Derived.Test.YtnfddmjbfkfnhaaGreatDoorVi4
namespace Go.Vk
open Go.Vm

section
variable {P : Program} {ov : Ov} {cf : Nat → CallF} {ro mask : Nat} {names : List Nat} {fr fr0 : T V} {ls : List V} {st : St}

def KOKc (cf : Nat → CallF) (call : KCall) : Prop :=
  ∀ f args st k, call f args st k = true → ∃ v st', Even (fun m => cf m f args st) (v, st') ∧ k v st' = true
abbrev KOK (P : Program) (ov : Ov) (ro : Nat) (call : KCall) : Prop := KOKc (evF P ov ro) call

/-- What an operation comes to. -/
def OpT (P : Program) (cf : Nat → CallF) (ro : Nat) (fr0 : T V) (st : St) (op : Op) (k : Option V → St → Bool) : Prop :=
  ∃ v st', Even (fun m => vop P ro (cf m) fr0 st op) (v, st') ∧ k v st' = true
theorem OpT.now {op : Op} {k : Option V → St → Bool} {v : Option V} {st' : St} (h : ∀ call, vop P ro call fr0 st op = some (v, st')) (hk : k v st' = true) : OpT P cf ro fr0 st op k :=
  ⟨v, st', ⟨0, fun _ _ => h _⟩, hk⟩

theorem onTwo_true {l : List V} {k : V → V → Bool} (h : onTwo l k = true) : ∃ x y, l = [x, y] ∧ k x y = true := by
  cases l with
  | nil => exact no h
  | cons x r => cases r with
    | nil => exact no h
    | cons y r => cases r with
      | nil => exact ⟨x, y, rfl, h⟩
      | cons _ _ => exact no h
theorem onOne_true {l : List V} {k : V → Bool} (h : onOne l k = true) : ∃ x, l = [x] ∧ k x = true := by
  cases l with
  | nil => exact no h
  | cons x r => cases r with
    | nil => exact ⟨x, rfl, h⟩
    | cons _ _ => exact no h

theorem kother_true (hr : Rel mask names fr ls fr0) {xs : Array Operand} {b : Builtin} {ts : Array TypeId} {call : KCall} {k : Option V → St → Bool} (h : (kother P ro (kopnds mask names xs.toList) b ts.toList).run call fr ls st k = true) :
    OpT P cf ro fr0 st (.call ⟨.builtin b, xs, ts⟩) k := by
  obtain ⟨args, h1, h2⟩ := kopnds_true hr (show (kopnds mask names xs.toList).run fr ls _ = true from h)
  obtain ⟨v, st', h3, h4⟩ := optSt_true h2
  rw [forceK_eq] at h4
  exact OpT.now (fun call => by simp only [vop, h1, h3]) h4

theorem kbuiltin_true (hr : Rel mask names fr ls fr0) {xs : Array Operand} {b : Builtin} {ts : Array TypeId} {call : KCall} {k : Option V → St → Bool} (h : (kbuiltin P ro (kopnds mask names xs.toList) b ts.toList).run call fr ls st k = true) :
    OpT P cf ro fr0 st (.call ⟨.builtin b, xs, ts⟩) k := by
  unfold kbuiltin at h
  split at h
  · rename_i t u hts
    split at h
    · exact no h
    · rename_i d hni hu
      obtain ⟨args, h1, h2⟩ := kopnds_true hr (show (kopnds mask names xs.toList).run fr ls _ = true from h)
      obtain ⟨s, x, rfl, h3⟩ := onTwo_true h2
      have hb : vbuiltin P ro .append [t, u] [s, x] st = vappend P ro st t s x := by
        simp only [vbuiltin, hu]
      have slow : (optSt (vappend P ro st t s x) fun v st => forceK v fun v => k (some v) st) = true → OpT P cf ro fr0 st (.call ⟨.builtin .append, xs, ts⟩) k := by
        intro h3
        obtain ⟨v, st', h4, h5⟩ := optSt_true h3
        rw [forceK_eq] at h5
        exact OpT.now (fun call => by simp only [vop, h1, hts, hb, h4]) h5
      rcases onSe_true h3 with ⟨_, h3⟩ | h3
      · exact slow h3
      rcases onSe_true h3 with ⟨_, h3⟩ | h3
      · exact slow h3
      obtain ⟨v, st', h4, h5⟩ := kappend_true h3
      refine OpT.now (fun call => ?_) h5
      simp only [vop, h1, hts, hb, h4]
    · exact no h
  · rename_i t hts
    split at h
    · rename_i hu
      obtain ⟨args, h1, h2⟩ := kopnds_true hr (show (kopnds mask names xs.toList).run fr ls _ = true from h)
      obtain ⟨x, rfl, h3⟩ := onOne_true h2
      obtain ⟨l, y, rfl, h4⟩ := onS_true h3
      exact OpT.now (fun call => by simp only [vop, h1, hts, vbuiltin, vlenOp, hu]) h4
    · rename_i e hu
      obtain ⟨args, h1, h2⟩ := kopnds_true hr (show (kopnds mask names xs.toList).run fr ls _ = true from h)
      obtain ⟨x, rfl, h3⟩ := onOne_true h2
      rcases onSe_true h3 with ⟨⟨g, o, q, rfl⟩ | ⟨a, rfl⟩ | ⟨g, o, q, rfl⟩, h4⟩ | h3
      · exact OpT.now (fun call => by simp only [vop, h1, hts, vbuiltin, vlenOp, hu]; rfl) h4
      · exact OpT.now (fun call => by simp only [vop, h1, hts, vbuiltin, vlenOp, hu]; rfl) h4
      · exact OpT.now (fun call => by simp only [vop, h1, hts, vbuiltin, vlenOp, hu]; rfl) h4
      rcases onSl_true h3 with ⟨id, off, l, c, op, rfl, h4⟩ | ⟨rfl, h4⟩ | ⟨_, _, _, h4⟩
      · exact OpT.now (fun call => by simp only [vop, h1, hts, vbuiltin, vlenOp, hu]) h4
      · exact OpT.now (fun call => by simp only [vop, h1, hts, vbuiltin, vlenOp, hu]; rfl) h4
      · exact no h4
    · have h' : (kother P ro (kopnds mask names xs.toList) .len ts.toList).run call fr ls st k = true := h
      exact kother_true hr h'
  · exact kother_true hr h

theorem kcallee_true (hr : Rel mask names fr ls fr0) {c : Call} {call : KCall} (hc : KOKc cf call) {k : Option V → St → Bool} (h : (kcallee P ro mask names (kopnds mask names c.args.toList) c.argTypes.toList c.callee).run call fr ls st k = true) :
    OpT P cf ro fr0 st (.call c) k := by
  obtain ⟨callee, xs, ts⟩ := c
  cases callee with
  | builtin b => exact kbuiltin_true hr h
  | invoke _ _ => exact no h
  | value o =>
    have slow : (∀ f, o ≠ .func f) → OpT P cf ro fr0 st (.call ⟨.value o, xs, ts⟩) k := by
      intro hno
      have h' : (kopnds mask names xs.toList).run fr ls (fun args => (kopnd mask names o).run fr ls fun g => onF g fun fn first caps => match fn with
        | .func f => call f (first ++ args ++ caps) st fun v st => k (some v) st
        | _ => false) = true := by
        cases o with
        | func f => exact absurd rfl (hno f)
        | _ => exact h
      obtain ⟨args, h1, h2⟩ := kopnds_true hr h'
      obtain ⟨g, h3, h4⟩ := kopnd_true hr h2
      obtain ⟨fn, first, caps, rfl, h5⟩ := onF_true h4
      cases fn with
      | func f =>
        obtain ⟨v, st', ⟨m, h6⟩, h7⟩ := hc f _ st _ h5
        exact ⟨some v, st', ⟨m, fun m' hm => by dsimp only at h6; simp only [vop, h1, h3, h6 m' hm]⟩, h7⟩
      | _ => exact no h5
    cases o with
    | func f =>
      obtain ⟨args, h1, h2⟩ := kopnds_true hr (show (kopnds mask names xs.toList).run fr ls _ = true from h)
      obtain ⟨v, st', ⟨m, h3⟩, h4⟩ := hc f args st _ h2
      exact ⟨some v, st', ⟨m, fun m' hm => by dsimp only at h3; simp only [vop, h1, opnd, List.nil_append, List.append_nil, h3 m' hm]⟩, h4⟩
    | _ => exact slow (fun f e => by cases e)

theorem spineK_eq : ∀ (l : List (V × V)) (k : List (V × V) → Bool), spineK l k = k l
  | [], k => rfl
  | (a, b) :: r, k => by
    show forceK a (fun a => forceK b fun b => spineK r fun r => k ((a, b) :: r)) = _
    rw [forceK_eq, forceK_eq, spineK_eq r]
theorem vmapUpdate_shape {t : TypeId} {g : Nat} {x y : V} {st' : St} (h : vmapUpdate P ro st t (.m g) x y = some st') : ∃ b l, st' = st.write g b ∧ b.mp = some l := by
  unfold vmapUpdate at h
  split at h
  · rename_i kt et g' hd e
    cases e
    split at h
    · rename_i b hg
      split at h
      · rename_i es hm
        cases hc : ckV P kt x with
        | false => rw [hc] at h; cases h
        | true =>
          rw [hc, cond_true] at h
          split at h
          · rename_i i v hf
            split at h
            · rename_i e he
              cases hs : sameKey e.1 x with
              | false => rw [hs] at h; cases h
              | true =>
                rw [hs, cond_true, Option.some.injEq] at h
                exact ⟨_, _, h.symm, rfl⟩
            · cases h
          · rw [Option.some.injEq] at h
            exact ⟨_, _, h.symm, rfl⟩
          · cases h
      · cases h
    · cases h
  · cases h
theorem kmapUpd_true {t : TypeId} {m x y : V} {k : Option V → St → Bool} (h : kmapUpd P ro t m x y st k = true) : ∃ st', vmapUpdate P ro st t m x y = some st' ∧ k none st' = true := by
  cases m with
  | m g =>
    have h : (match vmapUpdate P ro st t (.m g) x y with
      | some st' => blkK st' g fun b => onBlkM b fun cs zero sz es op mp => match mp with
        | some l => spineK l fun l => writeK st g (some ⟨cs, zero, sz, es, op, some l⟩) fun st => k none st
        | none => false
      | none => false) = true := h
    cases hu : vmapUpdate P ro st t (.m g) x y with
    | none => rw [hu] at h; cases h
    | some st' =>
      rw [hu] at h
      dsimp only at h
      obtain ⟨b0, l0, rfl, hb0⟩ := vmapUpdate_shape hu
      obtain ⟨b, h1, h2⟩ := blkK_true h
      rw [St.write_eq] at h1
      dsimp only at h1
      rw [T.get_upd, if_pos rfl, Option.some.injEq] at h1
      subst h1
      rw [onBlkM_eq, hb0] at h2
      dsimp only at h2
      rw [spineK_eq, writeK_eq] at h2
      refine ⟨_, rfl, ?_⟩
      have e : (⟨b0.cs, b0.zero, b0.sz, b0.es, b0.op, some l0⟩ : Blk) = b0 := by rw [← hb0]
      rw [e] at h2
      exact h2
  | _ => cases h
theorem kop_true (hr : Rel mask names fr ls fr0) {call : KCall} (hc : KOKc cf call) {op : Op} {k : Option V → St → Bool} (h : (kop P ro mask names op).run call fr ls st k = true) : OpT P cf ro fr0 st op k := by
  cases op with
  | move x =>
    obtain ⟨v, h1, h2⟩ := kopnd_true hr (show (kopnd mask names x).run fr ls _ = true from h)
    exact OpT.now (fun call => by simp only [vop, h1]) h2
  | assign x =>
    obtain ⟨v, h1, h2⟩ := kopnd_true hr (show (kopnd mask names x).run fr ls _ = true from h)
    exact OpT.now (fun call => by simp only [vop, h1]) h2
  | pick c a b =>
    obtain ⟨v, h1, h2⟩ := kopnd_true hr (show (kopnd mask names c).run fr ls _ = true from h)
    rcases onB_true h2 with ⟨rfl, h3⟩ | ⟨rfl, h3⟩
    · obtain ⟨v, h4, h5⟩ := kopnd_true hr h3
      exact OpT.now (fun call => by simp only [vop, h1, cond_true, h4]) h5
    · obtain ⟨v, h4, h5⟩ := kopnd_true hr h3
      exact OpT.now (fun call => by simp only [vop, h1, cond_false, h4]) h5
  | binOp op t x y u =>
    obtain ⟨a, h1, h2⟩ := kopnd_true hr (show (kopnd mask names x).run fr ls _ = true from h)
    obtain ⟨b, h3, h4⟩ := kopnd_true hr h2
    obtain ⟨v, h5, h6⟩ := kbin_true h4
    exact OpT.now (fun call => by simp only [vop, h1, h3, h5]) h6
  | unOp op t x =>
    obtain ⟨a, h1, h2⟩ := kopnd_true hr (show (kopnd mask names x).run fr ls _ = true from h)
    obtain ⟨v, h3, h4⟩ := optV_true h2
    exact OpT.now (fun call => by simp only [vop, h1, h3]) h4
  | convert s d x =>
    obtain ⟨a, h1, h2⟩ := kopnd_true hr (show (kopnd mask names x).run fr ls _ = true from h)
    obtain ⟨v, st', h3, h4⟩ := kconv2_true h2
    exact OpT.now (fun call => by simp only [vop, h1, h3]) h4
  | field t x f =>
    obtain ⟨a, h1, h2⟩ := kopnd_true hr (show (kopnd mask names x).run fr ls _ = true from h)
    obtain ⟨v, h3, h4⟩ := optV_true h2
    exact OpT.now (fun call => by simp only [vop, h1, h3]) h4
  | index t x i =>
    obtain ⟨a, h1, h2⟩ := kopnd_true hr (show (kopnd mask names x).run fr ls _ = true from h)
    obtain ⟨b, h3, h4⟩ := kopnd_true hr h2
    obtain ⟨kd, n, v, rfl, h5, h6⟩ := kindex_true h4
    exact OpT.now (fun call => by simp only [vop, h1, h3, h5]) h6
  | indexAddr t x i =>
    obtain ⟨a, h1, h2⟩ := kopnd_true hr (show (kopnd mask names x).run fr ls _ = true from h)
    obtain ⟨b, h3, h4⟩ := kopnd_true hr h2
    obtain ⟨kd, n, rfl, h5⟩ := onI_true h4
    obtain ⟨v, h6, h7⟩ := optV_true h5
    exact OpT.now (fun call => by simp only [vop, h1, h3, h6]) h7
  | fieldAddr t x f =>
    obtain ⟨a, h1, h2⟩ := kopnd_true hr (show (kopnd mask names x).run fr ls _ = true from h)
    obtain ⟨g, o, rfl, h3⟩ := onP_true h2
    obtain ⟨v, h4, h5⟩ := optV_true h3
    exact OpT.now (fun call => by simp only [vop, h1, h4]) h5
  | load t x =>
    obtain ⟨a, h1, h2⟩ := kopnd_true hr (show (kopnd mask names x).run fr ls _ = true from h)
    obtain ⟨g, o, rfl, h3⟩ := onP_true h2
    obtain ⟨v, h4, h5⟩ := kload_true h3
    exact OpT.now (fun call => by simp only [vop, h1, h4]) h5
  | store t x v =>
    obtain ⟨a, h1, h2⟩ := kopnd_true hr (show (kopnd mask names x).run fr ls _ = true from h)
    obtain ⟨b, h3, h4⟩ := kopnd_true hr h2
    obtain ⟨g, o, rfl, h5⟩ := onP_true h4
    obtain ⟨st', h6, h7⟩ := kstore_true h5
    exact OpT.now (fun call => by simp only [vop, h1, h3, h6]) h7
  | alloc t =>
    simp only [kop] at h
    cases hz : zeroOf P t with
    | none => rw [hz] at h; exact no h
    | some z => cases hs : sizeB P t with
      | none => rw [hz, hs] at h; exact no h
      | some n =>
        rw [hz, hs] at h
        dsimp only at h
        rw [natF_eq] at h
        dsimp only at h
        obtain ⟨v, st', h1, h2⟩ := kvalloc_true h
        exact OpT.now (fun call => by simp only [vop, hz, hs, h1]) h2
  | box t x =>
    simp only [kop] at h
    cases hs : sizeB P t with
    | none => rw [hs] at h; exact no h
    | some n =>
      rw [hs] at h
      dsimp only at h
      rw [natF_eq] at h
      obtain ⟨a, h1, h2⟩ := kopnd_true hr (show (kopnd mask names x).run fr ls _ = true from h)
      obtain ⟨v, st', h3, h4⟩ := kvalloc_true h2
      exact OpT.now (fun call => by simp only [vop, h1, hs, h3]) h4
  | build t ps =>
    obtain ⟨vs, h1, h2⟩ := kparts_true hr (show (kparts mask names ps.toList).run fr ls _ = true from h)
    obtain ⟨v, h3, h4⟩ := optV_true h2
    exact OpT.now (fun call => by simp only [vop, h1, h3]) h4
  | buildSlice t len ps =>
    simp only [kop] at h
    split at h
    · rename_i o hps
      obtain ⟨v, h1, h2⟩ := kopnd_true hr (show (kopnd mask names o).run fr ls _ = true from h)
      obtain ⟨x, st', h3, h4⟩ := kone_true h2
      exact OpT.now (fun call => by simp only [vop, hps, partsOf, h1, h3]) h4
    · obtain ⟨vs, h1, h2⟩ := kparts_true hr (show (kparts mask names ps.toList).run fr ls _ = true from h)
      obtain ⟨v, st', h3, h4⟩ := optSt_true h2
      rw [forceK_eq] at h4
      exact OpT.now (fun call => by simp only [vop, h1, h3]) h4
  | makeSlice t l c =>
    obtain ⟨a, h1, h2⟩ := kopnd_true hr (show (kopnd mask names l).run fr ls _ = true from h)
    obtain ⟨b, h3, h4⟩ := kopnd_true hr h2
    obtain ⟨k1, n, rfl, h5⟩ := onI_true h4
    obtain ⟨k2, m, rfl, h6⟩ := onI_true h5
    obtain ⟨v, st', h7, h8⟩ := optSt_true h6
    rw [forceK_eq] at h8
    exact OpT.now (fun call => by simp only [vop, h1, h3, h7]) h8
  | slice t x lo hi mx =>
    obtain ⟨a, h1, h2⟩ := kopnd_true hr (show (kopnd mask names x).run fr ls _ = true from h)
    clear h
    rcases kopndO_true hr h2 with ⟨rfl, h3⟩ | ⟨o1, v1, rfl, e1, h3⟩ <;> clear h2 <;> rcases kopndO_true hr h3 with ⟨rfl, h4⟩ | ⟨o2, v2, rfl, e2, h4⟩ <;> clear h3 <;> rcases kopndO_true hr h4 with ⟨rfl, h5⟩ | ⟨o3, v3, rfl, e3, h5⟩ <;> clear h4 <;> obtain ⟨v, h6, h7⟩ := optV_true h5 <;>
      exact OpT.now (fun call => by simp only [vop, Option.map_some, *]) h7
  | nilCheck x =>
    obtain ⟨a, h1, h2⟩ := kopnd_true hr (show (kopnd mask names x).run fr ls _ = true from h)
    obtain ⟨g, o, rfl, h3⟩ := onP_true h2
    exact OpT.now (fun call => by simp only [vop, h1]) h3
  | makeFunc fn first caps =>
    obtain ⟨xs, h1, h2⟩ := kopnds_true hr (show (kopnds mask names first.toList).run fr ls _ = true from h)
    obtain ⟨ys, h3, h4⟩ := kopnds_true hr h2
    exact OpT.now (fun call => by simp only [vop, h1, h3]) h4
  | extract x i =>
    obtain ⟨a, h1, h2⟩ := kopnd_true hr (show (kopnd mask names x).run fr ls _ = true from h)
    obtain ⟨vs, rfl, h3⟩ := onT_true h2
    obtain ⟨v, h4, h5⟩ := onOpt_true h3
    exact OpT.now (fun call => by simp only [vop, h1, h4]) h5
  | call c => exact kcallee_true hr hc h
  | makeMap t r =>
    cases r with
    | some _ => exact no h
    | none =>
      have h' : allocK st ⟨.e, [], 0, 0, false, some []⟩ (fun nx st => k (some (.m nx)) st) = true := h
      rw [allocK_eq] at h'
      exact OpT.now (fun call => by simp only [vop, vmakeMap, natF_eq]) h'
  | lookup t x y ok =>
    obtain ⟨a, h1, h2⟩ := kopnd_true hr (show (kopnd mask names x).run fr ls _ = true from h)
    obtain ⟨b, h3, h4⟩ := kopnd_true hr h2
    obtain ⟨v, h5, h6⟩ := optV_true h4
    exact OpT.now (fun call => by simp only [vop, h1, h3, h5]) h6
  | mapUpdate t m x y =>
    obtain ⟨c, h1, h2⟩ := kopnd_true hr (show (kopnd mask names m).run fr ls _ = true from h)
    obtain ⟨a, h3, h4⟩ := kopnd_true hr h2
    obtain ⟨b, h5, h6⟩ := kopnd_true hr h4
    obtain ⟨st', h7, h8⟩ := kmapUpd_true h6
    exact OpT.now (fun call => by simp only [vop, h1, h3, h5, h7]) h8
  | _ => exact no h

/-! ### One behind the other -/

theorem Rel.put {nt : Nat} (hr : Rel mask names fr ls fr0) {dst : Option Nat} {v : Option V} {k : T V → List V → Bool} (h : (kput nt mask dst).run fr ls v k = true) :
    ∃ fr0', vput nt fr0 dst v = some fr0' ∧ ∃ fr' ls', Rel mask (namesOf mask names dst) fr' ls' fr0' ∧ k fr' ls' = true := by
  cases dst with
  | none => exact ⟨fr0, rfl, fr, ls, hr, h⟩
  | some d =>
    simp only [kput] at h
    cases hd : Nat.blt d nt with
    | false => rw [hd] at h; exact no h
    | true =>
      rw [hd] at h
      have key : ∀ u : V, vput nt fr0 (some d) v = some (fr0.upd d (some u)) → (match liveB mask d with | true => updK (pathOf d) fr u (fun fr => k fr ls) | false => k fr (u :: ls)) = true →
          ∃ fr0', vput nt fr0 (some d) v = some fr0' ∧ ∃ fr' ls', Rel mask (namesOf mask names (some d)) fr' ls' fr0' ∧ k fr' ls' = true := by
        intro u hu hk
        refine ⟨_, hu, ?_⟩
        simp only [namesOf]
        cases hl : liveB mask d with
        | true =>
          rw [hl] at hk
          dsimp only at hk
          rw [updK_eq] at hk
          refine ⟨fr.upd d (some u), ls, ⟨fun t v ht hg => ?_, fun t j v hp hj => ?_, hr.sep⟩, hk⟩
          · rw [T.get_upd] at hg ⊢
            by_cases e : t = d
            · rw [if_pos e] at hg ⊢; exact hg
            · rw [if_neg e] at hg ⊢; exact hr.tree t v ht hg
          · by_cases e : t = d
            · subst e; rw [hr.sep t j hp] at hl; cases hl
            · rw [T.get_upd, if_neg e]; exact hr.loc t j v hp hj
        | false =>
          rw [hl] at hk
          refine ⟨fr, u :: ls, ⟨fun t v ht hg => ?_, fun t j v hp hj => ?_, fun t j hp => ?_⟩, hk⟩
          · rw [T.get_upd]
            by_cases e : t = d
            · subst e; rw [hl] at ht; cases ht
            · rw [if_neg e]; exact hr.tree t v ht hg
          · simp only [posOf] at hp
            rw [T.get_upd]
            cases hq : Nat.beq d t with
            | true =>
              rw [hq] at hp
              obtain rfl := Option.some.inj hp
              rw [Nat.beq_eq] at hq
              rw [if_pos hq.symm]
              simpa using hj
            | false =>
              rw [hq] at hp
              have hne : t ≠ d := fun e => by subst e; rw [Nat.beq_refl] at hq; cases hq
              rw [if_neg hne]
              cases hq2 : posOf names t with
              | none => rw [hq2] at hp; cases hp
              | some i =>
                rw [hq2] at hp
                obtain rfl := Option.some.inj hp
                exact hr.loc t i v hq2 (by simpa using hj)
          · simp only [posOf] at hp
            cases hq : Nat.beq d t with
            | true => rw [Nat.beq_eq] at hq; subst hq; exact hl
            | false =>
              rw [hq] at hp
              cases hq2 : posOf names t with
              | none => rw [hq2] at hp; cases hp
              | some i => exact hr.sep t i hq2
      cases v with
      | none => exact key vNone (by simp only [vput, hd, cond_true]; rfl) (by cases hl : liveB mask d <;> (rw [hl] at h; exact h))
      | some u => exact key u (by simp only [vput, hd, cond_true, V.force_eq]) (by cases hl : liveB mask d <;> (rw [hl] at h; exact h))
end
end Go.Vk
