/-
  x.F = append(x.F, v): what either way does. Plain lemmas. Nothing is claimed here.
-/
import Derived.Test.YtnfddmjbfkfnhaaGreatDoorVf
namespace Go.Vm
open Go.RowKit

section
variable {P : Program} {ro nt : Nat} {call : CallF} {ops : Array Oper}

/-- One operation of a plan. -/
def stepO (P : Program) (ro nt : Nat) (call : CallF) (ops : Array Oper) (i : Nat) (o : Oper) (es : List Ent) (fr : T V) (st : St) : Option (List Ent × T V × St) :=
  match vwanted ops fr o with
  | some true => match opCls o.op with
    | 0 => match vop P ro call fr ⟨st.nx, .e, 0⟩ o.op with
      | some (v, _) => match vput nt fr o.dst v with
        | some fr => some (es, fr, st)
        | none => none
      | none => none
    | 1 => match o.op with
      | .load t x => match opnd fr x with
        | some (.p id off) => match vload P st t id off with
          | some v => match vput nt fr o.dst (some v) with
            | some fr => some (⟨i, t, id, off, v⟩ :: es, fr, st)
            | none => none
          | none => none
        | _ => none
      | _ => none
    | _ => match vop P ro call fr ⟨st.nx, st.hp, st.nx⟩ o.op with
      | some (v, st') => match Nat.ble st.nx st'.ver || keepB P st' (aliveE ops i es) with
        | true => match vput nt fr o.dst v with
          | some fr => some (aliveE ops i es, fr, ⟨st'.nx, st'.hp, low st.ver st'.ver⟩)
          | none => none
        | false => none
      | none => none
  | some false => match vput nt fr o.dst none with
    | some fr => some (es, fr, st)
    | none => none
  | none => none

theorem runO_cons {i : Nat} {o : Oper} {r : List (Nat × Oper)} {es : List Ent} {fr : T V} {st : St} : runO P ro nt call ops ((i, o) :: r) es fr st = match stepO P ro nt call ops i o es fr st with
    | some (es, fr, st) => runO P ro nt call ops r es fr st
    | none => none := by
  simp only [runO, stepO, natF_eq]
  cases hw : vwanted ops fr o with
  | none => rfl
  | some x =>
    cases x with
    | false => cases vput nt fr o.dst none <;> rfl
    | true =>
      dsimp only
      rcases hc : opCls o.op with _ | _ | k
      · cases vop P ro call fr ⟨st.nx, .e, 0⟩ o.op with
        | none => rfl
        | some q => obtain ⟨v, s⟩ := q; dsimp only; cases vput nt fr o.dst v <;> rfl
      · simp only [Nat.zero_add]
        cases o.op with
        | load t x =>
          dsimp only
          cases opnd fr x with
          | none => rfl
          | some u =>
            cases u with
            | p id off =>
              dsimp only
              cases vload P st t id off with
              | none => rfl
              | some v => dsimp only; cases vput nt fr o.dst (some v) <;> rfl
            | _ => rfl
        | _ => rfl
      · cases vop P ro call fr ⟨st.nx, st.hp, st.nx⟩ o.op with
        | none => rfl
        | some q =>
          obtain ⟨v, s⟩ := q
          dsimp only
          cases (Nat.ble st.nx s.ver || keepB P s (aliveE ops i es)) with
          | false => rfl
          | true => dsimp only; cases vput nt fr o.dst v <;> rfl

theorem runO_split : ∀ {l1 l2 : List (Nat × Oper)} {es : List Ent} {fr : T V} {st : St} {R : T V × St}, runO P ro nt call ops (l1 ++ l2) es fr st = some R → ∃ es1 fr1 st1, runO P ro nt call ops l1 es fr st = some (fr1, st1) ∧ runO P ro nt call ops l2 es1 fr1 st1 = some R
  | [], l2, es, fr, st, R, h => ⟨es, fr, st, rfl, h⟩
  | (i, o) :: l1, l2, es, fr, st, R, h => by
    rw [List.cons_append, runO_cons] at h
    rw [runO_cons]
    cases hs : stepO P ro nt call ops i o es fr st with
    | none => rw [hs] at h; cases h
    | some q =>
      obtain ⟨es0, fr0, st0⟩ := q
      rw [hs] at h
      exact runO_split h

theorem vput_get {fr fr' : T V} {dst : Option Nat} {v : Option V} {t : Nat} (h : vput nt fr dst v = some fr') (ht : dst ≠ some t) : fr'.get t = fr.get t := by
  cases dst with
  | none => simp only [vput, Option.some.injEq] at h; rw [h]
  | some d =>
    have hne : t ≠ d := fun z => ht (by rw [z])
    simp only [vput] at h
    cases hb : Nat.blt d nt with
    | false => simp [hb] at h
    | true =>
      simp only [hb, cond_true] at h
      cases v with
      | none => simp only [Option.some.injEq] at h; rw [← h, T.get_upd, if_neg hne]
      | some v => simp only [V.force_eq, Option.some.injEq] at h; rw [← h, T.get_upd, if_neg hne]
theorem vput_self {fr fr' : T V} {d : Nat} {v : V} (h : vput nt fr (some d) (some v) = some fr') : fr'.get d = some v := by
  simp only [vput] at h
  cases hb : Nat.blt d nt with
  | false => simp [hb] at h
  | true => simp only [hb, cond_true, V.force_eq, Option.some.injEq] at h; rw [← h, T.get_upd, if_pos rfl]

theorem stepO_get {i : Nat} {o : Oper} {es es' : List Ent} {fr fr' : T V} {st st' : St} {t : Nat} (h : stepO P ro nt call ops i o es fr st = some (es', fr', st')) (ht : o.dst ≠ some t) : fr'.get t = fr.get t := by
  unfold stepO at h
  repeat' (split at h)
  all_goals first
    | (cases h; done)
    | (rename_i hp; simp only [Option.some.injEq, Prod.mk.injEq] at h; obtain ⟨_, rfl, _⟩ := h; exact vput_get hp ht)
theorem stepO_cls {i : Nat} {o : Oper} {es es' : List Ent} {fr fr' : T V} {st st' : St} (h : stepO P ro nt call ops i o es fr st = some (es', fr', st')) (hc : opCls o.op ≤ 1) : st' = st := by
  unfold stepO at h
  rcases hk : opCls o.op with _ | _ | k
  · simp only [hk] at h
    repeat' (split at h)
    all_goals first
      | (cases h; done)
      | (simp only [Option.some.injEq, Prod.mk.injEq] at h; exact h.2.2.symm)
  · simp only [hk] at h
    repeat' (split at h)
    all_goals first
      | (cases h; done)
      | (simp only [Option.some.injEq, Prod.mk.injEq] at h; exact h.2.2.symm)
  · omega
theorem runO_get {t : Nat} : ∀ {l : List (Nat × Oper)} {es : List Ent} {fr fr' : T V} {st st' : St}, runO P ro nt call ops l es fr st = some (fr', st') → (∀ x ∈ l, x.2.dst ≠ some t) → fr'.get t = fr.get t
  | [], es, fr, fr', st, st', h, _ => by simp only [runO, Option.some.injEq, Prod.mk.injEq] at h; rw [h.1]
  | (i, o) :: l, es, fr, fr', st, st', h, ht => by
    rw [runO_cons] at h
    cases hs : stepO P ro nt call ops i o es fr st with
    | none => rw [hs] at h; cases h
    | some q =>
      obtain ⟨es0, fr0, st0⟩ := q
      rw [hs] at h
      exact (runO_get h fun x hx => ht x (List.mem_cons_of_mem _ hx)).trans (stepO_get hs (ht _ (List.mem_cons_self ..)))
theorem runO_cls : ∀ {l : List (Nat × Oper)} {es : List Ent} {fr fr' : T V} {st st' : St}, runO P ro nt call ops l es fr st = some (fr', st') → (∀ x ∈ l, opCls x.2.op ≤ 1) → st' = st
  | [], es, fr, fr', st, st', h, _ => by simp only [runO, Option.some.injEq, Prod.mk.injEq] at h; exact h.2.symm
  | (i, o) :: l, es, fr, fr', st, st', h, ht => by
    rw [runO_cons] at h
    cases hs : stepO P ro nt call ops i o es fr st with
    | none => rw [hs] at h; cases h
    | some q =>
      obtain ⟨es0, fr0, st0⟩ := q
      rw [hs] at h
      exact (runO_cls h fun x hx => ht x (List.mem_cons_of_mem _ hx)).trans (stepO_cls hs (ht _ (List.mem_cons_self ..)))
theorem vops_get {t : Nat} : ∀ {l : List Oper} {fr fr' : T V} {st st' : St}, vops P ro nt call ops l fr st = some (fr', st') → (∀ x ∈ l, x.dst ≠ some t) → fr'.get t = fr.get t
  | [], fr, fr', st, st', h, _ => by simp only [vops, Option.some.injEq, Prod.mk.injEq] at h; rw [h.1]
  | o :: l, fr, fr', st, st', h, ht => by
    have hl : ∀ x ∈ l, x.dst ≠ some t := fun x hx => ht x (List.mem_cons_of_mem _ hx)
    have ho := ht o (List.mem_cons_self ..)
    simp only [vops] at h
    repeat' (split at h)
    all_goals first
      | (cases h; done)
      | (rename_i hp; exact (vops_get h hl).trans (vput_get hp ho))

theorem mem_tw {α : Type} {p : α → Bool} {x : α} : ∀ {l : List α}, x ∈ l.takeWhile p → p x = true
  | [], h => by cases h
  | a :: l, h => by
    rw [List.takeWhile_cons] at h
    split at h
    · rename_i hp
      rcases List.mem_cons.1 h with rfl | h
      · exact hp
      · exact mem_tw h
    · cases h
theorem tailOf_spec {l : List (Nat × Oper)} {q : TailI} (h : tailOf l = some q) : l = q.pre ++ (q.i1, q.o1) :: (q.i2, q.o2) :: (q.ad ++ [(q.i3, q.o3)]) ∧ (∀ x ∈ q.pre, opCls x.2.op ≤ 1) ∧ (∀ x ∈ q.ad, opCls x.2.op = 0 ∧ x.2.dst ≠ some q.r) ∧
    q.o1.guard = none ∧ q.o1.dst = some q.z ∧ q.o1.op = .buildSlice q.tl 1 q.ps ∧ q.o2.guard = none ∧ q.o2.dst = some q.r ∧ (∃ args tys, q.o2.op = .call ⟨.builtin .append, args, tys⟩ ∧ args.toList = [q.cur, .tmp q.z] ∧ tys.toList = [q.tl, q.tl]) ∧
    q.o3.guard = none ∧ q.o3.dst = none ∧ q.o3.op = .store q.t q.x (.tmp q.r) := by
  unfold tailOf at h
  split at h
  · rename_i i1 o1 i2 o2 rest hdw
    split at h
    · rename_i i3 o3 hlast
      split at h
      · rename_i z tl ps r args tys t x r' e1 e2 e3 e4 e5 e6 e7 e8 e9
        split at h
        · rename_i cur z' u1 u2 ha ht
          cases hc : (Nat.beq z z' && Nat.beq r r' && decide (u1 = tl) && decide (u2 = tl) && rest.dropLast.all (cls0 r)) with
          | false => simp [hc] at h
          | true =>
            simp only [hc, cond_true, Option.some.injEq] at h
            subst h
            simp only [Bool.and_eq_true, Nat.beq_eq, decide_eq_true_eq] at hc
            obtain ⟨⟨⟨⟨rfl, rfl⟩, rfl⟩, rfl⟩, hall⟩ := hc
            have hrest : rest = rest.dropLast ++ [(i3, o3)] := by
              have hne : rest ≠ [] := fun z => by rw [z] at hlast; cases hlast
              have h1 := List.dropLast_concat_getLast hne
              have h2 : rest.getLast hne = (i3, o3) := by
                have := List.getLast?_eq_some_getLast hne
                rw [this] at hlast
                exact Option.some.inj hlast
              rw [h2] at h1
              exact h1.symm
            refine ⟨?_, ?_, ?_, e1, e2, e3, e4, e5, ⟨args, tys, e6, ha, ht⟩, e7, e8, e9⟩
            · dsimp only
              rw [← hrest, ← hdw, List.takeWhile_append_dropWhile]
            · intro y hy
              have hp := mem_tw hy
              unfold clsL at hp
              rw [Nat.ble_eq] at hp
              exact hp
            · intro y hy
              have hp := List.all_eq_true.1 hall y hy
              unfold cls0 at hp
              simp only [Bool.and_eq_true, Nat.beq_eq] at hp
              refine ⟨hp.1, fun z => ?_⟩
              have := hp.2
              rw [z] at this
              simp at this
        · cases h
      · cases h
    · cases h
  · cases h

theorem stepO_two {i : Nat} {o : Oper} {es es' : List Ent} {fr fr' : T V} {st st' : St} (h : stepO P ro nt call ops i o es fr st = some (es', fr', st')) (hg : o.guard = none) (hc : 2 ≤ opCls o.op) :
    ∃ v s, vop P ro call fr ⟨st.nx, st.hp, st.nx⟩ o.op = some (v, s) ∧ vput nt fr o.dst v = some fr' ∧ st' = ⟨s.nx, s.hp, low st.ver s.ver⟩ := by
  unfold stepO at h
  have hw : vwanted ops fr o = some true := by unfold vwanted; rw [hg]
  rw [hw] at h
  rcases hk : opCls o.op with _ | _ | k
  · omega
  · omega
  · simp only [hk] at h
    cases hv : vop P ro call fr ⟨st.nx, st.hp, st.nx⟩ o.op with
    | none => simp [hv] at h
    | some q =>
      obtain ⟨v, s⟩ := q
      simp only [hv] at h
      cases hb : (Nat.ble st.nx s.ver || keepB P s (aliveE ops i es)) with
      | false => simp [hb] at h
      | true =>
        simp only [hb] at h
        cases hp : vput nt fr o.dst v with
        | none => simp [hp] at h
        | some f =>
          simp only [hp, Option.some.injEq, Prod.mk.injEq] at h
          obtain ⟨_, rfl, rfl⟩ := h
          exact ⟨v, s, rfl, hp, rfl⟩

/-- What such an end does: a row of one, append, a store. -/
theorem tail_inv {l : List (Nat × Oper)} {q : TailI} (hq : tailOf l = some q) {fr fr' : T V} {st st' : St} (h : runO P ro nt call ops l [] fr st = some (fr', st')) :
    ∃ fr1 st1 b c rv s2 g o s3, runO P ro nt call ops (q.pre ++ [(q.i1, q.o1)]) [] fr st = some (fr1, st1) ∧ st1.hp = st.hp.upd st.nx (some b) ∧ opnd fr1 q.cur = some c ∧ st1.nx = st.nx + 1 ∧ b.mp = none ∧
      vappend P ro ⟨st.nx + 1, st.hp.upd st.nx (some b), st.nx + 1⟩ q.tl c (.sl st.nx 0 1 1 false) = some (rv, s2) ∧ fr'.get q.r = some rv ∧ opnd fr' q.x = some (.p g o) ∧
      vstore P ro ⟨s2.nx, s2.hp, s2.nx⟩ q.t g o rv = some s3 ∧ st'.nx = s3.nx ∧ st'.hp = s3.hp := by
  obtain ⟨hl, hpre, had, g1, d1, o1, g2, d2, ⟨args, tys, o2, ha, ht⟩, g3, d3, o3⟩ := tailOf_spec hq
  rw [hl] at h
  have h' : runO P ro nt call ops ((q.pre ++ [(q.i1, q.o1)]) ++ ((q.i2, q.o2) :: (q.ad ++ [(q.i3, q.o3)]))) [] fr st = some (fr', st') := by
    rw [List.append_assoc]; exact h
  obtain ⟨es1, fr1, st1, r1, r2⟩ := runO_split h'
  obtain ⟨es0, fr0, st0, r3, r4⟩ := runO_split r1
  have e0 : st0 = st := runO_cls r3 hpre
  subst e0
  rw [runO_cons] at r4
  cases hs : stepO P ro nt call ops q.i1 q.o1 es0 fr0 st0 with
  | none => rw [hs] at r4; cases r4
  | some u =>
    obtain ⟨es1', fr1', st1'⟩ := u
    rw [hs] at r4
    simp only [runO, Option.some.injEq, Prod.mk.injEq] at r4
    obtain ⟨rfl, rfl⟩ := r4
    obtain ⟨v, s, v1, v2, v3⟩ := stepO_two hs g1 (by rw [o1]; simp [opCls, quietOp])
    rw [o1] at v1
    simp only [vop] at v1
    cases hps : partsOf fr0 q.ps.toList with
    | none => simp [hps] at v1
    | some pv =>
      simp only [hps] at v1
      cases hvb : vbuildSlice P ⟨st0.nx, st0.hp, st0.nx⟩ q.tl 1 pv with
      | none => simp [hvb] at v1
      | some u =>
        obtain ⟨x, sx⟩ := u
        simp only [hvb, Option.some.injEq, Prod.mk.injEq] at v1
        obtain ⟨rfl, rfl⟩ := v1
        obtain ⟨e, n, cs, b, b1, b2, b3⟩ := vbuildSlice_fine hvb
        rw [b2] at hvb
        simp only [Option.some.injEq, Prod.mk.injEq] at hvb
        obtain ⟨rfl, rfl⟩ := hvb
        rw [d1] at v2
        rw [runO_cons] at r2
        cases hs2 : stepO P ro nt call ops q.i2 q.o2 es1 fr1' st1' with
        | none => rw [hs2] at r2; cases r2
        | some u2 =>
          obtain ⟨es2, fr2, st2⟩ := u2
          rw [hs2] at r2
          obtain ⟨v', s', w1, w2, w3⟩ := stepO_two hs2 g2 (by rw [o2]; simp [opCls, quietOp])
          rw [o2] at w1
          simp only [vop, ha] at w1
          cases hops : opnds fr1' [q.cur, .tmp q.z] with
          | none => simp [hops] at w1
          | some vs =>
            simp only [opnds] at hops
            cases hc : opnd fr1' q.cur with
            | none => simp [hc] at hops
            | some c =>
              have hz : opnd fr1' (.tmp q.z) = some (.sl st0.nx 0 1 1 false) := vput_self v2
              simp only [hc, hz, Option.some.injEq] at hops
              subst hops
              simp only [opnds, hc, hz, vbuiltin, ht] at w1
              cases hu : P.underlying q.tl with
              | none => simp [hu] at w1
              | some und =>
                have w1' : (match vappend P ro ⟨st1'.nx, st1'.hp, st1'.nx⟩ q.tl c (.sl st0.nx 0 1 1 false) with | some (v, st) => some (some v, st) | none => none) = some (v', s') := by
                  cases und <;> simp only [hu, reduceCtorEq] at w1 <;> exact w1
                have hst1 : (⟨st1'.nx, st1'.hp, st1'.nx⟩ : St) = ⟨st0.nx + 1, st0.hp.upd st0.nx (some b), st0.nx + 1⟩ := by rw [v3]; rfl
                rw [hst1] at w1'
                cases hap : vappend P ro ⟨st0.nx + 1, st0.hp.upd st0.nx (some b), st0.nx + 1⟩ q.tl c (.sl st0.nx 0 1 1 false) with
                | none => simp [hap] at w1'
                | some ra =>
                  obtain ⟨rv, s2⟩ := ra
                  simp only [hap, Option.some.injEq, Prod.mk.injEq] at w1'
                  obtain ⟨rfl, rfl⟩ := w1'
                  rw [d2] at w2
                  obtain ⟨es3, fr3, st3, r5, r6⟩ := runO_split r2
                  have e3 : st3 = st2 := runO_cls r5 fun y hy => by rw [(had y hy).1]; exact Nat.zero_le _
                  subst e3
                  have hr3 : fr3.get q.r = some rv := (runO_get r5 fun y hy => (had y hy).2).trans (vput_self w2)
                  rw [runO_cons] at r6
                  cases hs3 : stepO P ro nt call ops q.i3 q.o3 es3 fr3 st3 with
                  | none => rw [hs3] at r6; cases r6
                  | some u3 =>
                    obtain ⟨es4, fr4, st4⟩ := u3
                    rw [hs3] at r6
                    simp only [runO, Option.some.injEq, Prod.mk.injEq] at r6
                    obtain ⟨rfl, rfl⟩ := r6
                    obtain ⟨v5, s5, x1, x2, x3⟩ := stepO_two hs3 g3 (by rw [o3]; simp [opCls, quietOp])
                    rw [d3] at x2
                    simp only [vput, Option.some.injEq] at x2
                    subst x2
                    rw [o3] at x1
                    simp only [vop, opnd, hr3] at x1
                    split at x1
                    · rename_i g o vv hx hvv
                      cases hvv
                      cases hvs : vstore P ro ⟨st3.nx, st3.hp, st3.nx⟩ q.t g o rv with
                      | none => simp [hvs] at x1
                      | some s6 =>
                        simp only [hvs, Option.some.injEq, Prod.mk.injEq] at x1
                        obtain ⟨rfl, rfl⟩ := x1
                        have hst3 : (⟨st3.nx, st3.hp, st3.nx⟩ : St) = ⟨s2.nx, s2.hp, s2.nx⟩ := by rw [w3]
                        rw [hst3] at hvs
                        exact ⟨fr1', st1', b, c, rv, s2, g, o, s6, r1, by rw [v3]; rfl, hc, by rw [v3]; rfl, blkOf_mp b1, hap, hr3, hx, hvs, by rw [x3], by rw [x3]⟩
                    · cases x1

theorem low_min (x y : Nat) : low x y = min x y := by
  unfold low
  cases e : Nat.ble x y with
  | true => rw [Nat.ble_eq] at e; simp; omega
  | false =>
    have : ¬ x ≤ y := by intro q; rw [← Nat.ble_eq] at q; rw [q] at e; cases e
    simp; omega

/-- A block in which some cells were written, and the same block in which others were. -/
structure Two (pos n : Nat) (nA nB : List V) (cA cB : Blk) : Prop where
  sz : cA.sz = cB.sz
  es : cA.es = cB.es
  op : cA.op = cB.op
  zero : cA.zero = [] ↔ cB.zero = []
  mp : cA.mp = cB.mp
  len : nB.length = n
  get : ∀ k, cA.get k = if pos ≤ k ∧ k < pos + n then nA[k - pos]? else cB.get k
  self : ∀ k, pos ≤ k ∧ k < pos + n → cB.get k = nB[k - pos]?
theorem Two.put {pos n : Nat} {nA nB : List V} {b cA cB : Blk} (hA : b.put nA pos = some cA) (hB : b.put nB pos = some cB) (lA : nA.length = n) (lB : nB.length = n) : Two pos n nA nB cA cB := by
  obtain ⟨a1, a2, a3, a4, a5, a6, a7⟩ := Blk.put_spec _ _ _ _ hA
  obtain ⟨b1, b2, b3, b4, b5, b6, b7⟩ := Blk.put_spec _ _ _ _ hB
  refine ⟨a1.trans b1.symm, a2.trans b2.symm, a3.trans b3.symm, by rw [a4, b4], (Blk.put_mp _ _ _ _ hA).trans (Blk.put_mp _ _ _ _ hB).symm, lB, fun k => ?_, fun k hk => ?_⟩
  · rw [a5 k, b5 k, lA, lB]
    by_cases h : pos ≤ k ∧ k < pos + n
    · simp only [if_pos h]
    · simp only [if_neg h]
  · rw [b5 k, lB, if_pos hk]
theorem Two.blk {es n : Nat} {op : Bool} {old nA nB : List V} {cA cB : Blk} (hA : blkOf (old ++ nA) es op = some cA) (hB : blkOf (old ++ nB) es op = some cB) (lA : nA.length = n) (lB : nB.length = n) : Two old.length n nA nB cA cB := by
  obtain ⟨a1, a2, a3, a4, a5, a6⟩ := blkOf_spec hA
  obtain ⟨b1, b2, b3, b4, b5, b6⟩ := blkOf_spec hB
  refine ⟨by rw [a1, b1]; simp [lA, lB], a2.trans b2.symm, a3.trans b3.symm, by rw [a4, b4], (blkOf_mp hA).trans (blkOf_mp hB).symm, lB, fun k => ?_, fun k hk => ?_⟩
  · rw [a5 k, b5 k]
    by_cases h : old.length ≤ k ∧ k < old.length + n
    · rw [if_pos h, List.getElem?_append_right h.1]
    · rw [if_neg h]
      rcases Nat.lt_or_ge k old.length with q | q
      · rw [List.getElem?_append_left q, List.getElem?_append_left q]
      · rw [List.getElem?_eq_none (by simp; omega), List.getElem?_eq_none (by simp; omega)]
  · rw [b5 k, List.getElem?_append_right hk.1]

theorem row_len {b : Blk} : ∀ {n o : Nat} {cs : List V}, b.row n o = some cs → cs.length = n
  | 0, o, cs, h => by simp only [Blk.row, Option.some.injEq] at h; rw [← h]; rfl
  | n + 1, o, cs, h => by
    simp only [Blk.row] at h
    cases hg : b.get o with
    | none => simp [hg] at h
    | some v =>
      simp only [hg] at h
      cases hr : b.row n (o + 1) with
      | none => simp [hr] at h
      | some r =>
        simp only [hr, Option.some.injEq] at h
        rw [← h, List.length_cons, row_len hr]

def curOK (N : Nat) : V → Prop
  | .sl id _ _ _ _ => id < N
  | _ => True

/-- Two appends of one element each, at the same slice: they part at the element alone. -/
theorem vappend_two {N : Nat} {hp : T Blk} {bA bB : Blk} {tl : TypeId} {c rA rB : V} {sA sB : St}
    (hA : vappend P ro ⟨N + 1, hp.upd N (some bA), N + 1⟩ tl c (.sl N 0 1 1 false) = some (rA, sA)) (hB : vappend P ro ⟨N + 1, hp.upd N (some bB), N + 1⟩ tl c (.sl N 0 1 1 false) = some (rB, sB)) (hc : curOK N c) :
    ∃ e n gr off len cap op nA nB cA cB, P.underlying tl = some (.slice e) ∧ sizeB P e = some n ∧ vlen c = some len ∧ rA = .sl gr off (len + 1) cap op ∧ rB = .sl gr off (len + 1) cap op ∧ sA.nx = sB.nx ∧ sA.ver = sB.ver ∧
      bA.row n 0 = some nA ∧ bB.row n 0 = some nB ∧ sA.hp.get gr = some cA ∧ sB.hp.get gr = some cB ∧ Two (off + len * n) n nA nB cA cB ∧ ∀ k, k ≠ N → k ≠ gr → sA.hp.get k = sB.hp.get k := by
  unfold vappend at hA hB
  cases hu : P.underlying tl with
  | none => simp [hu] at hA
  | some und =>
    cases und <;> simp only [hu, reduceCtorEq] at hA hB
    rename_i e
    cases hi : P.info? e with
    | none => simp [hi] at hA
    | some ti =>
      simp only [hi, vlen, vfirst, T.get_upd, if_true, Nat.one_mul] at hA hB
      cases hrA : bA.row ti.size 0 with
      | none => simp [hrA] at hA
      | some nA =>
        cases hrB : bB.row ti.size 0 with
        | none => simp [hrB] at hB
        | some nB =>
          simp only [hrA] at hA
          simp only [hrB] at hB
          have lA := row_len hrA
          have lB := row_len hrB
          cases h0 : (Nat.blt 0 ti.size && Nat.blt 0 ti.bytes && zeroFits P e ti.size) with
          | false => simp [h0] at hA
          | true =>
            simp only [h0, cond_true] at hA hB
            have hs : sizeB P e = some ti.size := by unfold sizeB; rw [hi]
            cases c with
            | sn =>
              simp only at hA hB
              cases h1 : Nat.ble ti.bytes 1099511627776 with
              | false => simp [h1] at hA
              | true =>
                have h2 : Nat.beq 1 0 = false := rfl
                simp only [h1, h2, cond_true, cond_false] at hA hB
                cases hbA : blkOf nA ti.size true with
                | none => simp [hbA] at hA
                | some cA =>
                  cases hbB : blkOf nB ti.size true with
                  | none => simp [hbB] at hB
                  | some cB =>
                    simp only [hbA, natF_eq, Option.some.injEq, Prod.mk.injEq] at hA
                    simp only [hbB, natF_eq, Option.some.injEq, Prod.mk.injEq] at hB
                    obtain ⟨rfl, rfl⟩ := hA
                    obtain ⟨rfl, rfl⟩ := hB
                    refine ⟨e, ti.size, N + 1, 0, 0, 1, true, nA, nB, cA, cB, rfl, hs, rfl, rfl, rfl, rfl, rfl, hrA, hrB, ?_, ?_, ?_, fun k h1 h2 => ?_⟩
                    · show ((hp.upd N (some bA)).upd (N + 1) (some cA)).get (N + 1) = _; rw [T.get_upd, if_pos rfl]
                    · show ((hp.upd N (some bB)).upd (N + 1) (some cB)).get (N + 1) = _; rw [T.get_upd, if_pos rfl]
                    · have := Two.blk (old := []) hbA hbB lA lB
                      simpa using this
                    · show ((hp.upd N (some bA)).upd (N + 1) (some cA)).get k = ((hp.upd N (some bB)).upd (N + 1) (some cB)).get k
                      rw [T.get_upd, if_neg h2, T.get_upd, if_neg h1, T.get_upd, if_neg h2, T.get_upd, if_neg h1]
            | sl id off len cap op =>
              have hid : id ≠ N := Nat.ne_of_lt hc
              simp only [T.get_upd, if_neg hid] at hA hB
              cases hg : hp.get id with
              | none => simp [hg] at hA
              | some b =>
                simp only [hg] at hA hB
                cases h1 : Nat.ble ((len + 1) * ti.bytes) 1099511627776 with
                | false => simp [h1] at hA
                | true =>
                  simp only [h1, cond_true] at hA hB
                  cases h2 : Nat.ble (len + 1) cap with
                  | true =>
                    simp only [h2, cond_true] at hA hB
                    cases h3 : Nat.ble ro id with
                    | false => simp [h3] at hA
                    | true =>
                      simp only [h3, cond_true] at hA hB
                      cases hbA : b.put nA (off + len * ti.size) with
                      | none => simp [hbA] at hA
                      | some cA =>
                        cases hbB : b.put nB (off + len * ti.size) with
                        | none => simp [hbB] at hB
                        | some cB =>
                          simp only [hbA, natF_eq, Option.some.injEq, Prod.mk.injEq] at hA
                          simp only [hbB, natF_eq, Option.some.injEq, Prod.mk.injEq] at hB
                          obtain ⟨rfl, rfl⟩ := hA
                          obtain ⟨rfl, rfl⟩ := hB
                          refine ⟨e, ti.size, id, off, len, cap, op, nA, nB, cA, cB, rfl, hs, rfl, rfl, rfl, by rw [St.write_eq, St.write_eq], by rw [St.write_eq, St.write_eq], hrA, hrB, ?_, ?_, Two.put hbA hbB lA lB, fun k h1 h2 => ?_⟩
                          · rw [St.write_eq]; dsimp only; rw [T.get_upd, if_pos rfl]
                          · rw [St.write_eq]; dsimp only; rw [T.get_upd, if_pos rfl]
                          · rw [St.write_eq, St.write_eq]; dsimp only; rw [T.get_upd, if_neg h2, T.get_upd, if_neg h1, T.get_upd, if_neg h2, T.get_upd, if_neg h1]
                  | false =>
                    simp only [h2, cond_false] at hA hB
                    have grown : ∀ cA cB, vgrown b off len ti.size nA = some cA → vgrown b off len ti.size nB = some cB → Two (0 + len * ti.size) ti.size nA nB cA cB := by
                      intro cA cB h3 h4
                      unfold vgrown at h3 h4
                      cases hm : b.mp with
                      | some _ => simp [hm] at h3
                      | none =>
                        simp only [hm] at h3 h4
                        cases h5 : (b.op && Nat.beq off 0 && Nat.beq (len * ti.size) b.sz && Nat.beq b.es ti.size) with
                        | true =>
                          simp only [h5, cond_true, Blk.grow, lA, lB] at h3 h4
                          simp only [Bool.and_eq_true, Nat.beq_eq] at h5
                          have := Two.put h3 h4 lA lB
                          rw [← h5.1.2] at this
                          rw [Nat.zero_add]; exact this
                        | false =>
                          simp only [h5, cond_false] at h3 h4
                          cases hr : b.row (len * ti.size) off with
                          | none => simp [hr] at h3
                          | some old =>
                            simp only [hr] at h3 h4
                            have := Two.blk h3 h4 lA lB
                            rw [row_len hr] at this
                            rw [Nat.zero_add]; exact this
                    cases hbA : vgrown b off len ti.size nA with
                    | none => simp [hbA] at hA
                    | some cA =>
                      cases hbB : vgrown b off len ti.size nB with
                      | none => simp [hbB] at hB
                      | some cB =>
                        simp only [hbA] at hA
                        simp only [hbB] at hB
                        have tw := grown cA cB hbA hbB
                        cases op with
                        | true =>
                          simp only [cond_true] at hA hB
                          cases h6 : (Nat.ble ro id && b.op && Nat.beq b.es ti.size && Nat.beq (off + cap * ti.size) b.sz) with
                          | false => simp [h6] at hA
                          | true =>
                            simp only [h6, cond_true, natF_eq, Option.some.injEq, Prod.mk.injEq] at hA hB
                            obtain ⟨rfl, rfl⟩ := hA
                            obtain ⟨rfl, rfl⟩ := hB
                            refine ⟨e, ti.size, N + 1, 0, len, len + 1, true, nA, nB, cA, cB, rfl, hs, rfl, rfl, rfl, rfl, by rw [St.kill_eq, St.kill_eq]; rfl, hrA, hrB, ?_, ?_, tw, fun k h1 h2 => ?_⟩
                            · rw [St.kill_eq]; show (T.upd _ (N + 1) (some cA)).get (N + 1) = _; rw [T.get_upd, if_pos rfl]
                            · rw [St.kill_eq]; show (T.upd _ (N + 1) (some cB)).get (N + 1) = _; rw [T.get_upd, if_pos rfl]
                            · rw [St.kill_eq, St.kill_eq]
                              show (T.upd (T.upd (T.upd hp N (some bA)) id none) (N + 1) (some cA)).get k = (T.upd (T.upd (T.upd hp N (some bB)) id none) (N + 1) (some cB)).get k
                              rw [T.get_upd, if_neg h2, T.get_upd, T.get_upd, if_neg h1, T.get_upd, if_neg h2, T.get_upd, T.get_upd, if_neg h1]
                        | false =>
                          simp only [cond_false, natF_eq, Option.some.injEq, Prod.mk.injEq] at hA hB
                          obtain ⟨rfl, rfl⟩ := hA
                          obtain ⟨rfl, rfl⟩ := hB
                          refine ⟨e, ti.size, N + 1, 0, len, len + 1, true, nA, nB, cA, cB, rfl, hs, rfl, rfl, rfl, rfl, rfl, hrA, hrB, ?_, ?_, tw, fun k h1 h2 => ?_⟩
                          · show (T.upd _ (N + 1) (some cA)).get (N + 1) = _; rw [T.get_upd, if_pos rfl]
                          · show (T.upd _ (N + 1) (some cB)).get (N + 1) = _; rw [T.get_upd, if_pos rfl]
                          · show (T.upd (T.upd hp N (some bA)) (N + 1) (some cA)).get k = (T.upd (T.upd hp N (some bB)) (N + 1) (some cB)).get k
                            rw [T.get_upd, if_neg h2, T.get_upd, if_neg h1, T.get_upd, if_neg h2, T.get_upd, if_neg h1]
            | sy g o q =>
              simp only at hA hB
              cases h1 : Nat.ble ti.bytes 1099511627776 with
              | false => simp [h1] at hA
              | true =>
                have h2 : Nat.beq 1 0 = false := rfl
                simp only [h1, h2, cond_true, cond_false] at hA hB
                cases hbA : blkOf nA ti.size true with
                | none => simp [hbA] at hA
                | some cA =>
                  cases hbB : blkOf nB ti.size true with
                  | none => simp [hbB] at hB
                  | some cB =>
                    simp only [hbA, natF_eq, Option.some.injEq, Prod.mk.injEq] at hA
                    simp only [hbB, natF_eq, Option.some.injEq, Prod.mk.injEq] at hB
                    obtain ⟨rfl, rfl⟩ := hA
                    obtain ⟨rfl, rfl⟩ := hB
                    refine ⟨e, ti.size, N + 1, 0, 0, 1, true, nA, nB, cA, cB, rfl, hs, rfl, rfl, rfl, rfl, rfl, hrA, hrB, ?_, ?_, ?_, fun k h1 h2 => ?_⟩
                    · show ((hp.upd N (some bA)).upd (N + 1) (some cA)).get (N + 1) = _; rw [T.get_upd, if_pos rfl]
                    · show ((hp.upd N (some bB)).upd (N + 1) (some cB)).get (N + 1) = _; rw [T.get_upd, if_pos rfl]
                    · have := Two.blk (old := []) hbA hbB lA lB
                      simpa using this
                    · show ((hp.upd N (some bA)).upd (N + 1) (some cA)).get k = ((hp.upd N (some bB)).upd (N + 1) (some cB)).get k
                      rw [T.get_upd, if_neg h2, T.get_upd, if_neg h1, T.get_upd, if_neg h2, T.get_upd, if_neg h1]
            | ze a0 =>
              simp only at hA hB
              cases h1 : Nat.ble ti.bytes 1099511627776 with
              | false => simp [h1] at hA
              | true =>
                have h2 : Nat.beq 1 0 = false := rfl
                simp only [h1, h2, cond_true, cond_false] at hA hB
                cases hbA : blkOf nA ti.size true with
                | none => simp [hbA] at hA
                | some cA =>
                  cases hbB : blkOf nB ti.size true with
                  | none => simp [hbB] at hB
                  | some cB =>
                    simp only [hbA, natF_eq, Option.some.injEq, Prod.mk.injEq] at hA
                    simp only [hbB, natF_eq, Option.some.injEq, Prod.mk.injEq] at hB
                    obtain ⟨rfl, rfl⟩ := hA
                    obtain ⟨rfl, rfl⟩ := hB
                    refine ⟨e, ti.size, N + 1, 0, 0, 1, true, nA, nB, cA, cB, rfl, hs, rfl, rfl, rfl, rfl, rfl, hrA, hrB, ?_, ?_, ?_, fun k h1 h2 => ?_⟩
                    · show ((hp.upd N (some bA)).upd (N + 1) (some cA)).get (N + 1) = _; rw [T.get_upd, if_pos rfl]
                    · show ((hp.upd N (some bB)).upd (N + 1) (some cB)).get (N + 1) = _; rw [T.get_upd, if_pos rfl]
                    · have := Two.blk (old := []) hbA hbB lA lB
                      simpa using this
                    · show ((hp.upd N (some bA)).upd (N + 1) (some cA)).get k = ((hp.upd N (some bB)).upd (N + 1) (some cB)).get k
                      rw [T.get_upd, if_neg h2, T.get_upd, if_neg h1, T.get_upd, if_neg h2, T.get_upd, if_neg h1]
            | _ => simp at hA

theorem elem_inv {q : ElemI} (hq : elemOf ops = some q) {fr fr' : T V} {st st' : St} (h : vops P ro nt call ops ops.toList fr st = some (fr', st')) {e n gr off len cap m : Nat} {op : Bool} {kd : IntKind} {v : V}
    (hu : P.underlying q.tl = some (.slice e)) (hs : sizeB P e = some n) (hr : fr.get q.r = some (.sl gr off len cap op)) (hix : opnd fr q.ix = some (.i kd (.ofNat m))) (hv : opnd fr q.v = some v) :
    ∃ b b', st.hp.get gr = some b ∧ b.put v.cells (off + m * n) = some b' ∧ st' = st.write gr b' := by
  unfold elemOf at hq
  split at hq
  · rename_i o1 o2 hl
    split at hq
    · rename_i e1 tl r ix te e2 v1 g1 d1 q1 g2 d2 q2
      cases hc : (Nat.beq e1 e2 && notTmp e1 v1) with
      | false => simp [hc] at hq
      | true =>
        simp only [hc, cond_true, Option.some.injEq] at hq
        subst hq
        simp only [Bool.and_eq_true, Nat.beq_eq] at hc
        obtain ⟨rfl, hne⟩ := hc
        dsimp only at hu hr hix hv
        rw [hl] at h
        have w1 : vwanted ops fr o1 = some true := by unfold vwanted; rw [g1]
        have hr' : opnd fr (.tmp r) = some (.sl gr off len cap op) := hr
        simp only [vops, w1, q1, vop, hr', hix, vindexAddr, hu, hs] at h
        cases hb : (ile 0 (.ofNat m) && ilt (.ofNat m) (len : Int)) with
        | false => simp only [hb, cond_false, reduceCtorEq] at h
        | true =>
          simp only [hb, cond_true, d1] at h
          cases hp : vput nt fr (some e1) (some (.p gr (off + (Int.ofNat m).toNat * n))) with
          | none => simp only [hp, reduceCtorEq] at h
          | some fr1 =>
            simp only [hp] at h
            have w2 : vwanted ops fr1 o2 = some true := by unfold vwanted; rw [g2]
            have he : opnd fr1 (.tmp e1) = some (.p gr (off + (Int.ofNat m).toNat * n)) := vput_self hp
            have hv' : opnd fr1 v1 = some v := by
              cases v1 with
              | tmp t =>
                have hne : t ≠ e1 := fun z => by
                  subst z
                  have : Nat.beq t t = true := by rw [Nat.beq_eq]
                  simp only [notTmp, this] at hne
                  cases hne
                have := vput_get (t := t) hp (fun z => hne (Option.some.inj z).symm)
                show fr1.get t = some v
                rw [this]
                exact hv
              | _ => exact hv
            simp only [w2, q2, vop, he, hv'] at h
            cases hvs : vstore P ro st te gr (off + (Int.ofNat m).toNat * n) v with
            | none => simp only [hvs, reduceCtorEq] at h
            | some s1 =>
              simp only [hvs, d2, vput, Option.some.injEq, Prod.mk.injEq] at h
              obtain ⟨_, rfl⟩ := h
              obtain ⟨b, b', p1, p2, p3, p4, _⟩ := vstore_inv hvs
              exact ⟨b, b', p1, p3, p4⟩
    · cases hq
  · cases hq

/-- The same memory, in other words, behind either way. -/
theorem flag_rel {F : FlagI} {fr frA frB frE : T V} {st stA stB stE : St} (tA : tailOf F.lA = some F.tA) (tB : tailOf F.lB = some F.tB) (hE : elemOf F.opsE = some F.eI) (htl : F.tA.tl = F.tB.tl) (ht : F.tA.t = F.tB.t) (hetl : F.eI.tl = F.tA.tl) (her : F.eI.r = F.tA.r)
    (rA : runO P ro nt call F.opsA F.lA [] fr st = some (frA, stA)) (rB : runO P ro nt call F.opsB F.lB [] fr st = some (frB, stB)) (rE : vops P ro nt call F.opsE F.opsE.toList frA stA = some (frE, stE)) (hk : flagChk P ro nt call F fr st frA frB = true) :
    ∃ gr, gr ≠ st.nx ∧ stE.ver ≤ gr ∧ ∀ k, k ≠ st.nx → (k ≠ gr → stE.hp.get k = stB.hp.get k) ∧ ∀ c, stB.hp.get k = some c → ∃ b, stE.hp.get k = some b ∧ BE b c := by
  obtain ⟨fA1, sA1, bA, cA, vA, s2A, gA, oA, s3A, a1, a2, a3, a4, a5, a6, a7, a8, a9, a10, a11⟩ := tail_inv tA rA
  obtain ⟨fB1, sB1, bB, cB, vB, s2B, gB, oB, s3B, b1, b2, b3, b4, b5, b6, b7, b8, b9, b10, b11⟩ := tail_inv tB rB
  unfold flagChk at hk
  rw [a1, b1] at hk
  simp only [a3, b3, a8, b8, sameO, show opnd frB (.tmp F.tB.r) = some vB from b7] at hk
  simp only [Bool.and_eq_true] at hk
  obtain ⟨⟨k1, k2⟩, k3⟩ := hk
  have hcc := same1_eq k1
  have haa := same1_eq k2
  subst hcc
  simp only [V.p.injEq] at haa
  obtain ⟨rfl, rfl⟩ := haa
  rw [htl] at a6
  cases hix : opnd frA F.eI.ix with
  | none => simp [hix] at k3
  | some ixv =>
    cases hv : opnd frA F.eI.v with
    | none => cases ixv <;> simp [hix, hv] at k3
    | some v =>
      cases ixv <;> simp only [hix, hv, Bool.false_eq_true] at k3
      rename_i kd nn
      cases vB <;> simp only [Bool.false_eq_true] at k3
      rename_i gr off len1 cap1 op1
      simp only [Bool.and_eq_true, Bool.not_eq_true'] at k3
      obtain ⟨⟨⟨⟨k4, k5⟩, k6⟩, k7⟩, k8⟩ := k3
      have nb : ∀ {x y : Nat}, Nat.beq x y = false → x ≠ y := fun {x y} h z => by subst z; rw [show Nat.beq x x = true from by rw [Nat.beq_eq]] at h; cases h
      have k6 := nb k6
      have k7 := nb k7
      have k8 := nb k8
      have hcur : curOK st.nx cA := by
        cases cA with
        | sl id _ _ _ _ => simp only [Nat.blt_eq] at k5; exact k5
        | _ => trivial
      obtain ⟨e, n, gr', off', len, cap', op', nA, nB, xA, xB, u1, u2, u3, u4, u5, u6, u7, u8, u9, u10, u11, tw, u12⟩ := vappend_two a6 b6 hcur
      simp only [V.sl.injEq] at u5
      obtain ⟨rfl, rfl, rfl, rfl, rfl⟩ := u5
      simp only [u3] at k4
      rw [b2, T.get_upd, if_pos rfl] at k4
      simp only [Bool.and_eq_true, decide_eq_true_eq] at k4
      obtain ⟨k9, k10⟩ := k4
      subst k9
      have hes : elemSz P F.tB.tl = n := by unfold elemSz; rw [u1]; simp only [u2]
      rw [hes, u9] at k10
      have hcells := sameL_eq k10
      obtain ⟨yA, yA', e1, e2, e3⟩ := elem_inv hE rE (by rw [hetl, htl]; exact u1) u2 (by rw [her]; rw [u4] at a7; exact a7) hix hv
      -- the store of the header
      rw [ht] at a9
      obtain ⟨hbA, hbA', p1, p2, p3, p4, p5⟩ := vstore_inv a9
      obtain ⟨hbB, hbB', q1, q2, q3, q4, q5⟩ := vstore_inv b9
      dsimp only at p1 q1
      have hgg : s2A.hp.get gA = s2B.hp.get gA := u12 gA k7 k6
      rw [p1, q1] at hgg
      obtain rfl := Option.some.inj hgg
      rw [u4] at p3
      rw [p3] at q3
      obtain rfl := Option.some.inj q3
      have hA3 : stA.hp = s2A.hp.upd gA (some hbA') := by rw [a11, p4, St.write_eq]
      have hB3 : stB.hp = s2B.hp.upd gA (some hbA') := by rw [b11, q4, St.write_eq]
      have hgr : gr ≠ gA := fun z => k6 z.symm
      rw [hA3, T.get_upd, if_neg hgr, u10] at e1
      obtain rfl := Option.some.inj e1
      have hlen : v.cells.length = n := by rw [← hcells]; exact tw.len
      obtain ⟨w1, w2, w3, w4, w5, w6, w7⟩ := Blk.put_spec _ _ _ _ e2
      have hbe : BE yA' xB := by
        refine ⟨by rw [w1]; exact tw.sz.symm, by rw [w2]; exact tw.es.symm, by rw [w3]; exact tw.op.symm, by rw [w4]; exact tw.zero.symm, by rw [Blk.put_mp _ _ _ _ e2]; exact tw.mp.symm, fun k => ?_⟩
        rw [w5 k, hlen]
        by_cases hk : off + len * n ≤ k ∧ k < off + len * n + n
        · rw [if_pos hk, tw.self k hk, hcells]
        · rw [if_neg hk, tw.get k, if_neg hk]
      have hEhp : stE.hp = stA.hp.upd gr (some yA') := by rw [e3, St.write_eq]
      refine ⟨gr, k8, by rw [e3, St.write_eq]; exact low_right _ _, fun k hk1 => ⟨fun hk2 => ?_, fun c hc => ?_⟩⟩
      · rw [hEhp, T.get_upd, if_neg hk2, hA3, hB3, T.get_upd, T.get_upd]
        by_cases hk3 : k = gA
        · rw [if_pos hk3, if_pos hk3]
        · rw [if_neg hk3, if_neg hk3]; exact u12 k hk1 hk2
      · by_cases hk2 : k = gr
        · subst hk2
          rw [hB3, T.get_upd, if_neg hgr, u11] at hc
          obtain rfl := Option.some.inj hc
          exact ⟨yA', by rw [hEhp, T.get_upd, if_pos rfl], hbe⟩
        · refine ⟨c, ?_, BE.refl c⟩
          rw [← hc, hEhp, T.get_upd, if_neg hk2, hA3, hB3, T.get_upd, T.get_upd]
          by_cases hk3 : k = gA
          · rw [if_pos hk3, if_pos hk3]
          · rw [if_neg hk3, if_neg hk3]; exact u12 k hk1 hk2
end
end Go.Vm
