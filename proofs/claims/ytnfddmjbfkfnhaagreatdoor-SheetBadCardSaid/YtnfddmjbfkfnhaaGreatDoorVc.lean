/-
  Regions, code and calls: what the evaluator tells is so in the model, from whatever memory and on whatever tape. Nothing is claimed here.
-/
import Derived.Test.YtnfddmjbfkfnhaaGreatDoorVa
import Derived.Scope
namespace Go.Vm
open Go.RowKit

theorem FR.mono {J J' : Inj} {nt : Nat} {fr : T V} {tmps : Array Value} (h : FR J nt fr tmps) (hle : J.le J') : FR J' nt fr tmps :=
  ⟨h.size, fun t v hv => by
    obtain ⟨q1, q2⟩ := h.get t v hv
    exact ⟨V.ok_le hle.nx v q1, by rw [V.real_le hle v q1]; exact q2⟩⟩

theorem FR.put {J : Inj} {nt : Nat} {fr fr' : T V} {a : Act} {dst : Option Nat} {v : Option V} {u : Value} (h : FR J nt fr a.tmps) (hv : (∃ x, v = some x ∧ u = x.real J ∧ x.ok J.nx) ∨ (v = none ∧ u = undef))
    (hp : vput nt fr dst v = some fr') : FR J nt fr' (a.put dst u).tmps := by
  unfold vput at hp
  cases dst with
  | none => simp only [Option.some.injEq] at hp; subst hp; exact h
  | some d =>
    simp only at hp
    cases hd : Nat.blt d nt with
    | false => simp [hd] at hp
    | true =>
      simp only [hd, cond_true] at hp
      rw [Nat.blt_eq] at hd
      have key : ∃ x : V, fr' = fr.upd d (some x) ∧ u = x.real J ∧ x.ok J.nx := by
        rcases hv with ⟨x, rfl, h1, h2⟩ | ⟨rfl, h1⟩
        · simp only [V.force_eq, Option.some.injEq] at hp
          exact ⟨x, hp.symm, h1, h2⟩
        · simp only [Option.some.injEq] at hp
          exact ⟨.t [], hp.symm, by rw [h1]; simp [V.real, V.reals, undef], by simp [V.ok, V.oks]⟩
      obtain ⟨x, rfl, rfl, hx⟩ := key
      refine ⟨by simp only [Act.put, Array.size_setIfInBounds]; exact h.size, fun t y hy => ?_⟩
      rw [T.get_upd] at hy
      by_cases e : t = d
      · subst e
        simp only [if_true, Option.some.injEq] at hy
        subst hy
        exact ⟨hx, by simp only [Act.put]; rw [Array.getElem?_setIfInBounds_self_of_lt (Nat.lt_of_lt_of_le hd h.size)]⟩
      · rw [if_neg e] at hy
        obtain ⟨q1, q2⟩ := h.get t y hy
        exact ⟨q1, by simp only [Act.put]; rw [Array.getElem?_setIfInBounds_ne (fun q => e q.symm)]; exact q2⟩

theorem put_defers (a : Act) (dst : Option Nat) (u : Value) : (a.put dst u).defers = a.defers := by cases dst <;> rfl

theorem vwanted_spec {J : Inj} {nt : Nat} {fr : T V} {ops : Array Oper} {a : Act} {o : Oper} {x : Bool} (h : FR J nt fr a.tmps) (hw : vwanted ops fr o = some x) : Region.wanted o (yielded ops a.tmps) = x := by
  unfold vwanted at hw
  unfold Region.wanted
  cases hg : o.guard with
  | none => simp only [hg, Option.some.injEq] at hw ⊢; exact hw
  | some jw =>
    obtain ⟨j, want⟩ := jw
    simp only [hg] at hw ⊢
    unfold yielded
    cases hd : (ops[j]?).bind (·.dst) with
    | none => simp only [hd, Option.some.injEq] at hw; subst hw; simp
    | some d =>
      simp only [hd] at hw
      cases hf : fr.get d with
      | none => simp [hf] at hw
      | some v =>
        obtain ⟨_, q2⟩ := h.get d v hf
        simp only [Option.bind_some, q2]
        cases v <;> simp only [hf, Option.some.injEq] at hw <;> subst hw <;> simp [V.real]

section
variable {P : Program} {ro : Nat} {B : World}

theorem wp_of_done {J : Inj} {st st' : St} {w : World} {v : Option V} {o : Oper} {a : Act} {next : Act → World → Prop} {Q : Exit → Act → World → Prop} (h : Done P J ro B st w v st' ((execOp a.eval o).run P w))
    (hnext : ∀ J' w' u, Post J ro B st w J' st' w' → ((∃ x, v = some x ∧ u = x.real J' ∧ x.ok J'.nx) ∨ (v = none ∧ u = undef)) → next (a.put o.dst u) w') : o.wp P a w next Q := by
  unfold Oper.wp
  generalize (execOp a.eval o).run P w = r at h
  cases r with
  | halt x w' => exact h.elim
  | ok n w' =>
    cases n with
    | value u => obtain ⟨x, J', h1, h2, h3, h4⟩ := h; exact hnext J' w' u h4 (.inl ⟨x, h1, h2, h3⟩)
    | skip => obtain ⟨h1, J', h2⟩ := h; exact hnext J' w' undef h2 (.inr ⟨h1, rfl⟩)
    | enter f args =>
      obtain ⟨rfl, hc⟩ := h
      refine hc.mono ?_
      rintro e w'' ⟨x, J', h1, rfl, h3, h4⟩
      exact hnext J' w'' _ h4 (.inl ⟨x, h1, rfl, h3⟩)
    | _ => exact h.elim

/-- Operations in the order of the text. -/
theorem vops_sound {nt : Nat} {call : CallF} (hcall : CallOK P ro B call) (hname : ∀ (f : Nat) (fn : Func), P.funcs[f]? = some fn → (fn.name == "runtime.NumGoroutine") = false) {ops : Array Oper} {Q : Exit → Act → World → Prop} :
    ∀ (l : List Oper) (k : Nat) (fr fr' : T V) (st st' : St) (J : Inj) (w : World) (a : Act), (∀ j, l[j]? = ops[k + j]?) → vops P ro nt call ops l fr st = some (fr', st') → J.nx = st.nx → HR J ro B st.hp.get w → ro ≤ J.nx →
      FR J nt fr a.tmps → a.defers = [] → (∀ J' a' w', Post J ro B st w J' st' w' → FR J' nt fr' a'.tmps → a'.defers = [] → Q .normal a' w') → wpOps P ops Q (List.range' k l.length) a w
  | [], k, fr, fr', st, st', J, w, a, _, h, hn, hh, hro, hf, hd, hQ => by
    simp only [vops, Option.some.injEq, Prod.mk.injEq] at h
    obtain ⟨rfl, rfl⟩ := h
    exact hQ J a w (Post.refl hn hh hro) hf hd
  | o :: l, k, fr, fr', st, st', J, w, a, hl, h, hn, hh, hro, hf, hd, hQ => by
    have h0 : ops[k]? = some o := by simpa using (hl 0).symm
    have hl' : ∀ j, l[j]? = ops[k + 1 + j]? := fun j => by have := hl (j + 1); simpa [Nat.add_assoc, Nat.add_comm 1 j] using this
    simp only [vops] at h
    rw [List.length_cons, List.range'_succ]
    simp only [wpOps, h0]
    cases hw : vwanted ops fr o with
    | none => simp [hw] at h
    | some x =>
      rw [vwanted_spec hf hw]
      cases x with
      | true =>
        simp only [hw] at h
        simp only [if_true]
        cases hv : vop P ro call fr st o.op with
        | none => simp [hv] at h
        | some r =>
          obtain ⟨v, st1⟩ := r
          simp only [hv] at h
          cases hp : vput nt fr o.dst v with
          | none => simp [hp] at h
          | some fr1 =>
            simp only [hp] at h
            refine .inl (wp_of_done (vop_sound hcall hname hn hh hro hf hv) fun J1 w1 u hpost hu => ?_)
            exact vops_sound hcall hname l (k + 1) fr1 fr' st1 st' J1 w1 _ hl' h hpost.nx hpost.hr hpost.ro ((hf.mono hpost.le).put hu hp) (by rw [put_defers]; exact hd)
              fun J2 a2 w2 p2 f2 d2 => hQ J2 a2 w2 (hpost.trans p2) f2 d2
      | false =>
        simp only [hw] at h
        simp only [Bool.false_eq_true, if_false]
        cases hp : vput nt fr o.dst none with
        | none => simp [hp] at h
        | some fr1 =>
          simp only [hp] at h
          exact vops_sound hcall hname l (k + 1) fr1 fr' st st' J w _ hl' h hn hh hro (hf.put (.inr ⟨rfl, rfl⟩) hp) (by rw [put_defers]; exact hd) hQ

/-- The memory that is as it was, and may be more. -/
def Still (J : Inj) (ro : Nat) (B : World) (st : St) (w0 : World) (w : World) : Prop := HR J ro B st.hp.get w ∧ Below B.heap.size w0 w ∧ Fr J st.hp.get w0 J st.hp.get w

/-- Operations whose order is open. -/
theorem vopsQ_sound {nt : Nat} {call : CallF} (hcall : CallOK P ro B call) (hname : ∀ (f : Nat) (fn : Func), P.funcs[f]? = some fn → (fn.name == "runtime.NumGoroutine") = false) {ops : Array Oper} {st : St} {J : Inj} {w0 : World} (hn : J.nx = st.nx) (hro : ro ≤ J.nx) (hex : ∃ w, Still J ro B st w0 w) {Q : Act → Prop} :
    ∀ (l : List Oper) (fr fr' : T V) (a : Act), vopsQ P ro nt call ops l fr st = some fr' → FR J nt fr a.tmps → a.defers = [] →
      (∀ a', FR J nt fr' a'.tmps → a'.defers = [] → Q a') → wpQuiet P ops (Still J ro B st w0) Q l a
  | [], fr, fr', a, h, hf, hd, hQ => by
    simp only [vopsQ, Option.some.injEq] at h
    subst h
    exact hQ a hf hd
  | o :: l, fr, fr', a, h, hf, hd, hQ => by
    simp only [vopsQ] at h
    unfold wpQuiet
    cases hw : vwanted ops fr o with
    | none => simp [hw] at h
    | some x =>
      rw [vwanted_spec hf hw]
      cases x with
      | false =>
        simp only [hw] at h
        simp only [Bool.false_eq_true, if_false]
        cases hp : vput nt fr o.dst none with
        | none => simp [hp] at h
        | some fr1 =>
          simp only [hp] at h
          exact vopsQ_sound hcall hname hn hro hex l fr1 fr' _ h (hf.put (.inr ⟨rfl, rfl⟩) hp) (by rw [put_defers]; exact hd) hQ
      | true =>
        simp only [hw] at h
        simp only [if_true]
        cases hq : quietOp o.op with
        | false => simp [hq] at h
        | true =>
          simp only [hq] at h
          cases hv : vop P ro call fr ⟨st.nx, st.hp, st.nx⟩ o.op with
          | none => simp [hv] at h
          | some r =>
            obtain ⟨v, st1⟩ := r
            simp only [hv] at h
            generalize hc : (Nat.ble st.nx st1.ver && (Nat.beq st1.nx st.nx || plainO v)) = c at h
            cases c with
            | false => simp at h
            | true =>
              simp only [cond_true] at h
              simp only [Bool.and_eq_true, Nat.beq_eq, Nat.ble_eq, Bool.or_eq_true] at hc
              cases hp : vput nt fr o.dst v with
              | none => simp [hp] at h
              | some fr1 =>
                simp only [hp] at h
                have fin : ∀ x : V, v = some x → x.ok J.nx → (∀ w, Still J ro B st w0 w → o.quietAt P a (Still J ro B st w0) w (x.real J)) → o.quiet P a (Still J ro B st w0) (wpQuiet P ops (Still J ro B st w0) Q l) := by
                  intro x hx hok hat
                  exact ⟨x.real J, hat, vopsQ_sound hcall hname hn hro hex l fr1 fr' _ h (hf.put (.inl ⟨x, hx, rfl, hok⟩) hp) (by rw [put_defers]; exact hd) hQ⟩
                cases hnc : notCall o.op with
                | true =>
                  obtain ⟨wx, hwx⟩ := hex
                  obtain ⟨_, x, hx, _, hok⟩ := vop_quiet (w := wx) (st := ⟨st.nx, st.hp, st.nx⟩) hn hwx.1 hf hq hnc hv
                  refine fin x hx hok fun w hs => ?_
                  obtain ⟨_, x', hx', hr, _⟩ := vop_quiet (w := w) (st := ⟨st.nx, st.hp, st.nx⟩) hn hs.1 hf hq hnc hv
                  rw [hx, Option.some.injEq] at hx'
                  subst hx'
                  unfold Oper.quietAt
                  rw [hr]
                  exact ⟨rfl, rfl⟩
                | false =>
                  have conv : ∀ (x : V) (J' : Inj) (w w' : World), v = some x → x.ok J'.nx → Still J ro B st w0 w → Post J ro B ⟨st.nx, st.hp, st.nx⟩ w J' st1 w' → x.real J' = x.real J ∧ x.ok J.nx ∧ Still J ro B st w0 w' := by
                    intro x J' w w' hx hok hs hpo
                    subst hx
                    refine ⟨?_, ?_, HR.back hs.1 hpo.hr hpo.le (fun g b hg => hpo.ext.hp g b hg (by have := (hs.1.blk g b hg).1; omega)), hs.2.1.trans hpo.below, fun i hi hf => ⟨(hpo.fr i (Nat.lt_of_lt_of_le hi hs.2.1.size) hf).1.trans (hs.2.2 i hi hf).1, hf⟩⟩
                    · rcases hc.2 with e | e
                      · have : x.ok J.nx := by rw [hn, ← e, ← hpo.nx]; exact hok
                        exact V.real_le hpo.le x this
                      · exact V.real_plainT J J' x e
                    · rcases hc.2 with e | e
                      · rw [hn, ← e, ← hpo.nx]; exact hok
                      · exact V.ok_plainT J'.nx J.nx x e hok
                  obtain ⟨wx, hwx⟩ := hex
                  obtain ⟨y, _, _, hy, _, hC⟩ := vop_call (st := ⟨st.nx, st.hp, st.nx⟩) hcall hname hn hwx.1 hro hf hnc hv
                  obtain ⟨_, w'', _, ⟨J', _, h3, h4⟩, _⟩ := hC []
                  refine fin y hy (conv y J' wx w'' hy h3 hwx h4).2.1 fun w hs => ?_
                  obtain ⟨y', f', args', hy', hr, hC'⟩ := vop_call (st := ⟨st.nx, st.hp, st.nx⟩) hcall hname hn hs.1 hro hf hnc hv
                  rw [hy, Option.some.injEq] at hy'
                  subst hy'
                  unfold Oper.quietAt
                  rw [hr]
                  refine ⟨rfl, hC'.mono ?_⟩
                  rintro e w' ⟨J', h1, h3, h4⟩
                  obtain ⟨q1, q2, q3⟩ := conv y J' w w' hy h3 hs h4
                  exact ⟨by rw [h1, q1], q3⟩

/-- Operations whose order is open, none of them a call: the world stays as it is. -/
theorem vopsS_sound {nt : Nat} {call : CallF} {ops : Array Oper} {st : St} {J : Inj} {w1 : World} (hn : J.nx = st.nx) (hs : HR J ro B st.hp.get w1) {Q : Act → Prop} :
    ∀ (l : List Oper) (fr fr' : T V) (a : Act), (l.all fun o => notCall o.op) = true → vopsQ P ro nt call ops l fr st = some fr' → FR J nt fr a.tmps → a.defers = [] →
      (∀ a', FR J nt fr' a'.tmps → a'.defers = [] → Q a') → wpStill P ops w1 Q l a
  | [], fr, fr', a, _, h, hf, hd, hQ => by
    simp only [vopsQ, Option.some.injEq] at h
    subst h
    exact hQ a hf hd
  | o :: l, fr, fr', a, hall, h, hf, hd, hQ => by
    rw [List.all_cons, Bool.and_eq_true] at hall
    simp only [vopsQ] at h
    unfold wpStill
    cases hw : vwanted ops fr o with
    | none => simp [hw] at h
    | some x =>
      rw [vwanted_spec hf hw]
      cases x with
      | false =>
        simp only [hw] at h
        simp only [Bool.false_eq_true, if_false]
        cases hp : vput nt fr o.dst none with
        | none => simp [hp] at h
        | some fr1 =>
          simp only [hp] at h
          exact vopsS_sound hn hs l fr1 fr' _ hall.2 h (hf.put (.inr ⟨rfl, rfl⟩) hp) (by rw [put_defers]; exact hd) hQ
      | true =>
        simp only [hw] at h
        simp only [if_true]
        cases hq : quietOp o.op with
        | false => simp [hq] at h
        | true =>
          simp only [hq] at h
          cases hv : vop P ro call fr ⟨st.nx, st.hp, st.nx⟩ o.op with
          | none => simp [hv] at h
          | some r =>
            obtain ⟨v, st1⟩ := r
            simp only [hv] at h
            generalize (Nat.ble st.nx st1.ver && (Nat.beq st1.nx st.nx || plainO v)) = c at h
            cases c with
            | false => simp at h
            | true =>
              simp only [cond_true] at h
              cases hp : vput nt fr o.dst v with
              | none => simp [hp] at h
              | some fr1 =>
                simp only [hp] at h
                obtain ⟨_, x, hx, hr, hok⟩ := vop_quiet (w := w1) (st := ⟨st.nx, st.hp, st.nx⟩) hn hs hf hq hall.1 hv
                unfold Oper.still
                rw [hr]
                exact ⟨rfl, vopsS_sound hn hs l fr1 fr' _ hall.2 h (hf.put (.inl ⟨x, hx, rfl, hok⟩) hp) (by rw [put_defers]; exact hd) hQ⟩
end
end Go.Vm
