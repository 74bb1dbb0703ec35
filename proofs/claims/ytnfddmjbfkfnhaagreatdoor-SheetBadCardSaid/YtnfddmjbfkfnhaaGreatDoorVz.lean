/-
  One operation of the evaluator, whatever it is, is one of the model's. Nothing is claimed here.
-/
import Derived.Test.YtnfddmjbfkfnhaaGreatDoorVy
import Derived.Test.YtnfddmjbfkfnhaaGreatDoorMp
namespace Go.Vm
open Go.RowKit

structure FR (J : Inj) (nt : Nat) (fr : T V) (tmps : Array Value) : Prop where
  size : nt ≤ tmps.size
  get : ∀ t v, fr.get t = some v → v.ok J.nx ∧ tmps[t]? = some (v.real J)

/-- What an operation's run comes to. -/
def Done (P : Program) (J : Inj) (ro : Nat) (B : World) (st : St) (w : World) (v : Option V) (st' : St) : Result Next → Prop
  | .ok (.value u) w' => ∃ x J', v = some x ∧ u = x.real J' ∧ x.ok J'.nx ∧ Post J ro B st w J' st' w'
  | .ok .skip w' => v = none ∧ ∃ J', Post J ro B st w J' st' w'
  | .ok (.enter f args) w' => w' = w ∧ Calls P f args w fun e w'' => ∃ x J', v = some x ∧ e = .returned (x.real J') ∧ x.ok J'.nx ∧ Post J ro B st w J' st' w''
  | _ => False

def CallOK (P : Program) (ro : Nat) (B : World) (call : CallF) : Prop :=
  ∀ f args st v st', call f args st = some (v, st') → ∀ J w, J.nx = st.nx → HR J ro B st.hp.get w → ro ≤ J.nx → V.oks J.nx args →
    (∃ fn c, P.funcs[f]? = some fn ∧ fn.body = some c) ∧
    Calls P f (V.reals J args).toArray w fun e w' => ∃ J', e = .returned (v.real J') ∧ v.ok J'.nx ∧ Post J ro B st w J' st' w'

section
variable {P : Program} {J : Inj} {ro : Nat} {B : World} {st st' : St} {w : World} {nt : Nat} {fr : T V} {a : Act}

theorem opnd_spec (hf : FR J nt fr a.tmps) (x : Operand) (v : V) (h : opnd fr x = some v) : a.eval x = v.real J ∧ v.ok J.nx := by
  cases x with
  | tmp t =>
    obtain ⟨q1, q2⟩ := hf.get t v h
    exact ⟨by simp [Act.eval, Array.getD_eq_getD_getElem?, q2], q1⟩
  | const c =>
    simp only [opnd] at h
    have := ofV_real J J.nx 4 c v h
    exact ⟨this.1.symm, this.2⟩
  | global g =>
    simp only [opnd] at h
    cases hb : Nat.blt g GL with
    | false => rw [hb] at h; cases h
    | true =>
      rw [hb] at h
      obtain rfl := Option.some.inj h
      rw [Nat.blt_eq] at hb
      obtain ⟨q1, q2⟩ := J.fix g hb
      exact ⟨by simp [Act.eval, V.real, q2], q1⟩
  | func f => simp only [opnd, Option.some.injEq] at h; subst h; simp [Act.eval, V.real, V.reals, V.ok, V.oks]

theorem done_value {v : V} {u : Value} (hp : Post J ro B st w J st w) (he : u = v.real J) (hv : v.ok J.nx) : Done P J ro B st w (some v) st (.ok (.value u) w) :=
  ⟨v, J, rfl, he, hv, hp⟩

theorem run_val {s : Sem Value} {v : V} {J' : Inj} {w' : World} (hr : s.run P w = .ok (v.real J') w') (hv : v.ok J'.nx) (hp : Post J ro B st w J' st' w') :
    Done P J ro B st w (some v) st' ((do pure (.value (← s)) : Sem Next).run P w) := by
  simp only [Sem.run_bind, hr, Result.andThen_ok, Sem.run_pure]
  exact ⟨v, J', rfl, rfl, hv, hp⟩

theorem optO_spec (hf : FR J nt fr a.tmps) {o : Option Operand} {x : Option V} (h : (match o with | none => some none | some o => (opnd fr o).map some) = some x) : o.map a.eval = x.map (V.real J) := by
  cases o with
  | none => simp only [Option.some.injEq] at h; subst h; rfl
  | some o =>
    simp only [Option.map_eq_some_iff] at h
    obtain ⟨v, h1, rfl⟩ := h
    simp [(opnd_spec hf o v h1).1]

theorem builtin_post (hn : J.nx = st.nx) (hh : HR J ro B st.hp.get w) (hro : ro ≤ J.nx) {b : Builtin} {ts : Array TypeId} {ty : TypeId} {cs : Array Bool} {args : List V} {v : V} (ha : V.oks J.nx args)
    (h : vbuiltin P ro b ts.toList args st = some (v, st')) :
    Done P J ro B st w (some v) st' ((builtin b ts ty cs (args.map (V.real J)).toArray).run P w) := by
  have hp := Post.refl hn hh hro
  unfold vbuiltin at h
  split at h
  · rename_i t x hts
    obtain rfl : ts = #[t] := by apply Array.ext'; simpa using hts
    cases hv : vlenOp P t x with
    | none => simp [hv] at h
    | some u =>
      simp only [hv, Option.some.injEq, Prod.mk.injEq] at h
      obtain ⟨rfl, rfl⟩ := h
      obtain ⟨q1, q2⟩ := vlenOp_real (P := P) (J := J) (w := w) (ty := ty) hv
      exact run_val q1 (q2 _) hp
  · rename_i t u s x hts
    obtain rfl : ts = #[t, u] := by apply Array.ext'; simpa using hts
    simp only [V.oks] at ha
    cases hu : P.underlying u with
    | none => simp [hu] at h
    | some d =>
      simp only [hu] at h
      by_cases hni : ∃ k, d = .int k
      · obtain ⟨k, rfl⟩ := hni
        simp at h
      · have h' : vappend P ro st t s x = some (v, st') := by
          cases d <;> first | exact h | exact absurd ⟨_, rfl⟩ hni
        obtain ⟨J', w', r1, r2, r3⟩ := vappend_post (P := P) (ty := ty) hn hh hro hu (fun k e => hni ⟨k, e⟩) ha.1 ha.2.1 h'
        exact run_val r1 r2 r3
  · rename_i t u d x hts
    obtain rfl : ts = #[t, u] := by apply Array.ext'; simpa using hts
    simp only [V.oks] at ha
    obtain ⟨w', r1, r2, r3⟩ := vcopy_post (P := P) (u := u) (ty := ty) hn hh hro ha.2.1 h
    exact run_val r1 r2 r3
  · rename_i x r
    simp only [V.oks] at ha
    cases hv : vminL true x r with
    | none => simp [hv] at h
    | some u =>
      simp only [hv, Option.some.injEq, Prod.mk.injEq] at h
      obtain ⟨rfl, rfl⟩ := h
      obtain ⟨q1, q2⟩ := vminL_real (P := P) (J := J) (w := w) r hv ha.1 ((V.oks_iff _ _).1 ha.2)
      exact run_val (s := Builtin.min_ ts ty ((x :: r).map (V.real J)).toArray) (by simpa [Builtin.min_] using q1) q2 hp
  · rename_i x r
    simp only [V.oks] at ha
    cases hv : vminL false x r with
    | none => simp [hv] at h
    | some u =>
      simp only [hv, Option.some.injEq, Prod.mk.injEq] at h
      obtain ⟨rfl, rfl⟩ := h
      obtain ⟨q1, q2⟩ := vminL_real (P := P) (J := J) (w := w) r hv ha.1 ((V.oks_iff _ _).1 ha.2)
      exact run_val (s := Builtin.max_ ts ty ((x :: r).map (V.real J)).toArray) (by simpa [Builtin.max_] using q1) q2 hp
  · simp at h

set_option maxHeartbeats 2000000 in
theorem vop_sound {call : CallF} (hcall : CallOK P ro B call) (hname : ∀ (f : Nat) (fn : Func), P.funcs[f]? = some fn → (fn.name == "runtime.NumGoroutine") = false) (hn : J.nx = st.nx) (hh : HR J ro B st.hp.get w) (hro : ro ≤ J.nx)
    (hf : FR J nt fr a.tmps) {o : Oper} {v : Option V} (h : vop P ro call fr st o.op = some (v, st')) : Done P J ro B st w v st' ((execOp a.eval o).run P w) := by
  have hp := Post.refl hn hh hro
  have hop := opnd_spec hf
  obtain ⟨dst, op, ty, pos, after, guard⟩ := o
  cases op <;> simp only [vop, reduceCtorEq] at h
  case move x =>
    cases hx : opnd fr x with
    | none => simp [hx] at h
    | some u =>
      simp only [hx, Option.some.injEq, Prod.mk.injEq] at h
      obtain ⟨rfl, rfl⟩ := h
      exact done_value hp (hop x u hx).1 (hop x u hx).2
  case assign x =>
    cases hx : opnd fr x with
    | none => simp [hx] at h
    | some u =>
      simp only [hx, Option.some.injEq, Prod.mk.injEq] at h
      obtain ⟨rfl, rfl⟩ := h
      exact done_value hp (hop x u hx).1 (hop x u hx).2
  case pick c x y =>
    cases hc : opnd fr c with
    | none => simp [hc] at h
    | some u =>
      cases u <;> simp only [hc, reduceCtorEq] at h
      rename_i t
      cases hx : opnd fr (cond t x y) with
      | none => simp [hx] at h
      | some u =>
        simp only [hx, Option.some.injEq, Prod.mk.injEq] at h
        obtain ⟨rfl, rfl⟩ := h
        have hc' := (hop c _ hc).1
        simp only [V.real] at hc'
        simp only [execOp, hc', asBool, Sem.run_bind, Sem.run_pure, Result.andThen_ok]
        cases t
        · exact done_value hp (hop y u hx).1 (hop y u hx).2
        · exact done_value hp (hop x u hx).1 (hop x u hx).2
  case alloc t =>
    cases hz : zeroOf P t with
    | none => simp [hz] at h
    | some z =>
      cases hs : sizeB P t with
      | none => simp [hz, hs] at h
      | some n =>
        simp only [hz, hs] at h
        cases ha : valloc st z n with
        | none => simp [ha] at h
        | some r =>
          obtain ⟨x, st1⟩ := r
          simp only [ha, Option.some.injEq, Prod.mk.injEq] at h
          obtain ⟨rfl, rfl⟩ := h
          obtain ⟨_, _, _, zok⟩ := zeroOf_real J J.nx hz
          obtain ⟨J', w', r1, r2, r3, r4⟩ := valloc_post (P := P) hn hh hro t zok ha
          simp only [execOp]
          refine run_val (s := Instr.alloc t true (.tuple #[])) ?_ r3 r4
          rw [r2]
          simp [Instr.alloc, zeroOf_run J hz, r1]
  case box t x =>
    cases hx : opnd fr x with
    | none => simp [hx] at h
    | some u =>
      cases hs : sizeB P t with
      | none => simp [hx, hs] at h
      | some n =>
        simp only [hx, hs] at h
        cases ha : valloc st u n with
        | none => simp [ha] at h
        | some r =>
          obtain ⟨y, st1⟩ := r
          simp only [ha, Option.some.injEq, Prod.mk.injEq] at h
          obtain ⟨rfl, rfl⟩ := h
          obtain ⟨e1, e2⟩ := hop x u hx
          obtain ⟨J', w', r1, r2, r3, r4⟩ := valloc_post (P := P) hn hh hro t e2 ha
          simp only [execOp]
          refine run_val (s := Instr.box t (a.eval x)) ?_ r3 r4
          rw [r2, e1]
          simp [Instr.box, r1]
  case build t ps =>
    cases hps : partsOf fr ps.toList with
    | none => simp [hps] at h
    | some r =>
      simp only [hps] at h
      cases hb : vbuild P t r with
      | none => simp [hb] at h
      | some u =>
        simp only [hb, Option.some.injEq, Prod.mk.injEq] at h
        obtain ⟨rfl, rfl⟩ := h
        obtain ⟨p1, p2⟩ := partsOf_spec hop _ _ hps
        obtain ⟨q1, q2⟩ := vbuild_real (P := P) (J := J) (w := w) (n := J.nx) p2 hb
        have hm : (ps.map fun p => (p.1, a.eval p.2)) = (r.map fun x => (x.1, x.2.real J)).toArray := by
          apply Array.ext'; simpa using p1
        have he : execOp a.eval ⟨dst, .build t ps, ty, pos, after, guard⟩ = (do pure (.value (← Instr.build t (ps.map fun p => (p.1, a.eval p.2)))) : Sem Next) := rfl
        rw [he, hm]
        exact run_val q1 q2 hp
  case buildSlice t len ps =>
    cases hps : partsOf fr ps.toList with
    | none => simp [hps] at h
    | some r =>
      simp only [hps] at h
      cases hb : vbuildSlice P st t len r with
      | none => simp [hb] at h
      | some u =>
        obtain ⟨x, st1⟩ := u
        simp only [hb, Option.some.injEq, Prod.mk.injEq] at h
        obtain ⟨rfl, rfl⟩ := h
        obtain ⟨p1, p2⟩ := partsOf_spec hop _ _ hps
        obtain ⟨J', w', r1, r2, r3⟩ := vbuildSlice_post (P := P) hn hh hro p2 hb
        have hm : (ps.map fun p => (p.1, a.eval p.2)) = (r.map fun x => (x.1, x.2.real J)).toArray := by
          apply Array.ext'; simpa using p1
        have he : execOp a.eval ⟨dst, .buildSlice t len ps, ty, pos, after, guard⟩ = (do pure (.value (← Instr.buildSlice t len (ps.map fun p => (p.1, a.eval p.2)))) : Sem Next) := rfl
        rw [he, hm]
        exact run_val r1 r2 r3
  case load t x =>
    cases hx : opnd fr x with
    | none => simp [hx] at h
    | some u =>
      cases u <;> simp only [hx, reduceCtorEq] at h
      rename_i g off
      cases hv : vload P st t g off with
      | none => simp [hv] at h
      | some y =>
        simp only [hv, Option.some.injEq, Prod.mk.injEq] at h
        obtain ⟨rfl, rfl⟩ := h
        obtain ⟨q1, q2⟩ := vload_real (P := P) hn hh hv
        simp only [execOp]
        refine run_val (s := Instr.loadAt t (a.eval x)) ?_ (by rw [hn]; exact q2) hp
        rw [(hop x _ hx).1]; exact q1
  case store t x y =>
    cases hx : opnd fr x with
    | none => simp [hx] at h
    | some u =>
      cases u <;> simp only [hx, reduceCtorEq] at h
      rename_i g off
      cases hy : opnd fr y with
      | none => simp [hy] at h
      | some z =>
        simp only [hy] at h
        cases hs : vstore P ro st t g off z with
        | none => simp [hs] at h
        | some st1 =>
          simp only [hs, Option.some.injEq, Prod.mk.injEq] at h
          obtain ⟨rfl, rfl⟩ := h
          obtain ⟨w', q1, q2⟩ := vstore_post (P := P) hn hh hro (hop y z hy).2 hs
          show Done P J ro B st w none st1 ((do Instr.storeAt t (a.eval x) (a.eval y); pure .skip : Sem Next).run P w)
          rw [(hop x _ hx).1, (hop y z hy).1]
          simp only [Sem.run_bind, q1, Result.andThen_ok, Sem.run_pure]
          exact ⟨rfl, J, q2⟩
  case nilCheck x =>
    cases hx : opnd fr x with
    | none => simp [hx] at h
    | some u =>
      cases u <;> simp only [hx, reduceCtorEq] at h
      rename_i g off
      simp only [Option.some.injEq, Prod.mk.injEq] at h
      obtain ⟨rfl, rfl⟩ := h
      have e := hop x _ hx
      simp only [execOp, e.1, V.real]
      exact done_value hp (by simp [V.real]) e.2
  case binOp op xt x y yt =>
    cases hx : opnd fr x with
    | none => simp [hx] at h
    | some u =>
      cases hy : opnd fr y with
      | none => simp [hx, hy] at h
      | some z =>
        simp only [hx, hy] at h
        cases hb : vbin P op xt u z with
        | none => simp [hb] at h
        | some r =>
          simp only [hb, Option.some.injEq, Prod.mk.injEq] at h
          obtain ⟨rfl, rfl⟩ := h
          have q := vbin_real (P := P) (J := J) (n := J.nx) w x y (hop x u hx).2 (hop y z hy).2 hb
          have e1 := (hop x u hx).1
          have e2 := (hop y z hy).1
          rw [← e1, ← e2] at q
          have hrun : (execOp a.eval ⟨dst, .binOp op xt x y yt, ty, pos, after, guard⟩).run P w = .ok (.value (r.real J)) w := by
            have : execOp a.eval ⟨dst, .binOp op xt x y yt, ty, pos, after, guard⟩ = (do pure (.value (← (do eqGuard op xt x y (a.eval x) (a.eval y); binOp op xt (a.eval x) (a.eval y) : Sem Value))) : Sem Next) := rfl
            rw [this, Sem.run_bind, q.1]
            rfl
          rw [hrun]
          exact done_value hp rfl q.2
  case unOp op xt x =>
    cases hx : opnd fr x with
    | none => simp [hx] at h
    | some u =>
      simp only [hx] at h
      cases hb : vun op u with
      | none => simp [hb] at h
      | some r =>
        simp only [hb, Option.some.injEq, Prod.mk.injEq] at h
        obtain ⟨rfl, rfl⟩ := h
        obtain ⟨q1, q2⟩ := vun_real (P := P) (J := J) w hb
        simp only [execOp]
        refine run_val (s := Op.unary op (a.eval x)) ?_ (q2 _) hp
        rw [(hop x u hx).1]; exact q1
  case convert s d x =>
    cases hx : opnd fr x with
    | none => simp [hx] at h
    | some u =>
      simp only [hx] at h
      cases hb : vconv2 P ro st s d u with
      | none => simp [hb] at h
      | some r =>
        obtain ⟨y, st1⟩ := r
        simp only [hb, Option.some.injEq, Prod.mk.injEq] at h
        obtain ⟨rfl, rfl⟩ := h
        obtain ⟨J', w', r1, r2, r3⟩ := vconv2_post (P := P) hn hh hro (hop x u hx).2 hb
        simp only [execOp]
        refine run_val (s := convert s d (a.eval x)) ?_ r2 r3
        rw [(hop x u hx).1]; exact r1
  case makeFunc fn first caps =>
    cases hx : opnds fr first.toList with
    | none => simp [hx] at h
    | some xs =>
      cases hy : opnds fr caps.toList with
      | none => simp [hx, hy] at h
      | some ys =>
        simp only [hx, hy, Option.some.injEq, Prod.mk.injEq] at h
        obtain ⟨rfl, rfl⟩ := h
        obtain ⟨p1, p2⟩ := opnds_spec hop _ _ hx
        obtain ⟨q1, q2⟩ := opnds_spec hop _ _ hy
        simp only [execOp]
        refine run_val (s := Instr.makeFunc fn (first.map a.eval) (caps.map a.eval)) (J' := J) (w' := w) ?_ (by simp only [V.ok]; exact ⟨p2, q2⟩) hp
        have e1 : first.map a.eval = (V.reals J xs).toArray := by apply Array.ext'; rw [V.reals_eq]; simpa using p1
        have e2 : caps.map a.eval = (V.reals J ys).toArray := by apply Array.ext'; rw [V.reals_eq]; simpa using q1
        rw [e1, e2]
        simp [Instr.makeFunc, V.real]
  case makeMap t r =>
    cases r with
    | some _ => cases h
    | none =>
      simp only [Option.some.injEq, Prod.mk.injEq] at h
      obtain ⟨rfl, rfl⟩ := h
      obtain ⟨J', w', r1, r2, r3⟩ := vmakeMap_post (P := P) hn hh hro t
      simp only [execOp]
      exact run_val (s := Instr.makeMap t none) r1 r2 r3
  case lookup t x k ok =>
    cases hx : opnd fr x with
    | none => simp [hx] at h
    | some u =>
      cases hk : opnd fr k with
      | none => simp [hx, hk] at h
      | some z =>
        simp only [hx, hk] at h
        cases hv : vlookup P ro st t u z ok with
        | none => simp [hv] at h
        | some y =>
          simp only [hv, Option.some.injEq, Prod.mk.injEq] at h
          obtain ⟨rfl, rfl⟩ := h
          obtain ⟨q1, q2⟩ := vlookup_real (P := P) hh (hop x u hx).2 (hop k z hk).2 hv
          simp only [execOp]
          refine run_val (s := Instr.lookup t (a.eval x) (a.eval k) ok) ?_ q2 hp
          rw [(hop x u hx).1, (hop k z hk).1]
          exact q1
  case mapUpdate t m k x =>
    cases hm : opnd fr m with
    | none => simp [hm] at h
    | some u =>
      cases hk : opnd fr k with
      | none => simp [hm, hk] at h
      | some z =>
        cases hx : opnd fr x with
        | none => simp [hm, hk, hx] at h
        | some y =>
          simp only [hm, hk, hx] at h
          cases hv : vmapUpdate P ro st t u z y with
          | none => simp [hv] at h
          | some st1 =>
            simp only [hv, Option.some.injEq, Prod.mk.injEq] at h
            obtain ⟨rfl, rfl⟩ := h
            obtain ⟨w', q1, q2⟩ := vmapUpdate_post (P := P) hn hh hro (hop k z hk).2 (hop x y hx).2 hv
            simp only [execOp]
            rw [(hop m u hm).1, (hop k z hk).1, (hop x y hx).1]
            simp only [Sem.run_bind, q1, Result.andThen_ok, Sem.run_pure]
            exact ⟨rfl, J, q2⟩
  case makeSlice t l c =>
    cases hx : opnd fr l with
    | none => simp [hx] at h
    | some u =>
      cases u <;> simp only [hx, reduceCtorEq] at h
      cases hy : opnd fr c with
      | none => simp [hy] at h
      | some z =>
        cases z <;> simp only [hy, reduceCtorEq] at h
        rename_i k1 n1 k2 n2
        cases hb : vmakeSlice P st t n1 n2 with
        | none => simp [hb] at h
        | some r =>
          obtain ⟨y, st1⟩ := r
          simp only [hb, Option.some.injEq, Prod.mk.injEq] at h
          obtain ⟨rfl, rfl⟩ := h
          obtain ⟨J', w', r1, r2, r3⟩ := vmakeSlice_post (P := P) (kl := k1) (kc := k2) hn hh hro hb
          simp only [execOp]
          refine run_val (s := Instr.makeSlice t (a.eval l) (a.eval c)) ?_ r2 r3
          rw [(hop l _ hx).1, (hop c _ hy).1]
          simp only [V.real] at r1 ⊢
          exact r1
  case slice t x lo hi mx =>
    cases hx : opnd fr x with
    | none => simp [hx] at h
    | some u =>
      simp only [hx] at h
      split at h
      · rename_i lo' hi' mx' h1 h2 h3
        cases hb : vslice P t u lo' hi' mx' with
        | none => simp [hb] at h
        | some r =>
          simp only [hb, Option.some.injEq, Prod.mk.injEq] at h
          obtain ⟨rfl, rfl⟩ := h
          obtain ⟨q1, q2⟩ := vslice_real (P := P) (J := J) (w := w) (n := J.nx) (hop x u hx).2 hb
          simp only [execOp]
          refine run_val (s := Instr.sliceAt t (a.eval x) (lo.map a.eval) (hi.map a.eval) (mx.map a.eval)) ?_ q2 hp
          rw [(hop x u hx).1, optO_spec hf h1, optO_spec hf h2, optO_spec hf h3]
          exact q1
      · simp at h
  case fieldAddr t x f =>
    cases hx : opnd fr x with
    | none => simp [hx] at h
    | some u =>
      cases u <;> simp only [hx, reduceCtorEq] at h
      rename_i g off
      cases hv : vfieldAddr P t g off f with
      | none => simp [hv] at h
      | some y =>
        simp only [hv, Option.some.injEq, Prod.mk.injEq] at h
        obtain ⟨rfl, rfl⟩ := h
        have e := hop x _ hx
        simp only [V.ok] at e
        obtain ⟨q1, q2⟩ := vfieldAddr_real (P := P) (J := J) w e.2 hv
        simp only [execOp]
        refine run_val (s := Instr.fieldAt t (a.eval x) f) ?_ q2 hp
        rw [e.1]; exact q1
  case field t x f =>
    cases hx : opnd fr x with
    | none => simp [hx] at h
    | some u =>
      simp only [hx] at h
      cases hv : vfield P t u f with
      | none => simp [hv] at h
      | some y =>
        simp only [hv, Option.some.injEq, Prod.mk.injEq] at h
        obtain ⟨rfl, rfl⟩ := h
        obtain ⟨q1, q2⟩ := vfield_real (P := P) (J := J) w (hop x u hx).2 hv
        simp only [execOp]
        refine run_val (s := Instr.field t (a.eval x) f) ?_ q2 hp
        rw [(hop x u hx).1]; exact q1
  case indexAddr t x i =>
    cases hx : opnd fr x with
    | none => simp [hx] at h
    | some u =>
      cases hi : opnd fr i with
      | none => simp [hx, hi] at h
      | some z =>
        cases z <;> simp only [hx, hi, reduceCtorEq] at h
        rename_i k n
        cases hv : vindexAddr P t u n with
        | none => simp [hv] at h
        | some y =>
          simp only [hv, Option.some.injEq, Prod.mk.injEq] at h
          obtain ⟨rfl, rfl⟩ := h
          obtain ⟨q1, q2⟩ := vindexAddr_real (P := P) (J := J) (k := k) w (hop x u hx).2 hv
          simp only [execOp]
          refine run_val (s := Instr.indexAt t (a.eval x) (a.eval i)) ?_ q2 hp
          rw [(hop x u hx).1, (hop i _ hi).1]
          simp only [V.real] at q1 ⊢
          exact q1
  case index t x i =>
    cases hx : opnd fr x with
    | none => simp [hx] at h
    | some u =>
      cases hi : opnd fr i with
      | none => simp [hx, hi] at h
      | some z =>
        cases z <;> simp only [hx, hi, reduceCtorEq] at h
        rename_i k n
        cases hv : vindex P t u n with
        | none => simp [hv] at h
        | some y =>
          simp only [hv, Option.some.injEq, Prod.mk.injEq] at h
          obtain ⟨rfl, rfl⟩ := h
          obtain ⟨q1, q2⟩ := vindex_real (P := P) (J := J) (k := k) w (hop x u hx).2 hv
          simp only [execOp]
          refine run_val (s := Instr.index t (a.eval x) (a.eval i)) ?_ q2 hp
          rw [(hop x u hx).1, (hop i _ hi).1]
          simp only [V.real] at q1 ⊢
          exact q1
  case extract x i =>
    cases hx : opnd fr x with
    | none => simp [hx] at h
    | some u =>
      cases u <;> simp only [hx, reduceCtorEq] at h
      rename_i vs
      cases hv : vs[i]? with
      | none => simp [hv] at h
      | some y =>
        simp only [hv, Option.some.injEq, Prod.mk.injEq] at h
        obtain ⟨rfl, rfl⟩ := h
        have e := hop x _ hx
        simp only [V.ok, V.oks_iff] at e
        simp only [execOp]
        refine run_val (s := Instr.extract (a.eval x) i) (J' := J) (w' := w) ?_ (e.2 y (List.mem_of_getElem? hv)) hp
        rw [e.1]
        simp [Instr.extract, V.real, V.reals_eq, hv]
  case call c =>
    cases hx : opnds fr c.args.toList with
    | none => simp [hx] at h
    | some args =>
      simp only [hx] at h
      obtain ⟨p1, p2⟩ := opnds_spec hop _ _ hx
      have e1 : c.args.map a.eval = (args.map (V.real J)).toArray := by apply Array.ext'; simpa using p1
      cases hc : c.callee with
      | invoke r m => simp [hc] at h
      | builtin b =>
        simp only [hc] at h
        cases hb : vbuiltin P ro b c.argTypes.toList args st with
        | none => simp [hb] at h
        | some r =>
          obtain ⟨y, st1⟩ := r
          simp only [hb, Option.some.injEq, Prod.mk.injEq] at h
          obtain ⟨rfl, rfl⟩ := h
          have := builtin_post (P := P) (ty := ty) (cs := c.args.map fun | .const _ => true | _ => false) hn hh hro p2 hb
          simp only [execOp, resolve, hc, Sem.run_bind, Sem.run_pure, Result.andThen_ok, invoke, e1]
          exact this
      | value f =>
        simp only [hc] at h
        cases hfo : opnd fr f with
        | none => simp [hfo] at h
        | some u =>
          simp only [hfo] at h
          split at h
          · rename_i fid first caps heq
            simp only [Option.some.injEq] at heq
            subst heq
            cases hcl : call fid (first ++ args ++ caps) st with
            | none => simp only [hcl, reduceCtorEq] at h
            | some r =>
              obtain ⟨y, st1⟩ := r
              simp only [hcl, Option.some.injEq, Prod.mk.injEq] at h
              obtain ⟨rfl, rfl⟩ := h
              have e2 := hop f _ hfo
              simp only [V.ok] at e2
              have hok : V.oks J.nx (first ++ args ++ caps) := by
                rw [V.oks_iff]
                intro z hz
                simp only [List.mem_append] at hz
                rcases hz with (hz | hz) | hz
                · exact (V.oks_iff _ _).1 e2.2.1 z hz
                · exact (V.oks_iff _ _).1 p2 z hz
                · exact (V.oks_iff _ _).1 e2.2.2 z hz
              obtain ⟨⟨fn, cd, hfn, hbody⟩, hC⟩ := hcall fid _ st y st1 hcl J w hn hh hro hok
              have hargs : (V.reals J first).toArray ++ (args.map (V.real J)).toArray ++ (V.reals J caps).toArray = (V.reals J (first ++ args ++ caps)).toArray := by
                simp [V.reals_eq]
              have hnm := hname fid fn hfn
              simp only [execOp, resolve, hc, e2.1, V.real, Deferred.ofValue, Sem.run_bind, Sem.run_pure, Result.andThen_ok, invoke, e1, hargs, callFunc, run_program, hfn, hnm, hbody, Bool.false_eq_true, if_false, Option.isNone_some]
              refine ⟨rfl, hC.mono ?_⟩
              rintro e w' ⟨J', h1, h2, h3⟩
              exact ⟨y, J', rfl, h1, h2, h3⟩
          · simp at h
end
end Go.Vm
