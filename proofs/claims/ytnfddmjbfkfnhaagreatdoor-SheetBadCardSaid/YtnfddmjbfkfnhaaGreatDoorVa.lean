/-
  An operation that leaves the memory alone, and operations one behind the other. Nothing is claimed here.
-/
import Derived.Test.YtnfddmjbfkfnhaaGreatDoorVz
namespace Go.Vm
open Go.RowKit

section
variable {P : Program} {J : Inj} {ro : Nat} {B : World} {st st' : St} {w : World} {nt : Nat} {fr : T V} {a : Act}

/-- What a quiet operation's run comes to. -/
def Quiet1 (J : Inj) (st : St) (w : World) (v : Option V) (st' : St) (r : Result Next) : Prop :=
  st' = st ∧ ∃ x, v = some x ∧ r = .ok (.value (x.real J)) w ∧ x.ok J.nx
theorem quiet_value {v : V} {u : Value} (he : u = v.real J) (hv : v.ok J.nx) : Quiet1 J st w (some v) st (.ok (.value u) w) := ⟨rfl, v, rfl, by rw [he], hv⟩
theorem quiet_val {s : Sem Value} {v : V} (hr : s.run P w = .ok (v.real J) w) (hv : v.ok J.nx) : Quiet1 J st w (some v) st ((do pure (.value (← s)) : Sem Next).run P w) := by
  simp only [Sem.run_bind, hr, Result.andThen_ok, Sem.run_pure]
  exact ⟨rfl, v, rfl, rfl, hv⟩

set_option maxHeartbeats 2000000 in
theorem vop_quiet {call : CallF} (hn : J.nx = st.nx) (hh : HR J ro B st.hp.get w) (hf : FR J nt fr a.tmps) {o : Oper} {v : Option V} (hq : quietOp o.op = true) (hnc : notCall o.op = true) (h : vop P ro call fr st o.op = some (v, st')) :
    Quiet1 J st w v st' ((execOp a.eval o).run P w) := by
  have hop := opnd_spec hf
  obtain ⟨dst, op, ty, pos, after, guard⟩ := o
  cases op <;> simp only [quietOp, Bool.false_eq_true] at hq <;> simp only [vop] at h
  case move x =>
    cases hx : opnd fr x with
    | none => simp [hx] at h
    | some u =>
      simp only [hx, Option.some.injEq, Prod.mk.injEq] at h
      obtain ⟨rfl, rfl⟩ := h
      exact quiet_value (hop x u hx).1 (hop x u hx).2
  case assign x =>
    cases hx : opnd fr x with
    | none => simp [hx] at h
    | some u =>
      simp only [hx, Option.some.injEq, Prod.mk.injEq] at h
      obtain ⟨rfl, rfl⟩ := h
      exact quiet_value (hop x u hx).1 (hop x u hx).2
  case pick c x y =>
    cases hc : opnd fr c with
    | none => simp [hc] at h
    | some u =>
      cases u <;> simp only [hc, reduceCtorEq] at h
      rename_i t
      cases hx : opnd fr (cond t x y) with
      | none => simp [hx] at h
      | some u =>
        simp only [hx, Option.some.injEq, Prod.mk.injEq] at h
        obtain ⟨rfl, rfl⟩ := h
        have hc' := (hop c _ hc).1
        simp only [V.real] at hc'
        simp only [execOp, hc', asBool, Sem.run_bind, Sem.run_pure, Result.andThen_ok]
        cases t
        · exact quiet_value (hop y u hx).1 (hop y u hx).2
        · exact quiet_value (hop x u hx).1 (hop x u hx).2
  case load t x =>
    cases hx : opnd fr x with
    | none => simp [hx] at h
    | some u =>
      cases u <;> simp only [hx, reduceCtorEq] at h
      rename_i g off
      cases hv : vload P st t g off with
      | none => simp [hv] at h
      | some y =>
        simp only [hv, Option.some.injEq, Prod.mk.injEq] at h
        obtain ⟨rfl, rfl⟩ := h
        obtain ⟨q1, q2⟩ := vload_real (P := P) hn hh hv
        simp only [execOp]
        refine quiet_val (s := Instr.loadAt t (a.eval x)) ?_ (by rw [hn]; exact q2)
        rw [(hop x _ hx).1]; exact q1
  case build t ps =>
    cases hps : partsOf fr ps.toList with
    | none => simp [hps] at h
    | some r =>
      simp only [hps] at h
      cases hb : vbuild P t r with
      | none => simp [hb] at h
      | some u =>
        simp only [hb, Option.some.injEq, Prod.mk.injEq] at h
        obtain ⟨rfl, rfl⟩ := h
        obtain ⟨p1, p2⟩ := partsOf_spec hop _ _ hps
        obtain ⟨q1, q2⟩ := vbuild_real (P := P) (J := J) (w := w) (n := J.nx) p2 hb
        have hm : (ps.map fun p => (p.1, a.eval p.2)) = (r.map fun x => (x.1, x.2.real J)).toArray := by
          apply Array.ext'; simpa using p1
        have he : execOp a.eval ⟨dst, .build t ps, ty, pos, after, guard⟩ = (do pure (.value (← Instr.build t (ps.map fun p => (p.1, a.eval p.2)))) : Sem Next) := rfl
        rw [he, hm]
        exact quiet_val q1 q2
  case nilCheck x =>
    cases hx : opnd fr x with
    | none => simp [hx] at h
    | some u =>
      cases u <;> simp only [hx, reduceCtorEq] at h
      rename_i g off
      simp only [Option.some.injEq, Prod.mk.injEq] at h
      obtain ⟨rfl, rfl⟩ := h
      have e := hop x _ hx
      simp only [execOp, e.1, V.real]
      exact quiet_value (by simp [V.real]) e.2
  case binOp op xt x y yt =>
    cases hx : opnd fr x with
    | none => simp [hx] at h
    | some u =>
      cases hy : opnd fr y with
      | none => simp [hx, hy] at h
      | some z =>
        simp only [hx, hy] at h
        cases hb : vbin P op xt u z with
        | none => simp [hb] at h
        | some r =>
          simp only [hb, Option.some.injEq, Prod.mk.injEq] at h
          obtain ⟨rfl, rfl⟩ := h
          have q := vbin_real (P := P) (J := J) (n := J.nx) w x y (hop x u hx).2 (hop y z hy).2 hb
          have e1 := (hop x u hx).1
          have e2 := (hop y z hy).1
          rw [← e1, ← e2] at q
          have hrun : (execOp a.eval ⟨dst, .binOp op xt x y yt, ty, pos, after, guard⟩).run P w = .ok (.value (r.real J)) w := by
            have : execOp a.eval ⟨dst, .binOp op xt x y yt, ty, pos, after, guard⟩ = (do pure (.value (← (do eqGuard op xt x y (a.eval x) (a.eval y); binOp op xt (a.eval x) (a.eval y) : Sem Value))) : Sem Next) := rfl
            rw [this, Sem.run_bind, q.1]
            rfl
          rw [hrun]
          exact quiet_value rfl q.2
  case unOp op xt x =>
    cases hx : opnd fr x with
    | none => simp [hx] at h
    | some u =>
      simp only [hx] at h
      cases hb : vun op u with
      | none => simp [hb] at h
      | some r =>
        simp only [hb, Option.some.injEq, Prod.mk.injEq] at h
        obtain ⟨rfl, rfl⟩ := h
        obtain ⟨q1, q2⟩ := vun_real (P := P) (J := J) w hb
        simp only [execOp]
        refine quiet_val (s := Op.unary op (a.eval x)) ?_ (q2 _)
        rw [(hop x u hx).1]; exact q1
  case makeFunc fn first caps =>
    cases hx : opnds fr first.toList with
    | none => simp [hx] at h
    | some xs =>
      cases hy : opnds fr caps.toList with
      | none => simp [hx, hy] at h
      | some ys =>
        simp only [hx, hy, Option.some.injEq, Prod.mk.injEq] at h
        obtain ⟨rfl, rfl⟩ := h
        obtain ⟨p1, p2⟩ := opnds_spec hop _ _ hx
        obtain ⟨q1, q2⟩ := opnds_spec hop _ _ hy
        simp only [execOp]
        refine quiet_val (s := Instr.makeFunc fn (first.map a.eval) (caps.map a.eval)) ?_ (by simp only [V.ok]; exact ⟨p2, q2⟩)
        have e1 : first.map a.eval = (V.reals J xs).toArray := by apply Array.ext'; rw [V.reals_eq]; simpa using p1
        have e2 : caps.map a.eval = (V.reals J ys).toArray := by apply Array.ext'; rw [V.reals_eq]; simpa using q1
        rw [e1, e2]
        simp [Instr.makeFunc, V.real]
  case slice t x lo hi mx =>
    cases hx : opnd fr x with
    | none => simp [hx] at h
    | some u =>
      simp only [hx] at h
      split at h
      · rename_i lo' hi' mx' h1 h2 h3
        cases hb : vslice P t u lo' hi' mx' with
        | none => simp [hb] at h
        | some r =>
          simp only [hb, Option.some.injEq, Prod.mk.injEq] at h
          obtain ⟨rfl, rfl⟩ := h
          obtain ⟨q1, q2⟩ := vslice_real (P := P) (J := J) (w := w) (n := J.nx) (hop x u hx).2 hb
          simp only [execOp]
          refine quiet_val (s := Instr.sliceAt t (a.eval x) (lo.map a.eval) (hi.map a.eval) (mx.map a.eval)) ?_ q2
          rw [(hop x u hx).1, optO_spec hf h1, optO_spec hf h2, optO_spec hf h3]
          exact q1
      · simp at h
  case fieldAddr t x f =>
    cases hx : opnd fr x with
    | none => simp [hx] at h
    | some u =>
      cases u <;> simp only [hx, reduceCtorEq] at h
      rename_i g off
      cases hv : vfieldAddr P t g off f with
      | none => simp [hv] at h
      | some y =>
        simp only [hv, Option.some.injEq, Prod.mk.injEq] at h
        obtain ⟨rfl, rfl⟩ := h
        have e := hop x _ hx
        simp only [V.ok] at e
        obtain ⟨q1, q2⟩ := vfieldAddr_real (P := P) (J := J) w e.2 hv
        simp only [execOp]
        refine quiet_val (s := Instr.fieldAt t (a.eval x) f) ?_ q2
        rw [e.1]; exact q1
  case field t x f =>
    cases hx : opnd fr x with
    | none => simp [hx] at h
    | some u =>
      simp only [hx] at h
      cases hv : vfield P t u f with
      | none => simp [hv] at h
      | some y =>
        simp only [hv, Option.some.injEq, Prod.mk.injEq] at h
        obtain ⟨rfl, rfl⟩ := h
        obtain ⟨q1, q2⟩ := vfield_real (P := P) (J := J) w (hop x u hx).2 hv
        simp only [execOp]
        refine quiet_val (s := Instr.field t (a.eval x) f) ?_ q2
        rw [(hop x u hx).1]; exact q1
  case indexAddr t x i =>
    cases hx : opnd fr x with
    | none => simp [hx] at h
    | some u =>
      cases hi : opnd fr i with
      | none => simp [hx, hi] at h
      | some z =>
        cases z <;> simp only [hx, hi, reduceCtorEq] at h
        rename_i k n
        cases hv : vindexAddr P t u n with
        | none => simp [hv] at h
        | some y =>
          simp only [hv, Option.some.injEq, Prod.mk.injEq] at h
          obtain ⟨rfl, rfl⟩ := h
          obtain ⟨q1, q2⟩ := vindexAddr_real (P := P) (J := J) (k := k) w (hop x u hx).2 hv
          simp only [execOp]
          refine quiet_val (s := Instr.indexAt t (a.eval x) (a.eval i)) ?_ q2
          rw [(hop x u hx).1, (hop i _ hi).1]
          simp only [V.real] at q1 ⊢
          exact q1
  case index t x i =>
    cases hx : opnd fr x with
    | none => simp [hx] at h
    | some u =>
      cases hi : opnd fr i with
      | none => simp [hx, hi] at h
      | some z =>
        cases z <;> simp only [hx, hi, reduceCtorEq] at h
        rename_i k n
        cases hv : vindex P t u n with
        | none => simp [hv] at h
        | some y =>
          simp only [hv, Option.some.injEq, Prod.mk.injEq] at h
          obtain ⟨rfl, rfl⟩ := h
          obtain ⟨q1, q2⟩ := vindex_real (P := P) (J := J) (k := k) w (hop x u hx).2 hv
          simp only [execOp]
          refine quiet_val (s := Instr.index t (a.eval x) (a.eval i)) ?_ q2
          rw [(hop x u hx).1, (hop i _ hi).1]
          simp only [V.real] at q1 ⊢
          exact q1
  case extract x i =>
    cases hx : opnd fr x with
    | none => simp [hx] at h
    | some u =>
      cases u <;> simp only [hx, reduceCtorEq] at h
      rename_i vs
      cases hv : vs[i]? with
      | none => simp [hv] at h
      | some y =>
        simp only [hv, Option.some.injEq, Prod.mk.injEq] at h
        obtain ⟨rfl, rfl⟩ := h
        have e := hop x _ hx
        simp only [V.ok, V.oks_iff] at e
        simp only [execOp]
        refine quiet_val (s := Instr.extract (a.eval x) i) ?_ (e.2 y (List.mem_of_getElem? hv))
        rw [e.1]
        simp [Instr.extract, V.real, V.reals_eq, hv]
  case call c =>
    simp only [notCall] at hnc
    cases hx : opnds fr c.args.toList with
    | none => simp [hx] at h
    | some args =>
      simp only [hx] at h
      obtain ⟨p1, p2⟩ := opnds_spec hop _ _ hx
      have e1 : c.args.map a.eval = (args.map (V.real J)).toArray := by apply Array.ext'; simpa using p1
      cases hc : c.callee with
      | invoke r m => simp [hc] at h
      | value f => simp [hc] at hnc
      | builtin b =>
        simp only [hc] at h hq
        cases hb : vbuiltin P ro b c.argTypes.toList args st with
        | none => simp [hb] at h
        | some r =>
          obtain ⟨y, st1⟩ := r
          simp only [hb, Option.some.injEq, Prod.mk.injEq] at h
          obtain ⟨rfl, rfl⟩ := h
          simp only [execOp, resolve, hc, Sem.run_bind, Sem.run_pure, Result.andThen_ok, invoke, e1]
          unfold vbuiltin at hb
          split at hb
          · rename_i t x hts
            obtain hts' : c.argTypes = #[t] := by apply Array.ext'; simpa using hts
            rw [hts']
            cases hv : vlenOp P t x with
            | none => simp [hv] at hb
            | some u =>
              simp only [hv, Option.some.injEq, Prod.mk.injEq] at hb
              obtain ⟨rfl, rfl⟩ := hb
              obtain ⟨q1, q2⟩ := vlenOp_real (P := P) (J := J) (w := w) (ty := ty) hv
              exact quiet_val q1 (q2 _)
          · simp at hq
          · simp at hq
          · rename_i x r
            simp only [V.oks] at p2
            cases hv : vminL true x r with
            | none => simp [hv] at hb
            | some u =>
              simp only [hv, Option.some.injEq, Prod.mk.injEq] at hb
              obtain ⟨rfl, rfl⟩ := hb
              obtain ⟨q1, q2⟩ := vminL_real (P := P) (J := J) (w := w) r hv p2.1 ((V.oks_iff _ _).1 p2.2)
              exact quiet_val (s := Builtin.min_ c.argTypes ty ((x :: r).map (V.real J)).toArray) (by simpa [Builtin.min_] using q1) q2
          · rename_i x r
            simp only [V.oks] at p2
            cases hv : vminL false x r with
            | none => simp [hv] at hb
            | some u =>
              simp only [hv, Option.some.injEq, Prod.mk.injEq] at hb
              obtain ⟨rfl, rfl⟩ := hb
              obtain ⟨q1, q2⟩ := vminL_real (P := P) (J := J) (w := w) r hv p2.1 ((V.oks_iff _ _).1 p2.2)
              exact quiet_val (s := Builtin.max_ c.argTypes ty ((x :: r).map (V.real J)).toArray) (by simpa [Builtin.max_] using q1) q2
          · simp at hb
theorem vop_call {call : CallF} (hcall : CallOK P ro B call) (hname : ∀ (f : Nat) (fn : Func), P.funcs[f]? = some fn → (fn.name == "runtime.NumGoroutine") = false) (hn : J.nx = st.nx) (hh : HR J ro B st.hp.get w) (hro : ro ≤ J.nx)
    (hf : FR J nt fr a.tmps) {o : Oper} {v : Option V} (hnc : notCall o.op = false) (h : vop P ro call fr st o.op = some (v, st')) :
    ∃ y fid args, v = some y ∧ (execOp a.eval o).run P w = .ok (.enter fid args) w ∧ Calls P fid args w fun e w' => ∃ J', e = .returned (y.real J') ∧ y.ok J'.nx ∧ Post J ro B st w J' st' w' := by
  have hop := opnd_spec hf
  obtain ⟨dst, op, ty, pos, after, guard⟩ := o
  cases op with
  | call c =>
    simp only [vop] at h
    simp only [notCall] at hnc
    cases hx : opnds fr c.args.toList with
    | none => simp [hx] at h
    | some args =>
      simp only [hx] at h
      obtain ⟨p1, p2⟩ := opnds_spec hop _ _ hx
      have e1 : c.args.map a.eval = (args.map (V.real J)).toArray := by apply Array.ext'; simpa using p1
      cases hc : c.callee with
      | invoke r m => simp [hc] at h
      | builtin b => simp [hc] at hnc
      | value f =>
        simp only [hc] at h
        cases hfo : opnd fr f with
        | none => simp [hfo] at h
        | some u =>
          simp only [hfo] at h
          split at h
          · rename_i fid first caps heq
            simp only [Option.some.injEq] at heq
            subst heq
            cases hcl : call fid (first ++ args ++ caps) st with
            | none => simp only [hcl, reduceCtorEq] at h
            | some r =>
              obtain ⟨y, st1⟩ := r
              simp only [hcl, Option.some.injEq, Prod.mk.injEq] at h
              obtain ⟨rfl, rfl⟩ := h
              have e2 := hop f _ hfo
              simp only [V.ok] at e2
              have hok : V.oks J.nx (first ++ args ++ caps) := by
                rw [V.oks_iff]
                intro z hz
                simp only [List.mem_append] at hz
                rcases hz with (hz | hz) | hz
                · exact (V.oks_iff _ _).1 e2.2.1 z hz
                · exact (V.oks_iff _ _).1 p2 z hz
                · exact (V.oks_iff _ _).1 e2.2.2 z hz
              obtain ⟨⟨fn, cd, hfn, hbody⟩, hC⟩ := hcall fid _ st y st1 hcl J w hn hh hro hok
              have hargs : (V.reals J first).toArray ++ (args.map (V.real J)).toArray ++ (V.reals J caps).toArray = (V.reals J (first ++ args ++ caps)).toArray := by
                simp [V.reals_eq]
              have hnm := hname fid fn hfn
              simp only [execOp, resolve, hc, e2.1, V.real, Deferred.ofValue, Sem.run_bind, Sem.run_pure, Result.andThen_ok, invoke, e1, hargs, callFunc, run_program, hfn, hnm, hbody, Bool.false_eq_true, if_false, Option.isNone_some]
              exact ⟨y, _, _, rfl, rfl, hC⟩
          · simp at h
  | _ => simp [notCall] at hnc
end
end Go.Vm
