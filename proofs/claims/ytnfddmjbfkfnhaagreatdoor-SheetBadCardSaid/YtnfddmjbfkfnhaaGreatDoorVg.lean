/-
  The faster evaluator tells nothing but what the evaluator tells: code and calls. Nothing is claimed here.
-/
import Derived.Test.YtnfddmjbfkfnhaaGreatDoorVh
namespace Go.Vk
open Go.Vm

section
variable {P : Program} {ov : Ov} {cf : Nat → CallF} {ro mask nt L : Nat} {names : List Nat} {fr fr0 : T V} {ls : List V} {st : St}

theorem fnum {n : Nat} : evF P ov ro n = callGo P ov (evC P ov ro n) := rfl

theorem kwanted_true (hr : Rel mask names fr ls fr0) {ops : Array Oper} {o : Oper} {t f : Bool} (h : (kwanted mask names ops o.guard).run fr ls t f = true) :
    (vwanted ops fr0 o = some true ∧ t = true) ∨ (vwanted ops fr0 o = some false ∧ f = true) := by
  unfold vwanted
  cases hg : o.guard with
  | none => rw [hg] at h; exact .inl ⟨rfl, h⟩
  | some g =>
    obtain ⟨j, want⟩ := g
    rw [hg] at h
    simp only [kwanted] at h
    dsimp only
    cases hd : (ops[j]?).bind (·.dst) with
    | none => rw [hd] at h; exact .inr ⟨rfl, h⟩
    | some d =>
      rw [hd] at h
      dsimp only
      cases want with
      | true =>
        obtain ⟨v, h1, h2⟩ := ktmp_true hr (show (ktmp mask names d).run fr ls _ = true from h)
        rw [h1]
        rcases onBx_true h2 with ⟨rfl, h3⟩ | ⟨rfl, h3⟩ | ⟨hx, h3⟩
        · exact .inl ⟨rfl, h3⟩
        · exact .inr ⟨rfl, h3⟩
        · refine .inr ⟨?_, h3⟩
          cases v <;> first | rfl | exact absurd rfl (hx _)
      | false =>
        obtain ⟨v, h1, h2⟩ := ktmp_true hr (show (ktmp mask names d).run fr ls _ = true from h)
        rw [h1]
        rcases onBx_true h2 with ⟨rfl, h3⟩ | ⟨rfl, h3⟩ | ⟨hx, h3⟩
        · exact .inr ⟨rfl, h3⟩
        · exact .inl ⟨rfl, h3⟩
        · refine .inr ⟨?_, h3⟩
          cases v <;> first | rfl | exact absurd rfl (hx _)

theorem kops_true {call : KCall} (hc : KOKc cf call) {ops : Array Oper} : ∀ (l : List Oper) {names : List Nat} {fr fr0 : T V} {ls : List V} {st : St} {k : T V → St → Bool}, Rel mask names fr ls fr0 → (kops P ro nt mask ops names l).run call fr ls st k = true →
    ∃ fr0' st', Even (fun m => vops P ro nt (cf m) ops l fr0 st) (fr0', st') ∧ ∃ fr', Rel mask [] fr' [] fr0' ∧ k fr' st' = true
  | [], names, fr, fr0, ls, st, k, hr, h => ⟨fr0, st, ⟨0, fun _ _ => rfl⟩, fr, hr.drop, h⟩
  | o :: r, names, fr, fr0, ls, st, k, hr, h => by
    have yes : vwanted ops fr0 o = some true → (kop P ro mask names o.op).run call fr ls st (fun v st => (kput nt mask o.dst).run fr ls v fun fr ls => (kops P ro nt mask ops (namesOf mask names o.dst) r).run call fr ls st k) = true →
        ∃ fr0' st', Even (fun m => vops P ro nt (cf m) ops (o :: r) fr0 st) (fr0', st') ∧ ∃ fr', Rel mask [] fr' [] fr0' ∧ k fr' st' = true := by
      intro hw h
      obtain ⟨v, st1, ⟨m1, h1⟩, h2⟩ := kop_true hr hc h
      obtain ⟨fr1, h3, fr2, ls2, hr2, h4⟩ := hr.put h2
      obtain ⟨fr3, st3, ⟨m2, h5⟩, h6⟩ := kops_true hc r hr2 h4
      dsimp only at h1 h5
      exact ⟨fr3, st3, ⟨max m1 m2, fun m' hm => by simp only [vops, hw, h1 m' (by omega), h3, h5 m' (by omega)]⟩, h6⟩
    cases hg : o.guard with
    | none =>
      simp only [kops, hg] at h
      exact yes (by unfold vwanted; rw [hg]) h
    | some g =>
      simp only [kops, hg] at h
      rw [← hg] at h
      rcases kwanted_true hr h with ⟨hw, h1⟩ | ⟨hw, h1⟩
      · exact yes hw h1
      · obtain ⟨fr1, h3, fr2, ls2, hr2, h4⟩ := hr.put h1
        obtain ⟨fr3, st3, ⟨m2, h5⟩, h6⟩ := kops_true hc r hr2 h4
        dsimp only at h5
        exact ⟨fr3, st3, ⟨m2, fun m' hm => by simp only [vops, hw, h3, h5 m' hm]⟩, h6⟩

theorem kopsQ_true {call : KCall} (hc : KOKc cf call) {ops : Array Oper} : ∀ (l : List Oper) {names : List Nat} {fr fr0 : T V} {ls : List V} {st : St} {k : T V → St → Bool}, Rel mask names fr ls fr0 → (kopsQ P ro nt mask ops names l).run call fr ls st k = true →
    ∃ fr0', Even (fun m => vopsQ P ro nt (cf m) ops l fr0 st) fr0' ∧ ∃ fr', Rel mask [] fr' [] fr0' ∧ k fr' st = true
  | [], names, fr, fr0, ls, st, k, hr, h => ⟨fr0, ⟨0, fun _ _ => rfl⟩, fr, hr.drop, h⟩
  | o :: r, names, fr, fr0, ls, st, k, hr, h => by
    have skip : vwanted ops fr0 o = some false → (kput nt mask o.dst).run fr ls none (fun fr ls => (kopsQ P ro nt mask ops (namesOf mask names o.dst) r).run call fr ls st k) = true →
        ∃ fr0', Even (fun m => vopsQ P ro nt (cf m) ops (o :: r) fr0 st) fr0' ∧ ∃ fr', Rel mask [] fr' [] fr0' ∧ k fr' st = true := by
      intro hw h1
      obtain ⟨fr1, h3, fr2, ls2, hr2, h4⟩ := hr.put h1
      obtain ⟨fr3, ⟨m2, h5⟩, h6⟩ := kopsQ_true hc r hr2 h4
      dsimp only at h5
      exact ⟨fr3, ⟨m2, fun m' hm => by simp only [vopsQ, hw, h3, h5 m' hm]⟩, h6⟩
    simp only [kopsQ] at h
    cases hq : quietOp o.op with
    | true =>
      rw [hq] at h
      rcases kwanted_true hr (show (kwanted mask names ops o.guard).run fr ls _ _ = true from h) with ⟨hw, h1⟩ | ⟨hw, h1⟩
      · obtain ⟨v, st1, ⟨m1, h2⟩, h3⟩ := kop_true hr hc h1
        obtain ⟨h4, h5⟩ := ifB_t h3
        obtain ⟨fr1, h6, fr2, ls2, hr2, h7⟩ := hr.put h5
        obtain ⟨fr3, ⟨m2, h8⟩, h9⟩ := kopsQ_true hc r hr2 h7
        dsimp only at h2 h8
        exact ⟨fr3, ⟨max m1 m2, fun m' hm => by simp only [vopsQ, hw, hq, h2 m' (by omega), h4, cond_true, h6, h8 m' (by omega)]⟩, h9⟩
      · exact skip hw h1
    | false =>
      rw [hq] at h
      rcases kwanted_true hr (show (kwanted mask names ops o.guard).run fr ls _ _ = true from h) with ⟨hw, h1⟩ | ⟨hw, h1⟩
      · exact no h1
      · exact skip hw h1

theorem kopsT_true {call : KCall} (hc : KOKc cf call) {ops : Array Oper} {tl : List Oper} : ∀ (l : List Oper) {names : List Nat} {fr fr0 : T V} {ls : List V} {st : St} {k : T V → St → Bool}, Rel mask names fr ls fr0 → (kopsT P ro nt mask ops tl names l).run call fr ls st k = true →
    ∃ fr0' fr1' st', Even (fun m => vopsQ P ro nt (cf m) ops l fr0 st) fr0' ∧ Even (fun m => vops P ro nt (cf m) ops tl fr0' st) (fr1', st') ∧ ∃ fr', Rel mask [] fr' [] fr1' ∧ k fr' st' = true
  | [], names, fr, fr0, ls, st, k, hr, h => by
    obtain ⟨fr1, st1, h1, h2⟩ := kops_true hc tl hr (show (kops P ro nt mask ops names tl).run call fr ls st k = true from h)
    exact ⟨fr0, fr1, st1, ⟨0, fun _ _ => rfl⟩, h1, h2⟩
  | o :: r, names, fr, fr0, ls, st, k, hr, h => by
    have skip : vwanted ops fr0 o = some false → (kput nt mask o.dst).run fr ls none (fun fr ls => (kopsT P ro nt mask ops tl (namesOf mask names o.dst) r).run call fr ls st k) = true →
        ∃ fr0' fr1' st', Even (fun m => vopsQ P ro nt (cf m) ops (o :: r) fr0 st) fr0' ∧ Even (fun m => vops P ro nt (cf m) ops tl fr0' st) (fr1', st') ∧ ∃ fr', Rel mask [] fr' [] fr1' ∧ k fr' st' = true := by
      intro hw h1
      obtain ⟨fr1, h3, fr2, ls2, hr2, h4⟩ := hr.put h1
      obtain ⟨fr3, fr4, st4, ⟨m2, h5⟩, h6⟩ := kopsT_true hc r hr2 h4
      dsimp only at h5
      exact ⟨fr3, fr4, st4, ⟨m2, fun m' hm => by simp only [vopsQ, hw, h3, h5 m' hm]⟩, h6⟩
    simp only [kopsT] at h
    cases hq : quietOp o.op with
    | true =>
      rw [hq] at h
      rcases kwanted_true hr (show (kwanted mask names ops o.guard).run fr ls _ _ = true from h) with ⟨hw, h1⟩ | ⟨hw, h1⟩
      · obtain ⟨v, st1, ⟨m1, h2⟩, h3⟩ := kop_true hr hc h1
        obtain ⟨h4, h5⟩ := ifB_t h3
        obtain ⟨fr1, h6, fr2, ls2, hr2, h7⟩ := hr.put h5
        obtain ⟨fr3, fr4, st4, ⟨m2, h8⟩, h9⟩ := kopsT_true hc r hr2 h7
        dsimp only at h2 h8
        exact ⟨fr3, fr4, st4, ⟨max m1 m2, fun m' hm => by simp only [vopsQ, hw, hq, h2 m' (by omega), h4, cond_true, h6, h8 m' (by omega)]⟩, h9⟩
      · exact skip hw h1
    | false =>
      rw [hq] at h
      rcases kwanted_true hr (show (kwanted mask names ops o.guard).run fr ls _ _ = true from h) with ⟨hw, h1⟩ | ⟨hw, h1⟩
      · exact no h1
      · exact skip hw h1

theorem kkeep_true {st : St} {b : Bool} : ∀ {es : List Ent}, kkeep P st es b = true → keepB P st es = true ∧ b = true
  | [], h => ⟨rfl, h⟩
  | e :: r, h => by
    have h' : (kload P e.t).run st e.id e.off (fun v => ifB (sameV v e.v) (kkeep P st r b) false) = true := h
    obtain ⟨v, h1, h2⟩ := kload_true h'
    obtain ⟨h3, h4⟩ := ifB_t h2
    obtain ⟨h5, h6⟩ := kkeep_true h4
    exact ⟨by simp only [keepB, h1, h3, cond_true, h5], h6⟩

theorem kkeep2_true {c : Bool} {st : St} {b : Bool} {es : List Ent} (h : kkeep2 P c st es b = true) : (c || keepB P st es) = true ∧ b = true := by
  cases c with
  | true => exact ⟨rfl, h⟩
  | false =>
    obtain ⟨h1, h2⟩ := kkeep_true (show kkeep P st es b = true from h)
    exact ⟨by rw [h1]; rfl, h2⟩
theorem krunF_true {call : KCall} (hc : KOKc cf call) {ops : Array Oper} {fin : List Nat → KRE} : ∀ (l : List (Nat × Oper)) {names : List Nat} {fr fr0 : T V} {ls : List V} {es : List Ent} {st : St} {k : T V → St → Bool}, Rel mask names fr ls fr0 → (krunF P ro nt mask ops fin names l).run call fr ls es st k = true →
    ∃ fr0' st', Even (fun m => runO P ro nt (cf m) ops l es fr0 st) (fr0', st') ∧ ∃ nm fr' ls' es', Rel mask nm fr' ls' fr0' ∧ (fin nm).run call fr' ls' es' st' k = true
  | [], names, fr, fr0, ls, es, st, k, hr, h => ⟨fr0, st, ⟨0, fun _ _ => rfl⟩, names, fr, ls, es, hr, h⟩
  | (i, o) :: r, names, fr, fr0, ls, es, st, k, hr, h => by
    have skip : vwanted ops fr0 o = some false → (kput nt mask o.dst).run fr ls none (fun fr ls => (krunF P ro nt mask ops fin (namesOf mask names o.dst) r).run call fr ls es st k) = true →
        ∃ fr0' st', Even (fun m => runO P ro nt (cf m) ops ((i, o) :: r) es fr0 st) (fr0', st') ∧ ∃ nm fr' ls' es', Rel mask nm fr' ls' fr0' ∧ (fin nm).run call fr' ls' es' st' k = true := by
      intro hw h1
      obtain ⟨fr1, h3, fr2, ls2, hr2, h4⟩ := hr.put h1
      obtain ⟨fr3, st3, ⟨m2, h5⟩, h6⟩ := krunF_true hc r hr2 h4
      dsimp only at h5
      exact ⟨fr3, st3, ⟨m2, fun m' hm => by simp only [runO, hw, h3, h5 m' hm]⟩, h6⟩
    simp only [krunF] at h
    split at h
    · rename_i hcl
      rcases kwanted_true hr (show (kwanted mask names ops o.guard).run fr ls _ _ = true from h) with ⟨hw, h1⟩ | ⟨hw, h1⟩
      · obtain ⟨v, st1, ⟨m1, h2⟩, h3⟩ := kop_true hr hc h1
        obtain ⟨fr1, h6, fr2, ls2, hr2, h7⟩ := hr.put h3
        obtain ⟨fr3, st3, ⟨m2, h8⟩, h9⟩ := krunF_true hc r hr2 h7
        dsimp only at h2 h8
        exact ⟨fr3, st3, ⟨max m1 m2, fun m' hm => by simp only [runO, hw, hcl, h2 m' (by omega), h6, h8 m' (by omega)]⟩, h9⟩
      · exact skip hw h1
    · rename_i hcl
      split at h
      · rename_i t x hop
        rcases kwanted_true hr (show (kwanted mask names ops o.guard).run fr ls _ _ = true from h) with ⟨hw, h1⟩ | ⟨hw, h1⟩
        · obtain ⟨v, h2, h3⟩ := kopnd_true hr h1
          obtain ⟨id, off, rfl, h4⟩ := onP_true h3
          obtain ⟨u, h5, h6⟩ := kload_true h4
          obtain ⟨fr1, h7, fr2, ls2, hr2, h8⟩ := hr.put h6
          obtain ⟨fr3, st3, ⟨m2, h9⟩, h10⟩ := krunF_true hc r hr2 h8
          dsimp only at h9
          exact ⟨fr3, st3, ⟨m2, fun m' hm => by
            unfold runO
            simp only [hw, hcl]
            rw [hop]
            simp only [h2, h5, h7]
            exact h9 m' hm⟩, h10⟩
        · exact skip hw h1
      · exact no h
    · rename_i h0 h1'
      rcases kwanted_true hr (show (kwanted mask names ops o.guard).run fr ls _ _ = true from h) with ⟨hw, h1⟩ | ⟨hw, h1⟩
      · obtain ⟨v, st1, ⟨m1, h2⟩, h3⟩ := kop_true hr hc h1
        obtain ⟨h4, h5⟩ := kkeep2_true h3
        obtain ⟨fr1, h6, fr2, ls2, hr2, h7⟩ := hr.put h5
        rw [natK_eq] at h7
        obtain ⟨fr3, st3, ⟨m2, h8⟩, h9⟩ := krunF_true hc r hr2 h7
        dsimp only at h2 h8
        refine ⟨fr3, st3, ⟨max m1 m2, fun m' hm => ?_⟩, h9⟩
        obtain ⟨n, hn⟩ : ∃ n, opCls o.op = n + 2 := by
          cases hq : opCls o.op with
          | zero => exact absurd hq h0
          | succ q => cases q with
            | zero => exact absurd hq h1'
            | succ q => exact ⟨q, rfl⟩
        unfold runO
        simp only [hw, hn, h2 m' (by omega), h4, h6, natF_eq]
        exact h8 m' (by omega)
      · exact skip hw h1

theorem krun_true {call : KCall} (hc : KOKc cf call) {ops : Array Oper} (l : List (Nat × Oper)) {names : List Nat} {fr fr0 : T V} {ls : List V} {es : List Ent} {st : St} {k : T V → St → Bool} (hr : Rel mask names fr ls fr0) (h : (krun P ro nt mask ops names l).run call fr ls es st k = true) :
    ∃ fr0' st', Even (fun m => runO P ro nt (cf m) ops l es fr0 st) (fr0', st') ∧ ∃ fr', Rel mask [] fr' [] fr0' ∧ k fr' st' = true := by
  obtain ⟨fr1, st1, h1, nm, fr2, ls2, es2, h2, h3⟩ := krunF_true hc l hr h
  exact ⟨fr1, st1, h1, fr2, h2.drop, h3⟩
theorem kpair_true {call : KCall} {o q : Oper} {names : List Nat} {fr fr0 : T V} {ls : List V} {es : List Ent} {st : St} {k : T V → St → Bool} (hr : Rel mask names fr ls fr0) (h : (kpair P ro mask o q names).run call fr ls es st k = true) :
    ∃ st', runPair P ro o q fr0 st = some st' ∧ k fr st' = true := by
  unfold kpair at h
  unfold runPair
  split at h
  · rename_i t x v t' y u e1 e2
    dsimp only at h
    obtain ⟨a, a1, a2⟩ := kopnd_true hr h
    obtain ⟨b, b1, b2⟩ := kopnd_true hr a2
    obtain ⟨c, c1, c2⟩ := kopnd_true hr b2
    obtain ⟨d, d1, d2⟩ := kopnd_true hr c2
    obtain ⟨g, o1, rfl, f1⟩ := onP_true d2
    obtain ⟨g', o2, rfl, f2⟩ := onP_true f1
    rcases ifB_true f2 with ⟨_, z⟩ | ⟨hg, f3⟩
    · cases z
    · obtain ⟨s1, s2, s3⟩ := kstore_true f3
      obtain ⟨s4, s5, s6⟩ := kstore_true s3
      exact ⟨s4, by rw [e1, e2]; simp only [a1, b1, c1, d1, hg, cond_false, s2, s5], s6⟩
  · cases h

/-! ### The flag -/

theorem noK_ok : KOKc (fun _ => noCall) noK := fun _ _ _ _ h => no h
theorem okO_true {fr fr0 : T V} (hr : Rel mask [] fr [] fr0) {o : Operand} (ho : okO mask o = true) {v : V} (h : opnd fr o = some v) : opnd fr0 o = some v := by
  cases o with
  | tmp t => exact hr.tree t v ho h
  | _ => exact h
theorem flagV_mono {F : FlagI} {nx : Nat} {fA fB frA frB fA0 fB0 frA0 frB0 : T V} {sB : St} (ho : flagOps F mask = true) (rA : Rel mask [] fA [] fA0) (rB : Rel mask [] fB [] fB0) (qA : Rel mask [] frA [] frA0) (qB : Rel mask [] frB [] frB0)
    (h : flagV P F nx fA fB sB frA frB = true) : flagV P F nx fA0 fB0 sB frA0 frB0 = true := by
  simp only [flagOps, List.all_cons, List.all_nil, Bool.and_true, Bool.and_eq_true] at ho
  obtain ⟨o1, o2, o3, o4, o5, o6, o7⟩ := ho
  unfold flagV at h ⊢
  cases x0 : opnd fA F.tA.cur with
  | none => simp [x0, sameO] at h
  | some y0 =>
  cases x1 : opnd fB F.tB.cur with
  | none => simp [x0, x1, sameO] at h
  | some y1 =>
  cases x2 : opnd frA F.tA.x with
  | none => simp [x2, sameO] at h
  | some y2 =>
  cases x3 : opnd frB F.tB.x with
  | none => simp [x2, x3, sameO] at h
  | some y3 =>
  cases x4 : opnd frA F.eI.ix with
  | none => simp [x1, x4] at h
  | some y4 =>
  cases x5 : opnd frA F.eI.v with
  | none => cases y4 <;> simp [x1, x4, x5] at h
  | some y5 =>
  cases x6 : opnd frB (.tmp F.tB.r) with
  | none => cases y4 <;> cases y3 <;> simp [x1, x4, x5, x3, x6] at h
  | some y6 =>
  rw [okO_true rA o1 x0, okO_true rB o2 x1, okO_true qA o3 x2, okO_true qB o4 x3, okO_true qA o5 x4, okO_true qA o6 x5, okO_true qB o7 x6]
  rw [x0, x1, x2, x3, x4, x5, x6] at h
  exact h
theorem flagChk_eq {call : CallF} {F : FlagI} {fr frA frB fA fB : T V} {st sA sB : St} (h1 : runO P ro nt call F.opsA (F.tA.pre ++ [(F.tA.i1, F.tA.o1)]) [] fr st = some (fA, sA)) (h2 : runO P ro nt call F.opsB (F.tB.pre ++ [(F.tB.i1, F.tB.o1)]) [] fr st = some (fB, sB)) :
    flagChk P ro nt call F fr st frA frB = flagV P F st.nx fA fB sB frA frB := by
  unfold flagChk
  rw [h1, h2]
  rfl
theorem pickK_eq {fr : T V} {k : T V → Bool} : ∀ (l : List Nat) (acc : T V), (pickK l).run fr acc k = k (pickL l fr acc)
  | [], acc => rfl
  | t :: r, acc => by
    simp only [pickK, pickL, getD_eq, updK_eq]
    cases fr.get t with
    | none => exact pickK_eq r acc
    | some v => exact pickK_eq r _
theorem eraseK_eq {k : T V → Bool} : ∀ (l : List Nat) (fr : T V), (eraseK l).run fr k = k (eraseL l fr)
  | [], fr => rfl
  | t :: r, fr => by
    simp only [eraseK, eraseL, updA_eq]
    exact eraseK_eq r _
theorem kflag_true {call : KCall} {F : FlagI} {fr : T V} {st : St} {kn : T V → St → Bool} {kx : Ex → T V → St → Bool} (h : (kflag P ro nt mask F).run call fr st kn kx = true) :
    (needOf F).all (liveB mask) = true ∧ ∃ st', flagSt P ro nt noCall F (pickL (needOf F) fr .e) ⟨st.nx + 1, st.hp, st.ver⟩ = some st' ∧ kn (eraseL (F.dead.filter (liveB mask)) fr) st' = true := by
  unfold kflag at h
  cases hl : ((needOf F).all (liveB mask) && flagOps F (2 ^ nt - 1)) with
  | false => rw [hl] at h; exact no h
  | true =>
    rw [hl] at h
    dsimp only at h
    rw [Bool.and_eq_true] at hl
    refine ⟨hl.1, ?_⟩
    rw [onSt_eq, natK_eq, pickK_eq] at h
    have rr : Rel (2 ^ nt - 1) [] (pickL (needOf F) fr .e) [] (pickL (needOf F) fr .e) := ⟨fun t v _ q => q, fun t j v q => (by cases q), fun t j q => (by cases q)⟩
    obtain ⟨frA0, stA, ⟨m1, e1⟩, frA, rA, h⟩ := krun_true noK_ok F.lA rr h
    obtain ⟨frE0, stE, ⟨m2, e2⟩, frE, rE, h⟩ := kops_true noK_ok F.opsE.toList rA h
    obtain ⟨fA0, sA, ⟨m3, e3⟩, fA, qA, h⟩ := krun_true noK_ok _ rr h
    obtain ⟨fB0, sB, ⟨m4, e4⟩, fB, qB, h⟩ := krun_true noK_ok _ rr h
    obtain ⟨frB0, stB, ⟨m5, e5⟩, frB, rB, h⟩ := krun_true noK_ok F.lB rr h
    have e1 := e1 m1 (Nat.le_refl _)
    have e2 := e2 m2 (Nat.le_refl _)
    have e3 := e3 m3 (Nat.le_refl _)
    have e4 := e4 m4 (Nat.le_refl _)
    have e5 := e5 m5 (Nat.le_refl _)
    dsimp only at e1 e2 e3 e4 e5
    obtain ⟨hc, h⟩ := ifB_t h
    rw [Bool.and_eq_true] at hc
    rw [onSt_eq, updA_eq, natK_eq, natK_eq, eraseK_eq] at h
    refine ⟨_, ?_, h⟩
    unfold flagSt
    rw [e1, e5]
    dsimp only
    rw [e2]
    dsimp only
    rw [flagChk_eq e3 e4, flagV_mono hl.2 qA qB rA rB hc.1, hc.2]
    rfl

/-! ### Code -/

theorem onExit_true {e : Ex} {k : Nat → Bool} {d : Bool} (h : onExit e k d = true) : (∃ i, e = .exit i ∧ k i = true) ∨ ((∀ i, e ≠ .exit i) ∧ d = true) := by
  cases e with
  | exit i => exact .inl ⟨i, rfl, h⟩
  | nrm => exact .inr ⟨fun i q => (by cases q), h⟩
  | goto l => exact .inr ⟨fun i q => (by cases q), h⟩
  | ret => exact .inr ⟨fun i q => (by cases q), h⟩

/-- What code comes to. -/
def CT (P : Program) (ov : Ov) (ro nt mask : Nat) (c : Code) (fr0 : T V) (st : St) (kn : T V → St → Bool) (kx : Ex → T V → St → Bool) : Prop :=
  ∃ e fr0' st', Even (fun n => evC P ov ro n nt c fr0 st) (e, fr0', st') ∧ ∃ fr', Rel mask [] fr' [] fr0' ∧ ((e = .nrm ∧ kn fr' st' = true) ∨ (e ≠ .nrm ∧ kx e fr' st' = true))
def BT (P : Program) (ov : Ov) (ro nt mask : Nat) (call : KCall) (c : Code) (b : KB) : Prop :=
  ∀ fr fr0 st kn kx, Rel mask [] fr [] fr0 → b.run call fr st kn kx = true → CT P ov ro nt mask c fr0 st kn kx

theorem CT.now {c : Code} {kn : T V → St → Bool} {kx : Ex → T V → St → Bool} {e : Ex} (hr : Rel mask [] fr [] fr0) (h : ∀ n, evC P ov ro (n + 1) nt c fr0 st = some (e, fr0, st)) (hk : (e = .nrm ∧ kn fr st = true) ∨ (e ≠ .nrm ∧ kx e fr st = true)) : CT P ov ro nt mask c fr0 st kn kx :=
  ⟨e, fr0, st, ⟨1, fun m' hm => by obtain ⟨n, rfl⟩ : ∃ n, m' = n + 1 := ⟨m' - 1, by omega⟩; exact h n⟩, fr, hr, hk⟩

theorem loopK_true {b : Code} {kb : KB} {call : KCall} (hb : BT P ov ro nt mask call b kb) {kx : Ex → T V → St → Bool} : ∀ (n : Nat) (fr fr0 : T V) (st : St), Rel mask [] fr [] fr0 → loopK kb call kx n fr st = true →
    ∃ e fr0' st', (∃ m, ∀ n' j, m ≤ n' → m ≤ j → loopGo (evC P ov ro n' nt b) j fr0 st = some (e, fr0', st')) ∧ ∃ fr', Rel mask [] fr' [] fr0' ∧ e ≠ .nrm ∧ kx e fr' st' = true
  | 0, fr, fr0, st, hr, h => no h
  | n + 1, fr, fr0, st, hr, h => by
    obtain ⟨e, fr1, st1, ⟨m1, h1⟩, fr2, hr2, h2⟩ := hb fr fr0 st (loopK kb call kx n) kx hr h
    dsimp only at h1
    rcases h2 with ⟨rfl, h2⟩ | ⟨hne, h2⟩
    · obtain ⟨e, fr3, st3, ⟨m2, h3⟩, h4⟩ := loopK_true hb n fr2 fr1 st1 hr2 h2
      refine ⟨e, fr3, st3, ⟨max m1 m2 + 1, fun n' j hn hj => ?_⟩, h4⟩
      obtain ⟨i, rfl⟩ : ∃ i, j = i + 1 := ⟨j - 1, by omega⟩
      simp only [loopGo, h1 n' (by omega), h3 n' i (by omega) (by omega)]
    · refine ⟨e, fr1, st1, ⟨m1 + 1, fun n' j hn hj => ?_⟩, fr2, hr2, hne, h2⟩
      obtain ⟨i, rfl⟩ : ∃ i, j = i + 1 := ⟨j - 1, by omega⟩
      simp only [loopGo, h1 n' (by omega)]
      cases e <;> first | rfl | exact absurd rfl hne

theorem kC_true {call : KCall} (hc : KOK P ov ro call) : ∀ c : Code, BT P ov ro nt mask call c (kC P ro nt mask L c) := by
  intro c
  induction c with
  | skip => intro fr fr0 st kn kx hr h; exact CT.now hr (fun n => rfl) (.inl ⟨rfl, h⟩)
  | label l => intro fr fr0 st kn kx hr h; exact CT.now hr (fun n => rfl) (.inl ⟨rfl, h⟩)
  | exit i => intro fr fr0 st kn kx hr h; exact CT.now hr (fun n => rfl) (.inr ⟨fun q => (by cases q), h⟩)
  | goto l => intro fr fr0 st kn kx hr h; exact CT.now hr (fun n => rfl) (.inr ⟨fun q => (by cases q), h⟩)
  | ret => intro fr fr0 st kn kx hr h; exact CT.now hr (fun n => rfl) (.inr ⟨fun q => (by cases q), h⟩)
  | refuse w => intro fr fr0 st kn kx hr h; exact no h
  | rangeFunc f ps a b _ _ => intro fr fr0 st kn kx hr h; exact no h
  | region i ops draw =>
    intro fr fr0 st kn kx hr h
    simp only [kC] at h
    cases draw with
    | false =>
      obtain ⟨fr1, st1, ⟨m, h1⟩, fr2, hr2, h2⟩ := kops_true hc ops.toList hr (show (kops P ro nt mask ops [] ops.toList).run call fr [] st kn = true from h)
      dsimp only at h1
      refine ⟨.nrm, fr1, st1, ⟨m + 1, fun m' hm => ?_⟩, fr2, hr2, .inl ⟨rfl, h2⟩⟩
      obtain ⟨n, rfl⟩ : ∃ n, m' = n + 1 := ⟨m' - 1, by omega⟩
      have := h1 n (by omega)
      simp only [evC]
      rw [← fnum, this]
    | true =>
      cases hB : lexQ1 P ops with
      | false =>
        rw [hB] at h
        dsimp only at h
        cases hT : tailB ops with
        | true =>
          rw [hT] at h
          obtain ⟨fr1, fr1', st1, ⟨m, h1⟩, ⟨m2, h1'⟩, fr2, hr2, h2⟩ := kopsT_true hc (ops.toList.take (ops.size - 1)) hr (show (kopsT P ro nt mask ops (ops.toList.drop (ops.size - 1)) [] (ops.toList.take (ops.size - 1))).run call fr [] st kn = true from h)
          dsimp only at h1 h1'
          refine ⟨.nrm, fr1', st1, ⟨max m m2 + 1, fun m' hm => ?_⟩, fr2, hr2, .inl ⟨rfl, h2⟩⟩
          obtain ⟨n, rfl⟩ : ∃ n, m' = n + 1 := ⟨m' - 1, by omega⟩
          have e1 := h1 n (by omega)
          have e2 := h1' n (by omega)
          simp only [evC, hB, hT]
          rw [← fnum, e1]
          dsimp only
          rw [e2]
        | false =>
          rw [hT] at h
          dsimp only at h
          cases hpl : planOf P ops with
          | none =>
            rw [hpl] at h
            dsimp only at h
            cases hL : lexQ ops with
            | false =>
              rw [hL] at h
              cases hpp : planPair ops with
              | none => rw [hpp] at h; exact no h
              | some u =>
                obtain ⟨l, o, q⟩ := u
                rw [hpp] at h
                obtain ⟨fr1, st1, ⟨m, h1⟩, nm, fr2, ls2, es2, hr2, h2⟩ := krunF_true hc l hr (show (krunF P ro nt mask ops (kpair P ro mask o q) [] l).run call fr [] [] st kn = true from h)
                dsimp only at h1
                obtain ⟨st2, p1, p2⟩ := kpair_true hr2 h2
                refine ⟨.nrm, fr1, st2, ⟨m + 1, fun m' hm => ?_⟩, fr2, hr2.drop, .inl ⟨rfl, p2⟩⟩
                obtain ⟨n, rfl⟩ : ∃ n, m' = n + 1 := ⟨m' - 1, by omega⟩
                have := h1 n (by omega)
                simp only [evC, hB, hT, hpl, hL, hpp]
                rw [← fnum, this]
                simp only [p1]
            | true =>
              rw [hL] at h
              obtain ⟨fr1, ⟨m, h1⟩, fr2, hr2, h2⟩ := kopsQ_true hc ops.toList hr (show (kopsQ P ro nt mask ops [] ops.toList).run call fr [] st kn = true from h)
              dsimp only at h1
              refine ⟨.nrm, fr1, st, ⟨m + 1, fun m' hm => ?_⟩, fr2, hr2, .inl ⟨rfl, h2⟩⟩
              obtain ⟨n, rfl⟩ : ∃ n, m' = n + 1 := ⟨m' - 1, by omega⟩
              have := h1 n (by omega)
              simp only [evC, hB, hT, hpl, hL]
              rw [← fnum, this]
          | some pl =>
            rw [hpl] at h
            obtain ⟨fr1, st1, ⟨m, h1⟩, fr2, hr2, h2⟩ := krun_true hc pl hr (show (krun P ro nt mask ops [] pl).run call fr [] [] st kn = true from h)
            dsimp only at h1
            refine ⟨.nrm, fr1, st1, ⟨m + 1, fun m' hm => ?_⟩, fr2, hr2, .inl ⟨rfl, h2⟩⟩
            obtain ⟨n, rfl⟩ : ∃ n, m' = n + 1 := ⟨m' - 1, by omega⟩
            have := h1 n (by omega)
            simp only [evC, hB, hT, hpl]
            rw [← fnum, this]
      | true =>
        rw [hB] at h
        obtain ⟨fr1, ⟨m, h1⟩, fr2, hr2, h2⟩ := kopsQ_true hc ops.toList hr (show (kopsQ P ro nt mask ops [] ops.toList).run call fr [] st kn = true from h)
        dsimp only at h1
        refine ⟨.nrm, fr1, st, ⟨m + 1, fun m' hm => ?_⟩, fr2, hr2, .inl ⟨rfl, h2⟩⟩
        obtain ⟨n, rfl⟩ : ∃ n, m' = n + 1 := ⟨m' - 1, by omega⟩
        have := h1 n (by omega)
        simp only [evC, hB]
        rw [← fnum, this]
  | seq a b iha ihb =>
    intro fr fr0 st kn kx hr h
    have e0 : kC P ro nt mask L (.seq a b) = match flagOf P nt a b with
      | some F => kflag P ro nt mask F
      | none => ⟨fun call fr st kn kx => (kC P ro nt mask L a).run call fr st (fun fr st => (kC P ro nt mask L b).run call fr st kn kx) kx⟩ := rfl
    rw [e0] at h
    cases hfl : flagOf P nt a b with
    | some F =>
      rw [hfl] at h
      dsimp only at h
      obtain ⟨hl, st', hs, h⟩ := kflag_true h
      obtain ⟨_, _, _, _, _, _, _, _, _, _, _, _, _, _, _, _, _, _, _, _, _, hdead⟩ := flagOf_spec hfl
      have hle : FLe (pickL (needOf F) fr .e) (eraseL [F.p, F.f] fr0) := by
        intro t v ht
        rcases pickL_get ht with q | ⟨q1, q2⟩
        · rw [T.get_e] at q; cases q
        · have hd : t ∉ F.dead := addN_dead (fun _ q => by cases q) t q1
          rw [eraseL_get, if_neg]
          · exact hr.tree t v (List.all_eq_true.1 hl t q1) q2
          · intro z
            apply hd
            rw [hdead]
            simp only [List.mem_cons, List.not_mem_nil, or_false] at z
            rcases z with rfl | rfl <;> simp
      refine ⟨.nrm, eraseL F.dead fr0, st', ⟨1, fun m' hm => ?_⟩, eraseL (F.dead.filter (liveB mask)) fr, ⟨fun t v hlv ht => ?_, fun t j v q => (by cases q), fun t j q => (by cases q)⟩, .inl ⟨rfl, h⟩⟩
      · obtain ⟨n, rfl⟩ : ∃ n, m' = n + 1 := ⟨m' - 1, by omega⟩
        simp only [evC, hfl]
        rw [flagSt_mono hle hs]
      · rw [eraseL_get] at ht
        split at ht
        · cases ht
        · rename_i hm
          rw [eraseL_get, if_neg]
          · exact hr.tree t v hlv ht
          · intro z
            exact hm (List.mem_filter.2 ⟨z, hlv⟩)
    | none =>
    rw [hfl] at h
    obtain ⟨e, fr1, st1, ⟨m1, h1⟩, fr2, hr2, h2⟩ := iha fr fr0 st _ kx hr (show (kC P ro nt mask L a).run call fr st _ kx = true from h)
    dsimp only at h1
    rcases h2 with ⟨rfl, h2⟩ | ⟨hne, h2⟩
    · obtain ⟨e, fr3, st3, ⟨m2, h3⟩, fr4, hr4, h4⟩ := ihb fr2 fr1 st1 kn kx hr2 h2
      dsimp only at h3
      refine ⟨e, fr3, st3, ⟨max m1 m2 + 1, fun m' hm => ?_⟩, fr4, hr4, h4⟩
      obtain ⟨n, rfl⟩ : ∃ n, m' = n + 1 := ⟨m' - 1, by omega⟩
      simp only [evC, hfl, h1 n (by omega), h3 n (by omega)]
    · refine ⟨e, fr1, st1, ⟨m1 + 1, fun m' hm => ?_⟩, fr2, hr2, .inr ⟨hne, h2⟩⟩
      obtain ⟨n, rfl⟩ : ∃ n, m' = n + 1 := ⟨m' - 1, by omega⟩
      simp only [evC, hfl, h1 n (by omega)]
      cases e <;> first | rfl | exact absurd rfl hne
  | cond x a b iha ihb =>
    intro fr fr0 st kn kx hr h
    obtain ⟨v, h1, h2⟩ := kopnd_true hr (show (kopnd mask [] x).run fr [] _ = true from h)
    rcases onB_true h2 with ⟨rfl, h3⟩ | ⟨rfl, h3⟩
    · obtain ⟨e, fr1, st1, ⟨m, h4⟩, h5⟩ := iha fr fr0 st kn kx hr h3
      dsimp only at h4
      refine ⟨e, fr1, st1, ⟨m + 1, fun m' hm => ?_⟩, h5⟩
      obtain ⟨n, rfl⟩ : ∃ n, m' = n + 1 := ⟨m' - 1, by omega⟩
      simp only [evC, h1, h4 n (by omega)]
    · obtain ⟨e, fr1, st1, ⟨m, h4⟩, h5⟩ := ihb fr fr0 st kn kx hr h3
      dsimp only at h4
      refine ⟨e, fr1, st1, ⟨m + 1, fun m' hm => ?_⟩, h5⟩
      obtain ⟨n, rfl⟩ : ∃ n, m' = n + 1 := ⟨m' - 1, by omega⟩
      simp only [evC, h1, h4 n (by omega)]
  | block i b ih =>
    intro fr fr0 st kn kx hr h
    obtain ⟨e, fr1, st1, ⟨m, h1⟩, fr2, hr2, h2⟩ := ih fr fr0 st kn _ hr (show (kC P ro nt mask L b).run call fr st kn _ = true from h)
    dsimp only at h1
    have up : ∀ r, (∀ n, m ≤ n → evC P ov ro (n + 1) nt (.block i b) fr0 st = some r) → Even (fun n => evC P ov ro n nt (.block i b) fr0 st) r := fun r hh => ⟨m + 1, fun m' hm => by
      obtain ⟨n, rfl⟩ : ∃ n, m' = n + 1 := ⟨m' - 1, by omega⟩
      exact hh n (by omega)⟩
    rcases h2 with ⟨rfl, h2⟩ | ⟨hne, h2⟩
    · exact ⟨.nrm, fr1, st1, up _ fun n hn => by simp only [evC, h1 n hn], fr2, hr2, .inl ⟨rfl, h2⟩⟩
    · rcases onExit_true h2 with ⟨j, rfl, h3⟩ | ⟨hx, h3⟩
      · rcases ifB_true h3 with ⟨h4, h5⟩ | ⟨h4, h5⟩
        · exact ⟨.nrm, fr1, st1, up _ fun n hn => by simp only [evC, h1 n hn, h4, cond_true], fr2, hr2, .inl ⟨rfl, h5⟩⟩
        · exact ⟨.exit j, fr1, st1, up _ fun n hn => by simp only [evC, h1 n hn, h4, cond_false], fr2, hr2, .inr ⟨hne, h5⟩⟩
      · refine ⟨e, fr1, st1, up _ fun n hn => ?_, fr2, hr2, .inr ⟨hne, h3⟩⟩
        simp only [evC, h1 n hn]
        cases e <;> first | rfl | exact absurd rfl (hx _)
  | loop b ih =>
    intro fr fr0 st kn kx hr h
    obtain ⟨e, fr1, st1, ⟨m, h1⟩, fr2, hr2, hne, h2⟩ := loopK_true ih L fr fr0 st hr (show loopK (kC P ro nt mask L b) call kx L fr st = true from h)
    refine ⟨e, fr1, st1, ⟨m + 1, fun m' hm => ?_⟩, fr2, hr2, .inr ⟨hne, h2⟩⟩
    obtain ⟨n, rfl⟩ : ∃ n, m' = n + 1 := ⟨m' - 1, by omega⟩
    simp only [evC]
    exact h1 n n (by omega) (by omega)
  | scope b ih =>
    intro fr fr0 st kn kx hr h
    obtain ⟨e, fr1, st1, ⟨m, h1⟩, fr2, hr2, h2⟩ := ih fr fr0 st kn _ hr (show (kC P ro nt mask L b).run call fr st kn _ = true from h)
    dsimp only at h1
    have fin : (∀ l, e ≠ .goto l) → Even (fun n => evC P ov ro n nt (.scope b) fr0 st) (e, fr1, st1) := fun hno => ⟨m + 2, fun m' hm => by
      obtain ⟨n, rfl⟩ : ∃ n, m' = n + 2 := ⟨m' - 2, by omega⟩
      show evC P ov ro (n + 2) nt (.scope b) fr0 st = _
      rw [show evC P ov ro (n + 2) nt (.scope b) fr0 st = scopeGo (evC P ov ro (n + 1) nt) b (n + 1) b fr0 st from rfl]
      simp only [scopeGo, h1 (n + 1) (by omega)]
      cases e <;> first | rfl | exact absurd rfl (hno _)⟩
    rcases h2 with ⟨rfl, h2⟩ | ⟨hne, h2⟩
    · exact ⟨.nrm, fr1, st1, fin (fun l q => by cases q), fr2, hr2, .inl ⟨rfl, h2⟩⟩
    · cases e with
      | goto l => exact no h2
      | nrm => exact absurd rfl hne
      | exit i => exact ⟨_, fr1, st1, fin (fun l q => by cases q), fr2, hr2, .inr ⟨hne, h2⟩⟩
      | ret => exact ⟨_, fr1, st1, fin (fun l q => by cases q), fr2, hr2, .inr ⟨hne, h2⟩⟩

/-! ### Calls -/

theorem frameK_step {k : T V → Bool} : ∀ (l : List V) (i : Nat) (fr : T V), (List.rec (motive := fun _ => Nat → T V → Bool) (fun _ fr => k fr) (fun v _ ih i fr => updK (pathOf i) fr v fun fr => natK (i + 1) fun i => ih i fr) l i fr : Bool) = k (frameOf l i fr)
  | [], i, fr => rfl
  | v :: r, i, fr => by
    have := frameK_step (k := k) r (i + 1) (fr.upd i (some v))
    show updK (pathOf i) fr v (fun fr => natK (i + 1) fun i => _) = _
    rw [updK_eq, natK_eq, frameOf, V.force_eq]
    exact this
theorem frameK_eq (l : List V) (k : T V → Bool) : frameK l k = k (frameOf l 0 .e) := frameK_step l 0 .e

theorem kres_true (hr : Rel mask [] fr [] fr0) : ∀ {l : List ResultVar} {k : List V → Bool}, (kres P mask l).run fr st k = true → ∃ vs, resultsOf P fr0 st l = some vs ∧ k vs = true
  | [], k, h => ⟨[], rfl, h⟩
  | .tmp t :: r, k, h => by
    obtain ⟨v, h1, h2⟩ := ktmp_true hr (show (ktmp mask [] t).run fr [] _ = true from h)
    obtain ⟨vs, h3, h4⟩ := kres_true hr h2
    exact ⟨v :: vs, by simp only [resultsOf, resultOf, h1, h3], h4⟩
  | .cell a t :: r, k, h => by
    obtain ⟨v, h1, h2⟩ := ktmp_true hr (show (ktmp mask [] a).run fr [] _ = true from h)
    obtain ⟨g, o, rfl, h3⟩ := onP_true h2
    obtain ⟨v, h4, h5⟩ := kload_true h3
    obtain ⟨vs, h6, h7⟩ := kres_true hr h5
    exact ⟨v :: vs, by simp only [resultsOf, resultOf, h1, h4, h6], h7⟩

theorem onRet_true {e : Ex} {d : Bool} (h : onRet e d = true) : e = .ret ∧ d = true := by
  cases e with
  | ret => exact ⟨rfl, h⟩
  | _ => exact no h

theorem kcall_true {live : Nat → Nat} : ∀ n : Nat, KOK P ov ro (kcall P live ov ro L n)
  | 0 => fun f args st k h => no h
  | n + 1 => by
    intro f args st k h
    have ih : KOK P ov ro (kcall P live ov ro L n) := kcall_true n
    have h' : (match ov f args st with
      | some (v, st) => forceK v fun v => k v st
      | none => (kfun P live ro L f).run (kcall P live ov ro L n) args st k) = true := h
    cases ho : ov f args st with
    | some v =>
      obtain ⟨v, st1⟩ := v
      rw [ho] at h'
      dsimp only at h'
      rw [forceK_eq] at h'
      exact ⟨v, st1, ⟨0, fun m _ => by unfold evF callGo; simp only [ho]⟩, h'⟩
    | none =>
      rw [ho] at h'
      dsimp only at h'
      unfold kfun at h'
      cases hf : P.funcs[f]? with
      | none => rw [hf] at h'; exact no h'
      | some fn =>
        rw [hf] at h'
        dsimp only at h'
        cases hb : fn.body with
        | none => rw [hb] at h'; exact no h'
        | some c =>
          rw [hb] at h'
          dsimp only at h'
          rw [natF_eq, natF_eq] at h'
          obtain ⟨h1, h2⟩ := ifB_t h'
          rw [frameK_eq] at h2
          have hr0 : Rel (live f) [] (frameOf args 0 .e) [] (frameOf args 0 .e) := ⟨fun _ _ _ q => q, fun t j v e => (by cases e), fun t j e => (by cases e)⟩
          obtain ⟨e, fr1, st1, ⟨m, h3⟩, fr2, hr2, h4⟩ := kC_true (nt := fn.ntmps) (mask := live f) (L := L) ih c _ _ st _ _ hr0 h2
          dsimp only at h3
          have fin : (e = .nrm ∨ e = .ret) → (kres P (live f) fn.results.toList).run fr2 st1 (fun vs => k (oneOf vs) st1) = true → ∃ v st', Even (fun m => evF P ov ro m f args st) (v, st') ∧ k v st' = true := by
            intro he hk
            obtain ⟨vs, h5, h6⟩ := kres_true hr2 hk
            refine ⟨oneOf vs, st1, ⟨m, fun m' hm => ?_⟩, h6⟩
            unfold evF callGo
            simp only [ho, hf, hb, h1, cond_true, h3 m' hm]
            rcases he with rfl | rfl <;> simp only [h5]
          rcases h4 with ⟨rfl, h4⟩ | ⟨hne, h4⟩
          · exact fin (.inl rfl) h4
          · obtain ⟨rfl, h5⟩ := onRet_true h4
            exact fin (.inr rfl) h5

/-- WHAT THE FASTER EVALUATOR TELLS IS SO. -/
theorem kAnswers_true {live : Nat → Nat} {gs : List (Nat × List V)} {n f : Nat} {args : List V} (h : kAnswers P live ov gs L n f args = true) : ∃ m st', evF P ov GL m f args (st0 gs) = some (.b true, st') := by
  obtain ⟨v, st', ⟨m, h1⟩, h2⟩ := kcall_true n f args (st0 gs) _ h
  rcases onB_true h2 with ⟨rfl, _⟩ | ⟨_, h3⟩
  · exact ⟨m, st', h1 m (Nat.le_refl _)⟩
  · exact no h3
end
end Go.Vk
