/-
  What runs on few names runs on more. Plain lemmas. Nothing is claimed here.
-/
import Derived.Test.YtajmjilckaifoaaGreatDoorJa2
namespace Go.Vm
open Go.RowKit

def FLe (fr fr' : T V) : Prop := ∀ t v, fr.get t = some v → fr'.get t = some v
def noCall : CallF := fun _ _ _ => none

section
variable {P : Program} {ro nt : Nat} {call : CallF} {fr fr' : T V}

theorem opnd_mono (h : FLe fr fr') {x : Operand} {v : V} (hx : opnd fr x = some v) : opnd fr' x = some v := by
  cases x with
  | tmp t => exact h t v hx
  | _ => exact hx
theorem opnds_mono (h : FLe fr fr') : ∀ {l : List Operand} {vs : List V}, opnds fr l = some vs → opnds fr' l = some vs
  | [], vs, hx => hx
  | x :: l, vs, hx => by
    simp only [opnds] at hx ⊢
    cases h1 : opnd fr x with
    | none => simp [h1] at hx
    | some v =>
      simp only [h1] at hx
      cases h2 : opnds fr l with
      | none => simp [h2] at hx
      | some us =>
        simp only [h2] at hx
        simp only [opnd_mono h h1, opnds_mono h h2]
        exact hx
theorem partsOf_mono (h : FLe fr fr') : ∀ {l : List (Nat × Operand)} {vs : List (Nat × V)}, partsOf fr l = some vs → partsOf fr' l = some vs
  | [], vs, hx => hx
  | (i, x) :: l, vs, hx => by
    simp only [partsOf] at hx ⊢
    cases h1 : opnd fr x with
    | none => simp [h1] at hx
    | some v =>
      simp only [h1] at hx
      cases h2 : partsOf fr l with
      | none => simp [h2] at hx
      | some us =>
        simp only [h2] at hx
        simp only [opnd_mono h h1, partsOf_mono h h2]
        exact hx
theorem mapo_mono (h : FLe fr fr') {o : Option Operand} {r : Option V} (hx : (match o with | none => some none | some o => (opnd fr o).map some) = some r) : (match o with | none => some none | some o => (opnd fr' o).map some) = some r := by
  cases o with
  | none => exact hx
  | some o =>
    dsimp only at hx ⊢
    cases h1 : opnd fr o with
    | none => simp [h1] at hx
    | some v => rw [opnd_mono h h1]; rw [h1] at hx; exact hx

theorem vop_mono (hle : FLe fr fr') {st : St} {op : Op} {R : Option V × St} (h : vop P ro noCall fr st op = some R) : vop P ro call fr' st op = some R := by
  cases op with
  | move x =>
    simp only [vop] at h ⊢
    cases e0 : opnd fr x with
    | none => simp [e0] at h
    | some u0 =>
      simp only [e0] at h
      simp only [opnd_mono hle e0]
      exact h
  | assign x =>
    simp only [vop] at h ⊢
    cases e0 : opnd fr x with
    | none => simp [e0] at h
    | some u0 =>
      simp only [e0] at h
      simp only [opnd_mono hle e0]
      exact h
  | pick c a b =>
    simp only [vop] at h ⊢
    cases e0 : opnd fr c with
    | none => simp [e0] at h
    | some u =>
      simp only [e0] at h
      simp only [opnd_mono hle e0]
      cases u <;> simp only [reduceCtorEq] at h
      rename_i x
      cases e1 : opnd fr (cond x a b) with
      | none => simp [e1] at h
      | some v => simp only [e1] at h; simp only [opnd_mono hle e1]; exact h
  | binOp op t x y _ =>
    simp only [vop] at h ⊢
    cases e0 : opnd fr x with
    | none => simp [e0] at h
    | some u0 =>
      cases e1 : opnd fr y with
      | none => simp [e0, e1] at h
      | some u1 =>
        simp only [e0, e1] at h
        simp only [opnd_mono hle e0, opnd_mono hle e1]
        exact h
  | unOp op _ x =>
    simp only [vop] at h ⊢
    cases e0 : opnd fr x with
    | none => simp [e0] at h
    | some u0 =>
      simp only [e0] at h
      simp only [opnd_mono hle e0]
      exact h
  | convert s d x =>
    simp only [vop] at h ⊢
    cases e0 : opnd fr x with
    | none => simp [e0] at h
    | some u0 =>
      simp only [e0] at h
      simp only [opnd_mono hle e0]
      exact h
  | field t x f =>
    simp only [vop] at h ⊢
    cases e0 : opnd fr x with
    | none => simp [e0] at h
    | some u0 =>
      simp only [e0] at h
      simp only [opnd_mono hle e0]
      exact h
  | index t x i =>
    simp only [vop] at h ⊢
    cases e0 : opnd fr x with
    | none => simp [e0] at h
    | some u0 =>
      cases e1 : opnd fr i with
      | none => simp [e0, e1] at h
      | some u1 =>
        simp only [e0, e1] at h
        simp only [opnd_mono hle e0, opnd_mono hle e1]
        exact h
  | indexAddr t x i =>
    simp only [vop] at h ⊢
    cases e0 : opnd fr x with
    | none => simp [e0] at h
    | some u0 =>
      cases e1 : opnd fr i with
      | none => simp [e0, e1] at h
      | some u1 =>
        simp only [e0, e1] at h
        simp only [opnd_mono hle e0, opnd_mono hle e1]
        exact h
  | fieldAddr t x f =>
    simp only [vop] at h ⊢
    cases e0 : opnd fr x with
    | none => simp [e0] at h
    | some u0 =>
      simp only [e0] at h
      simp only [opnd_mono hle e0]
      exact h
  | load t x =>
    simp only [vop] at h ⊢
    cases e0 : opnd fr x with
    | none => simp [e0] at h
    | some u0 =>
      simp only [e0] at h
      simp only [opnd_mono hle e0]
      exact h
  | store t x v =>
    simp only [vop] at h ⊢
    cases e0 : opnd fr x with
    | none => simp [e0] at h
    | some u0 =>
      cases e1 : opnd fr v with
      | none => simp [e0, e1] at h
      | some u1 =>
        simp only [e0, e1] at h
        simp only [opnd_mono hle e0, opnd_mono hle e1]
        exact h
  | alloc t => exact h
  | box t x =>
    simp only [vop] at h ⊢
    cases e0 : opnd fr x with
    | none => simp [e0] at h
    | some u0 =>
      simp only [e0] at h
      simp only [opnd_mono hle e0]
      exact h
  | build t ps =>
    simp only [vop] at h ⊢
    cases e0 : partsOf fr ps.toList with
    | none => simp [e0] at h
    | some u0 =>
      simp only [e0] at h
      simp only [partsOf_mono hle e0]
      exact h
  | buildSlice t len ps =>
    simp only [vop] at h ⊢
    cases e0 : partsOf fr ps.toList with
    | none => simp [e0] at h
    | some u0 =>
      simp only [e0] at h
      simp only [partsOf_mono hle e0]
      exact h
  | makeSlice t l c =>
    simp only [vop] at h ⊢
    cases e0 : opnd fr l with
    | none => simp [e0] at h
    | some u0 =>
      cases e1 : opnd fr c with
      | none => simp [e0, e1] at h
      | some u1 =>
        simp only [e0, e1] at h
        simp only [opnd_mono hle e0, opnd_mono hle e1]
        exact h
  | slice t x lo hi mx =>
    simp only [vop] at h ⊢
    cases e0 : opnd fr x with
    | none => simp [e0] at h
    | some u =>
      simp only [e0] at h
      simp only [opnd_mono hle e0]
      cases lo with
      | none =>
        cases hi with
        | none =>
          cases mx with
          | none =>
            dsimp only at h ⊢
            exact h
          | some mx0 =>
            dsimp only at h ⊢
            cases qmx0 : opnd fr mx0 with
            | none => simp [qmx0] at h
            | some wmx0 =>
              simp only [qmx0] at h
              simp only [opnd_mono hle qmx0]
              exact h
        | some hi0 =>
          cases mx with
          | none =>
            dsimp only at h ⊢
            cases qhi0 : opnd fr hi0 with
            | none => simp [qhi0] at h
            | some whi0 =>
              simp only [qhi0] at h
              simp only [opnd_mono hle qhi0]
              exact h
          | some mx0 =>
            dsimp only at h ⊢
            cases qhi0 : opnd fr hi0 with
            | none => simp [qhi0] at h
            | some whi0 =>
              cases qmx0 : opnd fr mx0 with
              | none => simp [qhi0, qmx0] at h
              | some wmx0 =>
                simp only [qhi0, qmx0] at h
                simp only [opnd_mono hle qhi0, opnd_mono hle qmx0]
                exact h
      | some lo0 =>
        cases hi with
        | none =>
          cases mx with
          | none =>
            dsimp only at h ⊢
            cases qlo0 : opnd fr lo0 with
            | none => simp [qlo0] at h
            | some wlo0 =>
              simp only [qlo0] at h
              simp only [opnd_mono hle qlo0]
              exact h
          | some mx0 =>
            dsimp only at h ⊢
            cases qlo0 : opnd fr lo0 with
            | none => simp [qlo0] at h
            | some wlo0 =>
              cases qmx0 : opnd fr mx0 with
              | none => simp [qlo0, qmx0] at h
              | some wmx0 =>
                simp only [qlo0, qmx0] at h
                simp only [opnd_mono hle qlo0, opnd_mono hle qmx0]
                exact h
        | some hi0 =>
          cases mx with
          | none =>
            dsimp only at h ⊢
            cases qlo0 : opnd fr lo0 with
            | none => simp [qlo0] at h
            | some wlo0 =>
              cases qhi0 : opnd fr hi0 with
              | none => simp [qlo0, qhi0] at h
              | some whi0 =>
                simp only [qlo0, qhi0] at h
                simp only [opnd_mono hle qlo0, opnd_mono hle qhi0]
                exact h
          | some mx0 =>
            dsimp only at h ⊢
            cases qlo0 : opnd fr lo0 with
            | none => simp [qlo0] at h
            | some wlo0 =>
              cases qhi0 : opnd fr hi0 with
              | none => simp [qlo0, qhi0] at h
              | some whi0 =>
                cases qmx0 : opnd fr mx0 with
                | none => simp [qlo0, qhi0, qmx0] at h
                | some wmx0 =>
                  simp only [qlo0, qhi0, qmx0] at h
                  simp only [opnd_mono hle qlo0, opnd_mono hle qhi0, opnd_mono hle qmx0]
                  exact h
  | nilCheck x =>
    simp only [vop] at h ⊢
    cases e0 : opnd fr x with
    | none => simp [e0] at h
    | some u0 =>
      simp only [e0] at h
      simp only [opnd_mono hle e0]
      exact h
  | makeFunc fn first caps =>
    simp only [vop] at h ⊢
    cases e0 : opnds fr first.toList with
    | none => simp [e0] at h
    | some u0 =>
      cases e1 : opnds fr caps.toList with
      | none => simp [e0, e1] at h
      | some u1 =>
        simp only [e0, e1] at h
        simp only [opnds_mono hle e0, opnds_mono hle e1]
        exact h
  | extract x i =>
    simp only [vop] at h ⊢
    cases e0 : opnd fr x with
    | none => simp [e0] at h
    | some u0 =>
      simp only [e0] at h
      simp only [opnd_mono hle e0]
      exact h
  | call c =>
    simp only [vop] at h ⊢
    cases e0 : opnds fr c.args.toList with
    | none => simp [e0] at h
    | some as =>
      simp only [e0] at h
      simp only [opnds_mono hle e0]
      cases hc : c.callee with
      | builtin b => simp only [hc] at h ⊢; exact h
      | value f =>
        simp only [hc] at h
        exfalso
        cases e1 : opnd fr f with
        | none => simp [e1] at h
        | some u =>
          cases u <;> simp only [e1, reduceCtorEq] at h
          rename_i fn _ _
          cases fn <;> simp [noCall] at h
      | invoke r m => simp [hc] at h
  | makeMap t n =>
    cases n with
    | none => exact h
    | some n => simp [vop] at h
  | lookup t x k ok =>
    simp only [vop] at h ⊢
    cases e0 : opnd fr x with
    | none => simp [e0] at h
    | some u0 =>
      cases e1 : opnd fr k with
      | none => simp [e0, e1] at h
      | some u1 =>
        simp only [e0, e1] at h
        simp only [opnd_mono hle e0, opnd_mono hle e1]
        exact h
  | mapUpdate t m k x =>
    simp only [vop] at h ⊢
    cases e0 : opnd fr m with
    | none => simp [e0] at h
    | some u0 =>
      cases e1 : opnd fr k with
      | none => simp [e0, e1] at h
      | some u1 =>
        cases e2 : opnd fr x with
        | none => simp [e0, e1, e2] at h
        | some u2 =>
          simp only [e0, e1, e2] at h
          simp only [opnd_mono hle e0, opnd_mono hle e1, opnd_mono hle e2]
          exact h
  | _ => simp [vop] at h

theorem vwanted_mono (hle : FLe fr fr') {ops : Array Oper} {o : Oper} {b : Bool} (h : vwanted ops fr o = some b) : vwanted ops fr' o = some b := by
  unfold vwanted at h ⊢
  split
  · rename_i hg; rw [hg] at h; exact h
  · rename_i j want hg
    rw [hg] at h
    dsimp only at h
    split
    · rename_i hd; rw [hd] at h; exact h
    · rename_i d hd
      rw [hd] at h
      dsimp only at h
      cases e : fr.get d with
      | none => rw [e] at h; cases h
      | some u => rw [hle d u e]; rw [e] at h; exact h
theorem vput_mono (hle : FLe fr fr') {dst : Option Nat} {v : Option V} {f1 : T V} (h : vput nt fr dst v = some f1) : ∃ f2, vput nt fr' dst v = some f2 ∧ FLe f1 f2 := by
  cases dst with
  | none => simp only [vput, Option.some.injEq] at h; subst h; exact ⟨fr', rfl, hle⟩
  | some d =>
    simp only [vput] at h ⊢
    have up : ∀ u : V, FLe (fr.upd d (some u)) (fr'.upd d (some u)) := fun u t w ht => by
      rw [T.get_upd] at ht ⊢
      split at ht
      · rename_i q; rw [if_pos q]; exact ht
      · rename_i q; rw [if_neg q]; exact hle t w ht
    cases hb : Nat.blt d nt with
    | false => simp [hb] at h
    | true =>
      simp only [hb, cond_true] at h ⊢
      cases v with
      | none => simp only [Option.some.injEq] at h; subst h; exact ⟨_, rfl, up _⟩
      | some v => simp only [V.force_eq, Option.some.injEq] at h ⊢; subst h; exact ⟨_, rfl, up _⟩

variable {ops : Array Oper}
theorem stepO_mono (hle : FLe fr fr') {i : Nat} {o : Oper} {es es1 : List Ent} {f1 : T V} {st st1 : St} (h : stepO P ro nt noCall ops i o es fr st = some (es1, f1, st1)) : ∃ f2, stepO P ro nt call ops i o es fr' st = some (es1, f2, st1) ∧ FLe f1 f2 := by
  unfold stepO at h ⊢
  cases hw : vwanted ops fr o with
  | none => simp [hw] at h
  | some b =>
    rw [hw] at h
    rw [vwanted_mono hle hw]
    cases b with
    | false =>
      dsimp only at h ⊢
      cases hp : vput nt fr o.dst none with
      | none => simp [hp] at h
      | some g =>
        simp only [hp, Option.some.injEq, Prod.mk.injEq] at h
        obtain ⟨rfl, rfl, rfl⟩ := h
        obtain ⟨g2, h1, h2⟩ := vput_mono hle hp
        exact ⟨g2, by simp only [h1], h2⟩
    | true =>
      dsimp only at h ⊢
      rcases hk : opCls o.op with _ | _ | k
      · simp only [hk] at h ⊢
        cases hv : vop P ro noCall fr ⟨st.nx, .e, 0⟩ o.op with
        | none => simp [hv] at h
        | some q =>
          obtain ⟨v, s⟩ := q
          simp only [hv] at h
          rw [vop_mono (call := call) hle hv]
          dsimp only
          cases hp : vput nt fr o.dst v with
          | none => simp [hp] at h
          | some g =>
            simp only [hp, Option.some.injEq, Prod.mk.injEq] at h
            obtain ⟨rfl, rfl, rfl⟩ := h
            obtain ⟨g2, h1, h2⟩ := vput_mono hle hp
            exact ⟨g2, by simp only [h1], h2⟩
      · simp only [hk, Nat.zero_add] at h ⊢
        cases hop : o.op with
        | load t x =>
          simp only [hop] at h ⊢
          cases hx : opnd fr x with
          | none => simp [hx] at h
          | some u =>
            simp only [hx] at h
            rw [opnd_mono hle hx]
            cases u <;> simp only [reduceCtorEq] at h ⊢
            rename_i g o'
            cases hv : vload P st t g o' with
            | none => simp [hv] at h
            | some v =>
              simp only [hv] at h ⊢
              cases hp : vput nt fr o.dst (some v) with
              | none => simp [hp] at h
              | some g =>
                simp only [hp, Option.some.injEq, Prod.mk.injEq] at h
                obtain ⟨rfl, rfl, rfl⟩ := h
                obtain ⟨g2, h1, h2⟩ := vput_mono hle hp
                exact ⟨g2, by simp only [h1], h2⟩
        | _ => simp [hop] at h
      · simp only [hk] at h ⊢
        cases hv : vop P ro noCall fr ⟨st.nx, st.hp, st.nx⟩ o.op with
        | none => simp [hv] at h
        | some q =>
          obtain ⟨v, s⟩ := q
          simp only [hv] at h
          rw [vop_mono (call := call) hle hv]
          dsimp only
          cases hb : (Nat.ble st.nx s.ver || keepB P s (aliveE ops i es)) with
          | false => simp [hb] at h
          | true =>
            simp only [hb] at h ⊢
            cases hp : vput nt fr o.dst v with
            | none => simp [hp] at h
            | some g =>
              simp only [hp, Option.some.injEq, Prod.mk.injEq] at h
              obtain ⟨rfl, rfl, rfl⟩ := h
              obtain ⟨g2, h1, h2⟩ := vput_mono hle hp
              exact ⟨g2, by simp only [h1], h2⟩
theorem runO_mono : ∀ {l : List (Nat × Oper)} {es : List Ent} {fr fr' f1 : T V} {st st1 : St}, FLe fr fr' → runO P ro nt noCall ops l es fr st = some (f1, st1) → ∃ f2, runO P ro nt call ops l es fr' st = some (f2, st1) ∧ FLe f1 f2
  | [], es, fr, fr', f1, st, st1, hle, h => by
    simp only [runO, Option.some.injEq, Prod.mk.injEq] at h
    obtain ⟨rfl, rfl⟩ := h
    exact ⟨fr', rfl, hle⟩
  | (i, o) :: l, es, fr, fr', f1, st, st1, hle, h => by
    rw [runO_cons] at h
    cases hs : stepO P ro nt noCall ops i o es fr st with
    | none => rw [hs] at h; cases h
    | some q =>
      obtain ⟨es0, fr0, st0⟩ := q
      rw [hs] at h
      obtain ⟨g, h1, h2⟩ := stepO_mono (call := call) hle hs
      obtain ⟨g2, h3, h4⟩ := runO_mono h2 h
      exact ⟨g2, by rw [runO_cons, h1]; exact h3, h4⟩
theorem vops_mono : ∀ {l : List Oper} {fr fr' f1 : T V} {st st1 : St}, FLe fr fr' → vops P ro nt noCall ops l fr st = some (f1, st1) → ∃ f2, vops P ro nt call ops l fr' st = some (f2, st1) ∧ FLe f1 f2
  | [], fr, fr', f1, st, st1, hle, h => by
    simp only [vops, Option.some.injEq, Prod.mk.injEq] at h
    obtain ⟨rfl, rfl⟩ := h
    exact ⟨fr', rfl, hle⟩
  | o :: l, fr, fr', f1, st, st1, hle, h => by
    simp only [vops] at h ⊢
    cases hw : vwanted ops fr o with
    | none => simp [hw] at h
    | some b =>
      rw [hw] at h
      rw [vwanted_mono hle hw]
      cases b with
      | false =>
        dsimp only at h ⊢
        cases hp : vput nt fr o.dst none with
        | none => simp [hp] at h
        | some g =>
          simp only [hp] at h
          obtain ⟨g2, h1, h2⟩ := vput_mono hle hp
          obtain ⟨g3, h3, h4⟩ := vops_mono h2 h
          exact ⟨g3, by simp only [h1]; exact h3, h4⟩
      | true =>
        dsimp only at h ⊢
        cases hv : vop P ro noCall fr st o.op with
        | none => simp [hv] at h
        | some q =>
          obtain ⟨v, s⟩ := q
          simp only [hv] at h
          rw [vop_mono (call := call) hle hv]
          dsimp only
          cases hp : vput nt fr o.dst v with
          | none => simp [hp] at h
          | some g =>
            simp only [hp] at h
            obtain ⟨g2, h1, h2⟩ := vput_mono hle hp
            obtain ⟨g3, h3, h4⟩ := vops_mono h2 h
            exact ⟨g3, by simp only [h1]; exact h3, h4⟩

theorem sameO_mono {f g f' g' : T V} (h1 : FLe f f') (h2 : FLe g g') {x y : Operand} (h : sameO (opnd f x) (opnd g y) = true) : sameO (opnd f' x) (opnd g' y) = true := by
  cases e1 : opnd f x with
  | none => simp [e1, sameO] at h
  | some u =>
    cases e2 : opnd g y with
    | none => simp [e1, e2, sameO] at h
    | some v => rw [opnd_mono h1 e1, opnd_mono h2 e2]; rw [e1, e2] at h; exact h

theorem flagSt_mono {F : FlagI} {fr fr' : T V} {st st1 : St} (hle : FLe fr fr') (h : flagSt P ro nt noCall F fr st = some st1) : flagSt P ro nt call F fr' st = some st1 := by
  unfold flagSt at h ⊢
  cases rA : runO P ro nt noCall F.opsA F.lA [] fr st with
  | none => simp [rA] at h
  | some qA =>
    obtain ⟨frA, stA⟩ := qA
    cases rB : runO P ro nt noCall F.opsB F.lB [] fr st with
    | none => simp [rA, rB] at h
    | some qB =>
      obtain ⟨frB, stB⟩ := qB
      simp only [rA, rB] at h
      obtain ⟨gA, a1, a2⟩ := runO_mono (call := call) hle rA
      obtain ⟨gB, b1, b2⟩ := runO_mono (call := call) hle rB
      rw [a1, b1]
      dsimp only
      cases rE : vops P ro nt noCall F.opsE F.opsE.toList frA stA with
      | none => simp [rE] at h
      | some qE =>
        obtain ⟨frE, stE⟩ := qE
        simp only [rE] at h
        obtain ⟨gE, e1, e2⟩ := vops_mono (call := call) a2 rE
        rw [e1]
        dsimp only
        cases hk : (flagChk P ro nt noCall F fr st frA frB && Nat.beq stE.nx stB.nx) with
        | false => simp [hk] at h
        | true =>
          rw [hk] at h
          rw [Bool.and_eq_true] at hk
          have hk1 : flagChk P ro nt call F fr' st gA gB = true := by
            have k := hk.1
            unfold flagChk at k ⊢
            cases c1 : runO P ro nt noCall F.opsA (F.tA.pre ++ [(F.tA.i1, F.tA.o1)]) [] fr st with
            | none => simp [c1] at k
            | some p1 =>
              obtain ⟨f1, s1⟩ := p1
              cases c2 : runO P ro nt noCall F.opsB (F.tB.pre ++ [(F.tB.i1, F.tB.o1)]) [] fr st with
              | none => simp [c1, c2] at k
              | some p2 =>
                obtain ⟨f2, s2⟩ := p2
                simp only [c1, c2] at k
                obtain ⟨g1, d1, d2⟩ := runO_mono (call := call) hle c1
                obtain ⟨g2, d3, d4⟩ := runO_mono (call := call) hle c2
                rw [d1, d3]
                dsimp only
                rw [Bool.and_eq_true, Bool.and_eq_true] at k
                rw [sameO_mono d2 d4 k.1.1, sameO_mono a2 b2 k.1.2]
                have k2 := k.2
                cases x1 : opnd f2 F.tB.cur with
                | none => simp [x1] at k2
                | some y1 =>
                  cases x2 : opnd frA F.eI.ix with
                  | none => simp [x1, x2] at k2
                  | some y2 =>
                    cases x3 : opnd frA F.eI.v with
                    | none => cases y2 <;> simp [x1, x2, x3] at k2
                    | some y3 =>
                      cases x4 : opnd frB F.tB.x with
                      | none => cases y2 <;> simp [x1, x2, x3, x4] at k2
                      | some y4 =>
                        cases x5 : opnd frB (.tmp F.tB.r) with
                        | none => cases y2 <;> cases y4 <;> simp [x1, x2, x3, x4, x5] at k2
                        | some y5 =>
                          rw [opnd_mono d4 x1, opnd_mono a2 x2, opnd_mono a2 x3, opnd_mono b2 x4, opnd_mono b2 x5]
                          rw [x1, x2, x3, x4, x5] at k2
                          simpa using k2
          rw [hk1, hk.2]
          exact h
end

def opRd : Op → List Operand
  | .move x | .assign x => [x]
  | .pick c a b => [c, a, b]
  | .binOp _ _ x y _ => [x, y]
  | .unOp _ _ x => [x]
  | .convert _ _ x => [x]
  | .field _ x _ => [x]
  | .index _ x i => [x, i]
  | .indexAddr _ x i => [x, i]
  | .fieldAddr _ x _ => [x]
  | .load _ x => [x]
  | .store _ x v => [x, v]
  | .box _ x => [x]
  | .build _ ps => ps.toList.map fun p => p.2
  | .buildSlice _ _ ps => ps.toList.map fun p => p.2
  | .slice _ x lo hi mx => x :: (lo.toList ++ hi.toList ++ mx.toList)
  | .extract x _ => [x]
  | .call c => c.args.toList
  | _ => []
def hasN (l : List Nat) (t : Nat) : Bool := match l with
  | [] => false
  | x :: r => Nat.beq x t || hasN r t
def addN : List Operand → List Nat → List Nat → List Nat
  | [], _, acc => acc
  | .tmp t :: r, dead, acc => addN r dead (cond (hasN dead t || hasN acc t) acc (t :: acc))
  | _ :: r, dead, acc => addN r dead acc
/-- What either way reads of what was there before. -/
def needOf (F : FlagI) : List Nat := addN ((F.opsA.toList ++ F.opsE.toList ++ F.opsB.toList).flatMap fun o => opRd o.op) F.dead []
def pickL : List Nat → T V → T V → T V
  | [], _, acc => acc
  | t :: r, fr, acc => match fr.get t with
    | some v => pickL r fr (acc.upd t (some v))
    | none => pickL r fr acc
theorem hasN_mem {l : List Nat} {t : Nat} : hasN l t = true ↔ t ∈ l := by
  induction l with
  | nil => simp [hasN]
  | cons x r ih =>
    simp only [hasN, Bool.or_eq_true, Nat.beq_eq, ih, List.mem_cons]
    constructor
    · rintro (h | h)
      · exact .inl h.symm
      · exact .inr h
    · rintro (h | h)
      · exact .inl h.symm
      · exact .inr h
theorem addN_dead {dead : List Nat} : ∀ {l : List Operand} {acc : List Nat}, (∀ t ∈ acc, t ∉ dead) → ∀ t ∈ addN l dead acc, t ∉ dead
  | [], acc, h => h
  | .tmp t :: r, acc, h => by
    rw [addN]
    refine addN_dead fun u hu => ?_
    cases hc : (hasN dead t || hasN acc t) with
    | true => rw [hc] at hu; exact h u hu
    | false =>
      rw [hc] at hu
      rcases List.mem_cons.1 hu with rfl | hu
      · intro z
        rw [Bool.or_eq_false_iff] at hc
        rw [hasN_mem.2 z] at hc
        cases hc.1
      · exact h u hu
  | .const _ :: r, acc, h => by rw [addN]; exact addN_dead h; intro _ q; cases q
  | .global _ :: r, acc, h => by rw [addN]; exact addN_dead h; intro _ q; cases q
  | .func _ :: r, acc, h => by rw [addN]; exact addN_dead h; intro _ q; cases q
theorem pickL_get : ∀ {l : List Nat} {fr acc : T V} {t : Nat} {v : V}, (pickL l fr acc).get t = some v → acc.get t = some v ∨ (t ∈ l ∧ fr.get t = some v)
  | [], fr, acc, t, v, h => .inl h
  | x :: r, fr, acc, t, v, h => by
    rw [pickL] at h
    cases hx : fr.get x with
    | none =>
      rw [hx] at h
      rcases pickL_get h with q | ⟨q1, q2⟩
      · exact .inl q
      · exact .inr ⟨List.mem_cons_of_mem _ q1, q2⟩
    | some u =>
      rw [hx] at h
      rcases pickL_get h with q | ⟨q1, q2⟩
      · rw [T.get_upd] at q
        split at q
        · rename_i e
          subst e
          exact .inr ⟨List.mem_cons_self .., by rw [hx]; exact q⟩
        · exact .inl q
      · exact .inr ⟨List.mem_cons_of_mem _ q1, q2⟩
end Go.Vm
namespace Go.Vk
open Go.Vm

abbrev KCall := FuncId → List V → St → (V → St → Bool) → Bool

/-! ### Cases, straight by recursors -/

noncomputable def ifB (x t f : Bool) : Bool := Bool.rec f t x
noncomputable def onOpt (o : Option V) (k : V → Bool) : Bool := Option.rec false k o
noncomputable def onB (v : V) (t f : Bool) : Bool :=
  V.rec (motive_1 := fun _ => Bool) (motive_2 := fun _ => Unit) (fun x => Bool.rec f t x) (fun _ _ => false) (fun _ _ => false) (fun _ _ => false) false (fun _ _ _ _ _ => false) false (fun _ _ _ _ _ => false) false false (fun _ _ => false) (fun _ _ => false) (fun _ _ _ => false) (fun _ => false) (fun _ => false) (false) (fun _ _ _ => false) () (fun _ _ _ _ => ()) v
/-- What is no bool: d. -/
noncomputable def onBx (v : V) (t f d : Bool) : Bool :=
  V.rec (motive_1 := fun _ => Bool) (motive_2 := fun _ => Unit) (fun x => Bool.rec f t x) (fun _ _ => d) (fun _ _ => d) (fun _ _ => d) d (fun _ _ _ _ _ => d) d (fun _ _ _ _ _ => d) d d (fun _ _ => d) (fun _ _ => d) (fun _ _ _ => d) (fun _ => d) (fun _ => d) (d) (fun _ _ _ => d) () (fun _ _ _ _ => ()) v
noncomputable def onI (v : V) (k : IntKind → Int → Bool) : Bool :=
  V.rec (motive_1 := fun _ => Bool) (motive_2 := fun _ => Unit) (fun _ => false) k (fun _ _ => false) (fun _ _ => false) false (fun _ _ _ _ _ => false) false (fun _ _ _ _ _ => false) false false (fun _ _ => false) (fun _ _ => false) (fun _ _ _ => false) (fun _ => false) (fun _ => false) (false) (fun _ _ _ => false) () (fun _ _ _ _ => ()) v
noncomputable def onS (v : V) (k : Nat → Nat → Bool) : Bool :=
  V.rec (motive_1 := fun _ => Bool) (motive_2 := fun _ => Unit) (fun _ => false) (fun _ _ => false) k (fun _ _ => false) false (fun _ _ _ _ _ => false) false (fun _ _ _ _ _ => false) false false (fun _ _ => false) (fun _ _ => false) (fun _ _ _ => false) (fun _ => false) (fun _ => false) (false) (fun _ _ _ => false) () (fun _ _ _ _ => ()) v
noncomputable def onP (v : V) (k : Nat → Nat → Bool) : Bool :=
  V.rec (motive_1 := fun _ => Bool) (motive_2 := fun _ => Unit) (fun _ => false) (fun _ _ => false) (fun _ _ => false) k false (fun _ _ _ _ _ => false) false (fun _ _ _ _ _ => false) false false (fun _ _ => false) (fun _ _ => false) (fun _ _ _ => false) (fun _ => false) (fun _ => false) (false) (fun _ _ _ => false) () (fun _ _ _ _ => ()) v
noncomputable def onF (v : V) (k : Fn → List V → List V → Bool) : Bool :=
  V.rec (motive_1 := fun _ => Bool) (motive_2 := fun _ => Unit) (fun _ => false) (fun _ _ => false) (fun _ _ => false) (fun _ _ => false) false (fun _ _ _ _ _ => false) false (fun f xs ys _ _ => k f xs ys) false false (fun _ _ => false) (fun _ _ => false) (fun _ _ _ => false) (fun _ => false) (fun _ => false) (false) (fun _ _ _ => false) () (fun _ _ _ _ => ()) v
noncomputable def onT (v : V) (k : List V → Bool) : Bool :=
  V.rec (motive_1 := fun _ => Bool) (motive_2 := fun _ => Unit) (fun _ => false) (fun _ _ => false) (fun _ _ => false) (fun _ _ => false) false (fun _ _ _ _ _ => false) false (fun _ _ _ _ _ => false) false false (fun _ _ => false) (fun vs _ => k vs) (fun _ _ _ => false) (fun _ => false) (fun _ => false) (false) (fun _ _ _ => false) () (fun _ _ _ _ => ()) v
/-- Both are no less than 0. -/
noncomputable def onNN (a b : Int) (k : Nat → Nat → Bool) (d : Bool) : Bool := Int.rec (fun m => Int.rec (fun n => k m n) (fun _ => d) b) (fun _ => d) a
noncomputable def onN (a : Int) (k : Nat → Bool) (d : Bool) : Bool := Int.rec k (fun _ => d) a
noncomputable def natK (n : Nat) (k : Nat → Bool) : Bool := Nat.rec (motive := fun _ => Bool) (k 0) (fun m _ => k (Nat.succ m)) n

/-- A value is forced. -/
noncomputable def forceK (v : V) (k : V → Bool) : Bool :=
  V.rec (motive_1 := fun _ => Bool) (motive_2 := fun _ => Unit) (fun x => Bool.rec (k (.b false)) (k (.b true)) x)
    (fun kd n => kindF kd fun kd => Int.rec (fun m => natK m fun m => k (.i kd (.ofNat m))) (fun m => natK m fun m => k (.i kd (.negSucc m))) n)
    (fun l x => natK l fun l => natK x fun x => k (.s l x)) (fun g o => natK g fun g => natK o fun o => k (.p g o)) (k .pn)
    (fun g o l c op => natK g fun g => natK o fun o => natK l fun l => natK c fun c => Bool.rec (k (.sl g o l c false)) (k (.sl g o l c true)) op) (k .sn) (fun f xs ys _ _ => k (.f f xs ys)) (k .fz) (k .nz) (fun cs _ => k (.a cs)) (fun vs _ => k (.t vs)) (fun g o p => natK g fun g => natK o fun o => natK p fun p => k (.se g o p)) (fun a => k (.ze a)) (fun g => natK g fun g => k (.m g)) (k .mz) (fun g o p => natK g fun g => natK o fun o => natK p fun p => k (.sy g o p)) () (fun _ _ _ _ => ()) v

/-! ### Frames -/

/-- The way to a place of a tree. -/
noncomputable def pathR (f : Nat) : Nat → List Bool :=
  Nat.rec (motive := fun _ => Nat → List Bool) (fun _ => [])
    (fun _ ih i => Nat.rec (motive := fun _ => List Bool) [] (fun k _ => Bool.rec (motive := fun _ => List Bool) (false :: ih (k / 2)) (true :: ih (k / 2)) (Nat.beq (k % 2) 0)) i) f
noncomputable def pathOf (i : Nat) : List Bool := pathR (i + 1) i

noncomputable def getD {α : Type} (p : List Bool) (t : T α) (k : α → Bool) (d : Bool) : Bool :=
  List.rec (motive := fun _ => T α → Bool)
    (fun t => T.rec (motive := fun _ => Bool) d (fun _ v _ _ _ => Option.rec d k v) t)
    (fun b _ ih t => T.rec (motive := fun _ => Bool) d (fun l _ r _ _ => Bool.rec (ih r) (ih l) b) t) p t
noncomputable def getK (p : List Bool) (t : T V) (k : V → Bool) : Bool := getD p t k false

noncomputable def updA {α : Type} (p : List Bool) (t : T α) (v : Option α) (k : T α → Bool) : Bool :=
  List.rec (motive := fun _ => T α → (T α → Bool) → Bool)
    (fun t k => T.rec (motive := fun _ => Bool) (k (.n .e v .e)) (fun l _ r _ _ => k (.n l v r)) t)
    (fun b _ ih t k => Bool.rec
      (T.rec (motive := fun _ => Bool) (ih .e fun r => k (.n .e none r)) (fun l x r _ _ => ih r fun r => k (.n l x r)) t)
      (T.rec (motive := fun _ => Bool) (ih .e fun l => k (.n l none .e)) (fun l x r _ _ => ih l fun l => k (.n l x r)) t) b) p t k
noncomputable def updK (p : List Bool) (t : T V) (v : V) (k : T V → Bool) : Bool := updA p t (some v) k

noncomputable def nthK (j : Nat) (ls : List V) (k : V → Bool) : Bool :=
  Nat.rec (motive := fun _ => List V → Bool)
    (fun ls => List.rec (motive := fun _ => Bool) false (fun v _ _ => k v) ls)
    (fun _ ih ls => List.rec (motive := fun _ => Bool) false (fun _ r _ => ih r) ls) j ls

structure KOpd where
  run : T V → List V → (V → Bool) → Bool
structure KOpds where
  run : T V → List V → (List V → Bool) → Bool
structure KOpdO where
  run : T V → List V → (Option V → Bool) → Bool
structure KParts where
  run : T V → List V → (List (Nat × V) → Bool) → Bool

def posOf : List Nat → Nat → Option Nat
  | [], _ => none
  | x :: r, t => match Nat.beq x t with
    | true => some 0
    | false => match posOf r t with
      | some j => some (j + 1)
      | none => none
def liveB (mask t : Nat) : Bool := Nat.beq (mask / 2 ^ t % 2) 1

section
variable (mask : Nat) (names : List Nat)
noncomputable def ktmp (t : Nat) : KOpd := match posOf names t with
  | some j => natF j fun j => ⟨fun _ ls k => nthK j ls k⟩
  | none => match liveB mask t with
    | true => ⟨fun fr _ k => getK (pathOf t) fr k⟩
    | false => ⟨fun _ _ _ => false⟩
noncomputable def kopnd : Operand → KOpd
  | .tmp t => ktmp mask names t
  | .const c => match ofV 4 c with
    | some v => v.force fun v => ⟨fun _ _ k => k v⟩
    | none => ⟨fun _ _ _ => false⟩
  | .global g => cond (Nat.blt g GL) ⟨fun _ _ k => k (.p g 0)⟩ ⟨fun _ _ _ => false⟩
  | .func f => ⟨fun _ _ k => k (.f (.func f) [] [])⟩
noncomputable def kopnds : List Operand → KOpds
  | [] => ⟨fun _ _ k => k []⟩
  | o :: r => ⟨fun fr ls k => (kopnd mask names o).run fr ls fun v => (kopnds r).run fr ls fun vs => k (v :: vs)⟩
noncomputable def kopndO : Option Operand → KOpdO
  | none => ⟨fun _ _ k => k none⟩
  | some o => ⟨fun fr ls k => (kopnd mask names o).run fr ls fun v => k (some v)⟩
noncomputable def kparts : List (Nat × Operand) → KParts
  | [] => ⟨fun _ _ k => k []⟩
  | (i, o) :: r => ⟨fun fr ls k => (kopnd mask names o).run fr ls fun v => (kparts r).run fr ls fun vs => k ((i, v) :: vs)⟩
end

/-! ### Operations -/

noncomputable def kindN (k : IntKind) : Nat := IntKind.rec (motive := fun _ => Nat) 0 1 2 3 4 5 6 7 k
noncomputable def limN (k : IntKind) : Nat := IntKind.rec (motive := fun _ => Nat) 128 32768 2147483648 9223372036854775808 256 65536 4294967296 18446744073709551616 k
/-- The number, held to its kind. -/
noncomputable def wrapK (kd : IntKind) (n : Int) (k : V → Bool) : Bool := forceK (V.i kd (kd.wrap n)) k
noncomputable def smallK (kd : IntKind) (m : Nat) (k : V → Bool) : Bool := ifB (Nat.blt m (limN kd)) (natK m fun m => k (.i kd (.ofNat m))) (wrapK kd (.ofNat m) k)

noncomputable def wrapV (kd : IntKind) (n : Int) (k : V → Bool) : Bool := onN n (fun m => smallK kd m k) (wrapK kd n k)

structure KBin where
  run : V → V → (V → Bool) → Bool
noncomputable def sameK (x y : V) (k : IntKind → Int → Int → Bool) : Bool := onI x fun ka a => onI y fun kb b => ifB (Nat.beq (kindN ka) (kindN kb)) (k ka a b) false
noncomputable def kbinI (P : Program) (t : TypeId) : BinOp → KBin
  | .add => ⟨fun x y k => sameK x y fun ka a b => onNN a b (fun m n => smallK ka (m + n) k) (wrapK ka (a + b) k)⟩
  | .sub => ⟨fun x y k => sameK x y fun ka a b => onNN a b (fun m n => ifB (Nat.ble n m) (smallK ka (m - n) k) (wrapK ka (a - b) k)) (wrapK ka (a - b) k)⟩
  | .mul => ⟨fun x y k => sameK x y fun ka a b => onNN a b (fun m n => smallK ka (m * n) k) (wrapK ka (a * b) k)⟩
  | .lss => ⟨fun x y k => sameK x y fun _ a b => onNN a b (fun m n => boolF (Nat.blt m n) fun z => k (.b z)) (boolF (ilt a b) fun z => k (.b z))⟩
  | .leq => ⟨fun x y k => sameK x y fun _ a b => onNN a b (fun m n => boolF (Nat.ble m n) fun z => k (.b z)) (boolF (ile a b) fun z => k (.b z))⟩
  | .gtr => ⟨fun x y k => sameK x y fun _ a b => onNN a b (fun m n => boolF (Nat.blt n m) fun z => k (.b z)) (boolF (ilt b a) fun z => k (.b z))⟩
  | .geq => ⟨fun x y k => sameK x y fun _ a b => onNN a b (fun m n => boolF (Nat.ble n m) fun z => k (.b z)) (boolF (ile b a) fun z => k (.b z))⟩
  | .eql => ⟨fun x y k => sameK x y fun _ a b => onNN a b (fun m n => boolF (Nat.beq m n) fun z => k (.b z)) (boolF (a == b) fun z => k (.b z))⟩
  | .neq => ⟨fun x y k => sameK x y fun _ a b => onNN a b (fun m n => boolF (!(Nat.beq m n)) fun z => k (.b z)) (boolF (a != b) fun z => k (.b z))⟩
  | op => ⟨fun x y k => match vbin P op t x y with | some v => forceK v k | none => false⟩
noncomputable def kbin (P : Program) (op : BinOp) (t : TypeId) : KBin :=
  match P.underlying t with
  | some (.int _) => kbinI P t op
  | _ => ⟨fun x y k => match vbin P op t x y with | some v => forceK v k | none => false⟩

noncomputable def kindex (P : Program) (t : TypeId) : KBin :=
  match P.underlying t with
  | some .string => ⟨fun x y k => onS x fun len bits => onI y fun _ i => onN i (fun i => ifB (Nat.blt i len) (natK (byteAt bits i) fun n => k (.i .u8 (.ofNat n))) false) false⟩
  | _ => ⟨fun x y k => onI y fun _ i => match vindex P t x i with | some v => forceK v k | none => false⟩

/-! ### Memory -/

noncomputable def onBlk (b : Blk) (k : T V → List V → Nat → Nat → Bool → Bool) : Bool := Blk.rec (motive := fun _ => Bool) (fun cs zero sz es op _ => k cs zero sz es op) b
noncomputable def onBlkM (b : Blk) (k : T V → List V → Nat → Nat → Bool → Option (List (V × V)) → Bool) : Bool := Blk.rec (motive := fun _ => Bool) k b
noncomputable def noMap (mp : Option (List (V × V))) (b : Bool) : Bool := Option.rec (motive := fun _ => Bool) b (fun _ => false) mp
noncomputable def onSt (st : St) (k : Nat → T Blk → Nat → Bool) : Bool := St.rec (motive := fun _ => Bool) k st
noncomputable def cellK (cs : T V) (zero : List V) (sz es o : Nat) (k : V → Bool) : Bool := ifB (Nat.blt o sz) (getD (pathOf o) cs k (onOpt zero[o % es]? k)) false
noncomputable def rowK (cs : T V) (zero : List V) (sz es n o : Nat) (k : List V → Bool) : Bool :=
  Nat.rec (motive := fun _ => Nat → (List V → Bool) → Bool) (fun _ k => k []) (fun _ ih o k => cellK cs zero sz es o fun v => natK (o + 1) fun o => ih o fun r => k (v :: r)) n o k
noncomputable def putK (sz : Nat) (vs : List V) (cs : T V) (o : Nat) (k : T V → Bool) : Bool :=
  List.rec (motive := fun _ => T V → Nat → Bool) (fun cs _ => k cs) (fun v _ ih cs o => ifB (Nat.blt o sz) (ifB v.atom (forceK v fun v => updA (pathOf o) cs (some v) fun cs => natK (o + 1) fun o => ih cs o) false) false) vs cs o
noncomputable def lenK (l : List V) (k : Nat → Bool) : Bool := natK (List.rec (motive := fun _ => Nat) 0 (fun _ _ ih => Nat.succ ih) l) k
/-- A new block of some cells. -/
noncomputable def newK (cs : List V) (es : Nat) (op : Bool) (k : Blk → Bool) : Bool := lenK cs fun sz => putK sz cs .e 0 fun t => k ⟨t, [], sz, es, op, none⟩
noncomputable def allocK (st : St) (b : Blk) (k : Nat → St → Bool) : Bool := onSt st fun nx hp ver => updA (pathOf nx) hp (some b) fun hp => natK (nx + 1) fun nx1 => k nx ⟨nx1, hp, ver⟩
noncomputable def writeK (st : St) (id : Nat) (b : Option Blk) (k : St → Bool) : Bool := onSt st fun nx hp ver => updA (pathOf id) hp b fun hp => ifB (Nat.ble ver id) (k ⟨nx, hp, ver⟩) (k ⟨nx, hp, id⟩)
noncomputable def blkK (st : St) (id : Nat) (k : Blk → Bool) : Bool := onSt st fun _ hp _ => getD (pathOf id) hp k false
noncomputable def cellsV (v : V) (k : List V → Bool) : Bool :=
  V.rec (motive_1 := fun _ => Bool) (motive_2 := fun _ => Unit) (fun _ => k [v]) (fun _ _ => k [v]) (fun _ _ => k [v]) (fun _ _ => k [v]) (k [v]) (fun _ _ _ _ _ => k [v]) (k [v]) (fun _ _ _ _ _ => k [v]) (k [v]) (k [v]) (fun cs _ => k cs) (fun _ _ => k [v]) (fun _ _ _ => k [v]) (fun _ => k [v]) (fun _ => k [v]) (k [v]) (fun _ _ _ => k [v]) () (fun _ _ _ _ => ()) v

structure KLoad where
  run : St → Nat → Nat → (V → Bool) → Bool
noncomputable def kload (P : Program) (t : TypeId) : KLoad :=
  match P.info? t, P.underlying t with
  | some ti, some _ => match isAggB P t with
    | true => natF ti.size fun n => ⟨fun st id off k => blkK st id fun b => onBlk b fun cs zero sz es _ => rowK cs zero sz es n off fun cs => k (.a cs)⟩
    | false => ⟨fun st id off k => blkK st id fun b => onBlk b fun cs zero sz es _ => cellK cs zero sz es off k⟩
  | _, _ => ⟨fun _ _ _ _ => false⟩

structure KStore where
  run : St → Nat → Nat → V → (St → Bool) → Bool
noncomputable def kstore (P : Program) (ro : Nat) (t : TypeId) : KStore :=
  match P.info? t with
  | some ti => natF ti.size fun n => ⟨fun st id off v k => blkK st id fun b => cellsV v fun vs => ifB (Nat.ble ro id) (lenK vs fun l => ifB (Nat.beq l n) (onBlkM b fun cs zero sz es op mp => putK sz vs cs off fun cs => writeK st id (some ⟨cs, zero, sz, es, op, mp⟩) k) false) false⟩
  | none => ⟨fun _ _ _ _ _ => false⟩

noncomputable def kvalloc (st : St) (v : V) (es : Nat) (k : V → St → Bool) : Bool := cellsV v fun cs => newK cs es false fun b => allocK st b fun nx st => k (.p nx 0) st

/-- One element, as append has it. -/
structure KOne where
  run : St → V → (V → St → Bool) → Bool
noncomputable def kone (P : Program) (t : TypeId) : KOne :=
  match P.underlying t with
  | some (.slice e) => match sizeB P e, zeroOf P e with
    | some n, some z => match (Nat.ble (1 * n) 16777216 && Nat.blt 0 n && Nat.beq z.cells.length n) with
      | true => natF n fun n => ⟨fun st v k => cellsV v fun cs => lenK cs fun l => ifB (Nat.beq l n) (newK cs n false fun b => allocK st b fun nx st => k (.sl nx 0 1 1 false) st) false⟩
      | false => ⟨fun _ _ _ => false⟩
    | _, _ => ⟨fun _ _ _ => false⟩
  | _ => ⟨fun _ _ _ => false⟩

/-- An empty slice of open room, or not. -/
noncomputable def onSe (v : V) (d e : Bool) : Bool :=
  V.rec (motive_1 := fun _ => Bool) (motive_2 := fun _ => Unit) (fun _ => e) (fun _ _ => e) (fun _ _ => e) (fun _ _ => e) e (fun _ _ _ _ _ => e) e (fun _ _ _ _ _ => e) e e (fun _ _ => e) (fun _ _ => e) (fun _ _ _ => d) (fun _ => d) (fun _ => e) (e) (fun _ _ _ => d) () (fun _ _ _ _ => ()) v
noncomputable def onSl (v : V) (k : Nat → Nat → Nat → Nat → Bool → Bool) (n : Bool) (s : Nat → Nat → Bool) : Bool :=
  V.rec (motive_1 := fun _ => Bool) (motive_2 := fun _ => Unit) (fun _ => false) (fun _ _ => false) s (fun _ _ => false) false k n (fun _ _ _ _ _ => false) false false (fun _ _ => false) (fun _ _ => false) (fun _ _ _ => false) (fun _ => false) (fun _ => false) (false) (fun _ _ _ => false) () (fun _ _ _ _ => ()) v
noncomputable def bytesK (n x : Nat) (k : List V → Bool) : Bool :=
  Nat.rec (motive := fun _ => Nat → (List V → Bool) → Bool) (fun _ k => k []) (fun _ ih x k => natK (x % 256) fun c => natK (x / 256) fun y => ih y fun r => k (.i .u8 (.ofNat c) :: r)) n x k
/-- What is appended: how many, and their cells. -/
noncomputable def firstK (st : St) (es : Nat) (x : V) (k : Nat → List V → Bool) : Bool :=
  onSl x (fun id off l _ _ => blkK st id fun b => onBlk b fun cs zero sz e _ => rowK cs zero sz e (l * es) off fun r => k l r) (k 0 []) (fun l x => ifB (Nat.beq es 1) (bytesK l x fun r => k l r) false)

structure KApp where
  run : St → V → V → (V → St → Bool) → Bool
noncomputable def kappend (P : Program) (ro : Nat) (t : TypeId) : KApp :=
  match P.underlying t with
  | some (.slice e) => match P.info? e with
    | some ti => natF ti.size fun es => natF ti.bytes fun by_ => match (Nat.blt 0 es && Nat.blt 0 by_ && zeroFits P e es) with
      | true => ⟨fun st s x k => firstK st es x fun n new => onSl s
          (fun id off len cap op => blkK st id fun b => ifB (Nat.ble ((len + n) * by_) 1099511627776)
            (ifB (Nat.ble (len + n) cap)
              (ifB (Nat.ble ro id) (onBlkM b fun cs zero sz e op' mp => putK sz new cs (off + len * es) fun cs => writeK st id (some ⟨cs, zero, sz, e, op', mp⟩) fun st => natK (len + n) fun m => k (.sl id off m cap op) st) false)
              (onBlkM b fun cs zero sz e op' mp => noMap mp
                ((fun (go : Blk → Bool) => ifB (op' && Nat.beq off 0 && Nat.beq (len * es) sz && Nat.beq e es)
                  (lenK new fun nl => natK (sz + nl) fun sz1 => putK sz1 new cs sz fun cs => go ⟨cs, zero, sz1, e, true, none⟩)
                  (rowK cs zero sz e (len * es) off fun old => newK (old ++ new) es true go)) fun b' =>
                ifB op (ifB (Nat.ble ro id && op' && Nat.beq e es && Nat.beq (off + cap * es) sz) (writeK st id none fun st => allocK st b' fun nx st => natK (len + n) fun m => k (.sl nx 0 m m true) st) false)
                  (allocK st b' fun nx st => natK (len + n) fun m => k (.sl nx 0 m m true) st))))
            false)
          (ifB (Nat.ble (n * by_) 1099511627776) (ifB (Nat.beq n 0) (k .sn st) (newK new es true fun b => allocK st b fun nx st => k (.sl nx 0 n n true) st)) false)
          (fun _ _ => false)⟩
      | false => ⟨fun _ _ _ _ => false⟩
    | none => ⟨fun _ _ _ _ => false⟩
  | _ => ⟨fun _ _ _ _ => false⟩

/-- The text of some cells. -/
noncomputable def textK (cs : List V) (k : Nat → Nat → Bool) : Bool :=
  List.rec (motive := fun _ => Nat → Nat → Nat → Bool) (fun l _ acc => k l acc) (fun v _ ih l pw acc => onI v fun kd n => ifB (Nat.beq (kindN kd) 4) (onN n (fun c => natK (l + 1) fun l => natK (acc + c % 256 * pw) fun acc => natK (256 * pw) fun pw => ih l pw acc) false) false) cs 0 1 0

structure KConv where
  run : St → V → (V → St → Bool) → Bool
def optSt (r : Option (V × St)) (k : V → St → Bool) : Bool := match r with
  | some (v, st) => k v st
  | none => false
noncomputable def kconv (P : Program) (s d : TypeId) : KConv :=
  match P.underlying s, P.underlying d with
  | some (.slice e), some .string => match P.underlying e with
    | some (.int .u8) => ⟨fun st x k => onSl x (fun id off len _ _ => blkK st id fun b => onBlk b fun cs zero sz es _ => rowK cs zero sz es len off fun r => textK r fun l x => k (.s l x) st) (k (.s 0 0) st) (fun _ _ => false)⟩
    | _ => ⟨fun _ _ _ => false⟩
  | some _, some .string => ⟨fun st x k => onS x fun l x => k (.s l x) st⟩
  | some _, some (.int kd) => ⟨fun st x k => onI x fun _ n => wrapV kd n fun v => k v st⟩
  | _, _ => ⟨fun st x k => optSt (vconvert P st s d x) fun v st => forceK v fun v => k v st⟩
noncomputable def kconv2 (P : Program) (ro : Nat) (s d : TypeId) : KConv :=
  match P.underlying s, P.underlying d with
  | some (.slice _), some (.slice _) => ⟨fun st x k => optSt (vconv2 P ro st s d x) fun v st => forceK v fun v => k v st⟩
  | _, _ => kconv P s d

structure KO where
  run : KCall → T V → List V → St → (Option V → St → Bool) → Bool
noncomputable def optV (r : Option V) (k : V → Bool) : Bool := match r with
  | some v => forceK v k
  | none => false

section
variable (P : Program) (ro mask : Nat) (names : List Nat)
noncomputable def kother (as : KOpds) (b : Builtin) (ts : List TypeId) : KO := ⟨fun _ fr ls st k => as.run fr ls fun args => optSt (vbuiltin P ro b ts args st) fun v st => forceK v fun v => k (some v) st⟩
noncomputable def onTwo (l : List V) (k : V → V → Bool) : Bool := List.rec (motive := fun _ => Bool) false (fun x r _ => List.rec (motive := fun _ => Bool) false (fun y r _ => List.rec (motive := fun _ => Bool) (k x y) (fun _ _ _ => false) r) r) l
noncomputable def onOne (l : List V) (k : V → Bool) : Bool := List.rec (motive := fun _ => Bool) false (fun x r _ => List.rec (motive := fun _ => Bool) (k x) (fun _ _ _ => false) r) l
noncomputable def kbuiltin (as : KOpds) (b : Builtin) (ts : List TypeId) : KO := match b, ts with
  | .append, [t, u] => match P.underlying u with
    | some (.int _) => ⟨fun _ _ _ _ _ => false⟩
    | some _ => ⟨fun _ fr ls st k => as.run fr ls fun args => onTwo args fun s x => onSe s (optSt (vappend P ro st t s x) fun v st => forceK v fun v => k (some v) st) (onSe x (optSt (vappend P ro st t s x) fun v st => forceK v fun v => k (some v) st) ((kappend P ro t).run st s x fun v st => k (some v) st))⟩
    | none => ⟨fun _ _ _ _ _ => false⟩
  | .len, [t] => match P.underlying t with
    | some .string => ⟨fun _ fr ls st k => as.run fr ls fun args => onOne args fun x => onS x fun l _ => k (some (.i .i64 (.ofNat l))) st⟩
    | some (.slice _) => ⟨fun _ fr ls st k => as.run fr ls fun args => onOne args fun x => onSe x (k (some (.i .i64 (.ofNat 0))) st) (onSl x (fun _ _ l _ _ => k (some (.i .i64 (.ofNat l))) st) (k (some (.i .i64 (.ofNat 0))) st) (fun _ _ => false))⟩
    | _ => kother P ro as b ts
  | b, ts => kother P ro as b ts
noncomputable def kcallee (as : KOpds) (ts : List TypeId) : Callee → KO
  | .builtin b => kbuiltin P ro as b ts
  | .value o => match o with
    | .func f => ⟨fun call fr ls st k => as.run fr ls fun args => call f args st fun v st => k (some v) st⟩
    | o => ⟨fun call fr ls st k => as.run fr ls fun args => (kopnd mask names o).run fr ls fun g => onF g fun fn first caps => match fn with
      | .func f => call f (first ++ args ++ caps) st fun v st => k (some v) st
      | _ => false⟩
  | .invoke _ _ => ⟨fun _ _ _ _ _ => false⟩

/-- The entries of a map are forced. -/
noncomputable def spineK (l : List (V × V)) (k : List (V × V) → Bool) : Bool :=
  List.rec (motive := fun _ => (List (V × V) → Bool) → Bool) (fun k => k []) (fun x _ ih k => forceK x.1 fun a => forceK x.2 fun b => ih fun r => k ((a, b) :: r)) l k
noncomputable def kmapUpd (t : TypeId) : V → V → V → St → (Option V → St → Bool) → Bool
  | .m g, x, y, st, k => match vmapUpdate P ro st t (.m g) x y with
    | some st' => blkK st' g fun b => onBlkM b fun cs zero sz es op mp => match mp with
      | some l => spineK l fun l => writeK st g (some ⟨cs, zero, sz, es, op, some l⟩) fun st => k none st
      | none => false
    | none => false
  | _, _, _, _, _ => false
noncomputable def kop : Op → KO
  | .move x => ⟨fun _ fr ls st k => (kopnd mask names x).run fr ls fun v => k (some v) st⟩
  | .assign x => ⟨fun _ fr ls st k => (kopnd mask names x).run fr ls fun v => k (some v) st⟩
  | .pick c a b => ⟨fun _ fr ls st k => (kopnd mask names c).run fr ls fun v => onB v ((kopnd mask names a).run fr ls fun v => k (some v) st) ((kopnd mask names b).run fr ls fun v => k (some v) st)⟩
  | .binOp op t x y _ => ⟨fun _ fr ls st k => (kopnd mask names x).run fr ls fun x => (kopnd mask names y).run fr ls fun y => (kbin P op t).run x y fun v => k (some v) st⟩
  | .unOp op _ x => ⟨fun _ fr ls st k => (kopnd mask names x).run fr ls fun x => optV (vun op x) fun v => k (some v) st⟩
  | .convert s d x => ⟨fun _ fr ls st k => (kopnd mask names x).run fr ls fun x => (kconv2 P ro s d).run st x fun v st => k (some v) st⟩
  | .field t x f => ⟨fun _ fr ls st k => (kopnd mask names x).run fr ls fun x => optV (vfield P t x f) fun v => k (some v) st⟩
  | .index t x i => ⟨fun _ fr ls st k => (kopnd mask names x).run fr ls fun x => (kopnd mask names i).run fr ls fun i => (kindex P t).run x i fun v => k (some v) st⟩
  | .indexAddr t x i => ⟨fun _ fr ls st k => (kopnd mask names x).run fr ls fun x => (kopnd mask names i).run fr ls fun i => onI i fun _ i => optV (vindexAddr P t x i) fun v => k (some v) st⟩
  | .fieldAddr t x f => ⟨fun _ fr ls st k => (kopnd mask names x).run fr ls fun x => onP x fun id off => optV (vfieldAddr P t id off f) fun v => k (some v) st⟩
  | .load t x => ⟨fun _ fr ls st k => (kopnd mask names x).run fr ls fun x => onP x fun id off => (kload P t).run st id off fun v => k (some v) st⟩
  | .store t x v => ⟨fun _ fr ls st k => (kopnd mask names x).run fr ls fun x => (kopnd mask names v).run fr ls fun v => onP x fun id off => (kstore P ro t).run st id off v fun st => k none st⟩
  | .alloc t => match zeroOf P t, sizeB P t with
    | some z, some n => natF n fun n => ⟨fun _ _ _ st k => kvalloc st z n fun v st => k (some v) st⟩
    | _, _ => ⟨fun _ _ _ _ _ => false⟩
  | .box t x => match sizeB P t with
    | some n => natF n fun n => ⟨fun _ fr ls st k => (kopnd mask names x).run fr ls fun z => kvalloc st z n fun v st => k (some v) st⟩
    | none => ⟨fun _ _ _ _ _ => false⟩
  | .build t ps => ⟨fun _ fr ls st k => (kparts mask names ps.toList).run fr ls fun ps => optV (vbuild P t ps) fun v => k (some v) st⟩
  | .buildSlice t len ps => match len, ps.toList with
    | 1, [(0, o)] => ⟨fun _ fr ls st k => (kopnd mask names o).run fr ls fun v => (kone P t).run st v fun v st => k (some v) st⟩
    | len, ps => ⟨fun _ fr ls st k => (kparts mask names ps).run fr ls fun ps => optSt (vbuildSlice P st t len ps) fun v st => forceK v fun v => k (some v) st⟩
  | .makeSlice t l c => ⟨fun _ fr ls st k => (kopnd mask names l).run fr ls fun l => (kopnd mask names c).run fr ls fun c => onI l fun _ l => onI c fun _ c => optSt (vmakeSlice P st t l c) fun v st => forceK v fun v => k (some v) st⟩
  | .slice t x lo hi mx => ⟨fun _ fr ls st k => (kopnd mask names x).run fr ls fun x => (kopndO mask names lo).run fr ls fun lo => (kopndO mask names hi).run fr ls fun hi => (kopndO mask names mx).run fr ls fun mx => optV (vslice P t x lo hi mx) fun v => k (some v) st⟩
  | .nilCheck x => ⟨fun _ fr ls st k => (kopnd mask names x).run fr ls fun x => onP x fun id off => k (some (.p id off)) st⟩
  | .makeFunc fn first caps => ⟨fun _ fr ls st k => (kopnds mask names first.toList).run fr ls fun xs => (kopnds mask names caps.toList).run fr ls fun ys => k (some (.f fn xs ys)) st⟩
  | .extract x i => ⟨fun _ fr ls st k => (kopnd mask names x).run fr ls fun x => onT x fun vs => onOpt vs[i]? fun v => k (some v) st⟩
  | .call c => kcallee P ro mask names (kopnds mask names c.args.toList) c.argTypes.toList c.callee
  | .makeMap _ none => ⟨fun _ _ _ st k => allocK st ⟨.e, [], 0, 0, false, some []⟩ fun nx st => k (some (.m nx)) st⟩
  | .lookup t x y ok => ⟨fun _ fr ls st k => (kopnd mask names x).run fr ls fun x => (kopnd mask names y).run fr ls fun y => optV (vlookup P ro st t x y ok) fun v => k (some v) st⟩
  | .mapUpdate t m x y => ⟨fun _ fr ls st k => (kopnd mask names m).run fr ls fun m => (kopnd mask names x).run fr ls fun x => (kopnd mask names y).run fr ls fun y => kmapUpd P ro t m x y st k⟩
  | _ => ⟨fun _ _ _ _ _ => false⟩
end

/-- A result is laid down: in the frame, or among the region's own. -/
structure KPut where
  run : T V → List V → Option V → (T V → List V → Bool) → Bool
def vNone : V := .t []
noncomputable def kput (nt mask : Nat) : Option Nat → KPut
  | none => ⟨fun fr ls _ k => k fr ls⟩
  | some d => match Nat.blt d nt with
    | true => match liveB mask d with
      | true => ⟨fun fr ls v k => Option.rec (motive := fun _ => Bool) (updK (pathOf d) fr vNone fun fr => k fr ls) (fun v => updK (pathOf d) fr v fun fr => k fr ls) v⟩
      | false => ⟨fun fr ls v k => Option.rec (motive := fun _ => Bool) (k fr (vNone :: ls)) (fun v => k fr (v :: ls)) v⟩
    | false => ⟨fun _ _ _ _ => false⟩
/-- The names of the region's own, behind it. -/
def namesOf (mask : Nat) (names : List Nat) : Option Nat → List Nat
  | none => names
  | some d => match liveB mask d with
    | true => names
    | false => d :: names

structure KW where
  run : T V → List V → Bool → Bool → Bool
/-- Is it wanted? -/
noncomputable def kwanted (mask : Nat) (names : List Nat) (ops : Array Oper) : Option (Nat × Bool) → KW
  | none => ⟨fun _ _ t _ => t⟩
  | some (j, want) => match (ops[j]?).bind (·.dst) with
    | none => ⟨fun _ _ _ f => f⟩
    | some d => match want with
      | true => ⟨fun fr ls t f => (ktmp mask names d).run fr ls fun v => onBx v t f f⟩
      | false => ⟨fun fr ls t f => (ktmp mask names d).run fr ls fun v => onBx v f t f⟩

structure KR where
  run : KCall → T V → List V → St → (T V → St → Bool) → Bool

noncomputable def kops (P : Program) (ro nt mask : Nat) (ops : Array Oper) : List Nat → List Oper → KR
  | _, [] => ⟨fun _ fr _ st k => k fr st⟩
  | names, o :: r => match o.guard with
    | none => ⟨fun call fr ls st k => (kop P ro mask names o.op).run call fr ls st fun v st => (kput nt mask o.dst).run fr ls v fun fr ls => (kops P ro nt mask ops (namesOf mask names o.dst) r).run call fr ls st k⟩
    | some g => ⟨fun call fr ls st k => (kwanted mask names ops (some g)).run fr ls
      ((kop P ro mask names o.op).run call fr ls st fun v st => (kput nt mask o.dst).run fr ls v fun fr ls => (kops P ro nt mask ops (namesOf mask names o.dst) r).run call fr ls st k)
      ((kput nt mask o.dst).run fr ls none fun fr ls => (kops P ro nt mask ops (namesOf mask names o.dst) r).run call fr ls st k)⟩

noncomputable def kopsQ (P : Program) (ro nt mask : Nat) (ops : Array Oper) : List Nat → List Oper → KR
  | _, [] => ⟨fun _ fr _ st k => k fr st⟩
  | names, o :: r => match quietOp o.op with
    | true => ⟨fun call fr ls st k => (kwanted mask names ops o.guard).run fr ls
      ((kop P ro mask names o.op).run call fr ls ⟨st.nx, st.hp, st.nx⟩ fun v st' => ifB (Nat.ble st.nx st'.ver && (Nat.beq st'.nx st.nx || plainO v)) ((kput nt mask o.dst).run fr ls v fun fr ls => (kopsQ P ro nt mask ops (namesOf mask names o.dst) r).run call fr ls st k) false)
      ((kput nt mask o.dst).run fr ls none fun fr ls => (kopsQ P ro nt mask ops (namesOf mask names o.dst) r).run call fr ls st k)⟩
    | false => ⟨fun call fr ls st k => (kwanted mask names ops o.guard).run fr ls false
      ((kput nt mask o.dst).run fr ls none fun fr ls => (kopsQ P ro nt mask ops (namesOf mask names o.dst) r).run call fr ls st k)⟩

/-- The same, and behind them the region's last operations. -/
noncomputable def kopsT (P : Program) (ro nt mask : Nat) (ops : Array Oper) (tl : List Oper) : List Nat → List Oper → KR
  | names, [] => kops P ro nt mask ops names tl
  | names, o :: r => match quietOp o.op with
    | true => ⟨fun call fr ls st k => (kwanted mask names ops o.guard).run fr ls
      ((kop P ro mask names o.op).run call fr ls ⟨st.nx, st.hp, st.nx⟩ fun v st' => ifB (Nat.ble st.nx st'.ver && (Nat.beq st'.nx st.nx || plainO v)) ((kput nt mask o.dst).run fr ls v fun fr ls => (kopsT P ro nt mask ops tl (namesOf mask names o.dst) r).run call fr ls st k) false)
      ((kput nt mask o.dst).run fr ls none fun fr ls => (kopsT P ro nt mask ops tl (namesOf mask names o.dst) r).run call fr ls st k)⟩
    | false => ⟨fun call fr ls st k => (kwanted mask names ops o.guard).run fr ls false
      ((kput nt mask o.dst).run fr ls none fun fr ls => (kopsT P ro nt mask ops tl (namesOf mask names o.dst) r).run call fr ls st k)⟩

/-- Loads that were carried out read the same again. -/
noncomputable def kkeep (P : Program) (st : St) (es : List Ent) (b : Bool) : Bool :=
  List.rec (motive := fun _ => Bool) b (fun e _ ih => (kload P e.t).run st e.id e.off fun v => ifB (sameV v e.v) ih false) es

noncomputable def kkeep2 (P : Program) (c : Bool) (st : St) (es : List Ent) (b : Bool) : Bool := Bool.rec (kkeep P st es b) b c

structure KRE where
  run : KCall → T V → List V → List Ent → St → (T V → St → Bool) → Bool
noncomputable def krunF (P : Program) (ro nt mask : Nat) (ops : Array Oper) (fin : List Nat → KRE) : List Nat → List (Nat × Oper) → KRE
  | names, [] => fin names
  | names, (i, o) :: r => match opCls o.op with
    | 0 => ⟨fun call fr ls es st k => (kwanted mask names ops o.guard).run fr ls
      ((kop P ro mask names o.op).run call fr ls ⟨st.nx, .e, 0⟩ fun v _ => (kput nt mask o.dst).run fr ls v fun fr ls => (krunF P ro nt mask ops fin (namesOf mask names o.dst) r).run call fr ls es st k)
      ((kput nt mask o.dst).run fr ls none fun fr ls => (krunF P ro nt mask ops fin (namesOf mask names o.dst) r).run call fr ls es st k)⟩
    | 1 => match o.op with
      | .load t x => ⟨fun call fr ls es st k => (kwanted mask names ops o.guard).run fr ls
        ((kopnd mask names x).run fr ls fun x => onP x fun id off => (kload P t).run st id off fun v => (kput nt mask o.dst).run fr ls (some v) fun fr ls => (krunF P ro nt mask ops fin (namesOf mask names o.dst) r).run call fr ls (⟨i, t, id, off, v⟩ :: es) st k)
        ((kput nt mask o.dst).run fr ls none fun fr ls => (krunF P ro nt mask ops fin (namesOf mask names o.dst) r).run call fr ls es st k)⟩
      | _ => ⟨fun _ _ _ _ _ _ => false⟩
    | _ => ⟨fun call fr ls es st k => (kwanted mask names ops o.guard).run fr ls
      ((kop P ro mask names o.op).run call fr ls ⟨st.nx, st.hp, st.nx⟩ fun v st' => kkeep2 P (Nat.ble st.nx st'.ver) st' (aliveE ops i es) ((kput nt mask o.dst).run fr ls v fun fr ls => natK (low st.ver st'.ver) fun ver => (krunF P ro nt mask ops fin (namesOf mask names o.dst) r).run call fr ls (aliveE ops i es) ⟨st'.nx, st'.hp, ver⟩ k))
      ((kput nt mask o.dst).run fr ls none fun fr ls => (krunF P ro nt mask ops fin (namesOf mask names o.dst) r).run call fr ls es st k)⟩

noncomputable def krun (P : Program) (ro nt mask : Nat) (ops : Array Oper) : List Nat → List (Nat × Oper) → KRE := krunF P ro nt mask ops fun _ => ⟨fun _ fr _ _ st k => k fr st⟩
/-- Two stores at the end. -/
noncomputable def kpair (P : Program) (ro mask : Nat) (o q : Oper) (names : List Nat) : KRE := match o.op, q.op with
  | .store t x v, .store t' y u => ⟨fun _ fr ls _ st k => (kopnd mask names x).run fr ls fun x => (kopnd mask names v).run fr ls fun v => (kopnd mask names y).run fr ls fun y => (kopnd mask names u).run fr ls fun u => onP x fun g a => onP y fun g' a' => ifB (Nat.beq g g') false ((kstore P ro t).run st g a v fun st => (kstore P ro t').run st g' a' u fun st => k fr st)⟩
  | _, _ => ⟨fun _ _ _ _ _ _ => false⟩

/-! ### Code -/

structure KB where
  run : KCall → T V → St → (T V → St → Bool) → (Ex → T V → St → Bool) → Bool

noncomputable def loopK (b : KB) (call : KCall) (kx : Ex → T V → St → Bool) (n : Nat) : T V → St → Bool :=
  Nat.rec (motive := fun _ => T V → St → Bool) (fun _ _ => false) (fun _ ih fr st => b.run call fr st ih kx) n
noncomputable def onExit (e : Ex) (k : Nat → Bool) (d : Bool) : Bool := Ex.rec (motive := fun _ => Bool) d k (fun _ => d) d e
noncomputable def onGoto (e : Ex) (d : Bool) : Bool := Ex.rec (motive := fun _ => Bool) d (fun _ => d) (fun _ => false) d e
noncomputable def onRet (e : Ex) (d : Bool) : Bool := Ex.rec (motive := fun _ => Bool) false (fun _ => false) (fun _ => false) d e

/-- No call. -/
noncomputable def noK : KCall := fun _ _ _ _ => false
def okO (mask : Nat) : Operand → Bool
  | .tmp t => liveB mask t
  | _ => true
/-- What both ways must agree on, at what they came to. -/
def flagV (P : Program) (F : FlagI) (nx : Nat) (fA fB : T V) (sB : St) (frA frB : T V) : Bool :=
  sameO (opnd fA F.tA.cur) (opnd fB F.tB.cur) && sameO (opnd frA F.tA.x) (opnd frB F.tB.x) &&
    (match opnd fB F.tB.cur, opnd frA F.eI.ix, opnd frA F.eI.v, opnd frB F.tB.x, opnd frB (.tmp F.tB.r) with
    | some c, some (.i _ n), some v, some (.p g _), some (.sl gr _ _ _ _) => (match vlen c, sB.hp.get nx with
      | some len, some b => decide (n = .ofNat len) && (match b.row (elemSz P F.tB.tl) 0 with | some cs => sameL cs v.cells | none => false)
      | _, _ => false) && (match c with | .sl id _ _ _ _ => Nat.blt id nx | _ => true) && !(Nat.beq g gr) && !(Nat.beq g nx) && !(Nat.beq gr nx)
    | _, _, _, _, _ => false)
def flagOps (F : FlagI) (mask : Nat) : Bool := [F.tA.cur, F.tB.cur, F.tA.x, F.tB.x, F.eI.ix, F.eI.v, .tmp F.tB.r].all (okO mask)
structure KPk where
  run : T V → T V → (T V → Bool) → Bool
noncomputable def pickK : List Nat → KPk
  | [] => ⟨fun _ acc k => k acc⟩
  | t :: r => ⟨fun fr acc k => getD (pathOf t) fr (fun v => updK (pathOf t) acc v fun acc => (pickK r).run fr acc k) ((pickK r).run fr acc k)⟩
structure KEr where
  run : T V → (T V → Bool) → Bool
noncomputable def eraseK : List Nat → KEr
  | [] => ⟨fun fr k => k fr⟩
  | t :: r => ⟨fun fr k => updA (pathOf t) fr none fun fr => (eraseK r).run fr k⟩

/-- x.F = append(x.F, v), in either of two ways. -/
noncomputable def kflag (P : Program) (ro nt mask : Nat) (F : FlagI) : KB := match (needOf F).all (liveB mask) && flagOps F (2 ^ nt - 1) with
  | true => ⟨fun _ fr st kn _ => onSt st fun nx hp ver => natK (nx + 1) fun nx1 => (pickK (needOf F)).run fr .e fun f0 =>
      (krun P ro nt (2 ^ nt - 1) F.opsA [] F.lA).run noK f0 [] [] ⟨nx1, hp, ver⟩ fun frA stA =>
      (kops P ro nt (2 ^ nt - 1) F.opsE [] F.opsE.toList).run noK frA [] stA fun _ stE =>
      (krun P ro nt (2 ^ nt - 1) F.opsA [] (F.tA.pre ++ [(F.tA.i1, F.tA.o1)])).run noK f0 [] [] ⟨nx1, hp, ver⟩ fun fA _ =>
      (krun P ro nt (2 ^ nt - 1) F.opsB [] (F.tB.pre ++ [(F.tB.i1, F.tB.o1)])).run noK f0 [] [] ⟨nx1, hp, ver⟩ fun fB sB =>
      (krun P ro nt (2 ^ nt - 1) F.opsB [] F.lB).run noK f0 [] [] ⟨nx1, hp, ver⟩ fun frB stB =>
      ifB (flagV P F nx1 fA fB sB frA frB && Nat.beq stE.nx stB.nx) (onSt stB fun nx hp ver => updA (pathOf nx1) hp none fun hp => natK nx fun nx => natK (low (low ver stE.ver) nx1) fun ver =>
        (eraseK (F.dead.filter (liveB mask))).run fr fun fr => kn fr ⟨nx, hp, ver⟩) false⟩
  | false => ⟨fun _ _ _ _ _ => false⟩

noncomputable def kC (P : Program) (ro nt mask L : Nat) : Code → KB
  | .skip => ⟨fun _ fr st kn _ => kn fr st⟩
  | .label _ => ⟨fun _ fr st kn _ => kn fr st⟩
  | .region _ ops draw => match draw with
    | false => ⟨fun call fr st kn _ => (kops P ro nt mask ops [] ops.toList).run call fr [] st kn⟩
    | true => match lexQ1 P ops with
      | true => ⟨fun call fr st kn _ => (kopsQ P ro nt mask ops [] ops.toList).run call fr [] st kn⟩
      | false => match tailB ops with
        | true => ⟨fun call fr st kn _ => (kopsT P ro nt mask ops (ops.toList.drop (ops.size - 1)) [] (ops.toList.take (ops.size - 1))).run call fr [] st kn⟩
        | false => match planOf P ops with
          | some pl => ⟨fun call fr st kn _ => (krun P ro nt mask ops [] pl).run call fr [] [] st kn⟩
          | none => match lexQ ops with
            | true => ⟨fun call fr st kn _ => (kopsQ P ro nt mask ops [] ops.toList).run call fr [] st kn⟩
            | false => match planPair ops with
              | some (l, o, q) => ⟨fun call fr st kn _ => (krunF P ro nt mask ops (kpair P ro mask o q) [] l).run call fr [] [] st kn⟩
              | none => ⟨fun _ _ _ _ _ => false⟩
  | .seq a b => match flagOf P nt a b with
    | some F => kflag P ro nt mask F
    | none => ⟨fun call fr st kn kx => (kC P ro nt mask L a).run call fr st (fun fr st => (kC P ro nt mask L b).run call fr st kn kx) kx⟩
  | .cond c a b => ⟨fun call fr st kn kx => (kopnd mask [] c).run fr [] fun v => onB v ((kC P ro nt mask L a).run call fr st kn kx) ((kC P ro nt mask L b).run call fr st kn kx)⟩
  | .block id b => ⟨fun call fr st kn kx => (kC P ro nt mask L b).run call fr st kn fun e fr st => onExit e (fun id' => ifB (Nat.beq id' id) (kn fr st) (kx e fr st)) (kx e fr st)⟩
  | .loop b => ⟨fun call fr st _ kx => loopK (kC P ro nt mask L b) call kx L fr st⟩
  | .exit id => ⟨fun _ fr st _ kx => kx (.exit id) fr st⟩
  | .goto l => ⟨fun _ fr st _ kx => kx (.goto l) fr st⟩
  | .scope b => ⟨fun call fr st kn kx => (kC P ro nt mask L b).run call fr st kn fun e fr st => onGoto e (kx e fr st)⟩
  | .ret => ⟨fun _ fr st _ kx => kx .ret fr st⟩
  | _ => ⟨fun _ _ _ _ _ => false⟩

noncomputable def frameK (l : List V) (k : T V → Bool) : Bool :=
  List.rec (motive := fun _ => Nat → T V → Bool) (fun _ fr => k fr) (fun v _ ih i fr => updK (pathOf i) fr v fun fr => natK (i + 1) fun i => ih i fr) l 0 .e

structure KRes where
  run : T V → St → (List V → Bool) → Bool
noncomputable def kres (P : Program) (mask : Nat) : List ResultVar → KRes
  | [] => ⟨fun _ _ k => k []⟩
  | .tmp t :: r => ⟨fun fr st k => (ktmp mask [] t).run fr [] fun v => (kres P mask r).run fr st fun vs => k (v :: vs)⟩
  | .cell a t :: r => ⟨fun fr st k => (ktmp mask [] a).run fr [] fun x => onP x fun id off => (kload P t).run st id off fun v => (kres P mask r).run fr st fun vs => k (v :: vs)⟩

structure KF where
  run : KCall → List V → St → (V → St → Bool) → Bool
noncomputable def kfun (P : Program) (live : Nat → Nat) (ro L : Nat) (f : FuncId) : KF := match P.funcs[f]? with
  | some fn => match fn.body with
    | some c => natF fn.ntmps fun nt => natF (live f) fun mask => ⟨fun call args st k => ifB (Nat.ble args.length nt)
      (frameK args fun fr => (kC P ro nt mask L c).run call fr st (fun fr st => (kres P mask fn.results.toList).run fr st fun vs => k (oneOf vs) st) fun e fr st => onRet e
        ((kres P mask fn.results.toList).run fr st fun vs => k (oneOf vs) st)) false⟩
    | none => ⟨fun _ _ _ _ => false⟩
  | none => ⟨fun _ _ _ _ => false⟩

noncomputable def kcall (P : Program) (live : Nat → Nat) (ov : Ov) (ro L n : Nat) : KCall :=
  Nat.rec (motive := fun _ => KCall) (fun _ _ _ _ => false) (fun _ ih f args st k => match ov f args st with
    | some (v, st) => forceK v fun v => k v st
    | none => (kfun P live ro L f).run ih args st k) n

/-- A function answers true. -/
noncomputable def kAnswers (P : Program) (live : Nat → Nat) (ov : Ov) (gs : List (Nat × List V)) (L n : Nat) (f : FuncId) (args : List V) : Bool :=
  kcall P live ov GL L n f args (st0 gs) fun v _ => onB v true false
end Go.Vk
namespace Go.Vk
open Go.Vm

/-- From some number on. -/
def Even {α : Type} (f : Nat → Option α) (r : α) : Prop := ∃ m, ∀ m', m ≤ m' → f m' = some r
theorem Even.const {α : Type} {o : Option α} {r : α} (h : o = some r) : Even (fun _ => o) r := ⟨0, fun _ _ => h⟩

/-! ### Cases -/

theorem no {p : Prop} (h : false = true) : p := Bool.noConfusion h
theorem ifB_true {x t f : Bool} (h : ifB x t f = true) : (x = true ∧ t = true) ∨ (x = false ∧ f = true) := by
  cases x
  · exact .inr ⟨rfl, h⟩
  · exact .inl ⟨rfl, h⟩
theorem ifB_t {x t : Bool} (h : ifB x t false = true) : x = true ∧ t = true := by
  cases x
  · exact no h
  · exact ⟨rfl, h⟩
theorem onOpt_true {o : Option V} {k : V → Bool} (h : onOpt o k = true) : ∃ v, o = some v ∧ k v = true := by
  cases o
  · exact no h
  · exact ⟨_, rfl, h⟩
theorem onB_true {v : V} {t f : Bool} (h : onB v t f = true) : (v = .b true ∧ t = true) ∨ (v = .b false ∧ f = true) := by
  cases v with
  | b x =>
    cases x
    · exact .inr ⟨rfl, h⟩
    · exact .inl ⟨rfl, h⟩
  | _ => exact no h
theorem onBx_true {v : V} {t f d : Bool} (h : onBx v t f d = true) : (v = .b true ∧ t = true) ∨ (v = .b false ∧ f = true) ∨ ((∀ x, v ≠ .b x) ∧ d = true) := by
  cases v with
  | b x =>
    cases x
    · exact .inr (.inl ⟨rfl, h⟩)
    · exact .inl ⟨rfl, h⟩
  | _ => exact .inr (.inr ⟨fun x e => (by cases e), h⟩)
theorem onI_true {v : V} {k : IntKind → Int → Bool} (h : onI v k = true) : ∃ kd n, v = .i kd n ∧ k kd n = true := by
  cases v with
  | i kd n => exact ⟨kd, n, rfl, h⟩
  | _ => exact no h
theorem onS_true {v : V} {k : Nat → Nat → Bool} (h : onS v k = true) : ∃ l x, v = .s l x ∧ k l x = true := by
  cases v with
  | s l x => exact ⟨l, x, rfl, h⟩
  | _ => exact no h
theorem onP_true {v : V} {k : Nat → Nat → Bool} (h : onP v k = true) : ∃ g o, v = .p g o ∧ k g o = true := by
  cases v with
  | p g o => exact ⟨g, o, rfl, h⟩
  | _ => exact no h
theorem onF_true {v : V} {k : Fn → List V → List V → Bool} (h : onF v k = true) : ∃ f xs ys, v = .f f xs ys ∧ k f xs ys = true := by
  cases v with
  | f f xs ys => exact ⟨f, xs, ys, rfl, h⟩
  | _ => exact no h
theorem onT_true {v : V} {k : List V → Bool} (h : onT v k = true) : ∃ vs, v = .t vs ∧ k vs = true := by
  cases v with
  | t vs => exact ⟨vs, rfl, h⟩
  | _ => exact no h
theorem onSe_true {v : V} {d e : Bool} (h : onSe v d e = true) : (((∃ g o p, v = .se g o p) ∨ (∃ a, v = .ze a) ∨ ∃ g o p, v = .sy g o p) ∧ d = true) ∨ e = true := by
  cases v with
  | se g o p => exact .inl ⟨.inl ⟨g, o, p, rfl⟩, h⟩
  | ze a => exact .inl ⟨.inr (.inl ⟨a, rfl⟩), h⟩
  | sy g o p => exact .inl ⟨.inr (.inr ⟨g, o, p, rfl⟩), h⟩
  | _ => exact .inr h
theorem onSl_true {v : V} {k : Nat → Nat → Nat → Nat → Bool → Bool} {n : Bool} {s : Nat → Nat → Bool} (h : onSl v k n s = true) :
    (∃ id off l c op, v = .sl id off l c op ∧ k id off l c op = true) ∨ (v = .sn ∧ n = true) ∨ (∃ l x, v = .s l x ∧ s l x = true) := by
  cases v with
  | sl id off l c op => exact .inl ⟨id, off, l, c, op, rfl, h⟩
  | sn => exact .inr (.inl ⟨rfl, h⟩)
  | s l x => exact .inr (.inr ⟨l, x, rfl, h⟩)
  | _ => exact no h
theorem onNN_true {a b : Int} {k : Nat → Nat → Bool} {d : Bool} (h : onNN a b k d = true) : (∃ m n : Nat, a = .ofNat m ∧ b = .ofNat n ∧ k m n = true) ∨ d = true := by
  cases a with
  | ofNat m => cases b with
    | ofNat n => exact .inl ⟨m, n, rfl, rfl, h⟩
    | negSucc n => exact .inr h
  | negSucc m => exact .inr h
theorem onN_true {a : Int} {k : Nat → Bool} {d : Bool} (h : onN a k d = true) : (∃ m : Nat, a = .ofNat m ∧ k m = true) ∨ d = true := by
  cases a with
  | ofNat m => exact .inl ⟨m, rfl, h⟩
  | negSucc m => exact .inr h
theorem natK_eq (n : Nat) (k : Nat → Bool) : natK n k = k n := by cases n <;> rfl
theorem boolR_eq {α : Type} (x : Bool) (f : Bool → α) : (Bool.rec (f false) (f true) x : α) = f x := by cases x <;> rfl
theorem forceK_eq (v : V) (k : V → Bool) : forceK v k = k v := by
  cases v with
  | b x => cases x <;> rfl
  | i kd n =>
    cases n with
    | ofNat m =>
      show kindF kd (fun kd => natK m fun m => k (.i kd (.ofNat m))) = _
      rw [kindF_eq, natK_eq]
    | negSucc m =>
      show kindF kd (fun kd => natK m fun m => k (.i kd (.negSucc m))) = _
      rw [kindF_eq, natK_eq]
  | s l x => show natK l (fun l => natK x fun x => k (.s l x)) = _; rw [natK_eq, natK_eq]
  | p g o => show natK g (fun g => natK o fun o => k (.p g o)) = _; rw [natK_eq, natK_eq]
  | sl g o l c op => cases op <;> (show natK g (fun g => natK o fun o => natK l fun l => natK c fun c => k (.sl g o l c _)) = _; rw [natK_eq, natK_eq, natK_eq, natK_eq])
  | se g o p => show natK g (fun g => natK o fun o => natK p fun p => k (.se g o p)) = _; rw [natK_eq, natK_eq, natK_eq]
  | m g => show natK g (fun g => k (.m g)) = _; rw [natK_eq]
  | mz => rfl
  | sy g o p => show natK g (fun g => natK o fun o => natK p fun p => k (.sy g o p)) = _; rw [natK_eq, natK_eq, natK_eq]
  | _ => rfl

/-! ### Trees -/

theorem pathR_zero (f : Nat) : pathR (f + 1) 0 = [] := rfl
theorem pathR_succ (f k : Nat) : pathR (f + 1) (k + 1) = Nat.beq (k % 2) 0 :: pathR f (k / 2) := by
  show (Bool.rec (false :: pathR f (k / 2)) (true :: pathR f (k / 2)) (Nat.beq (k % 2) 0) : List Bool) = _
  cases Nat.beq (k % 2) 0 <;> rfl
theorem getD_cons {α : Type} (b : Bool) (p : List Bool) (t : T α) (k : α → Bool) (d : Bool) : getD (b :: p) t k d = match t with | .e => d | .n l _ r => cond b (getD p l k d) (getD p r k d) := by cases t <;> cases b <;> rfl
theorem getD_path {α : Type} (k : α → Bool) (d : Bool) : ∀ (f : Nat) (t : T α) (i : Nat), i < f → getD (pathR f i) t k d = match t.get i with | some v => k v | none => d := by
  intro f
  induction f with
  | zero => intro t i h; omega
  | succ f ih =>
    intro t i h
    cases i with
    | zero =>
      rw [pathR_zero]
      cases t with
      | e => rfl
      | n l v r => cases v <;> rfl
    | succ j =>
      rw [pathR_succ, getD_cons]
      cases t with
      | e => rfl
      | n l v r =>
        rw [T.get_n]
        dsimp only
        cases Nat.beq (j % 2) 0
        · exact ih r (j / 2) (by omega)
        · exact ih l (j / 2) (by omega)
theorem getD_eq {α : Type} (i : Nat) (t : T α) (k : α → Bool) (d : Bool) : getD (pathOf i) t k d = match t.get i with | some v => k v | none => d := getD_path k d (i + 1) t i (Nat.lt_succ_self i)
theorem getK_true {i : Nat} {t : T V} {k : V → Bool} (h : getK (pathOf i) t k = true) : ∃ v, t.get i = some v ∧ k v = true := by
  unfold getK at h
  rw [getD_eq] at h
  cases e : t.get i with
  | none => rw [e] at h; exact no h
  | some v => rw [e] at h; exact ⟨v, rfl, h⟩

theorem updA_path {α : Type} (v : Option α) : ∀ (f : Nat) (t : T α) (i : Nat) (k : T α → Bool), i < f → updA (pathR f i) t v k = k (T.go v f t i) := by
  intro f
  induction f with
  | zero => intro t i k h; omega
  | succ f ih =>
    intro t i k h
    cases i with
    | zero => cases t <;> rfl
    | succ j =>
      rw [pathR_succ]
      have hl : j / 2 < f := by omega
      cases t with
      | e =>
        simp only [T.go]
        cases Nat.beq (j % 2) 0
        · show updA (pathR f (j / 2)) .e v (fun r => k (.n .e none r)) = _
          rw [ih _ _ _ hl]
          simp only [cond_false]
          cases T.go v f .e (j / 2) <;> rfl
        · show updA (pathR f (j / 2)) .e v (fun l => k (.n l none .e)) = _
          rw [ih _ _ _ hl]
          simp only [cond_true]
          cases T.go v f .e (j / 2) <;> rfl
      | n l x r =>
        simp only [T.go]
        cases Nat.beq (j % 2) 0
        · show updA (pathR f (j / 2)) r v (fun r => k (.n l x r)) = _
          rw [ih _ _ _ hl]
          simp only [cond_false]
          cases T.go v f r (j / 2) <;> rfl
        · show updA (pathR f (j / 2)) l v (fun l => k (.n l x r)) = _
          rw [ih _ _ _ hl]
          simp only [cond_true]
          cases T.go v f l (j / 2) <;> rfl
theorem updA_eq {α : Type} (i : Nat) (t : T α) (v : Option α) (k : T α → Bool) : updA (pathOf i) t v k = k (t.upd i v) := updA_path v (i + 1) t i k (Nat.lt_succ_self i)
theorem updK_eq (i : Nat) (t : T V) (v : V) (k : T V → Bool) : updK (pathOf i) t v k = k (t.upd i (some v)) := updA_eq i t (some v) k

theorem nthK_true {k : V → Bool} : ∀ (j : Nat) (ls : List V), nthK j ls k = true → ∃ v, ls[j]? = some v ∧ k v = true
  | 0, [], h => no h
  | 0, v :: r, h => ⟨v, rfl, h⟩
  | j + 1, [], h => no h
  | j + 1, v :: r, h => by
    obtain ⟨x, h1, h2⟩ := nthK_true j r h
    exact ⟨x, by simpa using h1, h2⟩

/-! ### Frames -/

structure Rel (mask : Nat) (names : List Nat) (fr : T V) (ls : List V) (fr0 : T V) : Prop where
  tree : ∀ t v, liveB mask t = true → fr.get t = some v → fr0.get t = some v
  loc : ∀ t j v, posOf names t = some j → ls[j]? = some v → fr0.get t = some v
  sep : ∀ t j, posOf names t = some j → liveB mask t = false
theorem Rel.drop {mask : Nat} {names : List Nat} {fr fr0 : T V} {ls : List V} (h : Rel mask names fr ls fr0) : Rel mask [] fr [] fr0 :=
  ⟨h.tree, fun t j v e => (by cases e), fun t j e => (by cases e)⟩

section
variable {mask : Nat} {names : List Nat} {fr fr0 : T V} {ls : List V}
theorem ktmp_true (hr : Rel mask names fr ls fr0) {t : Nat} {k : V → Bool} (h : (ktmp mask names t).run fr ls k = true) : ∃ v, fr0.get t = some v ∧ k v = true := by
  unfold ktmp at h
  cases hp : posOf names t with
  | some j =>
    rw [hp] at h
    dsimp only at h
    rw [natF_eq] at h
    obtain ⟨v, h1, h2⟩ := nthK_true j ls h
    exact ⟨v, hr.loc t j v hp h1, h2⟩
  | none =>
    rw [hp] at h
    cases hl : liveB mask t with
    | true =>
      rw [hl] at h
      obtain ⟨v, h1, h2⟩ := getK_true h
      exact ⟨v, hr.tree t v hl h1, h2⟩
    | false => rw [hl] at h; exact no h
theorem kopnd_true (hr : Rel mask names fr ls fr0) {x : Operand} {k : V → Bool} (h : (kopnd mask names x).run fr ls k = true) : ∃ v, opnd fr0 x = some v ∧ k v = true := by
  cases x with
  | tmp t => exact ktmp_true hr h
  | const c =>
    simp only [kopnd, opnd] at h ⊢
    cases e : ofV 4 c with
    | none => rw [e] at h; exact no h
    | some v => rw [e] at h; dsimp only at h; rw [V.force_eq] at h; exact ⟨v, rfl, h⟩
  | global g =>
    simp only [kopnd, opnd] at h ⊢
    cases e : Nat.blt g GL with
    | false => rw [e] at h; exact no h
    | true => rw [e] at h; exact ⟨_, rfl, h⟩
  | func f => exact ⟨_, rfl, h⟩
theorem kopnds_true (hr : Rel mask names fr ls fr0) : ∀ {l : List Operand} {k : List V → Bool}, (kopnds mask names l).run fr ls k = true → ∃ vs, opnds fr0 l = some vs ∧ k vs = true
  | [], k, h => ⟨[], rfl, h⟩
  | o :: r, k, h => by
    obtain ⟨v, h1, h2⟩ := kopnd_true hr (show (kopnd mask names o).run fr ls _ = true from h)
    obtain ⟨vs, h3, h4⟩ := kopnds_true hr h2
    exact ⟨v :: vs, by simp only [opnds, h1, h3], h4⟩
theorem kopndO_true (hr : Rel mask names fr ls fr0) {o : Option Operand} {k : Option V → Bool} (h : (kopndO mask names o).run fr ls k = true) :
    (o = none ∧ k none = true) ∨ ∃ o' v, o = some o' ∧ opnd fr0 o' = some v ∧ k (some v) = true := by
  cases o with
  | none => exact .inl ⟨rfl, h⟩
  | some o =>
    obtain ⟨v, h1, h2⟩ := kopnd_true hr (show (kopnd mask names o).run fr ls _ = true from h)
    exact .inr ⟨o, v, rfl, h1, h2⟩
theorem kparts_true (hr : Rel mask names fr ls fr0) : ∀ {l : List (Nat × Operand)} {k : List (Nat × V) → Bool}, (kparts mask names l).run fr ls k = true → ∃ vs, partsOf fr0 l = some vs ∧ k vs = true
  | [], k, h => ⟨[], rfl, h⟩
  | (i, o) :: r, k, h => by
    obtain ⟨v, h1, h2⟩ := kopnd_true hr (show (kopnd mask names o).run fr ls _ = true from h)
    obtain ⟨vs, h3, h4⟩ := kparts_true hr h2
    exact ⟨(i, v) :: vs, by simp only [partsOf, h1, h3], h4⟩
end

/-! ### Memory -/

theorem lenR (l : List V) : (List.rec (motive := fun _ => Nat) 0 (fun _ _ ih => Nat.succ ih) l : Nat) = l.length := by
  induction l with
  | nil => rfl
  | cons v r ih => show Nat.succ _ = _; rw [ih]; rfl
theorem lenK_eq (l : List V) (k : Nat → Bool) : lenK l k = k l.length := by unfold lenK; rw [natK_eq, lenR]
theorem cellsV_eq (v : V) (k : List V → Bool) : cellsV v k = k v.cells := by cases v <;> rfl
theorem onBlk_eq (b : Blk) (k : T V → List V → Nat → Nat → Bool → Bool) : onBlk b k = k b.cs b.zero b.sz b.es b.op := rfl
theorem onBlkM_eq (b : Blk) (k : T V → List V → Nat → Nat → Bool → Option (List (V × V)) → Bool) : onBlkM b k = k b.cs b.zero b.sz b.es b.op b.mp := rfl
theorem noMap_true {mp : Option (List (V × V))} {b : Bool} (h : noMap mp b = true) : mp = none ∧ b = true := by
  cases mp with
  | none => exact ⟨rfl, h⟩
  | some _ => cases h
theorem onSt_eq (st : St) (k : Nat → T Blk → Nat → Bool) : onSt st k = k st.nx st.hp st.ver := rfl
theorem blkK_true {st : St} {id : Nat} {k : Blk → Bool} (h : blkK st id k = true) : ∃ b, st.hp.get id = some b ∧ k b = true := by
  unfold blkK at h
  rw [onSt_eq, getD_eq] at h
  cases e : st.hp.get id with
  | none => rw [e] at h; exact no h
  | some b => rw [e] at h; exact ⟨b, rfl, h⟩
theorem cellK_true {b : Blk} {o : Nat} {k : V → Bool} (h : cellK b.cs b.zero b.sz b.es o k = true) : ∃ v, b.get o = some v ∧ k v = true := by
  unfold cellK at h
  obtain ⟨h1, h2⟩ := ifB_t h
  rw [getD_eq] at h2
  unfold Blk.get
  rw [h1, cond_true]
  cases e : b.cs.get o with
  | some v => rw [e] at h2; exact ⟨v, rfl, h2⟩
  | none => rw [e] at h2; exact onOpt_true h2
theorem rowK_true {b : Blk} : ∀ {n o : Nat} {k : List V → Bool}, rowK b.cs b.zero b.sz b.es n o k = true → ∃ cs, b.row n o = some cs ∧ k cs = true
  | 0, o, k, h => ⟨[], rfl, h⟩
  | n + 1, o, k, h => by
    obtain ⟨v, h1, h2⟩ := cellK_true (show cellK b.cs b.zero b.sz b.es o _ = true from h)
    rw [natK_eq] at h2
    obtain ⟨cs, h3, h4⟩ := rowK_true (n := n) (show rowK b.cs b.zero b.sz b.es n (o + 1) _ = true from h2)
    exact ⟨v :: cs, by simp only [Blk.row, h1, h3], h4⟩
theorem putK_true : ∀ {vs : List V} {b : Blk} {o : Nat} {k : T V → Bool}, putK b.sz vs b.cs o k = true → ∃ cs, b.put vs o = some ⟨cs, b.zero, b.sz, b.es, b.op, b.mp⟩ ∧ k cs = true
  | [], b, o, k, h => ⟨b.cs, rfl, h⟩
  | v :: r, b, o, k, h => by
    obtain ⟨h1, h2⟩ := ifB_t (show ifB (Nat.blt o b.sz) _ false = true from h)
    obtain ⟨h3, h4⟩ := ifB_t h2
    rw [forceK_eq, updA_eq, natK_eq] at h4
    obtain ⟨cs, h5, h6⟩ := putK_true (vs := r) (b := b.set o v) (o := o + 1) (show putK b.sz r (b.cs.upd o (some v)) (o + 1) k = true from h4)
    refine ⟨cs, ?_, h6⟩
    simp only [Blk.put, h1, h3, Bool.and_self, cond_true, V.force_eq, h5]
    rfl
theorem newK_true {cs : List V} {es : Nat} {op : Bool} {k : Blk → Bool} (h : newK cs es op k = true) : ∃ b, blkOf cs es op = some b ∧ k b = true := by
  unfold newK at h
  rw [lenK_eq] at h
  obtain ⟨t, h1, h2⟩ := putK_true (b := ⟨.e, [], cs.length, es, op, none⟩) h
  exact ⟨_, h1, h2⟩
theorem allocK_eq (st : St) (b : Blk) (k : Nat → St → Bool) : allocK st b k = k st.nx (St.alloc st b) := by unfold allocK; rw [onSt_eq, updA_eq, natK_eq]; rfl
theorem low_eq (a b : Nat) : low a b = cond (Nat.ble a b) a b := rfl
theorem writeK_eq (st : St) (id : Nat) (b : Blk) (k : St → Bool) : writeK st id (some b) k = k (st.write id b) := by
  unfold writeK
  rw [onSt_eq, updA_eq, St.write_eq, low_eq]
  cases Nat.ble st.ver id <;> rfl
theorem killK_eq (st : St) (id : Nat) (k : St → Bool) : writeK st id none k = k (st.kill id) := by
  unfold writeK
  rw [onSt_eq, updA_eq, St.kill_eq, low_eq]
  cases Nat.ble st.ver id <;> rfl
end Go.Vk
namespace Go.Vk
open Go.Vm

section
variable {P : Program} {ro : Nat}

/-! ### Values -/

theorem optV_true {r : Option V} {k : V → Bool} (h : optV r k = true) : ∃ v, r = some v ∧ k v = true := by
  cases r with
  | none => exact no h
  | some v => exact ⟨v, rfl, (forceK_eq _ _).symm.trans h⟩
theorem optSt_true {r : Option (V × St)} {k : V → St → Bool} (h : optSt r k = true) : ∃ v st, r = some (v, st) ∧ k v st = true := by
  cases r with
  | none => exact no h
  | some x => exact ⟨x.1, x.2, rfl, h⟩
theorem kindN_inj {a b : IntKind} (h : Nat.beq (kindN a) (kindN b) = true) : a = b := by cases a <;> cases b <;> first | rfl | cases h
theorem sameK_true {x y : V} {k : IntKind → Int → Int → Bool} (h : sameK x y k = true) : ∃ kd a b, x = .i kd a ∧ y = .i kd b ∧ k kd a b = true := by
  obtain ⟨ka, a, rfl, h1⟩ := onI_true h
  clear h
  obtain ⟨kb, b, rfl, h2⟩ := onI_true h1
  obtain ⟨h3, h4⟩ := ifB_t h2
  obtain rfl := kindN_inj h3
  exact ⟨ka, a, b, rfl, rfl, h4⟩
theorem wrap_small {kd : IntKind} {m : Nat} (h : Nat.blt m (limN kd) = true) : kd.wrap (.ofNat m) = .ofNat m := by
  rw [Nat.blt_eq] at h
  cases kd <;> simp only [limN] at h <;> simp [IntKind.wrap, IntKind.bits, IntKind.signed] <;> omega
theorem wrapK_eq (kd : IntKind) (n : Int) (k : V → Bool) : wrapK kd n k = k (.i kd (kd.wrap n)) := forceK_eq _ _
theorem smallK_eq (kd : IntKind) (m : Nat) (k : V → Bool) : smallK kd m k = k (.i kd (kd.wrap (.ofNat m))) := by
  unfold smallK
  cases e : Nat.blt m (limN kd) with
  | false => exact wrapK_eq _ _ _
  | true => show natK m (fun m => k (.i kd (.ofNat m))) = _; rw [natK_eq, wrap_small e]
theorem wrapV_eq (kd : IntKind) (n : Int) (k : V → Bool) : wrapV kd n k = k (.i kd (kd.wrap n)) := by
  cases n with
  | ofNat m => exact smallK_eq kd m k
  | negSucc m => exact wrapK_eq _ _ _
theorem vbin_i {op : BinOp} {t : TypeId} {kd : IntKind} {a b : Int} (h1 : op ≠ .shl) (h2 : op ≠ .shr) : vbin P op t (.i kd a) (.i kd b) = vint op kd a b := by cases op <;> simp_all [vbin]

theorem kbinI_true {op : BinOp} {t : TypeId} {x y : V} {k : V → Bool} (h : (kbinI P t op).run x y k = true) : ∃ v, vbin P op t x y = some v ∧ k v = true := by
  have other : (match vbin P op t x y with | some v => forceK v k | none => false) = true → ∃ v, vbin P op t x y = some v ∧ k v = true := by
    intro h
    cases e : vbin P op t x y with
    | none => rw [e] at h; exact no h
    | some v => rw [e] at h; exact ⟨v, rfl, (forceK_eq _ _).symm.trans h⟩
  cases op with
  | add =>
    obtain ⟨kd, a, b, rfl, rfl, h0⟩ := sameK_true h
    clear h
    have h := h0
    clear h0
    refine ⟨_, by rw [vbin_i (by simp) (by simp)]; rfl, ?_⟩
    rcases onNN_true h with ⟨m, n, rfl, rfl, h2⟩ | h2 <;> clear h <;> have h := h2 <;> clear h2
    · rw [smallK_eq] at h; exact h
    · rw [wrapK_eq] at h; exact h
  | sub =>
    obtain ⟨kd, a, b, rfl, rfl, h0⟩ := sameK_true h
    clear h
    have h := h0
    clear h0
    refine ⟨_, by rw [vbin_i (by simp) (by simp)]; rfl, ?_⟩
    rcases onNN_true h with ⟨m, n, rfl, rfl, h2⟩ | h2 <;> clear h <;> have h := h2 <;> clear h2
    · rcases ifB_true h with ⟨h1, h2⟩ | ⟨_, h2⟩
      · rw [smallK_eq] at h2
        rw [Nat.ble_eq] at h1
        have e : (Int.ofNat (m - n)) = Int.ofNat m - Int.ofNat n := by simp only [Int.ofNat_eq_natCast]; omega
        rw [e] at h2; exact h2
      · rw [wrapK_eq] at h2; exact h2
    · rw [wrapK_eq] at h; exact h
  | mul =>
    obtain ⟨kd, a, b, rfl, rfl, h0⟩ := sameK_true h
    clear h
    have h := h0
    clear h0
    refine ⟨_, by rw [vbin_i (by simp) (by simp)]; rfl, ?_⟩
    rcases onNN_true h with ⟨m, n, rfl, rfl, h2⟩ | h2 <;> clear h <;> have h := h2 <;> clear h2
    · rw [smallK_eq] at h; exact h
    · rw [wrapK_eq] at h; exact h
  | lss =>
    obtain ⟨kd, a, b, rfl, rfl, h0⟩ := sameK_true h
    clear h
    have h := h0
    clear h0
    refine ⟨_, by rw [vbin_i (by simp) (by simp)]; rfl, ?_⟩
    rcases onNN_true h with ⟨m, n, rfl, rfl, h2⟩ | h2 <;> clear h <;> have h := h2 <;> clear h2
    · rw [boolF_eq] at h
      have e : Nat.blt m n = ilt (.ofNat m) (.ofNat n) := by rw [Bool.eq_iff_iff, Nat.blt_eq]; simp [ilt, Int.ofNat_eq_natCast]
      rw [e] at h; exact h
    · rw [boolF_eq] at h; exact h
  | leq =>
    obtain ⟨kd, a, b, rfl, rfl, h0⟩ := sameK_true h
    clear h
    have h := h0
    clear h0
    refine ⟨_, by rw [vbin_i (by simp) (by simp)]; rfl, ?_⟩
    rcases onNN_true h with ⟨m, n, rfl, rfl, h2⟩ | h2 <;> clear h <;> have h := h2 <;> clear h2
    · rw [boolF_eq] at h
      have e : Nat.ble m n = ile (.ofNat m) (.ofNat n) := by rw [Bool.eq_iff_iff, Nat.ble_eq]; simp [ile, Int.ofNat_eq_natCast]
      rw [e] at h; exact h
    · rw [boolF_eq] at h; exact h
  | gtr =>
    obtain ⟨kd, a, b, rfl, rfl, h0⟩ := sameK_true h
    clear h
    have h := h0
    clear h0
    refine ⟨_, by rw [vbin_i (by simp) (by simp)]; rfl, ?_⟩
    rcases onNN_true h with ⟨m, n, rfl, rfl, h2⟩ | h2 <;> clear h <;> have h := h2 <;> clear h2
    · rw [boolF_eq] at h
      have e : Nat.blt n m = ilt (.ofNat n) (.ofNat m) := by rw [Bool.eq_iff_iff, Nat.blt_eq]; simp [ilt, Int.ofNat_eq_natCast]
      rw [e] at h; exact h
    · rw [boolF_eq] at h; exact h
  | geq =>
    obtain ⟨kd, a, b, rfl, rfl, h0⟩ := sameK_true h
    clear h
    have h := h0
    clear h0
    refine ⟨_, by rw [vbin_i (by simp) (by simp)]; rfl, ?_⟩
    rcases onNN_true h with ⟨m, n, rfl, rfl, h2⟩ | h2 <;> clear h <;> have h := h2 <;> clear h2
    · rw [boolF_eq] at h
      have e : Nat.ble n m = ile (.ofNat n) (.ofNat m) := by rw [Bool.eq_iff_iff, Nat.ble_eq]; simp [ile, Int.ofNat_eq_natCast]
      rw [e] at h; exact h
    · rw [boolF_eq] at h; exact h
  | eql =>
    obtain ⟨kd, a, b, rfl, rfl, h0⟩ := sameK_true h
    clear h
    have h := h0
    clear h0
    refine ⟨_, by rw [vbin_i (by simp) (by simp)]; rfl, ?_⟩
    rcases onNN_true h with ⟨m, n, rfl, rfl, h2⟩ | h2 <;> clear h <;> have h := h2 <;> clear h2
    · rw [boolF_eq] at h
      have e : Nat.beq m n = (Int.ofNat m == Int.ofNat n) := by rw [Bool.eq_iff_iff, Nat.beq_eq]; simp [Int.ofNat_eq_natCast]; omega
      rw [e] at h; exact h
    · rw [boolF_eq] at h; exact h
  | neq =>
    obtain ⟨kd, a, b, rfl, rfl, h0⟩ := sameK_true h
    clear h
    have h := h0
    clear h0
    refine ⟨_, by rw [vbin_i (by simp) (by simp)]; rfl, ?_⟩
    rcases onNN_true h with ⟨m, n, rfl, rfl, h2⟩ | h2 <;> clear h <;> have h := h2 <;> clear h2
    · rw [boolF_eq] at h
      have e : Nat.beq m n = (Int.ofNat m == Int.ofNat n) := by rw [Bool.eq_iff_iff, Nat.beq_eq]; simp [Int.ofNat_eq_natCast]; omega
      rw [e] at h; exact h
    · rw [boolF_eq] at h; exact h
  | _ => exact other h

theorem kbin_true {op : BinOp} {t : TypeId} {x y : V} {k : V → Bool} (h : (kbin P op t).run x y k = true) : ∃ v, vbin P op t x y = some v ∧ k v = true := by
  unfold kbin at h
  split at h
  · exact kbinI_true h
  · dsimp only at h
    cases e : vbin P op t x y with
    | none => rw [e] at h; exact no h
    | some v => rw [e] at h; exact ⟨v, rfl, (forceK_eq _ _).symm.trans h⟩

theorem kindex_true {t : TypeId} {x y : V} {k : V → Bool} (h : (kindex P t).run x y k = true) : ∃ kd i v, y = .i kd i ∧ vindex P t x i = some v ∧ k v = true := by
  unfold kindex at h
  split at h
  · rename_i ht
    obtain ⟨len, bits, rfl, hz⟩ := onS_true h
    clear h
    have h := hz
    clear hz
    obtain ⟨kd, i, rfl, hz⟩ := onI_true h
    clear h
    have h := hz
    clear hz
    rcases onN_true h with ⟨m, rfl, hz⟩ | hz <;> clear h <;> have h := hz <;> clear hz
    · obtain ⟨h1, h2⟩ := ifB_t h
      rw [natK_eq] at h2
      rw [Nat.blt_eq] at h1
      refine ⟨kd, _, _, rfl, ?_, h2⟩
      have hb : (ile 0 (Int.ofNat m) && ilt (Int.ofNat m) len) = true := by simp [ile, ilt, Int.ofNat_eq_natCast]; omega
      simp only [vindex, ht, hb, cond_true]
      rfl
    · exact no h
  · obtain ⟨kd, i, rfl, hz⟩ := onI_true h
    clear h
    have h := hz
    clear hz
    cases e : vindex P t x i with
    | none => rw [e] at h; exact no h
    | some v => rw [e] at h; exact ⟨kd, i, v, rfl, e, (forceK_eq _ _).symm.trans h⟩

end
end Go.Vk

namespace Go.Vk
open Go.Vm

section
variable {P : Program} {ro : Nat}

/-! ### Memory -/

theorem kload_true {t : TypeId} {st : St} {id off : Nat} {k : V → Bool} (h : (kload P t).run st id off k = true) : ∃ v, vload P st t id off = some v ∧ k v = true := by
  unfold kload at h
  unfold vload
  cases hi : P.info? t with
  | none => rw [hi] at h; exact no h
  | some ti =>
    cases hu : P.underlying t with
    | none => rw [hi, hu] at h; exact no h
    | some d =>
      rw [hi, hu] at h
      dsimp only at h
      cases ha : isAggB P t with
      | true =>
        rw [ha] at h
        dsimp only at h
        rw [natF_eq] at h
        obtain ⟨b, h1, h2⟩ := blkK_true h
        rw [onBlk_eq] at h2
        obtain ⟨cs, h3, h4⟩ := rowK_true h2
        exact ⟨.a cs, by simp only [h1, cond_true, h3], h4⟩
      | false =>
        rw [ha] at h
        obtain ⟨b, h1, h2⟩ := blkK_true h
        rw [onBlk_eq] at h2
        obtain ⟨v, h3, h4⟩ := cellK_true h2
        exact ⟨v, by simp only [h1, cond_false, h3], h4⟩

theorem kstore_true {t : TypeId} {st : St} {id off : Nat} {v : V} {k : St → Bool} (h : (kstore P ro t).run st id off v k = true) : ∃ st', vstore P ro st t id off v = some st' ∧ k st' = true := by
  unfold kstore at h
  unfold vstore
  cases hi : P.info? t with
  | none => rw [hi] at h; exact no h
  | some ti =>
    rw [hi] at h
    dsimp only at h
    rw [natF_eq] at h
    obtain ⟨b, h1, h2⟩ := blkK_true h
    rw [cellsV_eq] at h2
    obtain ⟨h3, h4⟩ := ifB_t h2
    rw [lenK_eq] at h4
    obtain ⟨h5, h6⟩ := ifB_t h4
    rw [onBlkM_eq] at h6
    obtain ⟨cs, h7, h8⟩ := putK_true h6
    rw [writeK_eq] at h8
    exact ⟨_, by simp only [h1, h3, h5, Bool.and_self, cond_true, h7], h8⟩

theorem kvalloc_true {st : St} {v : V} {es : Nat} {k : V → St → Bool} (h : kvalloc st v es k = true) : ∃ x st', valloc st v es = some (x, st') ∧ k x st' = true := by
  unfold kvalloc at h
  rw [cellsV_eq] at h
  obtain ⟨b, h1, h2⟩ := newK_true h
  rw [allocK_eq] at h2
  exact ⟨_, _, by simp only [valloc, h1, natF_eq], h2⟩

theorem setAt_all : ∀ (vs cs pre : List V), vs.length = cs.length → setAt (pre ++ cs) pre.length vs = pre ++ vs
  | [], cs, pre, h => by
    have : cs = [] := List.length_eq_zero_iff.1 h.symm
    simp [setAt, this]
  | v :: r, [], pre, h => by simp at h
  | v :: r, c :: cs, pre, h => by
    have h' : r.length = cs.length := by simpa using h
    have := setAt_all r cs (pre ++ [v]) h'
    simp only [setAt]
    rw [List.set_append_right _ _ (Nat.le_refl _), Nat.sub_self, List.set_cons_zero]
    rw [List.length_append] at this
    simp only [List.append_assoc, List.singleton_append, List.length_singleton] at this
    exact this

theorem kone_true {t : TypeId} {st : St} {v : V} {k : V → St → Bool} (h : (kone P t).run st v k = true) : ∃ x st', vbuildSlice P st t 1 [(0, v)] = some (x, st') ∧ k x st' = true := by
  unfold kone at h
  split at h
  · rename_i e hu
    cases hs : sizeB P e with
    | none => rw [hs] at h; exact no h
    | some n =>
      cases hz : zeroOf P e with
      | none => rw [hs, hz] at h; exact no h
      | some z =>
        rw [hs, hz] at h
        dsimp only at h
        cases hc : (Nat.ble (1 * n) 16777216 && Nat.blt 0 n && Nat.beq z.cells.length n) with
        | false => rw [hc] at h; exact no h
        | true =>
          rw [hc] at h
          dsimp only at h
          rw [natF_eq] at h
          dsimp only at h
          rw [cellsV_eq, lenK_eq] at h
          obtain ⟨h1, h2⟩ := ifB_t h
          obtain ⟨b, h3, h4⟩ := newK_true h2
          rw [allocK_eq] at h4
          refine ⟨_, _, ?_, h4⟩
          have hl : v.cells.length = n := Nat.beq_eq ▸ h1
          have hzl : z.cells.length = n := by
            have := hc
            simp only [Bool.and_eq_true, Nat.beq_eq] at this
            exact this.2
          have hset : setAt (repeatL z.cells 1) (0 * n) v.cells = v.cells := by
            have := setAt_all v.cells z.cells [] (by omega)
            simpa [repeatL] using this
          have hle : Nat.ble (0 * n + v.cells.length) (repeatL z.cells 1).length = true := by rw [Nat.ble_eq]; simp [repeatL]; omega
          simp only [vbuildSlice, hu, hs, hz, hc, cond_true, vfill, h1, hle, Bool.and_self, hset, h3, natF_eq]
  · exact no h

theorem bytesK_true : ∀ {n x : Nat} {k : List V → Bool}, bytesK n x k = true → k (cellsOfBytes n x) = true
  | 0, x, k, h => h
  | n + 1, x, k, h => by
    have h' : natK (x % 256) (fun c => natK (x / 256) fun y => bytesK n y fun r => k (.i .u8 (.ofNat c) :: r)) = true := h
    rw [natK_eq, natK_eq] at h'
    exact bytesK_true (n := n) (x := x / 256) (k := fun r => k (.i .u8 (.ofNat (x % 256)) :: r)) h'
theorem firstK_true {st : St} {es : Nat} {x : V} {k : Nat → List V → Bool} (h : firstK st es x k = true) : ∃ n new, vlen x = some n ∧ vfirst st es n x = some new ∧ k n new = true := by
  rcases onSl_true h with ⟨id, off, l, c, op, rfl, hz⟩ | ⟨rfl, hz⟩ | ⟨l, x, rfl, hz⟩ <;> clear h <;> have h := hz <;> clear hz
  · obtain ⟨b, h1, h2⟩ := blkK_true h
    rw [onBlk_eq] at h2
    obtain ⟨cs, h3, h4⟩ := rowK_true h2
    exact ⟨l, cs, rfl, by simp only [vfirst, h1, h3], h4⟩
  · exact ⟨0, [], rfl, rfl, h⟩
  · obtain ⟨h1, h2⟩ := ifB_t h
    exact ⟨l, _, rfl, by simp only [vfirst, h1, cond_true], bytesK_true h2⟩

end
end Go.Vk

namespace Go.Vk
open Go.Vm

section
variable {P : Program} {ro : Nat}

/-! ### Memory -/

theorem kappend_true {t : TypeId} {st : St} {s x : V} {k : V → St → Bool} (h : (kappend P ro t).run st s x k = true) : ∃ v st', vappend P ro st t s x = some (v, st') ∧ k v st' = true := by
  unfold kappend at h
  split at h
  · rename_i e hu
    cases hi : P.info? e with
    | none => rw [hi] at h; exact no h
    | some ti =>
      rw [hi] at h
      dsimp only at h
      rw [natF_eq, natF_eq] at h
      cases hc : (Nat.blt 0 ti.size && Nat.blt 0 ti.bytes && zeroFits P e ti.size) with
      | false => rw [hc] at h; exact no h
      | true =>
        rw [hc] at h
        dsimp only at h
        obtain ⟨n, new, h1, h2, h⟩ := firstK_true h
        rcases onSl_true h with ⟨id, off, len, cap, op, rfl, hz⟩ | ⟨rfl, hz⟩ | ⟨_, _, _, hz⟩ <;> clear h <;> have h := hz <;> clear hz
        · obtain ⟨b, h3, h⟩ := blkK_true h
          obtain ⟨h4, h⟩ := ifB_t h
          rcases ifB_true h with ⟨h5, h⟩ | ⟨h5, h⟩
          · obtain ⟨h6, h⟩ := ifB_t h
            rw [onBlkM_eq] at h
            obtain ⟨cs, h7, h⟩ := putK_true h
            rw [writeK_eq, natK_eq] at h
            exact ⟨_, _, by simp only [vappend, hu, hi, h1, h2, hc, cond_true, h3, h4, h5, h6, h7, natF_eq], h⟩
          · rw [onBlkM_eq] at h
            obtain ⟨hmp, h⟩ := noMap_true h
            have fin : ∀ b' : Blk, vgrown b off len ti.size new = some b' → ifB op (ifB (Nat.ble ro id && b.op && Nat.beq b.es ti.size && Nat.beq (off + cap * ti.size) b.sz) (writeK st id none fun st => allocK st b' fun nx st => natK (len + n) fun m => k (.sl nx 0 m m true) st) false)
                  (allocK st b' fun nx st => natK (len + n) fun m => k (.sl nx 0 m m true) st) = true → ∃ v st', vappend P ro st t (.sl id off len cap op) x = some (v, st') ∧ k v st' = true := by
              intro b' hg h
              rcases ifB_true h with ⟨rfl, h⟩ | ⟨rfl, h⟩
              · obtain ⟨h8, h⟩ := ifB_t h
                rw [killK_eq, allocK_eq, natK_eq] at h
                refine ⟨_, _, ?_, h⟩
                simp only [vappend, hu, hi, h1, h2, hc, cond_true, cond_false, h3, h4, h5, hg, h8, natF_eq]
                rw [St.kill_eq]
              · rw [allocK_eq, natK_eq] at h
                refine ⟨_, _, ?_, h⟩
                simp only [vappend, hu, hi, h1, h2, hc, cond_true, cond_false, h3, h4, h5, hg, natF_eq]
            rcases ifB_true h with ⟨h6, h⟩ | ⟨h6, h⟩
            · rw [lenK_eq, natK_eq] at h
              obtain ⟨cs, h7, h⟩ := putK_true (b := ⟨b.cs, b.zero, b.sz + new.length, b.es, true, none⟩) h
              refine fin _ ?_ h
              simp only [vgrown, hmp, h6, cond_true, Blk.grow]
              exact h7
            · obtain ⟨old, h7, h⟩ := rowK_true h
              obtain ⟨b', h8, h⟩ := newK_true h
              refine fin _ ?_ h
              simp only [vgrown, hmp, h6, cond_false, h7]
              exact h8
        · obtain ⟨h4, h⟩ := ifB_t h
          rcases ifB_true h with ⟨h5, h⟩ | ⟨h5, h⟩
          · exact ⟨_, _, by simp only [vappend, hu, hi, h1, h2, hc, cond_true, h4, h5], h⟩
          · obtain ⟨b, h6, h⟩ := newK_true h
            rw [allocK_eq] at h
            exact ⟨_, _, by simp only [vappend, hu, hi, h1, h2, hc, cond_true, cond_false, h4, h5, h6, natF_eq], h⟩
        · exact no h
  · exact no h

end
end Go.Vk

namespace Go.Vk
open Go.Vm

section
variable {P : Program} {ro : Nat}

/-! ### Memory -/

theorem textK_step {k : Nat → Nat → Bool} : ∀ (cs : List V) (l pw acc : Nat), (List.rec (motive := fun _ => Nat → Nat → Nat → Bool) (fun l _ acc => k l acc) (fun v _ ih l pw acc => onI v fun kd n => ifB (Nat.beq (kindN kd) 4) (onN n (fun c => natK (l + 1) fun l => natK (acc + c % 256 * pw) fun acc => natK (256 * pw) fun pw => ih l pw acc) false) false) cs l pw acc : Bool) = true →
    ∃ r, bytesOfCells cs = some r ∧ k (l + r.length) (acc + pw * packL r) = true
  | [], l, pw, acc, h => ⟨[], rfl, by simpa [packL] using h⟩
  | v :: cs, l, pw, acc, h => by
    obtain ⟨kd, n, rfl, hz⟩ := onI_true h
    clear h
    have h := hz
    clear hz
    obtain ⟨h1, h⟩ := ifB_t h
    have hk : kd = .u8 := kindN_inj (b := .u8) h1
    subst hk
    rcases onN_true h with ⟨c, rfl, hz⟩ | hz <;> clear h <;> have h := hz <;> clear hz
    · rw [natK_eq, natK_eq, natK_eq] at h
      obtain ⟨r, h2, h3⟩ := textK_step cs _ _ _ h
      refine ⟨UInt8.ofNat c :: r, by simp only [bytesOfCells, h2]; rfl, ?_⟩
      have e1 : (UInt8.ofNat c).toNat = c % 256 := by simp
      simp only [packL, List.length_cons, e1]
      have e2 : acc + pw * (c % 256 + 256 * packL r) = acc + c % 256 * pw + 256 * pw * packL r := by
        rw [Nat.mul_add, Nat.mul_comm pw (c % 256), ← Nat.mul_assoc, Nat.mul_comm pw 256, Nat.add_assoc]
      rw [e2, show l + (r.length + 1) = l + 1 + r.length from by omega]
      exact h3
    · exact no h
theorem textK_true {cs : List V} {k : Nat → Nat → Bool} (h : textK cs k = true) : ∃ r, bytesOfCells cs = some r ∧ k r.length (packL r) = true := by
  obtain ⟨r, h1, h2⟩ := textK_step cs 0 1 0 h
  exact ⟨r, h1, by simpa using h2⟩

theorem kconv_true {s d : TypeId} {st : St} {x : V} {k : V → St → Bool} (h : (kconv P s d).run st x k = true) : ∃ v st', vconvert P st s d x = some (v, st') ∧ k v st' = true := by
  unfold kconv at h
  split at h
  · rename_i e hs hd
    split at h
    · rename_i he
      rcases onSl_true h with ⟨id, off, len, c, op, rfl, hz⟩ | ⟨rfl, hz⟩ | ⟨_, _, _, hz⟩ <;> clear h <;> have h := hz <;> clear hz
      · obtain ⟨b, h1, h⟩ := blkK_true h
        rw [onBlk_eq] at h
        obtain ⟨cs, h2, h⟩ := rowK_true h
        obtain ⟨r, h3, h⟩ := textK_true h
        refine ⟨_, _, ?_, h⟩
        simp only [vconvert, hs, hd, he, h1, vtext_of h2 h3]
        rfl
      · exact ⟨_, _, by simp only [vconvert, hs, hd, he], h⟩
      · exact no h
    · exact no h
  · rename_i ds hno hs hd
    obtain ⟨l, y, rfl, hz⟩ := onS_true h
    clear h
    have h := hz
    clear hz
    refine ⟨_, _, ?_, h⟩
    unfold vconvert
    rw [hs, hd]
  · rename_i ds kd hs hd
    obtain ⟨k0, n, rfl, hz⟩ := onI_true h
    clear h
    have h := hz
    clear hz
    rw [wrapV_eq] at h
    refine ⟨_, _, ?_, h⟩
    unfold vconvert
    rw [hs, hd]
  · obtain ⟨v, st', h1, h2⟩ := optSt_true h
    rw [forceK_eq] at h2
    exact ⟨v, st', h1, h2⟩
theorem kconv2_true {ro : Nat} {s d : TypeId} {st : St} {x : V} {k : V → St → Bool} (h : (kconv2 P ro s d).run st x k = true) : ∃ v st', vconv2 P ro st s d x = some (v, st') ∧ k v st' = true := by
  unfold kconv2 at h
  split at h
  · obtain ⟨v, st', h1, h2⟩ := optSt_true h
    rw [forceK_eq] at h2
    exact ⟨v, st', h1, h2⟩
  · obtain ⟨v, st', h1, h2⟩ := kconv_true h
    exact ⟨v, st', vconv2_of h1, h2⟩
end
end Go.Vk
namespace Go.Vk
open Go.Vm

section
variable {P : Program} {ov : Ov} {cf : Nat → CallF} {ro mask : Nat} {names : List Nat} {fr fr0 : T V} {ls : List V} {st : St}

def KOKc (cf : Nat → CallF) (call : KCall) : Prop :=
  ∀ f args st k, call f args st k = true → ∃ v st', Even (fun m => cf m f args st) (v, st') ∧ k v st' = true
abbrev KOK (P : Program) (ov : Ov) (ro : Nat) (call : KCall) : Prop := KOKc (evF P ov ro) call

/-- What an operation comes to. -/
def OpT (P : Program) (cf : Nat → CallF) (ro : Nat) (fr0 : T V) (st : St) (op : Op) (k : Option V → St → Bool) : Prop :=
  ∃ v st', Even (fun m => vop P ro (cf m) fr0 st op) (v, st') ∧ k v st' = true
theorem OpT.now {op : Op} {k : Option V → St → Bool} {v : Option V} {st' : St} (h : ∀ call, vop P ro call fr0 st op = some (v, st')) (hk : k v st' = true) : OpT P cf ro fr0 st op k :=
  ⟨v, st', ⟨0, fun _ _ => h _⟩, hk⟩

theorem onTwo_true {l : List V} {k : V → V → Bool} (h : onTwo l k = true) : ∃ x y, l = [x, y] ∧ k x y = true := by
  cases l with
  | nil => exact no h
  | cons x r => cases r with
    | nil => exact no h
    | cons y r => cases r with
      | nil => exact ⟨x, y, rfl, h⟩
      | cons _ _ => exact no h
theorem onOne_true {l : List V} {k : V → Bool} (h : onOne l k = true) : ∃ x, l = [x] ∧ k x = true := by
  cases l with
  | nil => exact no h
  | cons x r => cases r with
    | nil => exact ⟨x, rfl, h⟩
    | cons _ _ => exact no h

theorem kother_true (hr : Rel mask names fr ls fr0) {xs : Array Operand} {b : Builtin} {ts : Array TypeId} {call : KCall} {k : Option V → St → Bool} (h : (kother P ro (kopnds mask names xs.toList) b ts.toList).run call fr ls st k = true) :
    OpT P cf ro fr0 st (.call ⟨.builtin b, xs, ts⟩) k := by
  obtain ⟨args, h1, h2⟩ := kopnds_true hr (show (kopnds mask names xs.toList).run fr ls _ = true from h)
  obtain ⟨v, st', h3, h4⟩ := optSt_true h2
  rw [forceK_eq] at h4
  exact OpT.now (fun call => by simp only [vop, h1, h3]) h4

theorem kbuiltin_true (hr : Rel mask names fr ls fr0) {xs : Array Operand} {b : Builtin} {ts : Array TypeId} {call : KCall} {k : Option V → St → Bool} (h : (kbuiltin P ro (kopnds mask names xs.toList) b ts.toList).run call fr ls st k = true) :
    OpT P cf ro fr0 st (.call ⟨.builtin b, xs, ts⟩) k := by
  unfold kbuiltin at h
  split at h
  · rename_i t u hts
    split at h
    · exact no h
    · rename_i d hni hu
      obtain ⟨args, h1, h2⟩ := kopnds_true hr (show (kopnds mask names xs.toList).run fr ls _ = true from h)
      obtain ⟨s, x, rfl, h3⟩ := onTwo_true h2
      have hb : vbuiltin P ro .append [t, u] [s, x] st = vappend P ro st t s x := by
        simp only [vbuiltin, hu]
      have slow : (optSt (vappend P ro st t s x) fun v st => forceK v fun v => k (some v) st) = true → OpT P cf ro fr0 st (.call ⟨.builtin .append, xs, ts⟩) k := by
        intro h3
        obtain ⟨v, st', h4, h5⟩ := optSt_true h3
        rw [forceK_eq] at h5
        exact OpT.now (fun call => by simp only [vop, h1, hts, hb, h4]) h5
      rcases onSe_true h3 with ⟨_, h3⟩ | h3
      · exact slow h3
      rcases onSe_true h3 with ⟨_, h3⟩ | h3
      · exact slow h3
      obtain ⟨v, st', h4, h5⟩ := kappend_true h3
      refine OpT.now (fun call => ?_) h5
      simp only [vop, h1, hts, hb, h4]
    · exact no h
  · rename_i t hts
    split at h
    · rename_i hu
      obtain ⟨args, h1, h2⟩ := kopnds_true hr (show (kopnds mask names xs.toList).run fr ls _ = true from h)
      obtain ⟨x, rfl, h3⟩ := onOne_true h2
      obtain ⟨l, y, rfl, h4⟩ := onS_true h3
      exact OpT.now (fun call => by simp only [vop, h1, hts, vbuiltin, vlenOp, hu]) h4
    · rename_i e hu
      obtain ⟨args, h1, h2⟩ := kopnds_true hr (show (kopnds mask names xs.toList).run fr ls _ = true from h)
      obtain ⟨x, rfl, h3⟩ := onOne_true h2
      rcases onSe_true h3 with ⟨⟨g, o, q, rfl⟩ | ⟨a, rfl⟩ | ⟨g, o, q, rfl⟩, h4⟩ | h3
      · exact OpT.now (fun call => by simp only [vop, h1, hts, vbuiltin, vlenOp, hu]; rfl) h4
      · exact OpT.now (fun call => by simp only [vop, h1, hts, vbuiltin, vlenOp, hu]; rfl) h4
      · exact OpT.now (fun call => by simp only [vop, h1, hts, vbuiltin, vlenOp, hu]; rfl) h4
      rcases onSl_true h3 with ⟨id, off, l, c, op, rfl, h4⟩ | ⟨rfl, h4⟩ | ⟨_, _, _, h4⟩
      · exact OpT.now (fun call => by simp only [vop, h1, hts, vbuiltin, vlenOp, hu]) h4
      · exact OpT.now (fun call => by simp only [vop, h1, hts, vbuiltin, vlenOp, hu]; rfl) h4
      · exact no h4
    · have h' : (kother P ro (kopnds mask names xs.toList) .len ts.toList).run call fr ls st k = true := h
      exact kother_true hr h'
  · exact kother_true hr h

theorem kcallee_true (hr : Rel mask names fr ls fr0) {c : Call} {call : KCall} (hc : KOKc cf call) {k : Option V → St → Bool} (h : (kcallee P ro mask names (kopnds mask names c.args.toList) c.argTypes.toList c.callee).run call fr ls st k = true) :
    OpT P cf ro fr0 st (.call c) k := by
  obtain ⟨callee, xs, ts⟩ := c
  cases callee with
  | builtin b => exact kbuiltin_true hr h
  | invoke _ _ => exact no h
  | value o =>
    have slow : (∀ f, o ≠ .func f) → OpT P cf ro fr0 st (.call ⟨.value o, xs, ts⟩) k := by
      intro hno
      have h' : (kopnds mask names xs.toList).run fr ls (fun args => (kopnd mask names o).run fr ls fun g => onF g fun fn first caps => match fn with
        | .func f => call f (first ++ args ++ caps) st fun v st => k (some v) st
        | _ => false) = true := by
        cases o with
        | func f => exact absurd rfl (hno f)
        | _ => exact h
      obtain ⟨args, h1, h2⟩ := kopnds_true hr h'
      obtain ⟨g, h3, h4⟩ := kopnd_true hr h2
      obtain ⟨fn, first, caps, rfl, h5⟩ := onF_true h4
      cases fn with
      | func f =>
        obtain ⟨v, st', ⟨m, h6⟩, h7⟩ := hc f _ st _ h5
        exact ⟨some v, st', ⟨m, fun m' hm => by dsimp only at h6; simp only [vop, h1, h3, h6 m' hm]⟩, h7⟩
      | _ => exact no h5
    cases o with
    | func f =>
      obtain ⟨args, h1, h2⟩ := kopnds_true hr (show (kopnds mask names xs.toList).run fr ls _ = true from h)
      obtain ⟨v, st', ⟨m, h3⟩, h4⟩ := hc f args st _ h2
      exact ⟨some v, st', ⟨m, fun m' hm => by dsimp only at h3; simp only [vop, h1, opnd, List.nil_append, List.append_nil, h3 m' hm]⟩, h4⟩
    | _ => exact slow (fun f e => by cases e)

theorem spineK_eq : ∀ (l : List (V × V)) (k : List (V × V) → Bool), spineK l k = k l
  | [], k => rfl
  | (a, b) :: r, k => by
    show forceK a (fun a => forceK b fun b => spineK r fun r => k ((a, b) :: r)) = _
    rw [forceK_eq, forceK_eq, spineK_eq r]
theorem vmapUpdate_shape {t : TypeId} {g : Nat} {x y : V} {st' : St} (h : vmapUpdate P ro st t (.m g) x y = some st') : ∃ b l, st' = st.write g b ∧ b.mp = some l := by
  unfold vmapUpdate at h
  split at h
  · rename_i kt et g' hd e
    cases e
    split at h
    · rename_i b hg
      split at h
      · rename_i es hm
        cases hc : ckV P kt x with
        | false => rw [hc] at h; cases h
        | true =>
          rw [hc, cond_true] at h
          split at h
          · rename_i i v hf
            split at h
            · rename_i e he
              cases hs : sameKey e.1 x with
              | false => rw [hs] at h; cases h
              | true =>
                rw [hs, cond_true, Option.some.injEq] at h
                exact ⟨_, _, h.symm, rfl⟩
            · cases h
          · rw [Option.some.injEq] at h
            exact ⟨_, _, h.symm, rfl⟩
          · cases h
      · cases h
    · cases h
  · cases h
theorem kmapUpd_true {t : TypeId} {m x y : V} {k : Option V → St → Bool} (h : kmapUpd P ro t m x y st k = true) : ∃ st', vmapUpdate P ro st t m x y = some st' ∧ k none st' = true := by
  cases m with
  | m g =>
    have h : (match vmapUpdate P ro st t (.m g) x y with
      | some st' => blkK st' g fun b => onBlkM b fun cs zero sz es op mp => match mp with
        | some l => spineK l fun l => writeK st g (some ⟨cs, zero, sz, es, op, some l⟩) fun st => k none st
        | none => false
      | none => false) = true := h
    cases hu : vmapUpdate P ro st t (.m g) x y with
    | none => rw [hu] at h; cases h
    | some st' =>
      rw [hu] at h
      dsimp only at h
      obtain ⟨b0, l0, rfl, hb0⟩ := vmapUpdate_shape hu
      obtain ⟨b, h1, h2⟩ := blkK_true h
      rw [St.write_eq] at h1
      dsimp only at h1
      rw [T.get_upd, if_pos rfl, Option.some.injEq] at h1
      subst h1
      rw [onBlkM_eq, hb0] at h2
      dsimp only at h2
      rw [spineK_eq, writeK_eq] at h2
      refine ⟨_, rfl, ?_⟩
      have e : (⟨b0.cs, b0.zero, b0.sz, b0.es, b0.op, some l0⟩ : Blk) = b0 := by rw [← hb0]
      rw [e] at h2
      exact h2
  | _ => cases h
theorem kop_true (hr : Rel mask names fr ls fr0) {call : KCall} (hc : KOKc cf call) {op : Op} {k : Option V → St → Bool} (h : (kop P ro mask names op).run call fr ls st k = true) : OpT P cf ro fr0 st op k := by
  cases op with
  | move x =>
    obtain ⟨v, h1, h2⟩ := kopnd_true hr (show (kopnd mask names x).run fr ls _ = true from h)
    exact OpT.now (fun call => by simp only [vop, h1]) h2
  | assign x =>
    obtain ⟨v, h1, h2⟩ := kopnd_true hr (show (kopnd mask names x).run fr ls _ = true from h)
    exact OpT.now (fun call => by simp only [vop, h1]) h2
  | pick c a b =>
    obtain ⟨v, h1, h2⟩ := kopnd_true hr (show (kopnd mask names c).run fr ls _ = true from h)
    rcases onB_true h2 with ⟨rfl, h3⟩ | ⟨rfl, h3⟩
    · obtain ⟨v, h4, h5⟩ := kopnd_true hr h3
      exact OpT.now (fun call => by simp only [vop, h1, cond_true, h4]) h5
    · obtain ⟨v, h4, h5⟩ := kopnd_true hr h3
      exact OpT.now (fun call => by simp only [vop, h1, cond_false, h4]) h5
  | binOp op t x y u =>
    obtain ⟨a, h1, h2⟩ := kopnd_true hr (show (kopnd mask names x).run fr ls _ = true from h)
    obtain ⟨b, h3, h4⟩ := kopnd_true hr h2
    obtain ⟨v, h5, h6⟩ := kbin_true h4
    exact OpT.now (fun call => by simp only [vop, h1, h3, h5]) h6
  | unOp op t x =>
    obtain ⟨a, h1, h2⟩ := kopnd_true hr (show (kopnd mask names x).run fr ls _ = true from h)
    obtain ⟨v, h3, h4⟩ := optV_true h2
    exact OpT.now (fun call => by simp only [vop, h1, h3]) h4
  | convert s d x =>
    obtain ⟨a, h1, h2⟩ := kopnd_true hr (show (kopnd mask names x).run fr ls _ = true from h)
    obtain ⟨v, st', h3, h4⟩ := kconv2_true h2
    exact OpT.now (fun call => by simp only [vop, h1, h3]) h4
  | field t x f =>
    obtain ⟨a, h1, h2⟩ := kopnd_true hr (show (kopnd mask names x).run fr ls _ = true from h)
    obtain ⟨v, h3, h4⟩ := optV_true h2
    exact OpT.now (fun call => by simp only [vop, h1, h3]) h4
  | index t x i =>
    obtain ⟨a, h1, h2⟩ := kopnd_true hr (show (kopnd mask names x).run fr ls _ = true from h)
    obtain ⟨b, h3, h4⟩ := kopnd_true hr h2
    obtain ⟨kd, n, v, rfl, h5, h6⟩ := kindex_true h4
    exact OpT.now (fun call => by simp only [vop, h1, h3, h5]) h6
  | indexAddr t x i =>
    obtain ⟨a, h1, h2⟩ := kopnd_true hr (show (kopnd mask names x).run fr ls _ = true from h)
    obtain ⟨b, h3, h4⟩ := kopnd_true hr h2
    obtain ⟨kd, n, rfl, h5⟩ := onI_true h4
    obtain ⟨v, h6, h7⟩ := optV_true h5
    exact OpT.now (fun call => by simp only [vop, h1, h3, h6]) h7
  | fieldAddr t x f =>
    obtain ⟨a, h1, h2⟩ := kopnd_true hr (show (kopnd mask names x).run fr ls _ = true from h)
    obtain ⟨g, o, rfl, h3⟩ := onP_true h2
    obtain ⟨v, h4, h5⟩ := optV_true h3
    exact OpT.now (fun call => by simp only [vop, h1, h4]) h5
  | load t x =>
    obtain ⟨a, h1, h2⟩ := kopnd_true hr (show (kopnd mask names x).run fr ls _ = true from h)
    obtain ⟨g, o, rfl, h3⟩ := onP_true h2
    obtain ⟨v, h4, h5⟩ := kload_true h3
    exact OpT.now (fun call => by simp only [vop, h1, h4]) h5
  | store t x v =>
    obtain ⟨a, h1, h2⟩ := kopnd_true hr (show (kopnd mask names x).run fr ls _ = true from h)
    obtain ⟨b, h3, h4⟩ := kopnd_true hr h2
    obtain ⟨g, o, rfl, h5⟩ := onP_true h4
    obtain ⟨st', h6, h7⟩ := kstore_true h5
    exact OpT.now (fun call => by simp only [vop, h1, h3, h6]) h7
  | alloc t =>
    simp only [kop] at h
    cases hz : zeroOf P t with
    | none => rw [hz] at h; exact no h
    | some z => cases hs : sizeB P t with
      | none => rw [hz, hs] at h; exact no h
      | some n =>
        rw [hz, hs] at h
        dsimp only at h
        rw [natF_eq] at h
        dsimp only at h
        obtain ⟨v, st', h1, h2⟩ := kvalloc_true h
        exact OpT.now (fun call => by simp only [vop, hz, hs, h1]) h2
  | box t x =>
    simp only [kop] at h
    cases hs : sizeB P t with
    | none => rw [hs] at h; exact no h
    | some n =>
      rw [hs] at h
      dsimp only at h
      rw [natF_eq] at h
      obtain ⟨a, h1, h2⟩ := kopnd_true hr (show (kopnd mask names x).run fr ls _ = true from h)
      obtain ⟨v, st', h3, h4⟩ := kvalloc_true h2
      exact OpT.now (fun call => by simp only [vop, h1, hs, h3]) h4
  | build t ps =>
    obtain ⟨vs, h1, h2⟩ := kparts_true hr (show (kparts mask names ps.toList).run fr ls _ = true from h)
    obtain ⟨v, h3, h4⟩ := optV_true h2
    exact OpT.now (fun call => by simp only [vop, h1, h3]) h4
  | buildSlice t len ps =>
    simp only [kop] at h
    split at h
    · rename_i o hps
      obtain ⟨v, h1, h2⟩ := kopnd_true hr (show (kopnd mask names o).run fr ls _ = true from h)
      obtain ⟨x, st', h3, h4⟩ := kone_true h2
      exact OpT.now (fun call => by simp only [vop, hps, partsOf, h1, h3]) h4
    · obtain ⟨vs, h1, h2⟩ := kparts_true hr (show (kparts mask names ps.toList).run fr ls _ = true from h)
      obtain ⟨v, st', h3, h4⟩ := optSt_true h2
      rw [forceK_eq] at h4
      exact OpT.now (fun call => by simp only [vop, h1, h3]) h4
  | makeSlice t l c =>
    obtain ⟨a, h1, h2⟩ := kopnd_true hr (show (kopnd mask names l).run fr ls _ = true from h)
    obtain ⟨b, h3, h4⟩ := kopnd_true hr h2
    obtain ⟨k1, n, rfl, h5⟩ := onI_true h4
    obtain ⟨k2, m, rfl, h6⟩ := onI_true h5
    obtain ⟨v, st', h7, h8⟩ := optSt_true h6
    rw [forceK_eq] at h8
    exact OpT.now (fun call => by simp only [vop, h1, h3, h7]) h8
  | slice t x lo hi mx =>
    obtain ⟨a, h1, h2⟩ := kopnd_true hr (show (kopnd mask names x).run fr ls _ = true from h)
    clear h
    rcases kopndO_true hr h2 with ⟨rfl, h3⟩ | ⟨o1, v1, rfl, e1, h3⟩ <;> clear h2 <;> rcases kopndO_true hr h3 with ⟨rfl, h4⟩ | ⟨o2, v2, rfl, e2, h4⟩ <;> clear h3 <;> rcases kopndO_true hr h4 with ⟨rfl, h5⟩ | ⟨o3, v3, rfl, e3, h5⟩ <;> clear h4 <;> obtain ⟨v, h6, h7⟩ := optV_true h5 <;>
      exact OpT.now (fun call => by simp only [vop, Option.map_some, *]) h7
  | nilCheck x =>
    obtain ⟨a, h1, h2⟩ := kopnd_true hr (show (kopnd mask names x).run fr ls _ = true from h)
    obtain ⟨g, o, rfl, h3⟩ := onP_true h2
    exact OpT.now (fun call => by simp only [vop, h1]) h3
  | makeFunc fn first caps =>
    obtain ⟨xs, h1, h2⟩ := kopnds_true hr (show (kopnds mask names first.toList).run fr ls _ = true from h)
    obtain ⟨ys, h3, h4⟩ := kopnds_true hr h2
    exact OpT.now (fun call => by simp only [vop, h1, h3]) h4
  | extract x i =>
    obtain ⟨a, h1, h2⟩ := kopnd_true hr (show (kopnd mask names x).run fr ls _ = true from h)
    obtain ⟨vs, rfl, h3⟩ := onT_true h2
    obtain ⟨v, h4, h5⟩ := onOpt_true h3
    exact OpT.now (fun call => by simp only [vop, h1, h4]) h5
  | call c => exact kcallee_true hr hc h
  | makeMap t r =>
    cases r with
    | some _ => exact no h
    | none =>
      have h' : allocK st ⟨.e, [], 0, 0, false, some []⟩ (fun nx st => k (some (.m nx)) st) = true := h
      rw [allocK_eq] at h'
      exact OpT.now (fun call => by simp only [vop, vmakeMap, natF_eq]) h'
  | lookup t x y ok =>
    obtain ⟨a, h1, h2⟩ := kopnd_true hr (show (kopnd mask names x).run fr ls _ = true from h)
    obtain ⟨b, h3, h4⟩ := kopnd_true hr h2
    obtain ⟨v, h5, h6⟩ := optV_true h4
    exact OpT.now (fun call => by simp only [vop, h1, h3, h5]) h6
  | mapUpdate t m x y =>
    obtain ⟨c, h1, h2⟩ := kopnd_true hr (show (kopnd mask names m).run fr ls _ = true from h)
    obtain ⟨a, h3, h4⟩ := kopnd_true hr h2
    obtain ⟨b, h5, h6⟩ := kopnd_true hr h4
    obtain ⟨st', h7, h8⟩ := kmapUpd_true h6
    exact OpT.now (fun call => by simp only [vop, h1, h3, h5, h7]) h8
  | _ => exact no h

/-! ### One behind the other -/

theorem Rel.put {nt : Nat} (hr : Rel mask names fr ls fr0) {dst : Option Nat} {v : Option V} {k : T V → List V → Bool} (h : (kput nt mask dst).run fr ls v k = true) :
    ∃ fr0', vput nt fr0 dst v = some fr0' ∧ ∃ fr' ls', Rel mask (namesOf mask names dst) fr' ls' fr0' ∧ k fr' ls' = true := by
  cases dst with
  | none => exact ⟨fr0, rfl, fr, ls, hr, h⟩
  | some d =>
    simp only [kput] at h
    cases hd : Nat.blt d nt with
    | false => rw [hd] at h; exact no h
    | true =>
      rw [hd] at h
      have key : ∀ u : V, vput nt fr0 (some d) v = some (fr0.upd d (some u)) → (match liveB mask d with | true => updK (pathOf d) fr u (fun fr => k fr ls) | false => k fr (u :: ls)) = true →
          ∃ fr0', vput nt fr0 (some d) v = some fr0' ∧ ∃ fr' ls', Rel mask (namesOf mask names (some d)) fr' ls' fr0' ∧ k fr' ls' = true := by
        intro u hu hk
        refine ⟨_, hu, ?_⟩
        simp only [namesOf]
        cases hl : liveB mask d with
        | true =>
          rw [hl] at hk
          dsimp only at hk
          rw [updK_eq] at hk
          refine ⟨fr.upd d (some u), ls, ⟨fun t v ht hg => ?_, fun t j v hp hj => ?_, hr.sep⟩, hk⟩
          · rw [T.get_upd] at hg ⊢
            by_cases e : t = d
            · rw [if_pos e] at hg ⊢; exact hg
            · rw [if_neg e] at hg ⊢; exact hr.tree t v ht hg
          · by_cases e : t = d
            · subst e; rw [hr.sep t j hp] at hl; cases hl
            · rw [T.get_upd, if_neg e]; exact hr.loc t j v hp hj
        | false =>
          rw [hl] at hk
          refine ⟨fr, u :: ls, ⟨fun t v ht hg => ?_, fun t j v hp hj => ?_, fun t j hp => ?_⟩, hk⟩
          · rw [T.get_upd]
            by_cases e : t = d
            · subst e; rw [hl] at ht; cases ht
            · rw [if_neg e]; exact hr.tree t v ht hg
          · simp only [posOf] at hp
            rw [T.get_upd]
            cases hq : Nat.beq d t with
            | true =>
              rw [hq] at hp
              obtain rfl := Option.some.inj hp
              rw [Nat.beq_eq] at hq
              rw [if_pos hq.symm]
              simpa using hj
            | false =>
              rw [hq] at hp
              have hne : t ≠ d := fun e => by subst e; rw [Nat.beq_refl] at hq; cases hq
              rw [if_neg hne]
              cases hq2 : posOf names t with
              | none => rw [hq2] at hp; cases hp
              | some i =>
                rw [hq2] at hp
                obtain rfl := Option.some.inj hp
                exact hr.loc t i v hq2 (by simpa using hj)
          · simp only [posOf] at hp
            cases hq : Nat.beq d t with
            | true => rw [Nat.beq_eq] at hq; subst hq; exact hl
            | false =>
              rw [hq] at hp
              cases hq2 : posOf names t with
              | none => rw [hq2] at hp; cases hp
              | some i => exact hr.sep t i hq2
      cases v with
      | none => exact key vNone (by simp only [vput, hd, cond_true]; rfl) (by cases hl : liveB mask d <;> (rw [hl] at h; exact h))
      | some u => exact key u (by simp only [vput, hd, cond_true, V.force_eq]) (by cases hl : liveB mask d <;> (rw [hl] at h; exact h))
end
end Go.Vk
namespace Go.Vk
open Go.Vm

section
variable {P : Program} {ov : Ov} {cf : Nat → CallF} {ro mask nt L : Nat} {names : List Nat} {fr fr0 : T V} {ls : List V} {st : St}

theorem fnum {n : Nat} : evF P ov ro n = callGo P ov (evC P ov ro n) := rfl

theorem kwanted_true (hr : Rel mask names fr ls fr0) {ops : Array Oper} {o : Oper} {t f : Bool} (h : (kwanted mask names ops o.guard).run fr ls t f = true) :
    (vwanted ops fr0 o = some true ∧ t = true) ∨ (vwanted ops fr0 o = some false ∧ f = true) := by
  unfold vwanted
  cases hg : o.guard with
  | none => rw [hg] at h; exact .inl ⟨rfl, h⟩
  | some g =>
    obtain ⟨j, want⟩ := g
    rw [hg] at h
    simp only [kwanted] at h
    dsimp only
    cases hd : (ops[j]?).bind (·.dst) with
    | none => rw [hd] at h; exact .inr ⟨rfl, h⟩
    | some d =>
      rw [hd] at h
      dsimp only
      cases want with
      | true =>
        obtain ⟨v, h1, h2⟩ := ktmp_true hr (show (ktmp mask names d).run fr ls _ = true from h)
        rw [h1]
        rcases onBx_true h2 with ⟨rfl, h3⟩ | ⟨rfl, h3⟩ | ⟨hx, h3⟩
        · exact .inl ⟨rfl, h3⟩
        · exact .inr ⟨rfl, h3⟩
        · refine .inr ⟨?_, h3⟩
          cases v <;> first | rfl | exact absurd rfl (hx _)
      | false =>
        obtain ⟨v, h1, h2⟩ := ktmp_true hr (show (ktmp mask names d).run fr ls _ = true from h)
        rw [h1]
        rcases onBx_true h2 with ⟨rfl, h3⟩ | ⟨rfl, h3⟩ | ⟨hx, h3⟩
        · exact .inr ⟨rfl, h3⟩
        · exact .inl ⟨rfl, h3⟩
        · refine .inr ⟨?_, h3⟩
          cases v <;> first | rfl | exact absurd rfl (hx _)

theorem kops_true {call : KCall} (hc : KOKc cf call) {ops : Array Oper} : ∀ (l : List Oper) {names : List Nat} {fr fr0 : T V} {ls : List V} {st : St} {k : T V → St → Bool}, Rel mask names fr ls fr0 → (kops P ro nt mask ops names l).run call fr ls st k = true →
    ∃ fr0' st', Even (fun m => vops P ro nt (cf m) ops l fr0 st) (fr0', st') ∧ ∃ fr', Rel mask [] fr' [] fr0' ∧ k fr' st' = true
  | [], names, fr, fr0, ls, st, k, hr, h => ⟨fr0, st, ⟨0, fun _ _ => rfl⟩, fr, hr.drop, h⟩
  | o :: r, names, fr, fr0, ls, st, k, hr, h => by
    have yes : vwanted ops fr0 o = some true → (kop P ro mask names o.op).run call fr ls st (fun v st => (kput nt mask o.dst).run fr ls v fun fr ls => (kops P ro nt mask ops (namesOf mask names o.dst) r).run call fr ls st k) = true →
        ∃ fr0' st', Even (fun m => vops P ro nt (cf m) ops (o :: r) fr0 st) (fr0', st') ∧ ∃ fr', Rel mask [] fr' [] fr0' ∧ k fr' st' = true := by
      intro hw h
      obtain ⟨v, st1, ⟨m1, h1⟩, h2⟩ := kop_true hr hc h
      obtain ⟨fr1, h3, fr2, ls2, hr2, h4⟩ := hr.put h2
      obtain ⟨fr3, st3, ⟨m2, h5⟩, h6⟩ := kops_true hc r hr2 h4
      dsimp only at h1 h5
      exact ⟨fr3, st3, ⟨max m1 m2, fun m' hm => by simp only [vops, hw, h1 m' (by omega), h3, h5 m' (by omega)]⟩, h6⟩
    cases hg : o.guard with
    | none =>
      simp only [kops, hg] at h
      exact yes (by unfold vwanted; rw [hg]) h
    | some g =>
      simp only [kops, hg] at h
      rw [← hg] at h
      rcases kwanted_true hr h with ⟨hw, h1⟩ | ⟨hw, h1⟩
      · exact yes hw h1
      · obtain ⟨fr1, h3, fr2, ls2, hr2, h4⟩ := hr.put h1
        obtain ⟨fr3, st3, ⟨m2, h5⟩, h6⟩ := kops_true hc r hr2 h4
        dsimp only at h5
        exact ⟨fr3, st3, ⟨m2, fun m' hm => by simp only [vops, hw, h3, h5 m' hm]⟩, h6⟩

theorem kopsQ_true {call : KCall} (hc : KOKc cf call) {ops : Array Oper} : ∀ (l : List Oper) {names : List Nat} {fr fr0 : T V} {ls : List V} {st : St} {k : T V → St → Bool}, Rel mask names fr ls fr0 → (kopsQ P ro nt mask ops names l).run call fr ls st k = true →
    ∃ fr0', Even (fun m => vopsQ P ro nt (cf m) ops l fr0 st) fr0' ∧ ∃ fr', Rel mask [] fr' [] fr0' ∧ k fr' st = true
  | [], names, fr, fr0, ls, st, k, hr, h => ⟨fr0, ⟨0, fun _ _ => rfl⟩, fr, hr.drop, h⟩
  | o :: r, names, fr, fr0, ls, st, k, hr, h => by
    have skip : vwanted ops fr0 o = some false → (kput nt mask o.dst).run fr ls none (fun fr ls => (kopsQ P ro nt mask ops (namesOf mask names o.dst) r).run call fr ls st k) = true →
        ∃ fr0', Even (fun m => vopsQ P ro nt (cf m) ops (o :: r) fr0 st) fr0' ∧ ∃ fr', Rel mask [] fr' [] fr0' ∧ k fr' st = true := by
      intro hw h1
      obtain ⟨fr1, h3, fr2, ls2, hr2, h4⟩ := hr.put h1
      obtain ⟨fr3, ⟨m2, h5⟩, h6⟩ := kopsQ_true hc r hr2 h4
      dsimp only at h5
      exact ⟨fr3, ⟨m2, fun m' hm => by simp only [vopsQ, hw, h3, h5 m' hm]⟩, h6⟩
    simp only [kopsQ] at h
    cases hq : quietOp o.op with
    | true =>
      rw [hq] at h
      rcases kwanted_true hr (show (kwanted mask names ops o.guard).run fr ls _ _ = true from h) with ⟨hw, h1⟩ | ⟨hw, h1⟩
      · obtain ⟨v, st1, ⟨m1, h2⟩, h3⟩ := kop_true hr hc h1
        obtain ⟨h4, h5⟩ := ifB_t h3
        obtain ⟨fr1, h6, fr2, ls2, hr2, h7⟩ := hr.put h5
        obtain ⟨fr3, ⟨m2, h8⟩, h9⟩ := kopsQ_true hc r hr2 h7
        dsimp only at h2 h8
        exact ⟨fr3, ⟨max m1 m2, fun m' hm => by simp only [vopsQ, hw, hq, h2 m' (by omega), h4, cond_true, h6, h8 m' (by omega)]⟩, h9⟩
      · exact skip hw h1
    | false =>
      rw [hq] at h
      rcases kwanted_true hr (show (kwanted mask names ops o.guard).run fr ls _ _ = true from h) with ⟨hw, h1⟩ | ⟨hw, h1⟩
      · exact no h1
      · exact skip hw h1

theorem kopsT_true {call : KCall} (hc : KOKc cf call) {ops : Array Oper} {tl : List Oper} : ∀ (l : List Oper) {names : List Nat} {fr fr0 : T V} {ls : List V} {st : St} {k : T V → St → Bool}, Rel mask names fr ls fr0 → (kopsT P ro nt mask ops tl names l).run call fr ls st k = true →
    ∃ fr0' fr1' st', Even (fun m => vopsQ P ro nt (cf m) ops l fr0 st) fr0' ∧ Even (fun m => vops P ro nt (cf m) ops tl fr0' st) (fr1', st') ∧ ∃ fr', Rel mask [] fr' [] fr1' ∧ k fr' st' = true
  | [], names, fr, fr0, ls, st, k, hr, h => by
    obtain ⟨fr1, st1, h1, h2⟩ := kops_true hc tl hr (show (kops P ro nt mask ops names tl).run call fr ls st k = true from h)
    exact ⟨fr0, fr1, st1, ⟨0, fun _ _ => rfl⟩, h1, h2⟩
  | o :: r, names, fr, fr0, ls, st, k, hr, h => by
    have skip : vwanted ops fr0 o = some false → (kput nt mask o.dst).run fr ls none (fun fr ls => (kopsT P ro nt mask ops tl (namesOf mask names o.dst) r).run call fr ls st k) = true →
        ∃ fr0' fr1' st', Even (fun m => vopsQ P ro nt (cf m) ops (o :: r) fr0 st) fr0' ∧ Even (fun m => vops P ro nt (cf m) ops tl fr0' st) (fr1', st') ∧ ∃ fr', Rel mask [] fr' [] fr1' ∧ k fr' st' = true := by
      intro hw h1
      obtain ⟨fr1, h3, fr2, ls2, hr2, h4⟩ := hr.put h1
      obtain ⟨fr3, fr4, st4, ⟨m2, h5⟩, h6⟩ := kopsT_true hc r hr2 h4
      dsimp only at h5
      exact ⟨fr3, fr4, st4, ⟨m2, fun m' hm => by simp only [vopsQ, hw, h3, h5 m' hm]⟩, h6⟩
    simp only [kopsT] at h
    cases hq : quietOp o.op with
    | true =>
      rw [hq] at h
      rcases kwanted_true hr (show (kwanted mask names ops o.guard).run fr ls _ _ = true from h) with ⟨hw, h1⟩ | ⟨hw, h1⟩
      · obtain ⟨v, st1, ⟨m1, h2⟩, h3⟩ := kop_true hr hc h1
        obtain ⟨h4, h5⟩ := ifB_t h3
        obtain ⟨fr1, h6, fr2, ls2, hr2, h7⟩ := hr.put h5
        obtain ⟨fr3, fr4, st4, ⟨m2, h8⟩, h9⟩ := kopsT_true hc r hr2 h7
        dsimp only at h2 h8
        exact ⟨fr3, fr4, st4, ⟨max m1 m2, fun m' hm => by simp only [vopsQ, hw, hq, h2 m' (by omega), h4, cond_true, h6, h8 m' (by omega)]⟩, h9⟩
      · exact skip hw h1
    | false =>
      rw [hq] at h
      rcases kwanted_true hr (show (kwanted mask names ops o.guard).run fr ls _ _ = true from h) with ⟨hw, h1⟩ | ⟨hw, h1⟩
      · exact no h1
      · exact skip hw h1

theorem kkeep_true {st : St} {b : Bool} : ∀ {es : List Ent}, kkeep P st es b = true → keepB P st es = true ∧ b = true
  | [], h => ⟨rfl, h⟩
  | e :: r, h => by
    have h' : (kload P e.t).run st e.id e.off (fun v => ifB (sameV v e.v) (kkeep P st r b) false) = true := h
    obtain ⟨v, h1, h2⟩ := kload_true h'
    obtain ⟨h3, h4⟩ := ifB_t h2
    obtain ⟨h5, h6⟩ := kkeep_true h4
    exact ⟨by simp only [keepB, h1, h3, cond_true, h5], h6⟩

theorem kkeep2_true {c : Bool} {st : St} {b : Bool} {es : List Ent} (h : kkeep2 P c st es b = true) : (c || keepB P st es) = true ∧ b = true := by
  cases c with
  | true => exact ⟨rfl, h⟩
  | false =>
    obtain ⟨h1, h2⟩ := kkeep_true (show kkeep P st es b = true from h)
    exact ⟨by rw [h1]; rfl, h2⟩
theorem krunF_true {call : KCall} (hc : KOKc cf call) {ops : Array Oper} {fin : List Nat → KRE} : ∀ (l : List (Nat × Oper)) {names : List Nat} {fr fr0 : T V} {ls : List V} {es : List Ent} {st : St} {k : T V → St → Bool}, Rel mask names fr ls fr0 → (krunF P ro nt mask ops fin names l).run call fr ls es st k = true →
    ∃ fr0' st', Even (fun m => runO P ro nt (cf m) ops l es fr0 st) (fr0', st') ∧ ∃ nm fr' ls' es', Rel mask nm fr' ls' fr0' ∧ (fin nm).run call fr' ls' es' st' k = true
  | [], names, fr, fr0, ls, es, st, k, hr, h => ⟨fr0, st, ⟨0, fun _ _ => rfl⟩, names, fr, ls, es, hr, h⟩
  | (i, o) :: r, names, fr, fr0, ls, es, st, k, hr, h => by
    have skip : vwanted ops fr0 o = some false → (kput nt mask o.dst).run fr ls none (fun fr ls => (krunF P ro nt mask ops fin (namesOf mask names o.dst) r).run call fr ls es st k) = true →
        ∃ fr0' st', Even (fun m => runO P ro nt (cf m) ops ((i, o) :: r) es fr0 st) (fr0', st') ∧ ∃ nm fr' ls' es', Rel mask nm fr' ls' fr0' ∧ (fin nm).run call fr' ls' es' st' k = true := by
      intro hw h1
      obtain ⟨fr1, h3, fr2, ls2, hr2, h4⟩ := hr.put h1
      obtain ⟨fr3, st3, ⟨m2, h5⟩, h6⟩ := krunF_true hc r hr2 h4
      dsimp only at h5
      exact ⟨fr3, st3, ⟨m2, fun m' hm => by simp only [runO, hw, h3, h5 m' hm]⟩, h6⟩
    simp only [krunF] at h
    split at h
    · rename_i hcl
      rcases kwanted_true hr (show (kwanted mask names ops o.guard).run fr ls _ _ = true from h) with ⟨hw, h1⟩ | ⟨hw, h1⟩
      · obtain ⟨v, st1, ⟨m1, h2⟩, h3⟩ := kop_true hr hc h1
        obtain ⟨fr1, h6, fr2, ls2, hr2, h7⟩ := hr.put h3
        obtain ⟨fr3, st3, ⟨m2, h8⟩, h9⟩ := krunF_true hc r hr2 h7
        dsimp only at h2 h8
        exact ⟨fr3, st3, ⟨max m1 m2, fun m' hm => by simp only [runO, hw, hcl, h2 m' (by omega), h6, h8 m' (by omega)]⟩, h9⟩
      · exact skip hw h1
    · rename_i hcl
      split at h
      · rename_i t x hop
        rcases kwanted_true hr (show (kwanted mask names ops o.guard).run fr ls _ _ = true from h) with ⟨hw, h1⟩ | ⟨hw, h1⟩
        · obtain ⟨v, h2, h3⟩ := kopnd_true hr h1
          obtain ⟨id, off, rfl, h4⟩ := onP_true h3
          obtain ⟨u, h5, h6⟩ := kload_true h4
          obtain ⟨fr1, h7, fr2, ls2, hr2, h8⟩ := hr.put h6
          obtain ⟨fr3, st3, ⟨m2, h9⟩, h10⟩ := krunF_true hc r hr2 h8
          dsimp only at h9
          exact ⟨fr3, st3, ⟨m2, fun m' hm => by
            unfold runO
            simp only [hw, hcl]
            rw [hop]
            simp only [h2, h5, h7]
            exact h9 m' hm⟩, h10⟩
        · exact skip hw h1
      · exact no h
    · rename_i h0 h1'
      rcases kwanted_true hr (show (kwanted mask names ops o.guard).run fr ls _ _ = true from h) with ⟨hw, h1⟩ | ⟨hw, h1⟩
      · obtain ⟨v, st1, ⟨m1, h2⟩, h3⟩ := kop_true hr hc h1
        obtain ⟨h4, h5⟩ := kkeep2_true h3
        obtain ⟨fr1, h6, fr2, ls2, hr2, h7⟩ := hr.put h5
        rw [natK_eq] at h7
        obtain ⟨fr3, st3, ⟨m2, h8⟩, h9⟩ := krunF_true hc r hr2 h7
        dsimp only at h2 h8
        refine ⟨fr3, st3, ⟨max m1 m2, fun m' hm => ?_⟩, h9⟩
        obtain ⟨n, hn⟩ : ∃ n, opCls o.op = n + 2 := by
          cases hq : opCls o.op with
          | zero => exact absurd hq h0
          | succ q => cases q with
            | zero => exact absurd hq h1'
            | succ q => exact ⟨q, rfl⟩
        unfold runO
        simp only [hw, hn, h2 m' (by omega), h4, h6, natF_eq]
        exact h8 m' (by omega)
      · exact skip hw h1

theorem krun_true {call : KCall} (hc : KOKc cf call) {ops : Array Oper} (l : List (Nat × Oper)) {names : List Nat} {fr fr0 : T V} {ls : List V} {es : List Ent} {st : St} {k : T V → St → Bool} (hr : Rel mask names fr ls fr0) (h : (krun P ro nt mask ops names l).run call fr ls es st k = true) :
    ∃ fr0' st', Even (fun m => runO P ro nt (cf m) ops l es fr0 st) (fr0', st') ∧ ∃ fr', Rel mask [] fr' [] fr0' ∧ k fr' st' = true := by
  obtain ⟨fr1, st1, h1, nm, fr2, ls2, es2, h2, h3⟩ := krunF_true hc l hr h
  exact ⟨fr1, st1, h1, fr2, h2.drop, h3⟩
theorem kpair_true {call : KCall} {o q : Oper} {names : List Nat} {fr fr0 : T V} {ls : List V} {es : List Ent} {st : St} {k : T V → St → Bool} (hr : Rel mask names fr ls fr0) (h : (kpair P ro mask o q names).run call fr ls es st k = true) :
    ∃ st', runPair P ro o q fr0 st = some st' ∧ k fr st' = true := by
  unfold kpair at h
  unfold runPair
  split at h
  · rename_i t x v t' y u e1 e2
    dsimp only at h
    obtain ⟨a, a1, a2⟩ := kopnd_true hr h
    obtain ⟨b, b1, b2⟩ := kopnd_true hr a2
    obtain ⟨c, c1, c2⟩ := kopnd_true hr b2
    obtain ⟨d, d1, d2⟩ := kopnd_true hr c2
    obtain ⟨g, o1, rfl, f1⟩ := onP_true d2
    obtain ⟨g', o2, rfl, f2⟩ := onP_true f1
    rcases ifB_true f2 with ⟨_, z⟩ | ⟨hg, f3⟩
    · cases z
    · obtain ⟨s1, s2, s3⟩ := kstore_true f3
      obtain ⟨s4, s5, s6⟩ := kstore_true s3
      exact ⟨s4, by rw [e1, e2]; simp only [a1, b1, c1, d1, hg, cond_false, s2, s5], s6⟩
  · cases h

/-! ### The flag -/

theorem noK_ok : KOKc (fun _ => noCall) noK := fun _ _ _ _ h => no h
theorem okO_true {fr fr0 : T V} (hr : Rel mask [] fr [] fr0) {o : Operand} (ho : okO mask o = true) {v : V} (h : opnd fr o = some v) : opnd fr0 o = some v := by
  cases o with
  | tmp t => exact hr.tree t v ho h
  | _ => exact h
theorem flagV_mono {F : FlagI} {nx : Nat} {fA fB frA frB fA0 fB0 frA0 frB0 : T V} {sB : St} (ho : flagOps F mask = true) (rA : Rel mask [] fA [] fA0) (rB : Rel mask [] fB [] fB0) (qA : Rel mask [] frA [] frA0) (qB : Rel mask [] frB [] frB0)
    (h : flagV P F nx fA fB sB frA frB = true) : flagV P F nx fA0 fB0 sB frA0 frB0 = true := by
  simp only [flagOps, List.all_cons, List.all_nil, Bool.and_true, Bool.and_eq_true] at ho
  obtain ⟨o1, o2, o3, o4, o5, o6, o7⟩ := ho
  unfold flagV at h ⊢
  cases x0 : opnd fA F.tA.cur with
  | none => simp [x0, sameO] at h
  | some y0 =>
  cases x1 : opnd fB F.tB.cur with
  | none => simp [x0, x1, sameO] at h
  | some y1 =>
  cases x2 : opnd frA F.tA.x with
  | none => simp [x2, sameO] at h
  | some y2 =>
  cases x3 : opnd frB F.tB.x with
  | none => simp [x2, x3, sameO] at h
  | some y3 =>
  cases x4 : opnd frA F.eI.ix with
  | none => simp [x1, x4] at h
  | some y4 =>
  cases x5 : opnd frA F.eI.v with
  | none => cases y4 <;> simp [x1, x4, x5] at h
  | some y5 =>
  cases x6 : opnd frB (.tmp F.tB.r) with
  | none => cases y4 <;> cases y3 <;> simp [x1, x4, x5, x3, x6] at h
  | some y6 =>
  rw [okO_true rA o1 x0, okO_true rB o2 x1, okO_true qA o3 x2, okO_true qB o4 x3, okO_true qA o5 x4, okO_true qA o6 x5, okO_true qB o7 x6]
  rw [x0, x1, x2, x3, x4, x5, x6] at h
  exact h
theorem flagChk_eq {call : CallF} {F : FlagI} {fr frA frB fA fB : T V} {st sA sB : St} (h1 : runO P ro nt call F.opsA (F.tA.pre ++ [(F.tA.i1, F.tA.o1)]) [] fr st = some (fA, sA)) (h2 : runO P ro nt call F.opsB (F.tB.pre ++ [(F.tB.i1, F.tB.o1)]) [] fr st = some (fB, sB)) :
    flagChk P ro nt call F fr st frA frB = flagV P F st.nx fA fB sB frA frB := by
  unfold flagChk
  rw [h1, h2]
  rfl
theorem pickK_eq {fr : T V} {k : T V → Bool} : ∀ (l : List Nat) (acc : T V), (pickK l).run fr acc k = k (pickL l fr acc)
  | [], acc => rfl
  | t :: r, acc => by
    simp only [pickK, pickL, getD_eq, updK_eq]
    cases fr.get t with
    | none => exact pickK_eq r acc
    | some v => exact pickK_eq r _
theorem eraseK_eq {k : T V → Bool} : ∀ (l : List Nat) (fr : T V), (eraseK l).run fr k = k (eraseL l fr)
  | [], fr => rfl
  | t :: r, fr => by
    simp only [eraseK, eraseL, updA_eq]
    exact eraseK_eq r _
theorem kflag_true {call : KCall} {F : FlagI} {fr : T V} {st : St} {kn : T V → St → Bool} {kx : Ex → T V → St → Bool} (h : (kflag P ro nt mask F).run call fr st kn kx = true) :
    (needOf F).all (liveB mask) = true ∧ ∃ st', flagSt P ro nt noCall F (pickL (needOf F) fr .e) ⟨st.nx + 1, st.hp, st.ver⟩ = some st' ∧ kn (eraseL (F.dead.filter (liveB mask)) fr) st' = true := by
  unfold kflag at h
  cases hl : ((needOf F).all (liveB mask) && flagOps F (2 ^ nt - 1)) with
  | false => rw [hl] at h; exact no h
  | true =>
    rw [hl] at h
    dsimp only at h
    rw [Bool.and_eq_true] at hl
    refine ⟨hl.1, ?_⟩
    rw [onSt_eq, natK_eq, pickK_eq] at h
    have rr : Rel (2 ^ nt - 1) [] (pickL (needOf F) fr .e) [] (pickL (needOf F) fr .e) := ⟨fun t v _ q => q, fun t j v q => (by cases q), fun t j q => (by cases q)⟩
    obtain ⟨frA0, stA, ⟨m1, e1⟩, frA, rA, h⟩ := krun_true noK_ok F.lA rr h
    obtain ⟨frE0, stE, ⟨m2, e2⟩, frE, rE, h⟩ := kops_true noK_ok F.opsE.toList rA h
    obtain ⟨fA0, sA, ⟨m3, e3⟩, fA, qA, h⟩ := krun_true noK_ok _ rr h
    obtain ⟨fB0, sB, ⟨m4, e4⟩, fB, qB, h⟩ := krun_true noK_ok _ rr h
    obtain ⟨frB0, stB, ⟨m5, e5⟩, frB, rB, h⟩ := krun_true noK_ok F.lB rr h
    have e1 := e1 m1 (Nat.le_refl _)
    have e2 := e2 m2 (Nat.le_refl _)
    have e3 := e3 m3 (Nat.le_refl _)
    have e4 := e4 m4 (Nat.le_refl _)
    have e5 := e5 m5 (Nat.le_refl _)
    dsimp only at e1 e2 e3 e4 e5
    obtain ⟨hc, h⟩ := ifB_t h
    rw [Bool.and_eq_true] at hc
    rw [onSt_eq, updA_eq, natK_eq, natK_eq, eraseK_eq] at h
    refine ⟨_, ?_, h⟩
    unfold flagSt
    rw [e1, e5]
    dsimp only
    rw [e2]
    dsimp only
    rw [flagChk_eq e3 e4, flagV_mono hl.2 qA qB rA rB hc.1, hc.2]
    rfl

/-! ### Code -/

theorem onExit_true {e : Ex} {k : Nat → Bool} {d : Bool} (h : onExit e k d = true) : (∃ i, e = .exit i ∧ k i = true) ∨ ((∀ i, e ≠ .exit i) ∧ d = true) := by
  cases e with
  | exit i => exact .inl ⟨i, rfl, h⟩
  | nrm => exact .inr ⟨fun i q => (by cases q), h⟩
  | goto l => exact .inr ⟨fun i q => (by cases q), h⟩
  | ret => exact .inr ⟨fun i q => (by cases q), h⟩

/-- What code comes to. -/
def CT (P : Program) (ov : Ov) (ro nt mask : Nat) (c : Code) (fr0 : T V) (st : St) (kn : T V → St → Bool) (kx : Ex → T V → St → Bool) : Prop :=
  ∃ e fr0' st', Even (fun n => evC P ov ro n nt c fr0 st) (e, fr0', st') ∧ ∃ fr', Rel mask [] fr' [] fr0' ∧ ((e = .nrm ∧ kn fr' st' = true) ∨ (e ≠ .nrm ∧ kx e fr' st' = true))
def BT (P : Program) (ov : Ov) (ro nt mask : Nat) (call : KCall) (c : Code) (b : KB) : Prop :=
  ∀ fr fr0 st kn kx, Rel mask [] fr [] fr0 → b.run call fr st kn kx = true → CT P ov ro nt mask c fr0 st kn kx

theorem CT.now {c : Code} {kn : T V → St → Bool} {kx : Ex → T V → St → Bool} {e : Ex} (hr : Rel mask [] fr [] fr0) (h : ∀ n, evC P ov ro (n + 1) nt c fr0 st = some (e, fr0, st)) (hk : (e = .nrm ∧ kn fr st = true) ∨ (e ≠ .nrm ∧ kx e fr st = true)) : CT P ov ro nt mask c fr0 st kn kx :=
  ⟨e, fr0, st, ⟨1, fun m' hm => by obtain ⟨n, rfl⟩ : ∃ n, m' = n + 1 := ⟨m' - 1, by omega⟩; exact h n⟩, fr, hr, hk⟩

theorem loopK_true {b : Code} {kb : KB} {call : KCall} (hb : BT P ov ro nt mask call b kb) {kx : Ex → T V → St → Bool} : ∀ (n : Nat) (fr fr0 : T V) (st : St), Rel mask [] fr [] fr0 → loopK kb call kx n fr st = true →
    ∃ e fr0' st', (∃ m, ∀ n' j, m ≤ n' → m ≤ j → loopGo (evC P ov ro n' nt b) j fr0 st = some (e, fr0', st')) ∧ ∃ fr', Rel mask [] fr' [] fr0' ∧ e ≠ .nrm ∧ kx e fr' st' = true
  | 0, fr, fr0, st, hr, h => no h
  | n + 1, fr, fr0, st, hr, h => by
    obtain ⟨e, fr1, st1, ⟨m1, h1⟩, fr2, hr2, h2⟩ := hb fr fr0 st (loopK kb call kx n) kx hr h
    dsimp only at h1
    rcases h2 with ⟨rfl, h2⟩ | ⟨hne, h2⟩
    · obtain ⟨e, fr3, st3, ⟨m2, h3⟩, h4⟩ := loopK_true hb n fr2 fr1 st1 hr2 h2
      refine ⟨e, fr3, st3, ⟨max m1 m2 + 1, fun n' j hn hj => ?_⟩, h4⟩
      obtain ⟨i, rfl⟩ : ∃ i, j = i + 1 := ⟨j - 1, by omega⟩
      simp only [loopGo, h1 n' (by omega), h3 n' i (by omega) (by omega)]
    · refine ⟨e, fr1, st1, ⟨m1 + 1, fun n' j hn hj => ?_⟩, fr2, hr2, hne, h2⟩
      obtain ⟨i, rfl⟩ : ∃ i, j = i + 1 := ⟨j - 1, by omega⟩
      simp only [loopGo, h1 n' (by omega)]
      cases e <;> first | rfl | exact absurd rfl hne

theorem kC_true {call : KCall} (hc : KOK P ov ro call) : ∀ c : Code, BT P ov ro nt mask call c (kC P ro nt mask L c) := by
  intro c
  induction c with
  | skip => intro fr fr0 st kn kx hr h; exact CT.now hr (fun n => rfl) (.inl ⟨rfl, h⟩)
  | label l => intro fr fr0 st kn kx hr h; exact CT.now hr (fun n => rfl) (.inl ⟨rfl, h⟩)
  | exit i => intro fr fr0 st kn kx hr h; exact CT.now hr (fun n => rfl) (.inr ⟨fun q => (by cases q), h⟩)
  | goto l => intro fr fr0 st kn kx hr h; exact CT.now hr (fun n => rfl) (.inr ⟨fun q => (by cases q), h⟩)
  | ret => intro fr fr0 st kn kx hr h; exact CT.now hr (fun n => rfl) (.inr ⟨fun q => (by cases q), h⟩)
  | refuse w => intro fr fr0 st kn kx hr h; exact no h
  | rangeFunc f ps a b _ _ => intro fr fr0 st kn kx hr h; exact no h
  | region i ops draw =>
    intro fr fr0 st kn kx hr h
    simp only [kC] at h
    cases draw with
    | false =>
      obtain ⟨fr1, st1, ⟨m, h1⟩, fr2, hr2, h2⟩ := kops_true hc ops.toList hr (show (kops P ro nt mask ops [] ops.toList).run call fr [] st kn = true from h)
      dsimp only at h1
      refine ⟨.nrm, fr1, st1, ⟨m + 1, fun m' hm => ?_⟩, fr2, hr2, .inl ⟨rfl, h2⟩⟩
      obtain ⟨n, rfl⟩ : ∃ n, m' = n + 1 := ⟨m' - 1, by omega⟩
      have := h1 n (by omega)
      simp only [evC]
      rw [← fnum, this]
    | true =>
      cases hB : lexQ1 P ops with
      | false =>
        rw [hB] at h
        dsimp only at h
        cases hT : tailB ops with
        | true =>
          rw [hT] at h
          obtain ⟨fr1, fr1', st1, ⟨m, h1⟩, ⟨m2, h1'⟩, fr2, hr2, h2⟩ := kopsT_true hc (ops.toList.take (ops.size - 1)) hr (show (kopsT P ro nt mask ops (ops.toList.drop (ops.size - 1)) [] (ops.toList.take (ops.size - 1))).run call fr [] st kn = true from h)
          dsimp only at h1 h1'
          refine ⟨.nrm, fr1', st1, ⟨max m m2 + 1, fun m' hm => ?_⟩, fr2, hr2, .inl ⟨rfl, h2⟩⟩
          obtain ⟨n, rfl⟩ : ∃ n, m' = n + 1 := ⟨m' - 1, by omega⟩
          have e1 := h1 n (by omega)
          have e2 := h1' n (by omega)
          simp only [evC, hB, hT]
          rw [← fnum, e1]
          dsimp only
          rw [e2]
        | false =>
          rw [hT] at h
          dsimp only at h
          cases hpl : planOf P ops with
          | none =>
            rw [hpl] at h
            dsimp only at h
            cases hL : lexQ ops with
            | false =>
              rw [hL] at h
              cases hpp : planPair ops with
              | none => rw [hpp] at h; exact no h
              | some u =>
                obtain ⟨l, o, q⟩ := u
                rw [hpp] at h
                obtain ⟨fr1, st1, ⟨m, h1⟩, nm, fr2, ls2, es2, hr2, h2⟩ := krunF_true hc l hr (show (krunF P ro nt mask ops (kpair P ro mask o q) [] l).run call fr [] [] st kn = true from h)
                dsimp only at h1
                obtain ⟨st2, p1, p2⟩ := kpair_true hr2 h2
                refine ⟨.nrm, fr1, st2, ⟨m + 1, fun m' hm => ?_⟩, fr2, hr2.drop, .inl ⟨rfl, p2⟩⟩
                obtain ⟨n, rfl⟩ : ∃ n, m' = n + 1 := ⟨m' - 1, by omega⟩
                have := h1 n (by omega)
                simp only [evC, hB, hT, hpl, hL, hpp]
                rw [← fnum, this]
                simp only [p1]
            | true =>
              rw [hL] at h
              obtain ⟨fr1, ⟨m, h1⟩, fr2, hr2, h2⟩ := kopsQ_true hc ops.toList hr (show (kopsQ P ro nt mask ops [] ops.toList).run call fr [] st kn = true from h)
              dsimp only at h1
              refine ⟨.nrm, fr1, st, ⟨m + 1, fun m' hm => ?_⟩, fr2, hr2, .inl ⟨rfl, h2⟩⟩
              obtain ⟨n, rfl⟩ : ∃ n, m' = n + 1 := ⟨m' - 1, by omega⟩
              have := h1 n (by omega)
              simp only [evC, hB, hT, hpl, hL]
              rw [← fnum, this]
          | some pl =>
            rw [hpl] at h
            obtain ⟨fr1, st1, ⟨m, h1⟩, fr2, hr2, h2⟩ := krun_true hc pl hr (show (krun P ro nt mask ops [] pl).run call fr [] [] st kn = true from h)
            dsimp only at h1
            refine ⟨.nrm, fr1, st1, ⟨m + 1, fun m' hm => ?_⟩, fr2, hr2, .inl ⟨rfl, h2⟩⟩
            obtain ⟨n, rfl⟩ : ∃ n, m' = n + 1 := ⟨m' - 1, by omega⟩
            have := h1 n (by omega)
            simp only [evC, hB, hT, hpl]
            rw [← fnum, this]
      | true =>
        rw [hB] at h
        obtain ⟨fr1, ⟨m, h1⟩, fr2, hr2, h2⟩ := kopsQ_true hc ops.toList hr (show (kopsQ P ro nt mask ops [] ops.toList).run call fr [] st kn = true from h)
        dsimp only at h1
        refine ⟨.nrm, fr1, st, ⟨m + 1, fun m' hm => ?_⟩, fr2, hr2, .inl ⟨rfl, h2⟩⟩
        obtain ⟨n, rfl⟩ : ∃ n, m' = n + 1 := ⟨m' - 1, by omega⟩
        have := h1 n (by omega)
        simp only [evC, hB]
        rw [← fnum, this]
  | seq a b iha ihb =>
    intro fr fr0 st kn kx hr h
    have e0 : kC P ro nt mask L (.seq a b) = match flagOf P nt a b with
      | some F => kflag P ro nt mask F
      | none => ⟨fun call fr st kn kx => (kC P ro nt mask L a).run call fr st (fun fr st => (kC P ro nt mask L b).run call fr st kn kx) kx⟩ := rfl
    rw [e0] at h
    cases hfl : flagOf P nt a b with
    | some F =>
      rw [hfl] at h
      dsimp only at h
      obtain ⟨hl, st', hs, h⟩ := kflag_true h
      obtain ⟨_, _, _, _, _, _, _, _, _, _, _, _, _, _, _, _, _, _, _, _, _, hdead⟩ := flagOf_spec hfl
      have hle : FLe (pickL (needOf F) fr .e) (eraseL [F.p, F.f] fr0) := by
        intro t v ht
        rcases pickL_get ht with q | ⟨q1, q2⟩
        · rw [T.get_e] at q; cases q
        · have hd : t ∉ F.dead := addN_dead (fun _ q => by cases q) t q1
          rw [eraseL_get, if_neg]
          · exact hr.tree t v (List.all_eq_true.1 hl t q1) q2
          · intro z
            apply hd
            rw [hdead]
            simp only [List.mem_cons, List.not_mem_nil, or_false] at z
            rcases z with rfl | rfl <;> simp
      refine ⟨.nrm, eraseL F.dead fr0, st', ⟨1, fun m' hm => ?_⟩, eraseL (F.dead.filter (liveB mask)) fr, ⟨fun t v hlv ht => ?_, fun t j v q => (by cases q), fun t j q => (by cases q)⟩, .inl ⟨rfl, h⟩⟩
      · obtain ⟨n, rfl⟩ : ∃ n, m' = n + 1 := ⟨m' - 1, by omega⟩
        simp only [evC, hfl]
        rw [flagSt_mono hle hs]
      · rw [eraseL_get] at ht
        split at ht
        · cases ht
        · rename_i hm
          rw [eraseL_get, if_neg]
          · exact hr.tree t v hlv ht
          · intro z
            exact hm (List.mem_filter.2 ⟨z, hlv⟩)
    | none =>
    rw [hfl] at h
    obtain ⟨e, fr1, st1, ⟨m1, h1⟩, fr2, hr2, h2⟩ := iha fr fr0 st _ kx hr (show (kC P ro nt mask L a).run call fr st _ kx = true from h)
    dsimp only at h1
    rcases h2 with ⟨rfl, h2⟩ | ⟨hne, h2⟩
    · obtain ⟨e, fr3, st3, ⟨m2, h3⟩, fr4, hr4, h4⟩ := ihb fr2 fr1 st1 kn kx hr2 h2
      dsimp only at h3
      refine ⟨e, fr3, st3, ⟨max m1 m2 + 1, fun m' hm => ?_⟩, fr4, hr4, h4⟩
      obtain ⟨n, rfl⟩ : ∃ n, m' = n + 1 := ⟨m' - 1, by omega⟩
      simp only [evC, hfl, h1 n (by omega), h3 n (by omega)]
    · refine ⟨e, fr1, st1, ⟨m1 + 1, fun m' hm => ?_⟩, fr2, hr2, .inr ⟨hne, h2⟩⟩
      obtain ⟨n, rfl⟩ : ∃ n, m' = n + 1 := ⟨m' - 1, by omega⟩
      simp only [evC, hfl, h1 n (by omega)]
      cases e <;> first | rfl | exact absurd rfl hne
  | cond x a b iha ihb =>
    intro fr fr0 st kn kx hr h
    obtain ⟨v, h1, h2⟩ := kopnd_true hr (show (kopnd mask [] x).run fr [] _ = true from h)
    rcases onB_true h2 with ⟨rfl, h3⟩ | ⟨rfl, h3⟩
    · obtain ⟨e, fr1, st1, ⟨m, h4⟩, h5⟩ := iha fr fr0 st kn kx hr h3
      dsimp only at h4
      refine ⟨e, fr1, st1, ⟨m + 1, fun m' hm => ?_⟩, h5⟩
      obtain ⟨n, rfl⟩ : ∃ n, m' = n + 1 := ⟨m' - 1, by omega⟩
      simp only [evC, h1, h4 n (by omega)]
    · obtain ⟨e, fr1, st1, ⟨m, h4⟩, h5⟩ := ihb fr fr0 st kn kx hr h3
      dsimp only at h4
      refine ⟨e, fr1, st1, ⟨m + 1, fun m' hm => ?_⟩, h5⟩
      obtain ⟨n, rfl⟩ : ∃ n, m' = n + 1 := ⟨m' - 1, by omega⟩
      simp only [evC, h1, h4 n (by omega)]
  | block i b ih =>
    intro fr fr0 st kn kx hr h
    obtain ⟨e, fr1, st1, ⟨m, h1⟩, fr2, hr2, h2⟩ := ih fr fr0 st kn _ hr (show (kC P ro nt mask L b).run call fr st kn _ = true from h)
    dsimp only at h1
    have up : ∀ r, (∀ n, m ≤ n → evC P ov ro (n + 1) nt (.block i b) fr0 st = some r) → Even (fun n => evC P ov ro n nt (.block i b) fr0 st) r := fun r hh => ⟨m + 1, fun m' hm => by
      obtain ⟨n, rfl⟩ : ∃ n, m' = n + 1 := ⟨m' - 1, by omega⟩
      exact hh n (by omega)⟩
    rcases h2 with ⟨rfl, h2⟩ | ⟨hne, h2⟩
    · exact ⟨.nrm, fr1, st1, up _ fun n hn => by simp only [evC, h1 n hn], fr2, hr2, .inl ⟨rfl, h2⟩⟩
    · rcases onExit_true h2 with ⟨j, rfl, h3⟩ | ⟨hx, h3⟩
      · rcases ifB_true h3 with ⟨h4, h5⟩ | ⟨h4, h5⟩
        · exact ⟨.nrm, fr1, st1, up _ fun n hn => by simp only [evC, h1 n hn, h4, cond_true], fr2, hr2, .inl ⟨rfl, h5⟩⟩
        · exact ⟨.exit j, fr1, st1, up _ fun n hn => by simp only [evC, h1 n hn, h4, cond_false], fr2, hr2, .inr ⟨hne, h5⟩⟩
      · refine ⟨e, fr1, st1, up _ fun n hn => ?_, fr2, hr2, .inr ⟨hne, h3⟩⟩
        simp only [evC, h1 n hn]
        cases e <;> first | rfl | exact absurd rfl (hx _)
  | loop b ih =>
    intro fr fr0 st kn kx hr h
    obtain ⟨e, fr1, st1, ⟨m, h1⟩, fr2, hr2, hne, h2⟩ := loopK_true ih L fr fr0 st hr (show loopK (kC P ro nt mask L b) call kx L fr st = true from h)
    refine ⟨e, fr1, st1, ⟨m + 1, fun m' hm => ?_⟩, fr2, hr2, .inr ⟨hne, h2⟩⟩
    obtain ⟨n, rfl⟩ : ∃ n, m' = n + 1 := ⟨m' - 1, by omega⟩
    simp only [evC]
    exact h1 n n (by omega) (by omega)
  | scope b ih =>
    intro fr fr0 st kn kx hr h
    obtain ⟨e, fr1, st1, ⟨m, h1⟩, fr2, hr2, h2⟩ := ih fr fr0 st kn _ hr (show (kC P ro nt mask L b).run call fr st kn _ = true from h)
    dsimp only at h1
    have fin : (∀ l, e ≠ .goto l) → Even (fun n => evC P ov ro n nt (.scope b) fr0 st) (e, fr1, st1) := fun hno => ⟨m + 2, fun m' hm => by
      obtain ⟨n, rfl⟩ : ∃ n, m' = n + 2 := ⟨m' - 2, by omega⟩
      show evC P ov ro (n + 2) nt (.scope b) fr0 st = _
      rw [show evC P ov ro (n + 2) nt (.scope b) fr0 st = scopeGo (evC P ov ro (n + 1) nt) b (n + 1) b fr0 st from rfl]
      simp only [scopeGo, h1 (n + 1) (by omega)]
      cases e <;> first | rfl | exact absurd rfl (hno _)⟩
    rcases h2 with ⟨rfl, h2⟩ | ⟨hne, h2⟩
    · exact ⟨.nrm, fr1, st1, fin (fun l q => by cases q), fr2, hr2, .inl ⟨rfl, h2⟩⟩
    · cases e with
      | goto l => exact no h2
      | nrm => exact absurd rfl hne
      | exit i => exact ⟨_, fr1, st1, fin (fun l q => by cases q), fr2, hr2, .inr ⟨hne, h2⟩⟩
      | ret => exact ⟨_, fr1, st1, fin (fun l q => by cases q), fr2, hr2, .inr ⟨hne, h2⟩⟩

/-! ### Calls -/

theorem frameK_step {k : T V → Bool} : ∀ (l : List V) (i : Nat) (fr : T V), (List.rec (motive := fun _ => Nat → T V → Bool) (fun _ fr => k fr) (fun v _ ih i fr => updK (pathOf i) fr v fun fr => natK (i + 1) fun i => ih i fr) l i fr : Bool) = k (frameOf l i fr)
  | [], i, fr => rfl
  | v :: r, i, fr => by
    have := frameK_step (k := k) r (i + 1) (fr.upd i (some v))
    show updK (pathOf i) fr v (fun fr => natK (i + 1) fun i => _) = _
    rw [updK_eq, natK_eq, frameOf, V.force_eq]
    exact this
theorem frameK_eq (l : List V) (k : T V → Bool) : frameK l k = k (frameOf l 0 .e) := frameK_step l 0 .e

theorem kres_true (hr : Rel mask [] fr [] fr0) : ∀ {l : List ResultVar} {k : List V → Bool}, (kres P mask l).run fr st k = true → ∃ vs, resultsOf P fr0 st l = some vs ∧ k vs = true
  | [], k, h => ⟨[], rfl, h⟩
  | .tmp t :: r, k, h => by
    obtain ⟨v, h1, h2⟩ := ktmp_true hr (show (ktmp mask [] t).run fr [] _ = true from h)
    obtain ⟨vs, h3, h4⟩ := kres_true hr h2
    exact ⟨v :: vs, by simp only [resultsOf, resultOf, h1, h3], h4⟩
  | .cell a t :: r, k, h => by
    obtain ⟨v, h1, h2⟩ := ktmp_true hr (show (ktmp mask [] a).run fr [] _ = true from h)
    obtain ⟨g, o, rfl, h3⟩ := onP_true h2
    obtain ⟨v, h4, h5⟩ := kload_true h3
    obtain ⟨vs, h6, h7⟩ := kres_true hr h5
    exact ⟨v :: vs, by simp only [resultsOf, resultOf, h1, h4, h6], h7⟩

theorem onRet_true {e : Ex} {d : Bool} (h : onRet e d = true) : e = .ret ∧ d = true := by
  cases e with
  | ret => exact ⟨rfl, h⟩
  | _ => exact no h

theorem kcall_true {live : Nat → Nat} : ∀ n : Nat, KOK P ov ro (kcall P live ov ro L n)
  | 0 => fun f args st k h => no h
  | n + 1 => by
    intro f args st k h
    have ih : KOK P ov ro (kcall P live ov ro L n) := kcall_true n
    have h' : (match ov f args st with
      | some (v, st) => forceK v fun v => k v st
      | none => (kfun P live ro L f).run (kcall P live ov ro L n) args st k) = true := h
    cases ho : ov f args st with
    | some v =>
      obtain ⟨v, st1⟩ := v
      rw [ho] at h'
      dsimp only at h'
      rw [forceK_eq] at h'
      exact ⟨v, st1, ⟨0, fun m _ => by unfold evF callGo; simp only [ho]⟩, h'⟩
    | none =>
      rw [ho] at h'
      dsimp only at h'
      unfold kfun at h'
      cases hf : P.funcs[f]? with
      | none => rw [hf] at h'; exact no h'
      | some fn =>
        rw [hf] at h'
        dsimp only at h'
        cases hb : fn.body with
        | none => rw [hb] at h'; exact no h'
        | some c =>
          rw [hb] at h'
          dsimp only at h'
          rw [natF_eq, natF_eq] at h'
          obtain ⟨h1, h2⟩ := ifB_t h'
          rw [frameK_eq] at h2
          have hr0 : Rel (live f) [] (frameOf args 0 .e) [] (frameOf args 0 .e) := ⟨fun _ _ _ q => q, fun t j v e => (by cases e), fun t j e => (by cases e)⟩
          obtain ⟨e, fr1, st1, ⟨m, h3⟩, fr2, hr2, h4⟩ := kC_true (nt := fn.ntmps) (mask := live f) (L := L) ih c _ _ st _ _ hr0 h2
          dsimp only at h3
          have fin : (e = .nrm ∨ e = .ret) → (kres P (live f) fn.results.toList).run fr2 st1 (fun vs => k (oneOf vs) st1) = true → ∃ v st', Even (fun m => evF P ov ro m f args st) (v, st') ∧ k v st' = true := by
            intro he hk
            obtain ⟨vs, h5, h6⟩ := kres_true hr2 hk
            refine ⟨oneOf vs, st1, ⟨m, fun m' hm => ?_⟩, h6⟩
            unfold evF callGo
            simp only [ho, hf, hb, h1, cond_true, h3 m' hm]
            rcases he with rfl | rfl <;> simp only [h5]
          rcases h4 with ⟨rfl, h4⟩ | ⟨hne, h4⟩
          · exact fin (.inl rfl) h4
          · obtain ⟨rfl, h5⟩ := onRet_true h4
            exact fin (.inr rfl) h5

/-- WHAT THE FASTER EVALUATOR TELLS IS SO. -/
theorem kAnswers_true {live : Nat → Nat} {gs : List (Nat × List V)} {n f : Nat} {args : List V} (h : kAnswers P live ov gs L n f args = true) : ∃ m st', evF P ov GL m f args (st0 gs) = some (.b true, st') := by
  obtain ⟨v, st', ⟨m, h1⟩, h2⟩ := kcall_true n f args (st0 gs) _ h
  rcases onB_true h2 with ⟨rfl, _⟩ | ⟨_, h3⟩
  · exact ⟨m, st', h1 m (Nat.le_refl _)⟩
  · exact no h3
end
end Go.Vk
