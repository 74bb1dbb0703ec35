/-
  What runs on few names runs on more. Plain lemmas. Nothing is claimed here.
-/
import Derived.Test.YtnfddmjbfkfnhaaGreatDoorVf3
namespace Go.Vm
open Go.RowKit

def FLe (fr fr' : T V) : Prop := ∀ t v, fr.get t = some v → fr'.get t = some v
def noCall : CallF := fun _ _ _ => none

section
variable {P : Program} {ro nt : Nat} {call : CallF} {fr fr' : T V}

theorem opnd_mono (h : FLe fr fr') {x : Operand} {v : V} (hx : opnd fr x = some v) : opnd fr' x = some v := by
  cases x with
  | tmp t => exact h t v hx
  | _ => exact hx
theorem opnds_mono (h : FLe fr fr') : ∀ {l : List Operand} {vs : List V}, opnds fr l = some vs → opnds fr' l = some vs
  | [], vs, hx => hx
  | x :: l, vs, hx => by
    simp only [opnds] at hx ⊢
    cases h1 : opnd fr x with
    | none => simp [h1] at hx
    | some v =>
      simp only [h1] at hx
      cases h2 : opnds fr l with
      | none => simp [h2] at hx
      | some us =>
        simp only [h2] at hx
        simp only [opnd_mono h h1, opnds_mono h h2]
        exact hx
theorem partsOf_mono (h : FLe fr fr') : ∀ {l : List (Nat × Operand)} {vs : List (Nat × V)}, partsOf fr l = some vs → partsOf fr' l = some vs
  | [], vs, hx => hx
  | (i, x) :: l, vs, hx => by
    simp only [partsOf] at hx ⊢
    cases h1 : opnd fr x with
    | none => simp [h1] at hx
    | some v =>
      simp only [h1] at hx
      cases h2 : partsOf fr l with
      | none => simp [h2] at hx
      | some us =>
        simp only [h2] at hx
        simp only [opnd_mono h h1, partsOf_mono h h2]
        exact hx
theorem mapo_mono (h : FLe fr fr') {o : Option Operand} {r : Option V} (hx : (match o with | none => some none | some o => (opnd fr o).map some) = some r) : (match o with | none => some none | some o => (opnd fr' o).map some) = some r := by
  cases o with
  | none => exact hx
  | some o =>
    dsimp only at hx ⊢
    cases h1 : opnd fr o with
    | none => simp [h1] at hx
    | some v => rw [opnd_mono h h1]; rw [h1] at hx; exact hx

theorem vop_mono (hle : FLe fr fr') {st : St} {op : Op} {R : Option V × St} (h : vop P ro noCall fr st op = some R) : vop P ro call fr' st op = some R := by
  cases op with
  | move x =>
    simp only [vop] at h ⊢
    cases e0 : opnd fr x with
    | none => simp [e0] at h
    | some u0 =>
      simp only [e0] at h
      simp only [opnd_mono hle e0]
      exact h
  | assign x =>
    simp only [vop] at h ⊢
    cases e0 : opnd fr x with
    | none => simp [e0] at h
    | some u0 =>
      simp only [e0] at h
      simp only [opnd_mono hle e0]
      exact h
  | pick c a b =>
    simp only [vop] at h ⊢
    cases e0 : opnd fr c with
    | none => simp [e0] at h
    | some u =>
      simp only [e0] at h
      simp only [opnd_mono hle e0]
      cases u <;> simp only [reduceCtorEq] at h
      rename_i x
      cases e1 : opnd fr (cond x a b) with
      | none => simp [e1] at h
      | some v => simp only [e1] at h; simp only [opnd_mono hle e1]; exact h
  | binOp op t x y _ =>
    simp only [vop] at h ⊢
    cases e0 : opnd fr x with
    | none => simp [e0] at h
    | some u0 =>
      cases e1 : opnd fr y with
      | none => simp [e0, e1] at h
      | some u1 =>
        simp only [e0, e1] at h
        simp only [opnd_mono hle e0, opnd_mono hle e1]
        exact h
  | unOp op _ x =>
    simp only [vop] at h ⊢
    cases e0 : opnd fr x with
    | none => simp [e0] at h
    | some u0 =>
      simp only [e0] at h
      simp only [opnd_mono hle e0]
      exact h
  | convert s d x =>
    simp only [vop] at h ⊢
    cases e0 : opnd fr x with
    | none => simp [e0] at h
    | some u0 =>
      simp only [e0] at h
      simp only [opnd_mono hle e0]
      exact h
  | field t x f =>
    simp only [vop] at h ⊢
    cases e0 : opnd fr x with
    | none => simp [e0] at h
    | some u0 =>
      simp only [e0] at h
      simp only [opnd_mono hle e0]
      exact h
  | index t x i =>
    simp only [vop] at h ⊢
    cases e0 : opnd fr x with
    | none => simp [e0] at h
    | some u0 =>
      cases e1 : opnd fr i with
      | none => simp [e0, e1] at h
      | some u1 =>
        simp only [e0, e1] at h
        simp only [opnd_mono hle e0, opnd_mono hle e1]
        exact h
  | indexAddr t x i =>
    simp only [vop] at h ⊢
    cases e0 : opnd fr x with
    | none => simp [e0] at h
    | some u0 =>
      cases e1 : opnd fr i with
      | none => simp [e0, e1] at h
      | some u1 =>
        simp only [e0, e1] at h
        simp only [opnd_mono hle e0, opnd_mono hle e1]
        exact h
  | fieldAddr t x f =>
    simp only [vop] at h ⊢
    cases e0 : opnd fr x with
    | none => simp [e0] at h
    | some u0 =>
      simp only [e0] at h
      simp only [opnd_mono hle e0]
      exact h
  | load t x =>
    simp only [vop] at h ⊢
    cases e0 : opnd fr x with
    | none => simp [e0] at h
    | some u0 =>
      simp only [e0] at h
      simp only [opnd_mono hle e0]
      exact h
  | store t x v =>
    simp only [vop] at h ⊢
    cases e0 : opnd fr x with
    | none => simp [e0] at h
    | some u0 =>
      cases e1 : opnd fr v with
      | none => simp [e0, e1] at h
      | some u1 =>
        simp only [e0, e1] at h
        simp only [opnd_mono hle e0, opnd_mono hle e1]
        exact h
  | alloc t => exact h
  | box t x =>
    simp only [vop] at h ⊢
    cases e0 : opnd fr x with
    | none => simp [e0] at h
    | some u0 =>
      simp only [e0] at h
      simp only [opnd_mono hle e0]
      exact h
  | build t ps =>
    simp only [vop] at h ⊢
    cases e0 : partsOf fr ps.toList with
    | none => simp [e0] at h
    | some u0 =>
      simp only [e0] at h
      simp only [partsOf_mono hle e0]
      exact h
  | buildSlice t len ps =>
    simp only [vop] at h ⊢
    cases e0 : partsOf fr ps.toList with
    | none => simp [e0] at h
    | some u0 =>
      simp only [e0] at h
      simp only [partsOf_mono hle e0]
      exact h
  | makeSlice t l c =>
    simp only [vop] at h ⊢
    cases e0 : opnd fr l with
    | none => simp [e0] at h
    | some u0 =>
      cases e1 : opnd fr c with
      | none => simp [e0, e1] at h
      | some u1 =>
        simp only [e0, e1] at h
        simp only [opnd_mono hle e0, opnd_mono hle e1]
        exact h
  | slice t x lo hi mx =>
    simp only [vop] at h ⊢
    cases e0 : opnd fr x with
    | none => simp [e0] at h
    | some u =>
      simp only [e0] at h
      simp only [opnd_mono hle e0]
      cases lo with
      | none =>
        cases hi with
        | none =>
          cases mx with
          | none =>
            dsimp only at h ⊢
            exact h
          | some mx0 =>
            dsimp only at h ⊢
            cases qmx0 : opnd fr mx0 with
            | none => simp [qmx0] at h
            | some wmx0 =>
              simp only [qmx0] at h
              simp only [opnd_mono hle qmx0]
              exact h
        | some hi0 =>
          cases mx with
          | none =>
            dsimp only at h ⊢
            cases qhi0 : opnd fr hi0 with
            | none => simp [qhi0] at h
            | some whi0 =>
              simp only [qhi0] at h
              simp only [opnd_mono hle qhi0]
              exact h
          | some mx0 =>
            dsimp only at h ⊢
            cases qhi0 : opnd fr hi0 with
            | none => simp [qhi0] at h
            | some whi0 =>
              cases qmx0 : opnd fr mx0 with
              | none => simp [qhi0, qmx0] at h
              | some wmx0 =>
                simp only [qhi0, qmx0] at h
                simp only [opnd_mono hle qhi0, opnd_mono hle qmx0]
                exact h
      | some lo0 =>
        cases hi with
        | none =>
          cases mx with
          | none =>
            dsimp only at h ⊢
            cases qlo0 : opnd fr lo0 with
            | none => simp [qlo0] at h
            | some wlo0 =>
              simp only [qlo0] at h
              simp only [opnd_mono hle qlo0]
              exact h
          | some mx0 =>
            dsimp only at h ⊢
            cases qlo0 : opnd fr lo0 with
            | none => simp [qlo0] at h
            | some wlo0 =>
              cases qmx0 : opnd fr mx0 with
              | none => simp [qlo0, qmx0] at h
              | some wmx0 =>
                simp only [qlo0, qmx0] at h
                simp only [opnd_mono hle qlo0, opnd_mono hle qmx0]
                exact h
        | some hi0 =>
          cases mx with
          | none =>
            dsimp only at h ⊢
            cases qlo0 : opnd fr lo0 with
            | none => simp [qlo0] at h
            | some wlo0 =>
              cases qhi0 : opnd fr hi0 with
              | none => simp [qlo0, qhi0] at h
              | some whi0 =>
                simp only [qlo0, qhi0] at h
                simp only [opnd_mono hle qlo0, opnd_mono hle qhi0]
                exact h
          | some mx0 =>
            dsimp only at h ⊢
            cases qlo0 : opnd fr lo0 with
            | none => simp [qlo0] at h
            | some wlo0 =>
              cases qhi0 : opnd fr hi0 with
              | none => simp [qlo0, qhi0] at h
              | some whi0 =>
                cases qmx0 : opnd fr mx0 with
                | none => simp [qlo0, qhi0, qmx0] at h
                | some wmx0 =>
                  simp only [qlo0, qhi0, qmx0] at h
                  simp only [opnd_mono hle qlo0, opnd_mono hle qhi0, opnd_mono hle qmx0]
                  exact h
  | nilCheck x =>
    simp only [vop] at h ⊢
    cases e0 : opnd fr x with
    | none => simp [e0] at h
    | some u0 =>
      simp only [e0] at h
      simp only [opnd_mono hle e0]
      exact h
  | makeFunc fn first caps =>
    simp only [vop] at h ⊢
    cases e0 : opnds fr first.toList with
    | none => simp [e0] at h
    | some u0 =>
      cases e1 : opnds fr caps.toList with
      | none => simp [e0, e1] at h
      | some u1 =>
        simp only [e0, e1] at h
        simp only [opnds_mono hle e0, opnds_mono hle e1]
        exact h
  | extract x i =>
    simp only [vop] at h ⊢
    cases e0 : opnd fr x with
    | none => simp [e0] at h
    | some u0 =>
      simp only [e0] at h
      simp only [opnd_mono hle e0]
      exact h
  | call c =>
    simp only [vop] at h ⊢
    cases e0 : opnds fr c.args.toList with
    | none => simp [e0] at h
    | some as =>
      simp only [e0] at h
      simp only [opnds_mono hle e0]
      cases hc : c.callee with
      | builtin b => simp only [hc] at h ⊢; exact h
      | value f =>
        simp only [hc] at h
        exfalso
        cases e1 : opnd fr f with
        | none => simp [e1] at h
        | some u =>
          cases u <;> simp only [e1, reduceCtorEq] at h
          rename_i fn _ _
          cases fn <;> simp [noCall] at h
      | invoke r m => simp [hc] at h
  | makeMap t n =>
    cases n with
    | none => exact h
    | some n => simp [vop] at h
  | lookup t x k ok =>
    simp only [vop] at h ⊢
    cases e0 : opnd fr x with
    | none => simp [e0] at h
    | some u0 =>
      cases e1 : opnd fr k with
      | none => simp [e0, e1] at h
      | some u1 =>
        simp only [e0, e1] at h
        simp only [opnd_mono hle e0, opnd_mono hle e1]
        exact h
  | mapUpdate t m k x =>
    simp only [vop] at h ⊢
    cases e0 : opnd fr m with
    | none => simp [e0] at h
    | some u0 =>
      cases e1 : opnd fr k with
      | none => simp [e0, e1] at h
      | some u1 =>
        cases e2 : opnd fr x with
        | none => simp [e0, e1, e2] at h
        | some u2 =>
          simp only [e0, e1, e2] at h
          simp only [opnd_mono hle e0, opnd_mono hle e1, opnd_mono hle e2]
          exact h
  | _ => simp [vop] at h

theorem vwanted_mono (hle : FLe fr fr') {ops : Array Oper} {o : Oper} {b : Bool} (h : vwanted ops fr o = some b) : vwanted ops fr' o = some b := by
  unfold vwanted at h ⊢
  split
  · rename_i hg; rw [hg] at h; exact h
  · rename_i j want hg
    rw [hg] at h
    dsimp only at h
    split
    · rename_i hd; rw [hd] at h; exact h
    · rename_i d hd
      rw [hd] at h
      dsimp only at h
      cases e : fr.get d with
      | none => rw [e] at h; cases h
      | some u => rw [hle d u e]; rw [e] at h; exact h
theorem vput_mono (hle : FLe fr fr') {dst : Option Nat} {v : Option V} {f1 : T V} (h : vput nt fr dst v = some f1) : ∃ f2, vput nt fr' dst v = some f2 ∧ FLe f1 f2 := by
  cases dst with
  | none => simp only [vput, Option.some.injEq] at h; subst h; exact ⟨fr', rfl, hle⟩
  | some d =>
    simp only [vput] at h ⊢
    have up : ∀ u : V, FLe (fr.upd d (some u)) (fr'.upd d (some u)) := fun u t w ht => by
      rw [T.get_upd] at ht ⊢
      split at ht
      · rename_i q; rw [if_pos q]; exact ht
      · rename_i q; rw [if_neg q]; exact hle t w ht
    cases hb : Nat.blt d nt with
    | false => simp [hb] at h
    | true =>
      simp only [hb, cond_true] at h ⊢
      cases v with
      | none => simp only [Option.some.injEq] at h; subst h; exact ⟨_, rfl, up _⟩
      | some v => simp only [V.force_eq, Option.some.injEq] at h ⊢; subst h; exact ⟨_, rfl, up _⟩

variable {ops : Array Oper}
theorem stepO_mono (hle : FLe fr fr') {i : Nat} {o : Oper} {es es1 : List Ent} {f1 : T V} {st st1 : St} (h : stepO P ro nt noCall ops i o es fr st = some (es1, f1, st1)) : ∃ f2, stepO P ro nt call ops i o es fr' st = some (es1, f2, st1) ∧ FLe f1 f2 := by
  unfold stepO at h ⊢
  cases hw : vwanted ops fr o with
  | none => simp [hw] at h
  | some b =>
    rw [hw] at h
    rw [vwanted_mono hle hw]
    cases b with
    | false =>
      dsimp only at h ⊢
      cases hp : vput nt fr o.dst none with
      | none => simp [hp] at h
      | some g =>
        simp only [hp, Option.some.injEq, Prod.mk.injEq] at h
        obtain ⟨rfl, rfl, rfl⟩ := h
        obtain ⟨g2, h1, h2⟩ := vput_mono hle hp
        exact ⟨g2, by simp only [h1], h2⟩
    | true =>
      dsimp only at h ⊢
      rcases hk : opCls o.op with _ | _ | k
      · simp only [hk] at h ⊢
        cases hv : vop P ro noCall fr ⟨st.nx, .e, 0⟩ o.op with
        | none => simp [hv] at h
        | some q =>
          obtain ⟨v, s⟩ := q
          simp only [hv] at h
          rw [vop_mono (call := call) hle hv]
          dsimp only
          cases hp : vput nt fr o.dst v with
          | none => simp [hp] at h
          | some g =>
            simp only [hp, Option.some.injEq, Prod.mk.injEq] at h
            obtain ⟨rfl, rfl, rfl⟩ := h
            obtain ⟨g2, h1, h2⟩ := vput_mono hle hp
            exact ⟨g2, by simp only [h1], h2⟩
      · simp only [hk, Nat.zero_add] at h ⊢
        cases hop : o.op with
        | load t x =>
          simp only [hop] at h ⊢
          cases hx : opnd fr x with
          | none => simp [hx] at h
          | some u =>
            simp only [hx] at h
            rw [opnd_mono hle hx]
            cases u <;> simp only [reduceCtorEq] at h ⊢
            rename_i g o'
            cases hv : vload P st t g o' with
            | none => simp [hv] at h
            | some v =>
              simp only [hv] at h ⊢
              cases hp : vput nt fr o.dst (some v) with
              | none => simp [hp] at h
              | some g =>
                simp only [hp, Option.some.injEq, Prod.mk.injEq] at h
                obtain ⟨rfl, rfl, rfl⟩ := h
                obtain ⟨g2, h1, h2⟩ := vput_mono hle hp
                exact ⟨g2, by simp only [h1], h2⟩
        | _ => simp [hop] at h
      · simp only [hk] at h ⊢
        cases hv : vop P ro noCall fr ⟨st.nx, st.hp, st.nx⟩ o.op with
        | none => simp [hv] at h
        | some q =>
          obtain ⟨v, s⟩ := q
          simp only [hv] at h
          rw [vop_mono (call := call) hle hv]
          dsimp only
          cases hb : (Nat.ble st.nx s.ver || keepB P s (aliveE ops i es)) with
          | false => simp [hb] at h
          | true =>
            simp only [hb] at h ⊢
            cases hp : vput nt fr o.dst v with
            | none => simp [hp] at h
            | some g =>
              simp only [hp, Option.some.injEq, Prod.mk.injEq] at h
              obtain ⟨rfl, rfl, rfl⟩ := h
              obtain ⟨g2, h1, h2⟩ := vput_mono hle hp
              exact ⟨g2, by simp only [h1], h2⟩
theorem runO_mono : ∀ {l : List (Nat × Oper)} {es : List Ent} {fr fr' f1 : T V} {st st1 : St}, FLe fr fr' → runO P ro nt noCall ops l es fr st = some (f1, st1) → ∃ f2, runO P ro nt call ops l es fr' st = some (f2, st1) ∧ FLe f1 f2
  | [], es, fr, fr', f1, st, st1, hle, h => by
    simp only [runO, Option.some.injEq, Prod.mk.injEq] at h
    obtain ⟨rfl, rfl⟩ := h
    exact ⟨fr', rfl, hle⟩
  | (i, o) :: l, es, fr, fr', f1, st, st1, hle, h => by
    rw [runO_cons] at h
    cases hs : stepO P ro nt noCall ops i o es fr st with
    | none => rw [hs] at h; cases h
    | some q =>
      obtain ⟨es0, fr0, st0⟩ := q
      rw [hs] at h
      obtain ⟨g, h1, h2⟩ := stepO_mono (call := call) hle hs
      obtain ⟨g2, h3, h4⟩ := runO_mono h2 h
      exact ⟨g2, by rw [runO_cons, h1]; exact h3, h4⟩
theorem vops_mono : ∀ {l : List Oper} {fr fr' f1 : T V} {st st1 : St}, FLe fr fr' → vops P ro nt noCall ops l fr st = some (f1, st1) → ∃ f2, vops P ro nt call ops l fr' st = some (f2, st1) ∧ FLe f1 f2
  | [], fr, fr', f1, st, st1, hle, h => by
    simp only [vops, Option.some.injEq, Prod.mk.injEq] at h
    obtain ⟨rfl, rfl⟩ := h
    exact ⟨fr', rfl, hle⟩
  | o :: l, fr, fr', f1, st, st1, hle, h => by
    simp only [vops] at h ⊢
    cases hw : vwanted ops fr o with
    | none => simp [hw] at h
    | some b =>
      rw [hw] at h
      rw [vwanted_mono hle hw]
      cases b with
      | false =>
        dsimp only at h ⊢
        cases hp : vput nt fr o.dst none with
        | none => simp [hp] at h
        | some g =>
          simp only [hp] at h
          obtain ⟨g2, h1, h2⟩ := vput_mono hle hp
          obtain ⟨g3, h3, h4⟩ := vops_mono h2 h
          exact ⟨g3, by simp only [h1]; exact h3, h4⟩
      | true =>
        dsimp only at h ⊢
        cases hv : vop P ro noCall fr st o.op with
        | none => simp [hv] at h
        | some q =>
          obtain ⟨v, s⟩ := q
          simp only [hv] at h
          rw [vop_mono (call := call) hle hv]
          dsimp only
          cases hp : vput nt fr o.dst v with
          | none => simp [hp] at h
          | some g =>
            simp only [hp] at h
            obtain ⟨g2, h1, h2⟩ := vput_mono hle hp
            obtain ⟨g3, h3, h4⟩ := vops_mono h2 h
            exact ⟨g3, by simp only [h1]; exact h3, h4⟩

theorem sameO_mono {f g f' g' : T V} (h1 : FLe f f') (h2 : FLe g g') {x y : Operand} (h : sameO (opnd f x) (opnd g y) = true) : sameO (opnd f' x) (opnd g' y) = true := by
  cases e1 : opnd f x with
  | none => simp [e1, sameO] at h
  | some u =>
    cases e2 : opnd g y with
    | none => simp [e1, e2, sameO] at h
    | some v => rw [opnd_mono h1 e1, opnd_mono h2 e2]; rw [e1, e2] at h; exact h

theorem flagSt_mono {F : FlagI} {fr fr' : T V} {st st1 : St} (hle : FLe fr fr') (h : flagSt P ro nt noCall F fr st = some st1) : flagSt P ro nt call F fr' st = some st1 := by
  unfold flagSt at h ⊢
  cases rA : runO P ro nt noCall F.opsA F.lA [] fr st with
  | none => simp [rA] at h
  | some qA =>
    obtain ⟨frA, stA⟩ := qA
    cases rB : runO P ro nt noCall F.opsB F.lB [] fr st with
    | none => simp [rA, rB] at h
    | some qB =>
      obtain ⟨frB, stB⟩ := qB
      simp only [rA, rB] at h
      obtain ⟨gA, a1, a2⟩ := runO_mono (call := call) hle rA
      obtain ⟨gB, b1, b2⟩ := runO_mono (call := call) hle rB
      rw [a1, b1]
      dsimp only
      cases rE : vops P ro nt noCall F.opsE F.opsE.toList frA stA with
      | none => simp [rE] at h
      | some qE =>
        obtain ⟨frE, stE⟩ := qE
        simp only [rE] at h
        obtain ⟨gE, e1, e2⟩ := vops_mono (call := call) a2 rE
        rw [e1]
        dsimp only
        cases hk : (flagChk P ro nt noCall F fr st frA frB && Nat.beq stE.nx stB.nx) with
        | false => simp [hk] at h
        | true =>
          rw [hk] at h
          rw [Bool.and_eq_true] at hk
          have hk1 : flagChk P ro nt call F fr' st gA gB = true := by
            have k := hk.1
            unfold flagChk at k ⊢
            cases c1 : runO P ro nt noCall F.opsA (F.tA.pre ++ [(F.tA.i1, F.tA.o1)]) [] fr st with
            | none => simp [c1] at k
            | some p1 =>
              obtain ⟨f1, s1⟩ := p1
              cases c2 : runO P ro nt noCall F.opsB (F.tB.pre ++ [(F.tB.i1, F.tB.o1)]) [] fr st with
              | none => simp [c1, c2] at k
              | some p2 =>
                obtain ⟨f2, s2⟩ := p2
                simp only [c1, c2] at k
                obtain ⟨g1, d1, d2⟩ := runO_mono (call := call) hle c1
                obtain ⟨g2, d3, d4⟩ := runO_mono (call := call) hle c2
                rw [d1, d3]
                dsimp only
                rw [Bool.and_eq_true, Bool.and_eq_true] at k
                rw [sameO_mono d2 d4 k.1.1, sameO_mono a2 b2 k.1.2]
                have k2 := k.2
                cases x1 : opnd f2 F.tB.cur with
                | none => simp [x1] at k2
                | some y1 =>
                  cases x2 : opnd frA F.eI.ix with
                  | none => simp [x1, x2] at k2
                  | some y2 =>
                    cases x3 : opnd frA F.eI.v with
                    | none => cases y2 <;> simp [x1, x2, x3] at k2
                    | some y3 =>
                      cases x4 : opnd frB F.tB.x with
                      | none => cases y2 <;> simp [x1, x2, x3, x4] at k2
                      | some y4 =>
                        cases x5 : opnd frB (.tmp F.tB.r) with
                        | none => cases y2 <;> cases y4 <;> simp [x1, x2, x3, x4, x5] at k2
                        | some y5 =>
                          rw [opnd_mono d4 x1, opnd_mono a2 x2, opnd_mono a2 x3, opnd_mono b2 x4, opnd_mono b2 x5]
                          rw [x1, x2, x3, x4, x5] at k2
                          simpa using k2
          rw [hk1, hk.2]
          exact h
end

def opRd : Op → List Operand
  | .move x | .assign x => [x]
  | .pick c a b => [c, a, b]
  | .binOp _ _ x y _ => [x, y]
  | .unOp _ _ x => [x]
  | .convert _ _ x => [x]
  | .field _ x _ => [x]
  | .index _ x i => [x, i]
  | .indexAddr _ x i => [x, i]
  | .fieldAddr _ x _ => [x]
  | .load _ x => [x]
  | .store _ x v => [x, v]
  | .box _ x => [x]
  | .build _ ps => ps.toList.map fun p => p.2
  | .buildSlice _ _ ps => ps.toList.map fun p => p.2
  | .slice _ x lo hi mx => x :: (lo.toList ++ hi.toList ++ mx.toList)
  | .extract x _ => [x]
  | .call c => c.args.toList
  | _ => []
def hasN (l : List Nat) (t : Nat) : Bool := match l with
  | [] => false
  | x :: r => Nat.beq x t || hasN r t
def addN : List Operand → List Nat → List Nat → List Nat
  | [], _, acc => acc
  | .tmp t :: r, dead, acc => addN r dead (cond (hasN dead t || hasN acc t) acc (t :: acc))
  | _ :: r, dead, acc => addN r dead acc
/-- What either way reads of what was there before. -/
def needOf (F : FlagI) : List Nat := addN ((F.opsA.toList ++ F.opsE.toList ++ F.opsB.toList).flatMap fun o => opRd o.op) F.dead []
def pickL : List Nat → T V → T V → T V
  | [], _, acc => acc
  | t :: r, fr, acc => match fr.get t with
    | some v => pickL r fr (acc.upd t (some v))
    | none => pickL r fr acc
theorem hasN_mem {l : List Nat} {t : Nat} : hasN l t = true ↔ t ∈ l := by
  induction l with
  | nil => simp [hasN]
  | cons x r ih =>
    simp only [hasN, Bool.or_eq_true, Nat.beq_eq, ih, List.mem_cons]
    constructor
    · rintro (h | h)
      · exact .inl h.symm
      · exact .inr h
    · rintro (h | h)
      · exact .inl h.symm
      · exact .inr h
theorem addN_dead {dead : List Nat} : ∀ {l : List Operand} {acc : List Nat}, (∀ t ∈ acc, t ∉ dead) → ∀ t ∈ addN l dead acc, t ∉ dead
  | [], acc, h => h
  | .tmp t :: r, acc, h => by
    rw [addN]
    refine addN_dead fun u hu => ?_
    cases hc : (hasN dead t || hasN acc t) with
    | true => rw [hc] at hu; exact h u hu
    | false =>
      rw [hc] at hu
      rcases List.mem_cons.1 hu with rfl | hu
      · intro z
        rw [Bool.or_eq_false_iff] at hc
        rw [hasN_mem.2 z] at hc
        cases hc.1
      · exact h u hu
  | .const _ :: r, acc, h => by rw [addN]; exact addN_dead h; intro _ q; cases q
  | .global _ :: r, acc, h => by rw [addN]; exact addN_dead h; intro _ q; cases q
  | .func _ :: r, acc, h => by rw [addN]; exact addN_dead h; intro _ q; cases q
theorem pickL_get : ∀ {l : List Nat} {fr acc : T V} {t : Nat} {v : V}, (pickL l fr acc).get t = some v → acc.get t = some v ∨ (t ∈ l ∧ fr.get t = some v)
  | [], fr, acc, t, v, h => .inl h
  | x :: r, fr, acc, t, v, h => by
    rw [pickL] at h
    cases hx : fr.get x with
    | none =>
      rw [hx] at h
      rcases pickL_get h with q | ⟨q1, q2⟩
      · exact .inl q
      · exact .inr ⟨List.mem_cons_of_mem _ q1, q2⟩
    | some u =>
      rw [hx] at h
      rcases pickL_get h with q | ⟨q1, q2⟩
      · rw [T.get_upd] at q
        split at q
        · rename_i e
          subst e
          exact .inr ⟨List.mem_cons_self .., by rw [hx]; exact q⟩
        · exact .inl q
      · exact .inr ⟨List.mem_cons_of_mem _ q1, q2⟩
end Go.Vm
