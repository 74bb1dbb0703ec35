/-
  A call whose answer is known beforehand at a memory that is told in part. Nothing is claimed here.
-/
import Derived.Test.YtnfddmjbfkfnhaaGreatDoorVg
import Derived.Test.YtnfddmjbfkfnhaaGreatDoorOc
namespace Go.Vm
open Go.Vk Go.RowKit

/-- Values, one after the other. -/
def sameVL : List V → List V → Bool
  | [], [] => true
  | x :: xs, y :: ys => sameV x y && sameVL xs ys
  | _, _ => false
theorem sameVL_eq : ∀ {xs ys : List V}, sameVL xs ys = true → xs = ys
  | [], [], _ => rfl
  | x :: xs, y :: ys, h => by
    simp only [sameVL, Bool.and_eq_true] at h
    rw [sameV_eq h.1, sameVL_eq h.2]
  | [], _ :: _, h => by cases h
  | _ :: _, [], h => by cases h
def sameT : V → V → Bool
  | .t xs, .t ys => sameVL xs ys
  | x, y => sameV x y
theorem sameT_eq {x y : V} (h : sameT x y = true) : x = y := by
  unfold sameT at h
  split at h
  · rw [sameVL_eq h]
  · exact sameV_eq h
/-- Two blocks hold the same. -/
def eqO (x y : Option V) : Bool := match x, y with
  | some a, some b => sameV a b
  | none, none => true
  | _, _ => false
theorem eqO_true {x y : Option V} (h : eqO x y = true) : x = y := by
  cases x <;> cases y <;> simp only [eqO, Bool.false_eq_true] at h ⊢
  rw [sameV_eq h]
def sameC (b c : Blk) : Nat → Nat → Bool
  | 0, _ => true
  | n + 1, o => cond (eqO (b.get o) (c.get o)) (natF (o + 1) fun o => sameC b c n o) false
theorem sameC_ok {b c : Blk} : ∀ (n o : Nat), sameC b c n o = true → ∀ k, k < n → b.get (o + k) = c.get (o + k)
  | 0, _, _, k, hk => by omega
  | n + 1, o, h, k, hk => by
    rw [sameC] at h
    cases hc : eqO (b.get o) (c.get o) with
    | false => rw [hc] at h; cases h
    | true =>
      rw [hc, cond_true, natF_eq] at h
      cases k with
      | zero => exact eqO_true hc
      | succ k =>
        have := sameC_ok n (o + 1) h k (by omega)
        rwa [show o + 1 + k = o + (k + 1) from by omega] at this
def sameBlk (b c : Blk) : Bool := Nat.beq b.sz c.sz && (Nat.beq b.es c.es && ((b.op == c.op) && (b.mp.isNone && (c.mp.isNone && ((!b.op || (nilB b.zero && nilB c.zero)) && sameC b c b.sz 0)))))
structure Same (b c : Blk) : Prop where
  sz : b.sz = c.sz
  es : b.es = c.es
  op : b.op = c.op
  mb : b.mp = none
  mc : c.mp = none
  zero : b.op = true → b.zero = [] ∧ c.zero = []
  get : ∀ o, b.get o = c.get o
theorem sameBlk_ok {b c : Blk} (h : sameBlk b c = true) : Same b c := by
  unfold sameBlk at h
  simp only [Bool.and_eq_true, Nat.beq_eq, beq_iff_eq, Option.isNone_iff_eq_none, Bool.or_eq_true, Bool.not_eq_true'] at h
  obtain ⟨h1, h2, h3, h4, h5, h6, h7⟩ := h
  refine ⟨h1, h2, h3, h4, h5, fun q => ?_, fun o => ?_⟩
  · rcases h6 with z | ⟨z1, z2⟩
    · rw [q] at z; cases z
    · refine ⟨?_, ?_⟩
      · cases hz : b.zero with
        | nil => rfl
        | cons => rw [hz] at z1; cases z1
      · cases hz : c.zero with
        | nil => rfl
        | cons => rw [hz] at z2; cases z2
  · by_cases q : o < b.sz
    · have := sameC_ok b.sz 0 h7 o q
      rwa [Nat.zero_add] at this
    · have no : ∀ x : Blk, ¬ o < x.sz → x.get o = none := fun x hx => by
        unfold Blk.get
        have : Nat.blt o x.sz = false := by rw [Bool.eq_false_iff]; intro z; rw [Nat.blt_eq] at z; exact hx z
        rw [this]
        rfl
      rw [no b q, no c (by rw [← h1]; exact q)]
theorem Same.symm {b c : Blk} (h : Same b c) : Same c b := ⟨h.sz.symm, h.es.symm, h.op.symm, h.mc, h.mb, fun q => (h.zero (h.op.trans q)).symm, fun o => (h.get o).symm⟩
theorem Same.br {J : Inj} {ro g : Nat} {B w : World} {b c : Blk} (h : Same b c) (hb : BR J ro B g b w) : BR J ro B g c w := by
  obtain ⟨h0, c0, e0, f0, k1, k2, k3, k4, k5⟩ := hb.cells h.mb
  refine BR.of_cells h.mc ⟨h0, c0, e0, f0, k1, by rw [← h.sz]; exact k2, fun q => ?_, fun q => ?_, fun o v hv => k5 o v ((h.get o).trans hv)⟩
  · rw [← h.sz, ← h.es]
    have := h.op.trans q
    exact ⟨(k3 this).1, (h.zero this).2⟩
  · have e : c.full = b.full := by unfold Blk.full; rw [h.op, h.es]
    rw [e]
    exact k4 q

/-- What is known: a call, the memory that it looks at, its answer, what it leaves. -/
structure Me where
  f : Nat
  args : List V
  nx : Nat
  pre : List (Nat × Blk)
  v : V
  nx' : Nat
  ver : Nat
  chg : List (Nat × Option Blk)
def inL {α : Type} (i : Nat) : List (Nat × α) → Bool
  | [] => false
  | x :: r => Nat.beq x.1 i || inL i r
def lay : List (Nat × Blk) → T Blk
  | [] => .e
  | x :: r => (lay r).upd x.1 (some x.2)
def chgT (hp : T Blk) : List (Nat × Option Blk) → T Blk
  | [] => hp
  | x :: r => (chgT hp r).upd x.1 x.2
def Me.small (e : Me) : St := ⟨e.nx, lay e.pre, e.nx⟩
def Me.fits (e : Me) (st : St) : Bool := e.pre.all fun x => match st.hp.get x.1 with
  | some b => sameBlk b x.2
  | none => false
def Me.behind (e : Me) (st' : St) : Bool := Nat.beq st'.nx e.nx' && (Nat.ble e.ver st'.ver && (Nat.ble e.ver e.nx && (e.chg.all (fun x => Nat.ble e.ver x.1 && match x.2 with
    | some c => (match st'.hp.get x.1 with | some b => sameBlk b c | none => false)
    | none => true) && e.pre.all fun x => inL x.1 e.chg || Nat.blt x.1 e.ver)))
def Me.ov (e : Me) : Ov := fun f args st => cond (Nat.beq f e.f) (cond (Nat.beq st.nx e.nx && (sameVL e.args args && e.fits st)) (some (e.v, ⟨e.nx', chgT st.hp e.chg, low st.ver e.ver⟩)) none) none

theorem lay_get : ∀ {l : List (Nat × Blk)} {g : Nat} {b : Blk}, (lay l).get g = some b → (g, b) ∈ l
  | [], g, b, h => by rw [lay, T.get_e] at h; cases h
  | x :: r, g, b, h => by
    rw [lay, T.get_upd] at h
    by_cases e : g = x.1
    · rw [if_pos e] at h
      have := Option.some.inj h
      subst this; subst e
      exact List.mem_cons_self ..
    · rw [if_neg e] at h
      exact List.mem_cons_of_mem _ (lay_get h)
theorem chgT_get {hp : T Blk} : ∀ {l : List (Nat × Option Blk)} {g : Nat}, (∃ o, (g, o) ∈ l ∧ (chgT hp l).get g = o) ∨ (inL g l = false ∧ (chgT hp l).get g = hp.get g)
  | [], g => .inr ⟨rfl, rfl⟩
  | x :: r, g => by
    rw [chgT, T.get_upd]
    by_cases e : g = x.1
    · rw [if_pos e]; subst e; exact .inl ⟨x.2, List.mem_cons_self .., rfl⟩
    · rw [if_neg e]
      rcases chgT_get (hp := hp) (l := r) (g := g) with ⟨o, h1, h2⟩ | ⟨h1, h2⟩
      · exact .inl ⟨o, List.mem_cons_of_mem _ h1, h2⟩
      · refine .inr ⟨?_, h2⟩
        have : Nat.beq x.1 g = false := by rw [Bool.eq_false_iff]; intro q; rw [Nat.beq_eq] at q; exact e q.symm
        simp only [inL, this, h1, Bool.or_self]

theorem memo_ok {P : Program} {B : World} {ov : Ov} (hov : OvOK P B ov) (hmix : P.follows .mixedOrders = true) (hname : ∀ (f : Nat) (fn : Func), P.funcs[f]? = some fn → (fn.name == "runtime.NumGoroutine") = false) (e : Me)
    (hrun : ∃ st', Even (fun m => evF P ov GL m e.f e.args e.small) (e.v, st') ∧ e.behind st' = true) : OvOK P B e.ov := by
  intro B' hB f args st v st2 h J w hn hh hro hargs
  unfold Me.ov at h
  cases hf : Nat.beq f e.f with
  | false => rw [hf] at h; cases h
  | true =>
  rw [hf, cond_true] at h
  rw [Nat.beq_eq] at hf
  subst hf
  cases hc : (Nat.beq st.nx e.nx && (sameVL e.args args && e.fits st)) with
  | false => rw [hc] at h; cases h
  | true =>
  rw [hc, cond_true] at h
  simp only [Bool.and_eq_true, Nat.beq_eq] at hc
  obtain ⟨hnx, hargsEq, hfit⟩ := hc
  have hargsEq := sameVL_eq hargsEq
  subst hargsEq
  have h := Option.some.inj h
  injection h with h1 h2
  subst h1 h2
  obtain ⟨st', ⟨m, hev⟩, hbeh⟩ := hrun
  have hev := hev m (Nat.le_refl _)
  unfold Me.behind at hbeh
  simp only [Bool.and_eq_true, Nat.beq_eq, Nat.ble_eq] at hbeh
  obtain ⟨b1, b2, b3, b4, b5⟩ := hbeh
  rw [List.all_eq_true] at b4 b5
  unfold Me.fits at hfit
  rw [List.all_eq_true] at hfit
  have pre : ∀ g b, e.small.hp.get g = some b → ∃ b0, st.hp.get g = some b0 ∧ Same b0 b ∧ (inL g e.chg = true ∨ g < e.ver) := by
    intro g b hg
    have hm := lay_get hg
    have h1 := hfit _ hm
    have h2 := b5 _ hm
    dsimp only at h1 h2
    split at h1
    · rename_i b0 hb0
      refine ⟨b0, hb0, sameBlk_ok h1, ?_⟩
      rw [Bool.or_eq_true, Nat.blt_eq] at h2
      exact h2
    · cases h1
  have chg : ∀ g c, (g, some c) ∈ e.chg → ∃ b', st'.hp.get g = some b' ∧ Same b' c := by
    intro g c hm
    have h1 := b4 _ hm
    rw [Bool.and_eq_true] at h1
    have h2 := h1.2
    dsimp only at h2
    split at h2
    · rename_i b' hb'; exact ⟨b', hb', sameBlk_ok h2⟩
    · cases h2
  have chgV : ∀ g o, (g, o) ∈ e.chg → e.ver ≤ g := by
    intro g o hm
    have h1 := b4 _ hm
    rw [Bool.and_eq_true, Nat.ble_eq] at h1
    exact h1.1
  have hsm : HR J GL B' e.small.hp.get w := by
    refine ⟨hh.base, fun g b hg => ?_, fun g g' b b' hg hg' q => ?_⟩
    · obtain ⟨b0, h1, h2, _⟩ := pre g b hg
      exact h2.br (hh.blk g b0 h1)
    · obtain ⟨b0, h1, _⟩ := pre g b hg
      obtain ⟨b1, h3, _⟩ := pre g' b' hg'
      exact hh.inj g g' b0 b1 h1 h3 q
  obtain ⟨hfn, hcall⟩ := evF_sound (P := P) (ro := GL) (B := B') (hov B' hB |> fun h => fun B2 h2 => hov B2 (hB.trans h2)) hmix hname m e.f e.args e.small e.v st' hev J w (hn.trans hnx) hsm hro hargs
  refine ⟨hfn, hcall.mono ?_⟩
  rintro x w' ⟨J', h1, h2, hp⟩
  refine ⟨J', h1, h2, ?_⟩
  have Jn : ∀ g b, st.hp.get g = some b → g < J.nx := fun g b hg => (hh.blk g b hg).1
  -- a block of the others
  have oth : ∀ g b, st.hp.get g = some b → inL g e.chg = false → e.small.hp.get g = none → w'.heap[(J.m g).1]? = w.heap[(J.m g).1]? ∧ Free J' st'.hp.get (J.m g).1 := by
    intro g b hg _ hno
    refine hp.fr (J.m g).1 (hh.blk g b hg).lt fun g' b' hg' q => ?_
    obtain ⟨b0, h3, _⟩ := pre g' b' hg'
    have := hh.inj g' g b0 b h3 hg q
    subst this
    rw [hno] at hg'
    cases hg'
  -- what a name names behind
  have cas : ∀ g b, (chgT st.hp e.chg).get g = some b → (∃ b', st'.hp.get g = some b' ∧ Same b' b) ∨ (st.hp.get g = some b ∧ e.small.hp.get g = none ∧ inL g e.chg = false) := by
    intro g b hg
    rcases chgT_get (hp := st.hp) (l := e.chg) (g := g) with ⟨o, q1, q2⟩ | ⟨q1, q2⟩
    · rw [q2] at hg; subst hg; exact .inl (chg g b q1)
    · rw [q2] at hg
      cases hs : e.small.hp.get g with
      | none => exact .inr ⟨hg, rfl, q1⟩
      | some bp =>
        obtain ⟨b0, h3, h4, h5⟩ := pre g bp hs
        rw [hg] at h3
        obtain rfl := Option.some.inj h3
        rcases h5 with z | z
        · rw [q1] at z; cases z
        · exact .inl ⟨bp, hp.ext.hp g bp hs (Nat.lt_of_lt_of_le z b2), h4.symm⟩
  refine ⟨hp.le, hp.nx.trans b1, ⟨hp.hr.base, fun g b hg => ?_, fun g g' b b' hg hg' q => ?_⟩, hp.below, ⟨?_, low_left _ _, fun g x hg hlt => ?_⟩, hp.ro, fun i hi hfree => ?_⟩
  · rcases cas g b hg with ⟨b', q1, q2⟩ | ⟨q1, q2, q3⟩
    · exact q2.br (hp.hr.blk g b' q1)
    · exact BR.carry hp.le (fun _ q => q) (oth g b q1 q3 q2).1 (hh.blk g b q1)
  · rcases cas g b hg with ⟨c, q1, q2⟩ | ⟨q1, q2, q3⟩ <;> rcases cas g' b' hg' with ⟨c', p1, p2⟩ | ⟨p1, p2, p3⟩
    · exact hp.hr.inj g g' c c' q1 p1 q
    · exact absurd (q.trans (by rw [hp.le.m g' (Jn g' b' p1)])) ((oth g' b' p1 p3 p2).2 g c q1)
    · exact absurd (q.symm.trans (by rw [hp.le.m g (Jn g b q1)])) ((oth g b q1 q3 q2).2 g' c' p1)
    · rw [hp.le.m g (Jn g b q1), hp.le.m g' (Jn g' b' p1)] at q
      exact hh.inj g g' b b' q1 p1 q
  · show st.nx ≤ e.nx'
    rw [hnx, ← b1]
    exact hp.ext.nx
  · show (chgT st.hp e.chg).get g = some x
    have hlt : g < e.ver := Nat.lt_of_lt_of_le hlt (low_right _ _)
    rcases chgT_get (hp := st.hp) (l := e.chg) (g := g) with ⟨o, q1, q2⟩ | ⟨q1, q2⟩
    · have := chgV g o q1; omega
    · rw [q2]; exact hg
  · obtain ⟨q1, q2⟩ := hp.fr i hi fun g b hg => by
      obtain ⟨b0, h3, _⟩ := pre g b hg
      exact hfree g b0 h3
    refine ⟨q1, fun g b hg => ?_⟩
    rcases cas g b hg with ⟨b', z1, _⟩ | ⟨z1, _, _⟩
    · exact q2 g b' z1
    · rw [hp.le.m g (Jn g b z1)]; exact hfree g b z1
end Go.Vm
