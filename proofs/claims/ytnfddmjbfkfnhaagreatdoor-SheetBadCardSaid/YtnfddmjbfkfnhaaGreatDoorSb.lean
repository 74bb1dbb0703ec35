/-
  A state that is not wholly known, what it stands for, and how it goes on. Nothing is claimed here.
-/
import Derived.Test.YtnfddmjbfkfnhaaGreatDoorSa
namespace Go.Sx
open Go.Vm

/-- What a named block holds. -/
inductive Ct (S : Sg) : Type where
  | cells (us : List (U S))
  | buf (c : S.Cd) (xs : List (S.Den c))
  | row (c : S.Cd) (xs : List (S.Den c))
/-- The named blocks: how many names, what they hold; the names that were given anew, and those that were written. -/
structure Sig (S : Sg) where
  nx : Nat
  m : T (Ct S)
  ks : List Nat
  wr : List Nat

def Tmap {α β : Type} (f : α → β) : T α → T β
  | .e => .e
  | .n l v r => .n (Tmap f l) (match v with | some x => some (f x) | none => none) (Tmap f r)
theorem Tmap_get {α β : Type} (f : α → β) : ∀ (t : T α) (i : Nat), (Tmap f t).get i = (t.get i).map f
  | .e, i => by simp [Tmap, T.get_e]
  | .n l v r, i => by
    simp only [Tmap, T.get_n]
    cases i with
    | zero => cases v <;> rfl
    | succ k =>
      dsimp only
      cases Nat.beq (k % 2) 0
      · simp only [cond_false]; exact Tmap_get f r _
      · simp only [cond_true]; exact Tmap_get f l _

section
variable {S : Sg} {Y : Sy S} {ro : Nat} {o0 : Nat → Prop}

/-- A block that is named. -/
def named (E : En) (m : T (Ct S)) (id : Nat) : Prop := ∃ (r : Nat) (ct : Ct S) (h : V), m.get r = some ct ∧ E[r]? = some (some id, h)
def ownOf (o0 : Nat → Prop) (E : En) (m : T (Ct S)) (id : Nat) : Prop := o0 id ∨ named E m id

/-- What is so of a named block. -/
def Ent (Y : Sy S) (ro : Nat) (D : DD S) (DA : U S → V → Prop) (E : En) (st : St) (r : Nat) : Ct S → Prop
  | .cells us => ∃ id h b vs, E[r]? = some (some id, h) ∧ ro ≤ id ∧ id < st.nx ∧ st.hp.get id = some b ∧ b.sz = us.length ∧ RelL Y D E us vs ∧ ∀ j, j < us.length → b.get j = vs[j]?
  | .buf c xs => (∃ v0, E[r]? = some (none, v0) ∧ xs = [] ∧ noRoom v0 = true) ∨ ∃ id cap op b, E[r]? = some (some id, .sl id 0 xs.length cap op) ∧ ro ≤ id ∧ id < st.nx ∧ st.hp.get id = some b ∧ xs.length ≤ cap ∧ (b.es = Y.wid c ∧ b.mp = none) ∧ b.sz = cap * Y.wid c ∧ ((op = true → (b.op = true ∨ (Y.cvb && !(Y.opn c)) = true) ∧ (Y.opn c = true → cap = xs.length)) ∧ (Y.opn c = true → op = true)) ∧
      ∃ vs : Nat → List V, (∀ (i : Nat) x, xs[i]? = some x → b.row (Y.wid c) (i * Y.wid c) = some (vs i)) ∧ ∀ (i : Nat) x, xs[i]? = some x → ∀ (j : Nat) u v, (Y.cells c x)[j]? = some u → (vs i)[j]? = some v → DA u v
  | .row c xs => ∃ id b, E[r]? = some (some id, .sl id 0 xs.length xs.length false) ∧ ro ≤ id ∧ id < st.nx ∧ st.hp.get id = some b ∧ (b.op = false ∧ b.es = Y.wid c ∧ b.mp = none) ∧
      ∃ vs : Nat → List V, (∀ (i : Nat) x, xs[i]? = some x → b.row (Y.wid c) (i * Y.wid c) = some (vs i)) ∧ ∀ (i : Nat) x, xs[i]? = some x → ∀ (j : Nat) u v, (Y.cells c x)[j]? = some u → (vs i)[j]? = some v → DA u v

abbrev Gl := Nat → Option (IntKind × List Int)

structure Inv (Y : Sy S) (G : Gl) (o0 : Nat → Prop) (r0 : Nat) (E : En) (nx : Nat) (m : T (Ct S)) (st : St) : Prop where
  len : E.length = nx
  ro : r0 ≤ st.nx
  lt : ∀ r ct, m.get r = some ct → r < nx
  ent : ∀ r ct, m.get r = some ct → Ent Y r0 (Dat Y (ownOf o0 E m) st) (DatA Y (ownOf o0 E m) st) E st r ct
  out : ∀ id, o0 id → r0 ≤ id ∧ id < st.nx
  glob : ∀ g k l, G g = some (k, l) → g < r0 ∧ ∃ b, st.hp.get g = some b ∧ ∀ j, j < l.length → b.get j = some (.i k (l.getD j 0))
  inj : ∀ (r r' : Nat) ct ct' id h h', m.get r = some ct → m.get r' = some ct' → E[r]? = some (some id, h) → E[r']? = some (some id, h') → r = r'
  dis : ∀ id, named E m id → ¬ o0 id

/-- From one state to a later one. -/
structure Step (o0 : Nat → Prop) (E : En) (m : T (Ct S)) (st : St) (E' : En) (m' : T (Ct S)) (st' : St) (ks wr : List Nat) : Prop where
  len : E.length ≤ E'.length
  same : ∀ r, r < E.length → mem ks r = false → E'[r]? = E[r]?
  nx : st.nx ≤ st'.nx
  keep : ∀ id, id < st.nx → ¬ named E m id → st'.hp.get id = st.hp.get id
  nam : ∀ id, named E' m' id → named E m id ∨ st.nx ≤ id
  ver : ∀ j, j ≤ st.nx → j ≤ st.ver → (wr = [] ∨ ∀ id, named E m id → j ≤ id) → j ≤ st'.ver
  all : wr = [] → ∀ id, id < st.nx → st'.hp.get id = st.hp.get id

theorem Step.refl (o0 : Nat → Prop) (E : En) (m : T (Ct S)) (st : St) : Step o0 E m st E m st [] [] :=
  ⟨Nat.le_refl _, fun _ _ _ => rfl, Nat.le_refl _, fun _ _ _ => rfl, fun _ h => .inl h, fun _ _ h _ => h, fun _ _ _ => rfl⟩

theorem mem_app : ∀ (a b : List Nat) (r : Nat), mem (a ++ b) r = (mem a r || mem b r)
  | [], b, r => by simp [mem]
  | k :: a, b, r => by
    simp only [List.cons_append, mem]
    cases Nat.beq k r <;> simp [mem_app a b r]

theorem Step.own {E E' : En} {m m' : T (Ct S)} {st st' : St} {ks wr : List Nat} (h : Step o0 E m st E' m' st' ks wr) {id : Nat} (hi : id < st.nx) (ho : ownOf o0 E' m' id) : ownOf o0 E m id := by
  rcases ho with z | z
  · exact .inl z
  · rcases h.nam id z with q | q
    · exact .inr q
    · omega
theorem Step.datK {E E' : En} {m m' : T (Ct S)} {st st' : St} {ks wr : List Nat} (h : Step o0 E m st E' m' st' ks wr) {c : S.Cd} {xs : List (S.Den c)} {v : V} (hd : Dat Y (ownOf o0 E m) st c xs v) : Dat Y (ownOf o0 E' m') st' c xs v :=
  Dat.keep h.nx (fun id h1 h2 => h.keep id h1 fun q => h2 (.inr q)) (fun _ h1 h2 => h.own h1 h2) hd
theorem Step.datA {E E' : En} {m m' : T (Ct S)} {st st' : St} {ks wr : List Nat} (h : Step o0 E m st E' m' st' ks wr) {u : U S} {v : V} (hd : DatA Y (ownOf o0 E m) st u v) : DatA Y (ownOf o0 E' m') st' u v :=
  DatA.keep h.nx (fun id h1 h2 => h.keep id h1 fun q => h2 (.inr q)) (fun _ h1 h2 => h.own h1 h2) hd

theorem Step.relK {E E' : En} {m m' : T (Ct S)} {st st' : St} {ks wr : List Nat} (h : Step o0 E m st E' m' st' ks wr) {u : U S} {v : V} (hr : RelV Y (Dat Y (ownOf o0 E m) st) E u v) : RelV Y (Dat Y (ownOf o0 E' m') st') E' (kill ks u) v :=
  RelV.kill (fun r x h1 h2 => by rw [h.same r (List.getElem?_eq_some_iff.1 h2).1 h1]; exact h2) (fun _ _ _ => h.datK) u v hr
theorem Step.relsK {E E' : En} {m m' : T (Ct S)} {st st' : St} {ks wr : List Nat} (h : Step o0 E m st E' m' st' ks wr) {u : List (U S)} {v : List V} (hr : RelL Y (Dat Y (ownOf o0 E m) st) E u v) : RelL Y (Dat Y (ownOf o0 E' m') st') E' (kills ks u) v :=
  RelL.kill (fun r x h1 h2 => by rw [h.same r (List.getElem?_eq_some_iff.1 h2).1 h1]; exact h2) (fun _ _ _ => h.datK) u v hr
theorem Step.rel {E E' : En} {m m' : T (Ct S)} {st st' : St} {wr : List Nat} (h : Step o0 E m st E' m' st' [] wr) {u : U S} {v : V} (hr : RelV Y (Dat Y (ownOf o0 E m) st) E u v) : RelV Y (Dat Y (ownOf o0 E' m') st') E' u v :=
  RelV.mono (fun r x h2 => by rw [h.same r (List.getElem?_eq_some_iff.1 h2).1 rfl]; exact h2) (fun _ _ _ => h.datK) u v hr
theorem Step.rels {E E' : En} {m m' : T (Ct S)} {st st' : St} {wr : List Nat} (h : Step o0 E m st E' m' st' [] wr) {u : List (U S)} {v : List V} (hr : RelL Y (Dat Y (ownOf o0 E m) st) E u v) : RelL Y (Dat Y (ownOf o0 E' m') st') E' u v :=
  RelL.mono (fun r x h2 => by rw [h.same r (List.getElem?_eq_some_iff.1 h2).1 rfl]; exact h2) (fun _ _ _ => h.datK) u v hr

theorem Step.trans {E E1 E2 : En} {m m1 m2 : T (Ct S)} {st st1 st2 : St} {ks wr ks' wr' : List Nat} (h : Step o0 E m st E1 m1 st1 ks wr) (h' : Step o0 E1 m1 st1 E2 m2 st2 ks' wr') :
    Step o0 E m st E2 m2 st2 (ks' ++ ks) (wr' ++ wr) := by
  refine ⟨Nat.le_trans h.len h'.len, ?_, Nat.le_trans h.nx h'.nx, ?_, ?_, ?_, fun hw id hid => (h'.all (List.append_eq_nil_iff.1 hw).1 id (Nat.lt_of_lt_of_le hid h.nx)).trans (h.all (List.append_eq_nil_iff.1 hw).2 id hid)⟩
  · intro r hr hm
    rw [mem_app, Bool.or_eq_false_iff] at hm
    rw [h'.same r (Nat.lt_of_lt_of_le hr h.len) hm.1, h.same r hr hm.2]
  · intro id hid hn
    rw [h'.keep id (Nat.lt_of_lt_of_le hid h.nx) fun q => ?_, h.keep id hid hn]
    rcases h.nam id q with z | z
    · exact hn z
    · omega
  · intro id hn
    rcases h'.nam id hn with q | q
    · exact h.nam id q
    · exact .inr (Nat.le_trans h.nx q)
  · intro j h1 h2 hw
    have e1 : wr = [] ∨ ∀ id, named E m id → j ≤ id := hw.imp (fun q => (List.append_eq_nil_iff.1 q).2) fun q => q
    refine h'.ver j (Nat.le_trans h1 h.nx) (h.ver j h1 h2 e1) (hw.imp (fun q => (List.append_eq_nil_iff.1 q).1) fun hw id hn => ?_)
    rcases h.nam id hn with q | q
    · exact hw id q
    · omega
end
end Go.Sx
