/-
  Operations that change nothing, at values that are not known: they are so. Nothing is claimed here.
-/
import Derived.Test.YtnfddmjbfkfnhaaGreatDoorSc
namespace Go.Sx
open Go.Vm

section
variable {S : Sg} {Y : Sy S} {P : Program} {D : DD S} {E : En} {fr : T (U S)} {frV : T V}

theorem vbin_int {op : BinOp} {t : TypeId} {kd : IntKind} {a b : Int} (h1 : op ≠ .shl) (h2 : op ≠ .shr) : vbin P op t (.i kd a) (.i kd b) = vint op kd a b := by cases op <;> simp_all [vbin]
theorem vbin_eql {t : TypeId} {x y : V} (h : ∀ k a k' b, ¬ (x = .i k a ∧ y = .i k' b)) (h' : ∀ l a m b, ¬ (x = .s l a ∧ y = .s m b)) : vbin P .eql t x y = (match vequal P t x y with | some r => some (.b r) | none => none) := by
  unfold vbin
  split
  · exact absurd ⟨rfl, rfl⟩ (h _ _ _ _)
  · exact absurd ⟨rfl, rfl⟩ (h' _ _ _ _)
  · rfl
theorem vbin_neq {t : TypeId} {x y : V} (h : ∀ k a k' b, ¬ (x = .i k a ∧ y = .i k' b)) (h' : ∀ l a m b, ¬ (x = .s l a ∧ y = .s m b)) : vbin P .neq t x y = (match vequal P t x y with | some r => some (.b (!r)) | none => none) := by
  unfold vbin
  split
  · exact absurd ⟨rfl, rfl⟩ (h _ _ _ _)
  · exact absurd ⟨rfl, rfl⟩ (h' _ _ _ _)
  · rfl

/-- Values of these kinds alone can be compared. -/
theorem sEq_kind {d : Nat} {t : TypeId} {x y : U S} {r : Bool} {v w : V} (h : sEq P d t x y = some r) (hx : RelV Y D E x v) (hy : RelV Y D E y w) (hi : ∀ k a k' b, ¬ (x = .i k a ∧ y = .i k' b)) (hs : ∀ l m, ¬ (x = .s l ∧ y = .s m)) :
    (∀ k a k' b, ¬ (v = .i k a ∧ w = .i k' b)) ∧ (∀ l a m b, ¬ (v = .s l a ∧ w = .s m b)) := by
  cases d with
  | zero => simp [sEq] at h
  | succ d =>
    unfold sEq at h
    split at h
    · cases h1 : asB x with
      | none => simp [h1] at h
      | some a =>
        rw [asB_ok h1 hx]
        exact ⟨fun _ _ _ _ q => (by cases q.1), fun _ _ _ _ q => (by cases q.1)⟩
    · split at h
      · exact absurd ⟨rfl, rfl⟩ (hi _ _ _ _)
      · cases h
    · split at h
      · exact absurd ⟨rfl, rfl⟩ (hs _ _)
      · cases h
    · split at h
      · simp only [RelV] at hx; subst hx; exact ⟨fun _ _ _ _ q => (by cases q.1), fun _ _ _ _ q => (by cases q.1)⟩
      · simp only [RelV] at hx; subst hx; exact ⟨fun _ _ _ _ q => (by cases q.1), fun _ _ _ _ q => (by cases q.1)⟩
      · simp only [RelV] at hy; subst hy; exact ⟨fun _ _ _ _ q => (by cases q.2), fun _ _ _ _ q => (by cases q.2)⟩
      · cases h
    · split at h
      · simp only [RelV] at hx; subst hx; exact ⟨fun _ _ _ _ q => (by cases q.1), fun _ _ _ _ q => (by cases q.1)⟩
      · simp only [RelV] at hx; subst hx; exact ⟨fun _ _ _ _ q => (by cases q.1), fun _ _ _ _ q => (by cases q.1)⟩
      · simp only [RelV] at hy; subst hy; exact ⟨fun _ _ _ _ q => (by cases q.2), fun _ _ _ _ q => (by cases q.2)⟩
      · cases h
    · split at h
      · simp only [RelV] at hx; obtain ⟨_, rfl, _⟩ := hx; exact ⟨fun _ _ _ _ q => (by cases q.1), fun _ _ _ _ q => (by cases q.1)⟩
      · cases h
    · split at h
      · simp only [RelV] at hx; obtain ⟨_, rfl, _⟩ := hx; exact ⟨fun _ _ _ _ q => (by cases q.1), fun _ _ _ _ q => (by cases q.1)⟩
      · cases h
    · cases h

theorem veq_nz {d : Nat} {t : TypeId} {w : V} {r : Bool} (h : veq P d t .nz w = some r) : False := by
  cases d with
  | zero => cases h
  | succ d =>
    unfold veq at h
    cases hu : P.underlying t with
    | none => rw [hu] at h; cases h
    | some x => rw [hu] at h; cases x <;> cases w <;> cases h
theorem sEqual_ok {t : TypeId} {x y : U S} {r : Bool} {v w : V} (h : sEqual P t x y = some r) (hx : RelV Y D E x v) (hy : RelV Y D E y w) : vequal P t v w = some r ∧ (∃ d, sEq P d t x y = some r) := by
  unfold sEqual at h
  split at h
  · simp only [RelV] at hx hy
    obtain ⟨vs, rfl, hx⟩ := hx
    obtain ⟨ws, rfl, hy⟩ := hy
    cases hg : P.eqGuardType P.depth t with
    | true => rw [hg] at h; cases h
    | false =>
      rw [hg, cond_false] at h
      rename_i xs ys
      exact ⟨by unfold vequal; simp only [hg, cond_false]; exact sEq_ok 60 t (.a xs) (.a ys) r _ _ h ⟨vs, rfl, hx⟩ ⟨ws, rfl, hy⟩, 60, h⟩
  · cases h
  · rename_i h1 h2
    refine ⟨?_, 60, h⟩
    have hv := sEq_ok 60 t x y r v w h hx hy
    unfold vequal
    split
    · exfalso
      -- x is no aggregate with an aggregate
      unfold sEq at h
      split at h
      · cases q : asB x with
        | none => simp [q] at h
        | some a => have := asB_ok q hx; cases this
      · split at h
        · simp only [RelV] at hx; cases hx
        · cases h
      · split at h
        · simp only [RelV, V.str] at hx; cases hx
        · cases h
      · split at h
        · simp only [RelV] at hx; cases hx
        · simp only [RelV] at hx; cases hx
        · simp only [RelV] at hy; cases hy
        · cases h
      · split at h
        · simp only [RelV] at hx; cases hx
        · simp only [RelV] at hx; cases hx
        · simp only [RelV] at hy; cases hy
        · cases h
      · split at h
        · first | exact h1 _ _ rfl rfl | exact (h1 rfl rfl).elim | exact (h1 _ _ rfl rfl).elim | exact h1 rfl rfl | exact h1 _ rfl | simp_all
        · cases h
      · split at h
        · first | exact h1 _ _ rfl rfl | exact (h1 rfl rfl).elim | exact (h1 _ _ rfl rfl).elim | exact h1 rfl rfl | exact h1 _ rfl | simp_all
        · cases h
      · cases h
    · exfalso
      exact veq_nz hv
    · exact hv

theorem sShift_ok {op : BinOp} {kd : IntKind} {a b : Int} {k : U S → Prop} (h : sShift op kd a b k) : ∃ u v, vshift op kd a b = some v ∧ RelV Y D E u v ∧ k u := by
  cases op <;> simp only [sShift] at h <;> try exact h.elim
  all_goals
    have e : ilt b 0 = false := by simp [ilt]; exact h.1
    exact ⟨.i kd _, _, by simp only [vshift, e, cond_false], rfl, h.2⟩

theorem sBin_ok {op : BinOp} {xt : TypeId} {x y : U S} {k : U S → Prop} {v w : V} (h : sBin Y P op xt x y k) (hx : RelV Y D E x v) (hy : RelV Y D E y w) : ∃ u z, vbin P op xt v w = some z ∧ RelV Y D E u z ∧ k u := by
  unfold sBin at h
  split at h
  · rename_i kd a kd' b
    simp only [RelV] at hx hy
    subst hx hy
    split at h
    · obtain ⟨u, z, h1, h2, h3⟩ := sShift_ok (Y := Y) (D := D) (E := E) h; exact ⟨u, z, h1, h2, h3⟩
    · obtain ⟨u, z, h1, h2, h3⟩ := sShift_ok (Y := Y) (D := D) (E := E) h; exact ⟨u, z, h1, h2, h3⟩
    · rename_i n1 n2
      cases hk : decide (kd = kd') with
      | false => rw [hk] at h; exact h.elim
      | true =>
        rw [hk] at h
        obtain rfl := of_decide_eq_true hk
        obtain ⟨u, z, h1, h2, h3⟩ := sInt_ok (Y := Y) (D := D) (E := E) h
        exact ⟨u, z, by rw [vbin_int n1 n2]; exact h1, h2, h3⟩
  · simp only [RelV] at hx hy
    subst hx hy
    obtain ⟨u, z, h1, h2, h3⟩ := sStr_ok (Y := Y) (D := D) (E := E) h
    exact ⟨u, z, h1, h2, h3⟩
  · rename_i n1 n2
    have i1 : ∀ k a k' b, ¬ (x = .i k a ∧ y = .i k' b) := fun k a k' b q => n1 k a k' b q.1 q.2
    have s1 : ∀ l m, ¬ (x = .s l ∧ y = .s m) := fun l m q => n2 l m q.1 q.2
    split at h
    · obtain ⟨r, h1, h2⟩ := onO_ok h
      obtain ⟨h3, d, h4⟩ := sEqual_ok h1 hx hy
      obtain ⟨k1, k2⟩ := sEq_kind h4 hx hy i1 s1
      exact ⟨.b r, .b r, by rw [vbin_eql k1 k2, h3], rfl, h2⟩
    · obtain ⟨r, h1, h2⟩ := onO_ok h
      obtain ⟨h3, d, h4⟩ := sEqual_ok h1 hx hy
      obtain ⟨k1, k2⟩ := sEq_kind h4 hx hy i1 s1
      exact ⟨.b (!r), .b (!r), by rw [vbin_neq k1 k2, h3], rfl, h2⟩
    · exact h.elim

theorem sUn_ok {op : UnOp} {x : U S} {k : U S → Prop} {v : V} (h : sUn op x k) (hx : RelV Y D E x v) : ∃ u z, vun op v = some z ∧ RelV Y D E u z ∧ k u := by
  unfold sUn at h
  split at h
  · rename_i kd n
    simp only [RelV] at hx
    subst hx
    exact ⟨.i kd _, _, rfl, rfl, sArith_ok h⟩
  · simp only [RelV] at hx; subst hx; exact ⟨.b _, _, rfl, rfl, h⟩
  · simp only [RelV] at hx; subst hx; exact ⟨.kb false, _, rfl, rfl, h⟩
  · simp only [RelV] at hx; subst hx; exact ⟨.kb true, _, rfl, rfl, h⟩
  · exact h.elim

theorem zeroU_ok {t : TypeId} {z : U S} (h : zeroU P t = some z) : ∃ w, zeroOf P t = some w ∧ ∀ (D : DD S) (E : En), RelV Y D E z w := by
  unfold zeroU at h
  unfold zeroOf
  cases h1 : P.info? t with
  | none => simp [h1] at h
  | some ti =>
    simp only [h1] at h ⊢
    cases h2 : ti.zero with
    | none => simp [h2] at h
    | some z0 => simp only [h2] at h ⊢; exact ofC_ok 4 z0 z h

end
section
variable {S : Sg} {Y : Sy S} {P : Program} {own : Nat → Prop} {st : St} {E : En}

theorem noRoom_cells {v : V} (h : noRoom v = true) : v.cells = [v] := by
  cases v <;> first | rfl | (simp only [noRoom, Bool.false_eq_true] at h)

theorem noRoom_atom {v : V} (h : noRoom v = true) : v.atom = true := by
  cases v <;> first | rfl | (simp only [noRoom, Bool.false_eq_true] at h)

/-- A value's cells. -/
theorem RelV.cells {u : U S} {v : V} (hs : solid u = true) (h : RelV Y (Dat Y own st) E u v) : RelL Y (Dat Y own st) E (cellsU u) v.cells := by
  have one : v.cells = [v] → RelL Y (Dat Y own st) E [u] v.cells := fun e => by rw [e]; exact ⟨v, [], rfl, h, rfl⟩
  cases u with
  | dead => cases hs
  | a cs => simp only [RelV] at h; obtain ⟨vs, rfl, h⟩ := h; exact h
  | o r =>
    have h' := h
    simp only [RelV] at h'
    obtain ⟨x, _, ha⟩ := h'
    exact one (by cases v <;> first | rfl | cases ha)
  | l c xs =>
    have h' := h
    simp only [RelV] at h'
    exact one (by cases h' <;> rfl)
  | vh r j =>
    have h' := h
    simp only [RelV, ViewH] at h'
    obtain ⟨_, _, _, ⟨q0, _, rfl⟩ | ⟨_, _, _, _, _, _, rfl⟩⟩ := h' <;> first | exact one rfl | exact one (noRoom_cells q0)
  | v r w i =>
    have h' := h
    simp only [RelV, View] at h'
    obtain ⟨_, _, _, ⟨q0, rfl⟩ | ⟨_, _, _, _, _, _, ⟨_, _, _, _, rfl⟩ | ⟨_, _, _, rfl⟩⟩⟩ := h' <;> first | exact one rfl | exact one (noRoom_cells q0)
  | _ =>
    have h' := h
    simp only [RelV] at h'
    first
    | (subst h'; exact one rfl)
    | (exact one (noRoom_cells h'))
    | (obtain ⟨_, _, _, rfl⟩ := h'; exact one rfl)
    | (obtain ⟨_, rfl⟩ := h'; exact one rfl)
    | (obtain ⟨_, rfl, _⟩ := h'; exact one rfl)
    | (obtain ⟨_, _, _, _, _, _, rfl⟩ := h'; exact one rfl)

theorem RelL.setR {D : DD S} : ∀ {us : List (U S)} {vs : List V} {j : Nat} {u : U S} {v : V}, RelL Y D E us vs → RelV Y D E u v → RelL Y D E (us.set j u) (vs.set j v)
  | [], vs, j, u, v, h, _ => by simp only [RelL] at h; subst h; simp [RelL]
  | u0 :: us, vs, j, u, v, h, hu => by
    simp only [RelL] at h
    obtain ⟨w, r, rfl, h2, h3⟩ := h
    cases j with
    | zero => exact ⟨v, r, rfl, hu, h3⟩
    | succ j => exact ⟨w, r.set j v, rfl, h2, RelL.setR h3 hu⟩
theorem RelL.setAt {D : DD S} : ∀ {news : List (U S)} {nv : List V} {us : List (U S)} {vs : List V} {j : Nat}, RelL Y D E us vs → RelL Y D E news nv → RelL Y D E (setAtU us j news) (Vm.setAt vs j nv)
  | [], nv, us, vs, j, h, hn => by simp only [RelL] at hn; subst hn; exact h
  | u :: news, nv, us, vs, j, h, hn => by
    simp only [RelL] at hn
    obtain ⟨w, r, rfl, h2, h3⟩ := hn
    show RelL Y D E (setAtU (us.set j u) (j + 1) news) (Vm.setAt (vs.set j w) (j + 1) r)
    exact RelL.setAt (RelL.setR h h2) h3
theorem setAtU_len : ∀ (news us : List (U S)) (j : Nat), (setAtU us j news).length = us.length
  | [], us, j => rfl
  | u :: news, us, j => by rw [setAtU, setAtU_len news]; simp

theorem sFill_ok {place : Nat → Option (Nat × Nat)} : ∀ {parts : List (Nat × U S)} {pv : List (Nat × V)} {us us' : List (U S)} {vs : List V}, sFill place us parts = some us' → RelL Y (Dat Y own st) E us vs → RelP Y (Dat Y own st) E parts pv → ∃ vs', vfill place vs pv = some vs' ∧ RelL Y (Dat Y own st) E us' vs'
  | [], pv, us, us', vs, h, hr, hp => by
    simp only [RelP] at hp
    subst hp
    simp only [sFill, Option.some.injEq] at h
    subst h
    exact ⟨vs, rfl, hr⟩
  | (i, u) :: parts, pv, us, us', vs, h, hr, hp => by
    simp only [RelP] at hp
    obtain ⟨v, r, rfl, h2, h3⟩ := hp
    simp only [sFill] at h
    simp only [vfill]
    cases hpl : place i with
    | none => simp [hpl] at h
    | some q =>
      obtain ⟨off, size⟩ := q
      simp only [hpl] at h ⊢
      cases hs : solid u with
      | false => simp [hs] at h
      | true =>
        have hc := RelV.cells hs h2
        have e1 := hc.length
        have e2 := hr.length
        rw [hs, Bool.true_and] at h
        rw [e1, e2]
        cases hq : (Nat.beq (cellsU u).length size && Nat.ble (off + (cellsU u).length) us.length) with
        | false => simp [hq] at h
        | true =>
          rw [hq] at h
          simp only [cond_true] at h ⊢
          exact sFill_ok h (hr.setAt hc) h3

theorem sBuild_ok {t : TypeId} {parts : List (Nat × U S)} {pv : List (Nat × V)} {k : U S → Prop} (h : sBuild P t parts k) (hp : RelP Y (Dat Y own st) E parts pv) : ∃ u v, vbuild P t pv = some v ∧ RelV Y (Dat Y own st) E u v ∧ k u := by
  unfold sBuild at h
  unfold vbuild
  cases hz : zeroU (S := S) P t with
  | none => simp [hz] at h
  | some z =>
    obtain ⟨w, e1, e2⟩ := zeroU_ok (Y := Y) hz
    have e2 := e2 (Dat Y own st) E
    cases hu : P.underlying t with
    | none => simp [hz, hu] at h
    | some d =>
      cases d <;> simp only [hz, hu] at h <;> try exact h.elim
      · split at h
        · rename_i places hm
          cases hs : solid z with
          | false => rw [hs] at h; exact h.elim
          | true =>
            rw [hs] at h
            obtain ⟨cs, h1, h2⟩ := onO_ok h
            obtain ⟨vs, h3, h4⟩ := sFill_ok h1 (RelV.cells hs e2) hp
            exact ⟨.a cs, .a vs, by simp only [e1, hm, h3], ⟨vs, rfl, h4⟩, h2⟩
        · exact h.elim
      · split at h
        · rename_i n hm
          cases hs : solid z with
          | false => rw [hs] at h; exact h.elim
          | true =>
            rw [hs] at h
            obtain ⟨cs, h1, h2⟩ := onO_ok h
            obtain ⟨vs, h3, h4⟩ := sFill_ok h1 (RelV.cells hs e2) hp
            exact ⟨.a cs, .a vs, by simp only [e1, hm, h3], ⟨vs, rfl, h4⟩, h2⟩
        · exact h.elim
end

section
variable {S : Sg} {Y : Sy S} {P : Program} {D : DD S} {E : En} {fr : T (U S)} {frV : T V}

theorem sField_ok {t : TypeId} {x : U S} {v : V} {f : Nat} {k : U S → Prop} (h : sField P t x f k) (hx : RelV Y D E x v) : ∃ u w, vfield P t v f = some w ∧ RelV Y D E u w ∧ k u := by
  unfold sField at h
  split at h
  · rename_i fs cs hu
    simp only [RelV] at hx
    obtain ⟨vs, rfl, hx⟩ := hx
    split at h
    · rename_i fd hfd
      obtain ⟨u, h1, h2⟩ := onO_ok h
      obtain ⟨w, h3, h4⟩ := sPart_ok h1 hx
      exact ⟨u, w, by unfold vfield; simp only [hu, hfd]; exact h3, h4, h2⟩
    · exact h.elim
  · exact h.elim

theorem bnd {i : Int} {n : Nat} (h : 0 ≤ i ∧ i < (n : Int)) : (ile 0 i && ilt i n) = true := by simp [ile, ilt]; omega
theorem toNat_lt {i : Int} {n : Nat} (h : 0 ≤ i ∧ i < (n : Int)) : i.toNat < n := by omega

theorem sIndex_ok {t : TypeId} {x : U S} {v : V} {i : Int} {k : U S → Prop} (h : sIndex P t x i k) (hx : RelV Y D E x v) : ∃ u w, vindex P t v i = some w ∧ RelV Y D E u w ∧ k u := by
  unfold sIndex at h
  split at h
  · rename_i l hu
    simp only [RelV] at hx
    subst hx
    refine ⟨_, .i .u8 (.ofNat (byteAt (packL l) i.toNat)), by unfold vindex V.str; simp only [hu, bnd h.1, cond_true], ?_, h.2⟩
    simp only [RelV]
    rw [byteAt_packL l i.toNat (toNat_lt h.1)]
    rfl
  · rename_i len e cs hu
    simp only [RelV] at hx
    obtain ⟨vs, rfl, hx⟩ := hx
    split at h
    · rename_i n hn
      obtain ⟨u, h1, h2⟩ := onO_ok h.2
      obtain ⟨w, h3, h4⟩ := sPart_ok h1 hx
      exact ⟨u, w, by unfold vindex; simp only [hu, hn, bnd h.1, cond_true]; exact h3, h4, h2⟩
    · exact h.elim
  · exact h.elim

theorem sOpt_ok {o : Option Operand} {k : Option Int → Prop} (h : sOpt fr o k) (hf : RelF Y D E fr frV) : ∃ (x : Option Int) (w : Option V), k x ∧ ((o = none ∧ x = none ∧ w = none) ∨ ∃ q kd n, o = some q ∧ opnd frV q = some (.i kd n) ∧ x = some n ∧ w = some (.i kd n)) := by
  unfold sOpt at h
  split at h
  · exact ⟨none, none, h, .inl ⟨rfl, rfl, rfl⟩⟩
  · rename_i q
    obtain ⟨u, v, h1, h2, h3⟩ := sOpd_ok h hf
    split at h3
    · rename_i kd n
      simp only [RelV] at h2
      subst h2
      exact ⟨some n, some (.i kd n), h3, .inr ⟨q, kd, n, rfl, h1, rfl, rfl⟩⟩
    · exact h3.elim

theorem vboundI {kd : IntKind} {n : Int} {y : Nat} (h : 0 ≤ n ∧ n ≤ (y : Int)) : vbound (.i kd n) y = some n.toNat := by
  have : (ile 0 n && ile n y) = true := by simp [ile]; omega
  simp only [vbound, this, cond_true, natF_eq]

theorem sSlice_ok {t : TypeId} {x : U S} {v : V} {lo hi : Option Int} {lw hw : Option V} {k : U S → Prop} (h : sSlice P t x lo hi k) (hx : RelV Y D E x v) (hl : (lo = none ∧ lw = none) ∨ ∃ kd n, lo = some n ∧ lw = some (.i kd n)) (hh : (hi = none ∧ hw = none) ∨ ∃ kd n, hi = some n ∧ hw = some (.i kd n)) :
    ∃ u w, vslice P t v lw hw none = some w ∧ RelV Y D E u w ∧ k u := by
  unfold sSlice at h
  split at h
  · rename_i l a hu
    simp only [RelV] at hx
    subst hx
    obtain ⟨e, _⟩ | ⟨kd, n, e, rfl⟩ := hl
    · cases e
    cases e
    obtain ⟨_, rfl⟩ | ⟨_, _, e, _⟩ := hh
    · have e3 := str_cut l a.toNat l.length (by omega) (Nat.le_refl _)
      rw [List.take_of_length_le (by simp)] at e3
      exact ⟨.s (l.drop a.toNat), V.str (l.drop a.toNat), by unfold vslice V.str; simp only [hu, vbounds, vboundO, vboundI h.1]; exact congrArg some e3, rfl, h.2⟩
    · cases e
  · rename_i l b hu
    simp only [RelV] at hx
    subst hx
    obtain ⟨_, rfl⟩ | ⟨_, _, e, _⟩ := hl
    · obtain ⟨e, _⟩ | ⟨kd, n, e, rfl⟩ := hh
      · cases e
      cases e
      have e3 := str_cut l 0 b.toNat (Nat.zero_le _) (by omega)
      simp only [List.drop_zero, Nat.sub_zero] at e3
      exact ⟨.s (l.take b.toNat), V.str (l.take b.toNat), by unfold vslice V.str; simp only [hu, vbounds, vboundO, vboundI h.1]; exact congrArg some e3, rfl, h.2⟩
    · cases e
  · rename_i l a b hu
    simp only [RelV] at hx
    subst hx
    obtain ⟨e, _⟩ | ⟨kd, n, e, rfl⟩ := hl
    · cases e
    cases e
    obtain ⟨e, _⟩ | ⟨kd', n', e, rfl⟩ := hh
    · cases e
    cases e
    obtain ⟨⟨h1, h2, h3⟩, hk⟩ := h
    have e3 := str_cut l a.toNat b.toNat (by omega) (by omega)
    have b1 : vbound (.i kd a) b.toNat = some a.toNat := vboundI ⟨h1, by omega⟩
    exact ⟨.s _, V.str ((l.drop a.toNat).take (b.toNat - a.toNat)), by unfold vslice V.str; simp only [hu, vbounds, vboundO, vboundI (kd := kd') (n := b) (y := l.length) ⟨by omega, h3⟩, b1]; exact congrArg some e3, rfl, hk⟩
  · rename_i l hu
    simp only [RelV] at hx
    subst hx
    obtain ⟨_, rfl⟩ | ⟨_, _, e, _⟩ := hl
    · obtain ⟨_, rfl⟩ | ⟨_, _, e, _⟩ := hh
      · have e3 := str_cut l 0 l.length (Nat.zero_le _) (Nat.le_refl _)
        simp only [List.drop_zero, Nat.sub_zero, List.take_length] at e3
        exact ⟨.s l, V.str l, by unfold vslice V.str; simp only [hu, vbounds, vboundO]; exact congrArg some e3, rfl, h⟩
      · cases e
    · cases e
  · exact h.elim

theorem sMinL_ok {mn : Bool} : ∀ {l : List (U S)} {vs : List V} {x : U S} {v : V} {k : U S → Prop}, sMinL mn x l k → RelV Y D E x v → RelL Y D E l vs → ∃ u w, vminL mn v vs = some w ∧ RelV Y D E u w ∧ k u
  | [], vs, x, v, k, h, hx, hl => by simp only [RelL] at hl; subst hl; exact ⟨x, v, rfl, hx, h⟩
  | y :: r, vs, x, v, k, h, hx, hl => by
    simp only [RelL] at hl
    obtain ⟨w, ws, rfl, h2, h3⟩ := hl
    simp only [sMinL, sMin2] at h
    split at h
    · rename_i kd a kd' b
      simp only [RelV] at hx h2
      subst hx h2
      obtain ⟨u, z, q1, q2, q3⟩ := sMinL_ok h (v := .i kd (cond mn (if b < a then b else a) (if a < b then b else a))) rfl h3
      refine ⟨u, z, ?_, q2, q3⟩
      simp only [vminL, vmin2]
      rw [show (cond mn (cond (ilt b a) b a) (cond (ilt a b) b a)) = cond mn (if b < a then b else a) (if a < b then b else a) from by
        have e1 : (cond (ilt b a) b a) = if b < a then b else a := by by_cases q : b < a <;> simp [ilt, q]
        have e2 : (cond (ilt a b) b a) = if a < b then b else a := by by_cases q : a < b <;> simp [ilt, q]
        rw [e1, e2]]
      exact q1
    · exact h.elim
end
end Go.Sx
