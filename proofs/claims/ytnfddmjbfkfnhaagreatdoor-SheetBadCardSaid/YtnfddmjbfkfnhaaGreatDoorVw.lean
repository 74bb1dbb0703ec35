/-
  append, copy, conversions, lengths: held against the model's. Nothing is claimed here.
-/
import Derived.Test.YtnfddmjbfkfnhaaGreatDoorVu4
namespace Go.Vm
open Go.RowKit

theorem cellsOfBytes_eq : ∀ (n x : Nat), cellsOfBytes n x = (unpackL n x).map fun c => V.i .u8 (.ofNat c.toNat)
  | 0, _ => rfl
  | n + 1, x => by
    have : x % 256 % 2 ^ 8 = x % 256 := by omega
    simp [cellsOfBytes, unpackL, cellsOfBytes_eq n, this]

section
variable {P : Program} {J : Inj} {ro : Nat} {B : World} {st : St} {w : World}

theorem vlen_real {x : V} {n : Nat} (h : vlen x = some n) : (Builtin.lenOf (x.real J)).run P w = .ok n w := by
  unfold vlen at h
  split at h <;> simp only [Option.some.injEq, reduceCtorEq] at h <;> subst h <;> simp [V.real, Builtin.lenOf, ByteArray.size, length_unpackL]

theorem bytes_extract (s n x : Nat) (h : n ≤ s) : ((⟨(unpackL s x).toArray⟩ : ByteArray).extract 0 n).data.toList = unpackL n x := by
  rw [ByteArray.extract_mk]
  have := unpackL_cut s x 0 n (by omega) h
  simp only [Nat.sub_zero, Nat.pow_zero, Nat.div_one] at this
  simp only [Nat.sub_zero]
  rw [← this, unpackL_mod]

/-- The first cells of a slice, or of a string. -/
theorem vfirst_real (hh : HR J ro B st.hp.get w) {es n m : Nat} {x : V} {cs : List V} (hx : x.ok J.nx) (hl : vlen x = some m) (hm : n ≤ m)
    (h : vfirst st es n x = some cs) :
    (Builtin.firstCells es n (x.real J)).run P w = .ok (cs.map (V.real J)).toArray w ∧ cs.length = n * es ∧ (∀ v ∈ cs, v.ok J.nx) ∧ ∀ v ∈ cs, v.atom = true := by
  unfold vfirst at h
  split at h
  · simp only [Option.some.injEq] at h
    subst h
    simp only [vlen, Option.some.injEq] at hl
    subst hl
    have : n = 0 := by omega
    subst this
    simp [V.real, Builtin.firstCells]
  · rename_i s y
    cases hes : Nat.beq es 1 with
    | false => simp [hes] at h
    | true =>
    simp only [hes, cond_true, Option.some.injEq] at h
    subst h
    simp only [vlen, Option.some.injEq] at hl
    subst hl
    simp only [V.ok] at hx
    have he := Nat.eq_of_beq_eq_true hes
    subst he
    rw [cellsOfBytes_eq]
    refine ⟨?_, by simp [length_unpackL], ?_, ?_⟩
    · simp only [V.real, Builtin.firstCells, Sem.run_pure, Result.ok.injEq, and_true]
      apply Array.ext'
      rw [Array.toList_map, bytes_extract s n y hm]
      simp [V.real]
    · intro v hv
      obtain ⟨c, _, rfl⟩ := List.mem_map.1 hv
      simp [V.ok]
    · intro v hv
      obtain ⟨c, _, rfl⟩ := List.mem_map.1 hv
      rfl
  · rename_i g off len cap op
    cases hb : st.hp.get g with
    | none => simp [hb] at h
    | some b =>
      simp only [hb] at h
      obtain ⟨q1, q2, q3, q4⟩ := (hh.blk g b hb).row (P := P) h
      exact ⟨by simp only [V.real, Builtin.firstCells]; exact q1, q2, q3, q4⟩
  · cases hz : Nat.beq n 0 with
    | false => simp [hz] at h
    | true =>
      simp only [hz, cond_true, Option.some.injEq] at h
      subst h
      rw [Nat.beq_eq] at hz
      subst hz
      simp [V.real, Builtin.firstCells, loadCells, loadCellsFrom]
  · cases hz : Nat.beq n 0 with
    | false => simp [hz] at h
    | true =>
      simp only [hz, cond_true, Option.some.injEq] at h
      subst h
      rw [Nat.beq_eq] at hz
      subst hz
      simp [V.real, Builtin.firstCells, loadCells, loadCellsFrom]
  · cases hz : Nat.beq n 0 with
    | false => simp [hz] at h
    | true =>
      simp only [hz, cond_true, Option.some.injEq] at h
      subst h
      rw [Nat.beq_eq] at hz
      subst hz
      simp [V.real, Builtin.firstCells, loadCells, loadCellsFrom]
  · simp at h

/-! ### append -/

theorem growBy_le (n : Nat) : ∀ (r c : Nat), c ≤ n → Builtin.growBy n r c ≤ n + (n + 768) / 4
  | 0, c, h => by simp only [Builtin.growBy]; omega
  | r + 1, c, h => by
    simp only [Builtin.growBy]
    split
    · omega
    · by_cases e : c + (c + 768) / 4 ≤ n
      · exact growBy_le n r _ e
      · cases r with
        | zero => simp only [Builtin.growBy]; omega
        | succ r => simp only [Builtin.growBy]; rw [if_pos (by omega)]; omega
theorem nextslicecap_le (need old : Nat) (h : old < need) : Builtin.nextslicecap need old ≤ 2 * need + 192 := by
  unfold Builtin.nextslicecap
  split
  · omega
  · split
    · omega
    · have := growBy_le need 4 old (by omega)
      omega

/-- Cells are written into a block of the model. -/
theorem store_raw {P : Program} : ∀ (vs : List Value) (w : World) (r s i : Nat) (c : Array Value) (e : TypeId) (fz : Nat × Nat), w.heap[r]? = some (.cells c e fz) → s + i + vs.length ≤ c.size →
    (∀ o, o < c.size → (decide (fz.1 ≤ o) && decide (o < fz.2)) = false) → (∀ v ∈ vs, v.oneCell' = true) →
    ∃ w' c', (storeCells ⟨r, s, none⟩ vs i).run P w = .ok () w' ∧ w'.heap[r]? = some (.cells c' e fz) ∧ c'.size = c.size ∧ (∀ o, c'[o]? = if s + i ≤ o ∧ o < s + i + vs.length then vs[o - (s + i)]? else c[o]?) ∧
      (∀ k, k ≠ r → w'.heap[k]? = w.heap[k]?) ∧ w'.heap.size = w.heap.size ∧ w'.os = w.os ∧ w'.tape = w.tape ∧ w'.output = w.output
  | [], w, r, s, i, c, e, fz, hc, _, _, _ => ⟨w, c, rfl, hc, rfl, fun o => by rw [if_neg (by simp)], fun _ _ => rfl, rfl, rfl, rfl, rfl⟩
  | v :: vs, w, r, s, i, c, e, fz, hc, hl, hf, h1 => by
    simp only [List.length_cons] at hl
    have hsome : w.cell? ⟨r, s + i, none⟩ = some c[s + i] := by simp [World.cell?, hc, Array.getElem?_eq_getElem (show s + i < c.size by omega)]
    have hfr : w.frozen? ⟨r, s + i, none⟩ = false := by
      have := hf (s + i) (by omega)
      simp only [World.frozen?, hc]; exact this
    have hself : (w.setCell ⟨r, s + i, none⟩ v).heap[r]? = some (.cells (c.setIfInBounds (s + i) v) e fz) := by
      simp only [World.setCell, Array.getElem?_modify, hc, if_true, Option.map_some]
      rfl
    obtain ⟨w', c', q1, q2, q3, q4, q5, q6, q7, q8, q9⟩ := store_raw (P := P) vs (w.setCell ⟨r, s + i, none⟩ v) r s (i + 1) _ e fz hself (by rw [Array.size_setIfInBounds]; omega) (by rw [Array.size_setIfInBounds]; exact hf) (fun x hx => h1 x (List.mem_cons_of_mem _ hx))
    refine ⟨w', c', ?_, q2, by rw [q3, Array.size_setIfInBounds], fun o => ?_, fun k hk => by rw [q5 k hk]; exact Below.heap_setCell _ _ _ _ hk, by rw [q6]; simp [World.setCell], q7, q8, q9⟩
    · unfold storeCells
      rw [Sem.run_bind, Addr.add_lit, run_store P w _ _ .plain (h1 v (List.mem_cons_self ..)), hsome]
      simp only [hfr, Bool.false_eq_true, if_false, Result.andThen_ok]
      exact q1
    · rw [q4 o]
      by_cases e1 : o = s + i
      · subst e1
        rw [if_neg (by omega), if_pos (by simp), Array.getElem?_setIfInBounds_self_of_lt (by omega)]
        simp
      · by_cases e2 : s + (i + 1) ≤ o ∧ o < s + (i + 1) + vs.length
        · rw [if_pos e2, if_pos (by simp; omega), show o - (s + i) = (o - (s + (i + 1))) + 1 from by omega]
          simp
        · rw [if_neg e2, if_neg (by simp; omega), Array.getElem?_setIfInBounds_ne (by omega)]

/-- What the new block of an append holds: the old elements and the new ones. -/
def GrownTo (b b1 : Blk) (off k es : Nat) (new : List V) : Prop :=
  b1.sz = k + new.length ∧ b1.es = es ∧ b1.op = true ∧ b1.zero = [] ∧ (k = 0 ∨ off + k ≤ b.sz) ∧ ∀ o v, b1.get o = some v → (o < k ∧ b.get (off + o) = some v) ∨ (k ≤ o ∧ new[o - k]? = some v)

theorem vgrown_mp {b b1 : Blk} {off len es : Nat} {new : List V} (h : vgrown b off len es new = some b1) : b.mp = none ∧ b1.mp = none := by
  unfold vgrown at h
  cases hm : b.mp with
  | some _ => rw [hm] at h; cases h
  | none =>
    rw [hm] at h
    refine ⟨rfl, ?_⟩
    dsimp only at h
    generalize (b.op && Nat.beq off 0 && Nat.beq (len * es) b.sz && Nat.beq b.es es) = c at h
    cases c with
    | true => simp only [cond_true, Blk.grow] at h; exact (Blk.put_mp _ _ _ _ h).trans hm
    | false =>
      simp only [cond_false] at h
      cases hr : b.row (len * es) off with
      | none => simp [hr] at h
      | some old => simp only [hr] at h; exact blkOf_mp h
theorem vgrown_spec {b b1 : Blk} {off len es : Nat} {new : List V} (hz : b.op = true → b.zero = []) (h : vgrown b off len es new = some b1) : GrownTo b b1 off (len * es) es new := by
  have h0 := h
  unfold vgrown at h
  rw [(vgrown_mp h0).1] at h
  dsimp only at h
  generalize hc : (b.op && Nat.beq off 0 && Nat.beq (len * es) b.sz && Nat.beq b.es es) = c at h
  cases c with
  | true =>
    simp only [cond_true, Blk.grow] at h
    simp only [Bool.and_eq_true, Nat.beq_eq] at hc
    obtain ⟨⟨⟨c1, rfl⟩, c3⟩, c4⟩ := hc
    obtain ⟨p1, p2, p3, p4, p5, p6, p7⟩ := Blk.put_spec _ _ _ _ h
    refine ⟨by rw [p1, c3], by rw [p2]; exact c4, by rw [p3], by rw [p4]; exact hz c1, .inr (by omega), fun o v hv => ?_⟩
    rw [p5 o] at hv
    rw [c3]
    by_cases e : b.sz ≤ o ∧ o < b.sz + new.length
    · rw [if_pos e] at hv
      exact .inr ⟨e.1, hv⟩
    · rw [if_neg e] at hv
      have ho := Blk.get_lt hv
      dsimp only at ho
      have ho' : o < b.sz := by omega
      refine .inl ⟨ho', ?_⟩
      simp only [Blk.get, Nat.zero_add] at hv ⊢
      rw [show Nat.blt o (b.sz + new.length) = true from by rw [Nat.blt_eq]; exact ho, cond_true] at hv
      rw [show Nat.blt o b.sz = true from by rw [Nat.blt_eq]; exact ho', cond_true]
      exact hv
  | false =>
    simp only [cond_false] at h
    cases hr : b.row (len * es) off with
    | none => simp [hr] at h
    | some old =>
      simp only [hr] at h
      obtain ⟨b1', b2, b3, b4, b5, b6⟩ := blkOf_spec h
      obtain ⟨r1, r2⟩ := Blk.row_spec _ _ _ hr
      refine ⟨by rw [b1']; simp [r1], b2, b3, b4, ?_, fun o v hv => ?_⟩
      · rcases Nat.eq_zero_or_pos (len * es) with h0 | h0
        · exact .inl h0
        · have hx : len * es - 1 < old.length := by omega
          have := Blk.get_lt (r2 (len * es - 1) _ (List.getElem?_eq_getElem hx))
          exact .inr (by omega)
      rw [b5 o] at hv
      by_cases e : o < len * es
      · rw [List.getElem?_append_left (by omega)] at hv
        exact .inl ⟨e, r2 o v hv⟩
      · rw [List.getElem?_append_right (by omega), r1] at hv
        exact .inr ⟨by omega, hv⟩

theorem zeroFits_real {e : TypeId} {n : Nat} (h : zeroFits P e n = true) : ∃ z : V, zeroOf P e = some z ∧ z.cells.length = n := by
  unfold zeroFits at h
  cases hz : zeroOf P e with
  | none => simp [hz] at h
  | some z => simp only [hz, Nat.beq_eq] at h; exact ⟨z, rfl, h⟩

theorem len_cells_at {c : Array Value} {a : Addr} {n k : Nat} {w : World} (hc : ∀ j, j < n → w.cell? (a.add j) = c[k + j]?) (hk : k + n ≤ c.size) :
    (loadCells a n).run P w = .ok (c.extract k (k + n)) w := by
  have := run_loadCells (P := P) (w := w) a n (fun j => c[k + j]?.getD undef) (fun j hj => by rw [hc j hj, Array.getElem?_eq_getElem (by omega)]; rfl)
  rw [this]
  congr 1
  apply Array.ext
  · simp; omega
  · intro i h1 h2
    simp at h1 h2
    simp
    rw [Array.getElem?_eq_getElem (by omega)]; rfl

/-- The growth of an append, wherever its new row lies: a new block. -/
theorem grow_post (hn : J.nx = st.nx) (hh : HR J ro B st.hp.get w) (hro : ro ≤ J.nx) {h0 : Nat → Option Blk} (hless : ∀ g b, h0 g = some b → st.hp.get g = some b) {b1 : Blk} {k es x : Nat} {old new : Array Value} {newV : List V} {rest : Array Value} {e : TypeId} {hp : T Blk} {ver : Nat}
    (hhp : ∀ g, hp.get g = h0 g) (hver : ver ≤ st.ver) (hext : ∀ g b, st.hp.get g = some b → g < ver → h0 g = some b)
    (hk : old.size = k) (hnew : new = (newV.map (V.real J)).toArray) (hrest : rest.size = x * es) (hes : b1.es = es) (hsz : b1.sz = k + newV.length) (hz : b1.zero = []) (hmp : b1.mp = none)
    (hold : ∀ o v, b1.get o = some v → (o < k ∧ v.ok J.nx ∧ v.atom = true ∧ old[o]? = some (v.real J)) ∨ (k ≤ o ∧ newV[o - k]? = some v)) (hnv : ∀ v ∈ newV, v.ok J.nx) (hna : ∀ v ∈ newV, v.atom = true) :
    Post J ro B st w (J.push (w.heap.size, 0, x)) (St.alloc ⟨st.nx, hp, ver⟩ b1) (w.drew.alloc (.cells (old ++ new ++ rest) e)) := by
  subst hnew
  have hh0 : HR J ro B h0 w.drew := (hh.less hless).congr rfl
  have hal := hh0.alloc (b := b1) (x := x) (c := old ++ (newV.map (V.real J)).toArray ++ rest) (e := e) (fz := (0, 0)) hmp (by simp; omega) (fun _ => ⟨by simp [hes]; omega, hz⟩) (fun o _ => by simp) (fun o v hv => ?_)
  · refine ⟨J.le_push _, by show J.nx + 1 = st.nx + 1; omega, ?_, (Below.drew (Below.refl B.heap.size w)).alloc hh.base.size _, ⟨Nat.le_succ _, hver, fun g bk hg he => ?_⟩, Nat.le_succ_of_le hro, ?_⟩
    · show HR _ ro B (hp.upd st.nx (some b1)).get _
      rw [get_upd_fun, show hp.get = h0 from funext hhp]
      rw [hn] at hal
      exact hal
    · have hlt := (hh.blk g bk hg).1
      show (hp.upd st.nx (some b1)).get g = some bk
      rw [T.get_upd, if_neg (by omega), hhp]
      exact hext g bk hg he
    · refine Fr.push (h0 := h0) hless (fun g b hg => (hh.blk g b hg).1) (.inl (Nat.le_refl _)) (fun g bk hg => ?_) (fun i hi _ => ?_)
      · have hg : (hp.upd st.nx (some b1)).get g = some bk := hg
        rw [T.get_upd] at hg
        by_cases e1 : g = st.nx
        · exact .inl (e1.trans hn.symm)
        · rw [if_neg e1, hhp] at hg; exact .inr hg
      · exact Below.heap_alloc w.drew _ _ hi
  · rcases hold o v hv with ⟨h1, h2, h3, h4⟩ | ⟨h1, h2⟩
    · refine ⟨h2, h3, ?_⟩
      rw [Array.getElem?_append_left (by simp; omega), Array.getElem?_append_left (by omega)]
      exact h4
    · have hm := List.mem_of_getElem? h2
      refine ⟨hnv v hm, hna v hm, ?_⟩
      have : o - k < newV.length := by
        rcases Nat.lt_or_ge (o - k) newV.length with h | h
        · exact h
        · rw [List.getElem?_eq_none h] at h2; cases h2
      rw [Array.getElem?_append_left (by simp; omega), Array.getElem?_append_right (by omega), hk]
      simp [h2]
end
end Go.Vm
