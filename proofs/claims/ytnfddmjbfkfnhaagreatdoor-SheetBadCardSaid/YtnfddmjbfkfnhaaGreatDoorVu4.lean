/-
  The evaluator's steps. Nothing is claimed here. (The texts Vu, Vu2, Vu3, Vu4, one behind the other.)
-/
import Derived.Test.YtnfddmjbfkfnhaaGreatDoorVq
import Derived.Laws.Slices
namespace Go.Vm
open Go.RowKit

theorem repeatL_length (z : List V) : ∀ n, (repeatL z n).length = n * z.length
  | 0 => by simp [repeatL]
  | n + 1 => by simp [repeatL, repeatL_length z n, Nat.add_mul]; omega
theorem repeatL_get (z : List V) : ∀ (n i : Nat), i < n * z.length → (repeatL z n)[i]? = z[i % z.length]?
  | 0, i, h => by simp at h
  | n + 1, i, h => by
    simp only [repeatL]
    by_cases e : i < z.length
    · rw [List.getElem?_append_left e, Nat.mod_eq_of_lt e]
    · rw [List.getElem?_append_right (by omega), repeatL_get z n (i - z.length) (by rw [Nat.add_mul] at h; omega)]
      rw [← Nat.mod_eq_sub_mod (by omega)]
theorem repeatL_mem {p : V → Prop} (z : List V) (h : ∀ v ∈ z, p v) : ∀ n, ∀ v ∈ repeatL z n, p v
  | 0, v, hv => by simp [repeatL] at hv
  | n + 1, v, hv => by
    simp only [repeatL, List.mem_append] at hv
    rcases hv with hv | hv
    · exact h v hv
    · exact repeatL_mem z h n v hv

section
variable {P : Program} {J : Inj} {ro : Nat} {B : World} {st : St} {w : World}

theorem partsOf_spec {fr : T V} {f : Operand → Value} (hf : ∀ x v, opnd fr x = some v → f x = v.real J ∧ v.ok J.nx) : ∀ (ps : List (Nat × Operand)) (r : List (Nat × V)), partsOf fr ps = some r →
    (ps.map fun x => (x.1, f x.2)) = (r.map fun x => (x.1, x.2.real J)) ∧ ∀ x ∈ r, x.2.ok J.nx
  | [], r, h => by simp only [partsOf, Option.some.injEq] at h; subst h; simp
  | (i, o) :: ps, r, h => by
    simp only [partsOf] at h
    cases h1 : opnd fr o with
    | none => simp [h1] at h
    | some v =>
      cases h2 : partsOf fr ps with
      | none => simp [h1, h2] at h
      | some ys =>
        simp only [h1, h2, Option.some.injEq] at h
        subst h
        obtain ⟨q1, q2⟩ := partsOf_spec hf ps ys h2
        obtain ⟨p1, p2⟩ := hf o v h1
        refine ⟨by simp [q1, p1], fun x hx => ?_⟩
        rcases List.mem_cons.1 hx with rfl | hx
        · exact p2
        · exact q2 x hx
theorem opnds_spec {fr : T V} {f : Operand → Value} (hf : ∀ x v, opnd fr x = some v → f x = v.real J ∧ v.ok J.nx) : ∀ (ps : List Operand) (r : List V), opnds fr ps = some r →
    ps.map f = r.map (V.real J) ∧ V.oks J.nx r
  | [], r, h => by simp only [opnds, Option.some.injEq] at h; subst h; simp [V.oks]
  | o :: ps, r, h => by
    simp only [opnds] at h
    cases h1 : opnd fr o with
    | none => simp [h1] at h
    | some v =>
      cases h2 : opnds fr ps with
      | none => simp [h1, h2] at h
      | some ys =>
        simp only [h1, h2, Option.some.injEq] at h
        subst h
        obtain ⟨q1, q2⟩ := opnds_spec hf ps ys h2
        obtain ⟨p1, p2⟩ := hf o v h1
        exact ⟨by simp [q1, p1], p2, q2⟩

theorem vbuildSlice_post (hn : J.nx = st.nx) (hh : HR J ro B st.hp.get w) (hro : ro ≤ J.nx) {t : TypeId} {len : Nat} {ps : List (Nat × V)} {v : V} {st' : St} (hps : ∀ x ∈ ps, x.2.ok J.nx)
    (h : vbuildSlice P st t len ps = some (v, st')) :
    ∃ J' w', (Instr.buildSlice t len (ps.map fun x => (x.1, x.2.real J)).toArray).run P w = .ok (v.real J') w' ∧ v.ok J'.nx ∧ Post J ro B st w J' st' w' := by
  unfold vbuildSlice at h
  split at h
  · rename_i e hd
    split at h
    · rename_i n z hs hz
      cases hc : (Nat.ble (len * n) 16777216 && Nat.blt 0 n && Nat.beq z.cells.length n) with
      | false => simp [hc] at h
      | true =>
        simp only [hc, cond_true] at h
        simp only [Bool.and_eq_true, Nat.ble_eq, Nat.blt_eq, Nat.beq_eq] at hc
        obtain ⟨⟨c1, c2⟩, c3⟩ := hc
        cases hf : vfill (fun i => some (i * n, n)) (repeatL z.cells len) ps with
        | none => simp [hf] at h
        | some cs =>
          simp only [hf] at h
          cases hb : blkOf cs n false with
          | none => simp [hb] at h
          | some b =>
            simp only [hb, natF_eq, Option.some.injEq, Prod.mk.injEq] at h
            obtain ⟨rfl, rfl⟩ := h
            obtain ⟨_, _, _, hzok⟩ := zeroOf_real J J.nx hz
            obtain ⟨q1, q2, q3⟩ := vfill_real J _ ps _ cs hf
            obtain ⟨b1, b2, b3, b4, b5, b6⟩ := blkOf_spec hb
            refine ⟨J.push (w.heap.size, 0, 0), w.alloc (.cells (cs.map (V.real J)).toArray e), ?_, ?_, ?_⟩
            · have hcells : (Array.range (len * n)).map (fun i => (if len * n = 0 then (#[] : Array Value) else (z.real J).cells)[i % (if len * n = 0 then (#[] : Array Value) else (z.real J).cells).size]!) = ((repeatL z.cells len).map (V.real J)).toArray := by
                apply Array.ext'
                apply List.ext_getElem?
                intro i
                by_cases hi : i < len * n
                · have h0 : ¬ len * n = 0 := by omega
                  have hlen : (z.real J).cells.size = n := by rw [V.cells_real]; simp [c3]
                  have hm : i % n < z.cells.length := by rw [c3]; exact Nat.mod_lt _ c2
                  simp only [h0, if_false, Array.toList_map, Array.toList_range, List.getElem?_map, List.getElem?_range hi, Option.map_some, hlen]
                  rw [repeatL_get _ _ _ (by rw [c3]; exact hi), c3, List.getElem?_eq_getElem hm, Option.map_some]
                  rw [V.cells_real]
                  simp [hm]
                · have : (repeatL z.cells len).length ≤ i := by rw [repeatL_length, c3]; omega
                  simp [hi, List.getElem?_eq_none this]
              have hbig : ¬ (len * n > 2 ^ 24) := by omega
              have hfin : (V.sl st.nx 0 len len false).real (J.push (w.heap.size, 0, 0)) = .slice (some ⟨w.heap.size, 0, none⟩) len len := by
                rw [← hn]; simp [V.real, Inj.push_self]
              rw [hfin]
              unfold Instr.buildSlice
              by_cases h0 : len * n = 0
              · simp only [h0, if_true] at hcells
                simp only [Sem.run_bind, run_underlying hd, Result.andThen_ok, sizeB_run w hs, h0, if_true, pure_bind]
                rw [if_neg (by omega), hcells, q1]
                simp [newRow]
              · simp only [h0, if_false] at hcells
                simp only [Sem.run_bind, run_underlying hd, Result.andThen_ok, sizeB_run w hs, h0, if_false, pure_bind]
                rw [if_neg hbig]
                simp only [Sem.run_bind, zeroOf_run J hz, Result.andThen_ok]
                rw [hcells, q1]
                simp [newRow]
            · simp only [V.ok, Inj.push]; omega
            · refine alloc_post hn hh hro (blkOf_mp hb) (by simp [b1]) (by simp [b3]) (fun o _ => by simp) (fun o u hu => ?_)
              rw [b5] at hu
              have hm := List.mem_of_getElem? hu
              exact ⟨q3 J.nx hps (repeatL_mem _ (V.ok_cells hzok) len) u hm, b6 u hm, by simp [hu]⟩
    · simp at h
  · simp at h

theorem vbuildSlice_fine {t : TypeId} {len : Nat} {ps : List (Nat × V)} {v : V} {st' : St} (h : vbuildSlice P st t len ps = some (v, st')) :
    ∃ e n cs b, blkOf cs n false = some b ∧ (∀ st2 : St, vbuildSlice P st2 t len ps = some (.sl st2.nx 0 len len false, St.alloc ⟨st2.nx, st2.hp, st2.ver⟩ b)) ∧
      ∀ (J : Inj), (∀ x ∈ ps, x.2.ok J.nx) → (∀ u ∈ cs, u.ok J.nx) ∧ ∀ w : World, (Instr.buildSlice t len (ps.map fun x => (x.1, x.2.real J)).toArray).run P w = .ok (.slice (some ⟨w.heap.size, 0, none⟩) len len) (w.alloc (.cells (cs.map (V.real J)).toArray e)) := by
  unfold vbuildSlice at h
  split at h
  · rename_i e hd
    split at h
    · rename_i n z hs hz
      cases hc : (Nat.ble (len * n) 16777216 && Nat.blt 0 n && Nat.beq z.cells.length n) with
      | false => simp [hc] at h
      | true =>
        simp only [hc, cond_true] at h
        have hc' := hc
        simp only [Bool.and_eq_true, Nat.ble_eq, Nat.blt_eq, Nat.beq_eq] at hc
        obtain ⟨⟨c1, c2⟩, c3⟩ := hc
        cases hf : vfill (fun i => some (i * n, n)) (repeatL z.cells len) ps with
        | none => simp [hf] at h
        | some cs =>
          simp only [hf] at h
          cases hb : blkOf cs n false with
          | none => simp [hb] at h
          | some b =>
            refine ⟨e, n, cs, b, hb, fun st2 => by simp only [vbuildSlice, hd, hs, hz, hc', cond_true, hf, hb, natF_eq], fun J hps => ?_⟩
            obtain ⟨_, _, _, hzok⟩ := zeroOf_real J J.nx hz
            obtain ⟨q1, q2, q3⟩ := vfill_real J _ ps _ cs hf
            refine ⟨fun u hu => q3 J.nx hps (repeatL_mem _ (V.ok_cells hzok) len) u hu, fun w => ?_⟩
            have hcells : (Array.range (len * n)).map (fun i => (if len * n = 0 then (#[] : Array Value) else (z.real J).cells)[i % (if len * n = 0 then (#[] : Array Value) else (z.real J).cells).size]!) = ((repeatL z.cells len).map (V.real J)).toArray := by
              apply Array.ext'
              apply List.ext_getElem?
              intro i
              by_cases hi : i < len * n
              · have h0 : ¬ len * n = 0 := by omega
                have hlen : (z.real J).cells.size = n := by rw [V.cells_real]; simp [c3]
                have hm : i % n < z.cells.length := by rw [c3]; exact Nat.mod_lt _ c2
                simp only [h0, if_false, Array.toList_map, Array.toList_range, List.getElem?_map, List.getElem?_range hi, Option.map_some, hlen]
                rw [repeatL_get _ _ _ (by rw [c3]; exact hi), c3, List.getElem?_eq_getElem hm, Option.map_some]
                rw [V.cells_real]
                simp [hm]
              · have : (repeatL z.cells len).length ≤ i := by rw [repeatL_length, c3]; omega
                simp [hi, List.getElem?_eq_none this]
            have hbig : ¬ (len * n > 2 ^ 24) := by omega
            unfold Instr.buildSlice
            by_cases h0 : len * n = 0
            · simp only [h0, if_true] at hcells
              simp only [Sem.run_bind, run_underlying hd, Result.andThen_ok, sizeB_run w hs, h0, if_true, pure_bind]
              rw [if_neg (by omega), hcells, q1]
              simp [newRow]
            · simp only [h0, if_false] at hcells
              simp only [Sem.run_bind, run_underlying hd, Result.andThen_ok, sizeB_run w hs, h0, if_false, pure_bind]
              rw [if_neg hbig]
              simp only [Sem.run_bind, zeroOf_run J hz, Result.andThen_ok]
              rw [hcells, q1]
              simp [newRow]
    · simp at h
  · simp at h

end
end Go.Vm

namespace Go.Vm
open Go.RowKit

section
variable {P : Program} {J : Inj} {ro : Nat} {B : World} {st : St} {w : World}

theorem vmakeSlice_post (hn : J.nx = st.nx) (hh : HR J ro B st.hp.get w) (hro : ro ≤ J.nx) {t : TypeId} {len cap : Int} {kl kc : IntKind} {v : V} {st' : St}
    (h : vmakeSlice P st t len cap = some (v, st')) :
    ∃ J' w', (Instr.makeSlice t (.int kl len) (.int kc cap)).run P w = .ok (v.real J') w' ∧ v.ok J'.nx ∧ Post J ro B st w J' st' w' := by
  unfold vmakeSlice at h
  split at h
  · rename_i e hd
    split at h
    · rename_i ti z hi hz
      generalize hcd : (ile 0 len && ile len cap && ile (ti.bytes * cap) 1099511627776 && ile cap 1099511627776 && Nat.blt 0 ti.size && Nat.beq z.cells.length ti.size && z.cells.all V.atom) = c at h
      cases c with
      | false => simp at h
      | true =>
        simp only [cond_true, natF_eq, Option.some.injEq, Prod.mk.injEq] at h
        obtain ⟨rfl, rfl⟩ := h
        simp only [Bool.and_eq_true, ile, decide_eq_true_eq, Nat.blt_eq, Nat.beq_eq, List.all_eq_true] at hcd
        obtain ⟨⟨⟨⟨⟨⟨c1, c2⟩, c3⟩, c4⟩, c5⟩, c6⟩, c7⟩ := hcd
        obtain ⟨ti', z1, z2, zok⟩ := zeroOf_real J J.nx hz
        rw [hi, Option.some.injEq] at z1
        subst z1
        have hr := run_make (P := P) w t e ti (z.real J) hd hi z2 kl kc len cap c1 c2 (by omega) (by omega)
        refine ⟨J.push (w.heap.size, 0, 0), _, ?_, ?_, alloc_post hn hh hro (b := ⟨.e, z.cells, cap.toNat * ti.size, ti.size, false, none⟩) (x := 0) (e := e) (c := madeCells (z.real J).cells (cap.toNat * ti.size)) (fz := (0, 0)) rfl (by rw [size_madeCells]; exact Nat.le_refl _) (by simp) (fun o _ => by simp) (fun o u hu => ?_)⟩
        · rw [hr, ← hn]
          simp [V.real, Inj.push_self]
        · simp only [V.ok, Inj.push]; omega
        · have ho := Blk.get_lt hu
          dsimp only at ho
          simp only [Blk.get, T.get_e] at hu
          rw [show Nat.blt o (cap.toNat * ti.size) = true from by rw [Nat.blt_eq]; exact ho, cond_true] at hu
          have hm := List.mem_of_getElem? hu
          refine ⟨V.ok_cells zok u hm, c7 u hm, ?_⟩
          have hlen : (z.real J).cells.size = ti.size := by rw [V.cells_real]; simp [c6]
          have hmod : o % ti.size < z.cells.length := by rw [c6]; exact Nat.mod_lt _ c5
          rw [List.getElem?_eq_getElem hmod, Option.some.injEq] at hu
          subst hu
          simp only [madeCells, hlen]
          rw [Array.getElem?_map, Array.getElem?_range, if_pos ho, Option.map_some]
          rw [V.cells_real]
          simp [hmod]
    · simp at h
  · simp at h

end
end Go.Vm

namespace Go.Vm
open Go.RowKit

section
variable {P : Program} {J : Inj} {ro : Nat} {B : World} {st : St} {w : World}

/-! ### Slicing -/

theorem vbound_real {x : V} {y m : Nat} (h : vbound x y = some m) (code : BoundsCode) : (Instr.sliceBound (x.real J) y code).run P w = .ok m w ∧ m ≤ y := by
  unfold vbound at h
  split at h
  · rename_i k n
    generalize hc : (ile 0 n && ile n y) = c at h
    cases c with
    | false => simp at h
    | true =>
      simp only [cond_true, natF_eq, Option.some.injEq] at h
      simp only [Bool.and_eq_true, ile, decide_eq_true_eq] at hc
      subst h
      simp only [V.real]
      exact ⟨run_sliceBound w k n y code hc.1 hc.2, by omega⟩
  · simp at h

/-- low, high and max of a slice whose capacity may be greater than is known. -/
theorem vbounds_real {isS : Bool} {len cap capr : Nat} {lo hi mx : Option V} {l h m : Nat} (hcap : cap ≤ capr) (hmx : mx = none ∨ hi.isSome = true) (hl : len ≤ cap) (e : vbounds len cap lo hi mx = some (l, h, m)) :
    (Instr.sliceBounds isS len capr (lo.map (V.real J)) (hi.map (V.real J)) (mx.map (V.real J))).run P w = .ok (l, h, if mx.isSome then m else capr) w ∧ l ≤ h ∧ h ≤ m ∧ m ≤ cap ∧ (mx = none → m = cap) := by
  have up : ∀ {x : V} {a b k : Nat} (code : BoundsCode), a ≤ b → vbound x a = some k → (Instr.sliceBound (x.real J) b code).run P w = .ok k w := by
    intro x a b k code hab hx
    unfold vbound at hx
    split at hx
    · rename_i kk n
      generalize hc : (ile 0 n && ile n a) = c at hx
      cases c with
      | false => simp at hx
      | true =>
        simp only [cond_true, natF_eq, Option.some.injEq] at hx
        simp only [Bool.and_eq_true, ile, decide_eq_true_eq] at hc
        subst hx
        simp only [V.real]
        exact run_sliceBound w kk n b code hc.1 (by omega)
    · simp at hx
  unfold vbounds at e
  cases mx with
  | none =>
    simp only [vboundO] at e
    cases hi with
    | none =>
      simp only at e
      cases lo with
      | none =>
        simp only [Option.some.injEq, Prod.mk.injEq] at e
        obtain ⟨rfl, rfl, rfl⟩ := e
        refine ⟨by simp [Instr.sliceBounds], by omega, hl, Nat.le_refl _, fun _ => rfl⟩
      | some x =>
        simp only at e
        cases hx : vbound x len with
        | none => simp [hx] at e
        | some k =>
          simp only [hx, Option.some.injEq, Prod.mk.injEq] at e
          obtain ⟨rfl, rfl, rfl⟩ := e
          refine ⟨?_, (vbound_real (P := P) (J := J) (w := w) hx .sliceB).2, hl, Nat.le_refl _, fun _ => rfl⟩
          simp [Instr.sliceBounds, (vbound_real (P := P) (J := J) (w := w) hx .sliceB).1]
    | some y =>
      simp only at e
      cases hy : vbound y cap with
      | none => simp [hy] at e
      | some q =>
        simp only [hy] at e
        have hy' := fun code => up (b := capr) code hcap hy
        have hq := (vbound_real (P := P) (J := J) (w := w) hy .sliceB).2
        cases lo with
        | none =>
          simp only [Option.some.injEq, Prod.mk.injEq] at e
          obtain ⟨rfl, rfl, rfl⟩ := e
          refine ⟨?_, by omega, hq, Nat.le_refl _, fun _ => rfl⟩
          simp [Instr.sliceBounds, hy']
        | some x =>
          simp only at e
          cases hx : vbound x q with
          | none => simp [hx] at e
          | some k =>
            simp only [hx, Option.some.injEq, Prod.mk.injEq] at e
            obtain ⟨rfl, rfl, rfl⟩ := e
            refine ⟨?_, (vbound_real (P := P) (J := J) (w := w) hx .sliceB).2, hq, Nat.le_refl _, fun _ => rfl⟩
            simp [Instr.sliceBounds, hy', (vbound_real (P := P) (J := J) (w := w) hx .sliceB).1]
  | some z =>
    simp only [vboundO] at e
    cases hz : vbound z cap with
    | none => simp [hz] at e
    | some p =>
      simp only [hz] at e
      have hz' := fun code => up (b := capr) code hcap hz
      have hp := (vbound_real (P := P) (J := J) (w := w) hz .sliceB).2
      cases hi with
      | none => simp at hmx
      | some y =>
        simp only at e
        cases hy : vbound y p with
        | none => simp [hy] at e
        | some q =>
          simp only [hy] at e
          have hy' := fun code => (vbound_real (P := P) (J := J) (w := w) hy code).1
          have hq := (vbound_real (P := P) (J := J) (w := w) hy .sliceB).2
          cases lo with
          | none =>
            simp only [Option.some.injEq, Prod.mk.injEq] at e
            obtain ⟨rfl, rfl, rfl⟩ := e
            refine ⟨?_, by omega, hq, hp, by simp⟩
            simp [Instr.sliceBounds, hy', hz']
          | some x =>
            simp only at e
            cases hx : vbound x q with
            | none => simp [hx] at e
            | some k =>
              simp only [hx, Option.some.injEq, Prod.mk.injEq] at e
              obtain ⟨rfl, rfl, rfl⟩ := e
              refine ⟨?_, (vbound_real (P := P) (J := J) (w := w) hx .sliceB).2, hq, hp, by simp⟩
              simp [Instr.sliceBounds, hy', hz', fun code => (vbound_real (P := P) (J := J) (w := w) hx code).1]

end
end Go.Vm

namespace Go.Vm
open Go.RowKit

section
variable {P : Program} {J : Inj} {ro : Nat} {B : World} {st : St} {w : World}

/-! ### Slicing -/

theorem vslice_real {n : Nat} {t : TypeId} {x v : V} {lo hi mx : Option V} (hx : x.ok n) (h : vslice P t x lo hi mx = some v) :
    (Instr.sliceAt t (x.real J) (lo.map (V.real J)) (hi.map (V.real J)) (mx.map (V.real J))).run P w = .ok (v.real J) w ∧ v.ok n := by
  unfold vslice at h
  split at h
  · rename_i len bits e
    cases mx with
    | some z => simp at h
    | none =>
      simp only at h
      cases hb : vbounds len len lo hi none with
      | none => simp [hb] at h
      | some q =>
        obtain ⟨l, hh, m⟩ := q
        simp only [hb, Option.some.injEq] at h
        subst h
        simp only [V.ok] at hx
        obtain ⟨r1, r2, r3, r4, r5⟩ := vbounds_real (P := P) (J := J) (w := w) (isS := false) (capr := len) (Nat.le_refl _) (.inl rfl) (Nat.le_refl _) hb
        have hs : (⟨(unpackL len bits).toArray⟩ : ByteArray).size = len := by simp [ByteArray.size, length_unpackL]
        refine ⟨?_, by simp only [sCut, V.ok]; exact Nat.mod_lt _ (Nat.pow_pos (by decide))⟩
        simp only [V.real, Instr.sliceAt, Sem.run_bind, run_underlying e, Result.andThen_ok, Instr.slice, Option.map_none]
        simp only [Option.map_none, Option.isSome_none] at r1
        simp only [hs, r1, Result.andThen_ok, Option.isSome_none, Bool.false_eq_true, if_false, Sem.run_pure, Sem.run_bind]
        rw [ByteArray.extract_mk, sCut, V.real, unpackL_cut len bits l hh r2 (by omega)]
  · rename_i el g off len cap op e
    cases hs : sizeB P el with
    | none => simp [hs] at h
    | some k =>
      simp only [hs] at h
      have hmx : mx = none ∨ hi.isSome = true := by cases hi <;> cases mx <;> simp_all
      have h' : (match vbounds len cap lo hi mx with
        | some (l, h, m) => cond (op && mx.isNone)
          (cond (Nat.blt l cap || Nat.beq l 0) (some (V.sl g (off + l * k) (h - l) (cap - l) true)) (some (V.se g off (off + l * k))))
          (cond (!mx.isNone && Nat.beq m l) (some (V.sy g off off)) (some (V.sl g (cond (Nat.beq m l) off (off + l * k)) (h - l) (m - l) false)))
        | none => none) = some v := by
        cases hi <;> cases mx <;> first | exact h | simp at h
      clear h
      cases hb : vbounds len cap lo hi mx with
      | none => simp [hb] at h'
      | some q =>
        obtain ⟨l, hh, m⟩ := q
        simp only [hb] at h'
        simp only [V.ok] at hx
        obtain ⟨r1, r2, r3, r4, r5⟩ := vbounds_real (P := P) (J := J) (w := w) (isS := true) (capr := cap + cond op (J.m g).2.2 0) (by omega) hmx hx.2 hb
        simp only [V.real, Instr.sliceAt, Sem.run_bind, run_underlying e, Result.andThen_ok, Instr.slice, r1, sizeB_run w hs, Sem.run_pure]
        cases hc : (op && mx.isNone) with
        | true =>
          simp only [hc, cond_true] at h'
          simp only [Bool.and_eq_true, Option.isNone_iff_eq_none] at hc
          obtain ⟨rfl, rfl⟩ := hc
          have hm := r5 rfl
          subst hm
          generalize hd : (Nat.blt l m || Nat.beq l 0) = d at h'
          cases d with
          | false =>
            simp only [cond_true, cond_false, Option.some.injEq] at h'
            subst h'
            simp only [Bool.or_eq_false_iff] at hd
            have d1 : ¬ l < m := fun q => by rw [← Nat.blt_eq, hd.1] at q; cases q
            refine ⟨?_, by simp only [V.ok]; omega⟩
            have d3 : hh - l = 0 := by omega
            simp only [V.real, cond_true, Option.isSome_none, Bool.false_eq_true, if_false, Result.ok.injEq, Value.slice.injEq, and_true, true_and, d3]
            refine ⟨?_, by omega⟩
            by_cases hml : (J.m g).2.2 = 0
            · rw [if_pos (by omega), hml]
              simp
            · rw [if_neg (by omega), show Nat.beq (J.m g).2.2 0 = false from by rw [Bool.eq_false_iff]; intro q; rw [Nat.beq_eq] at q; exact hml q]
              simp [Addr.add_lit, Nat.add_assoc]
          | true =>
            simp only [cond_true, Option.some.injEq] at h'
            subst h'
            simp only [Bool.or_eq_true, Nat.blt_eq, Nat.beq_eq] at hd
            refine ⟨?_, by simp only [V.ok]; omega⟩
            simp only [V.real, cond_true, Option.isSome_none, Bool.false_eq_true, if_false, Result.ok.injEq, Value.slice.injEq, and_true, true_and]
            refine ⟨?_, by omega⟩
            by_cases hml : m + (J.m g).2.2 = l
            · rw [if_pos hml]
              have : l = 0 := by omega
              subst this
              simp
            · rw [if_neg hml]
              simp [Addr.add_lit, Nat.add_assoc]
        | false =>
          simp only [hc, cond_false] at h'
          have h' : v = V.sy g off off ∧ m = l ∨ v = V.sl g (cond (Nat.beq m l) off (off + l * k)) (hh - l) (m - l) false := by
            cases hq : (!mx.isNone && Nat.beq m l) with
            | true =>
              rw [hq] at h'
              rw [Bool.and_eq_true, Nat.beq_eq] at hq
              exact .inl ⟨(Option.some.inj h').symm, hq.2⟩
            | false => rw [hq] at h'; exact .inr (Option.some.inj h').symm
          refine ⟨?_, by rcases h' with ⟨rfl, _⟩ | rfl <;> simp only [V.ok] <;> omega⟩
          have hM : (if mx.isSome = true then m else cap + cond op (J.m g).2.2 0) = m := by
            cases mx with
            | some z => simp
            | none =>
              have : op = false := by simpa using hc
              subst this
              simp [r5 rfl]
          rw [hM]
          rcases h' with ⟨rfl, rfl⟩ | rfl
          · have : hh - m = 0 := by omega
            simp [V.real, this]
          simp only [V.real, cond_false, Nat.add_zero, Result.ok.injEq, Value.slice.injEq, and_true]
          by_cases hml : m = l
          · subst hml; simp
          · have : Nat.beq m l = false := by rw [Bool.eq_false_iff]; intro h; rw [Nat.beq_eq] at h; exact hml h
            simp [hml, this, Addr.add_lit, Nat.add_assoc]
  · rename_i el e
    cases hs : sizeB P el with
    | none => simp [hs] at h
    | some k =>
      simp only [hs] at h
      have hmx : mx = none ∨ hi.isSome = true := by cases hi <;> cases mx <;> simp_all
      have h' : (match vbounds 0 0 lo hi mx with
        | some _ => some V.sn
        | none => none) = some v := by
        cases hi <;> cases mx <;> first | exact h | simp at h
      clear h
      cases hb : vbounds 0 0 lo hi mx with
      | none => simp [hb] at h'
      | some q =>
        obtain ⟨l, hh, m⟩ := q
        simp only [hb, Option.some.injEq] at h'
        subst h'
        obtain ⟨r1, r2, r3, r4, r5⟩ := vbounds_real (P := P) (J := J) (w := w) (isS := true) (capr := 0) (Nat.le_refl _) hmx (Nat.le_refl _) hb
        refine ⟨?_, by simp [V.ok]⟩
        have : m = 0 := by omega
        subst this
        have : hh = 0 := by omega
        subst this
        have : l = 0 := by omega
        subst this
        simp [V.real, Instr.sliceAt, run_underlying e, Instr.slice, r1, sizeB_run w hs]
  · rename_i el g off off2 e
    split at h
    · rename_i k hs
      cases hb : vbounds 0 0 lo hi none with
      | none => simp [hb] at h
      | some q =>
        obtain ⟨l, hh, m⟩ := q
        simp only [hb, Option.some.injEq] at h
        subst h
        obtain ⟨r1, r2, r3, r4, r5⟩ := vbounds_real (P := P) (J := J) (w := w) (isS := true) (capr := (J.m g).2.2) (Nat.zero_le _) (.inl rfl) (Nat.le_refl _) hb
        refine ⟨?_, by simpa [V.ok] using hx⟩
        have : m = 0 := r5 rfl
        subst this
        have : hh = 0 := by omega
        subst this
        have : l = 0 := by omega
        subst this
        simp only [Option.map_none, Option.isSome_none] at r1
        simp [V.real, Instr.sliceAt, run_underlying e, Instr.slice, r1, sizeB_run w hs]
        intro _; simp [Addr.add]
    · rename_i k m0 hs
      cases hi with
      | none => cases h
      | some hv =>
      dsimp only at h
      cases hb : vbounds 0 0 lo (some hv) (some m0) with
      | none => simp [hb] at h
      | some q =>
        obtain ⟨l, hh, m⟩ := q
        simp only [hb, Option.some.injEq] at h
        subst h
        obtain ⟨r1, r2, r3, r4, r5⟩ := vbounds_real (P := P) (J := J) (w := w) (isS := true) (capr := (J.m g).2.2) (Nat.zero_le _) (.inr rfl) (Nat.le_refl _) hb
        refine ⟨?_, by simpa [V.ok] using hx⟩
        have : m = 0 := by omega
        subst this
        have : hh = 0 := by omega
        subst this
        have : l = 0 := by omega
        subst this
        simp only [Option.map_some, Option.isSome_some, if_true] at r1
        simp [V.real, Instr.sliceAt, run_underlying e, Instr.slice, r1, sizeB_run w hs]
    · cases h
  · rename_i el g off off2 e
    cases hs : sizeB P el with
    | none => simp [hs] at h
    | some k =>
      simp only [hs] at h
      have hmx : mx = none ∨ hi.isSome = true := by cases hi <;> cases mx <;> simp_all
      have h' : (match vbounds 0 0 lo hi mx with
        | some _ => some (V.sy g off off2)
        | none => none) = some v := by
        cases hi <;> cases mx <;> first | exact h | simp at h
      clear h
      cases hb : vbounds 0 0 lo hi mx with
      | none => simp [hb] at h'
      | some q =>
        obtain ⟨l, hh, m⟩ := q
        simp only [hb, Option.some.injEq] at h'
        subst h'
        obtain ⟨r1, r2, r3, r4, r5⟩ := vbounds_real (P := P) (J := J) (w := w) (isS := true) (capr := 0) (Nat.le_refl _) hmx (Nat.le_refl _) hb
        refine ⟨?_, by simpa [V.ok] using hx⟩
        have : m = 0 := by omega
        subst this
        have : hh = 0 := by omega
        subst this
        have : l = 0 := by omega
        subst this
        simp [V.real, Instr.sliceAt, run_underlying e, Instr.slice, r1, sizeB_run w hs]
  · rename_i el a e
    cases hs : sizeB P el with
    | none => simp [hs] at h
    | some k =>
      simp only [hs] at h
      have hmx : mx = none ∨ hi.isSome = true := by cases hi <;> cases mx <;> simp_all
      have h' : (match vbounds 0 0 lo hi mx with
        | some _ => some (V.ze a)
        | none => none) = some v := by
        cases hi <;> cases mx <;> first | exact h | simp at h
      clear h
      cases hb : vbounds 0 0 lo hi mx with
      | none => simp [hb] at h'
      | some q =>
        obtain ⟨l, hh, m⟩ := q
        simp only [hb, Option.some.injEq] at h'
        subst h'
        obtain ⟨r1, r2, r3, r4, r5⟩ := vbounds_real (P := P) (J := J) (w := w) (isS := true) (capr := 0) (Nat.le_refl _) hmx (Nat.le_refl _) hb
        refine ⟨?_, by simp [V.ok]⟩
        have : m = 0 := by omega
        subst this
        have : hh = 0 := by omega
        subst this
        have : l = 0 := by omega
        subst this
        simp [V.real, Instr.sliceAt, run_underlying e, Instr.slice, r1, sizeB_run w hs]
  · rename_i len el g off e
    cases hs : sizeB P el with
    | none => simp [hs] at h
    | some k =>
      simp only [hs] at h
      have hmx : mx = none ∨ hi.isSome = true := by cases hi <;> cases mx <;> simp_all
      have h' : (match vbounds len len lo hi mx with
        | some (l, h, m) => some (V.sl g (cond (Nat.beq m l) off (off + l * k)) (h - l) (m - l) false)
        | none => none) = some v := by
        cases hi <;> cases mx <;> first | exact h | simp at h
      clear h
      cases hb : vbounds len len lo hi mx with
      | none => simp [hb] at h'
      | some q =>
        obtain ⟨l, hh, m⟩ := q
        simp only [hb, Option.some.injEq] at h'
        subst h'
        simp only [V.ok] at hx
        obtain ⟨r1, r2, r3, r4, r5⟩ := vbounds_real (P := P) (J := J) (w := w) (isS := false) (capr := len) (Nat.le_refl _) hmx (Nat.le_refl _) hb
        refine ⟨?_, by simp only [V.ok]; omega⟩
        have hM : (if mx.isSome = true then m else len) = m := by
          cases mx with
          | some z => simp
          | none => simp [r5 rfl]
        rw [hM] at r1
        simp only [V.real, Instr.sliceAt, Sem.run_bind, run_underlying e, Result.andThen_ok, Instr.sureAddr, Sem.run_pure, r1, sizeB_run w hs]
        by_cases hml : m = l
        · subst hml; simp
        · have : Nat.beq m l = false := by rw [Bool.eq_false_iff]; intro h; rw [Nat.beq_eq] at h; exact hml h
          simp [hml, this, Addr.add_lit, Nat.add_assoc]
  · simp at h
end
end Go.Vm

