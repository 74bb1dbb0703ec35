/-
  Operations on slices, held against the model's. Nothing is claimed here.
-/
import Derived.Test.YteepfgedogiphaaDoorVq
import Derived.Laws.Slices
namespace Go.Vm
open Go.RowKit

theorem repeatL_length (z : List V) : ∀ n, (repeatL z n).length = n * z.length
  | 0 => by simp [repeatL]
  | n + 1 => by simp [repeatL, repeatL_length z n, Nat.add_mul]; omega
theorem repeatL_get (z : List V) : ∀ (n i : Nat), i < n * z.length → (repeatL z n)[i]? = z[i % z.length]?
  | 0, i, h => by simp at h
  | n + 1, i, h => by
    simp only [repeatL]
    by_cases e : i < z.length
    · rw [List.getElem?_append_left e, Nat.mod_eq_of_lt e]
    · rw [List.getElem?_append_right (by omega), repeatL_get z n (i - z.length) (by rw [Nat.add_mul] at h; omega)]
      rw [← Nat.mod_eq_sub_mod (by omega)]
theorem repeatL_mem {p : V → Prop} (z : List V) (h : ∀ v ∈ z, p v) : ∀ n, ∀ v ∈ repeatL z n, p v
  | 0, v, hv => by simp [repeatL] at hv
  | n + 1, v, hv => by
    simp only [repeatL, List.mem_append] at hv
    rcases hv with hv | hv
    · exact h v hv
    · exact repeatL_mem z h n v hv

section
variable {P : Program} {J : Inj} {ro : Nat} {B : World} {st : St} {w : World}

theorem partsOf_spec {fr : T V} {f : Operand → Value} (hf : ∀ x v, opnd fr x = some v → f x = v.real J ∧ v.ok J.nx) : ∀ (ps : List (Nat × Operand)) (r : List (Nat × V)), partsOf fr ps = some r →
    (ps.map fun x => (x.1, f x.2)) = (r.map fun x => (x.1, x.2.real J)) ∧ ∀ x ∈ r, x.2.ok J.nx
  | [], r, h => by simp only [partsOf, Option.some.injEq] at h; subst h; simp
  | (i, o) :: ps, r, h => by
    simp only [partsOf] at h
    cases h1 : opnd fr o with
    | none => simp [h1] at h
    | some v =>
      cases h2 : partsOf fr ps with
      | none => simp [h1, h2] at h
      | some ys =>
        simp only [h1, h2, Option.some.injEq] at h
        subst h
        obtain ⟨q1, q2⟩ := partsOf_spec hf ps ys h2
        obtain ⟨p1, p2⟩ := hf o v h1
        refine ⟨by simp [q1, p1], fun x hx => ?_⟩
        rcases List.mem_cons.1 hx with rfl | hx
        · exact p2
        · exact q2 x hx
theorem opnds_spec {fr : T V} {f : Operand → Value} (hf : ∀ x v, opnd fr x = some v → f x = v.real J ∧ v.ok J.nx) : ∀ (ps : List Operand) (r : List V), opnds fr ps = some r →
    ps.map f = r.map (V.real J) ∧ V.oks J.nx r
  | [], r, h => by simp only [opnds, Option.some.injEq] at h; subst h; simp [V.oks]
  | o :: ps, r, h => by
    simp only [opnds] at h
    cases h1 : opnd fr o with
    | none => simp [h1] at h
    | some v =>
      cases h2 : opnds fr ps with
      | none => simp [h1, h2] at h
      | some ys =>
        simp only [h1, h2, Option.some.injEq] at h
        subst h
        obtain ⟨q1, q2⟩ := opnds_spec hf ps ys h2
        obtain ⟨p1, p2⟩ := hf o v h1
        exact ⟨by simp [q1, p1], p2, q2⟩

theorem vbuildSlice_post (hn : J.nx = st.nx) (hh : HR J ro B st.hp.get w) (hro : ro ≤ J.nx) {t : TypeId} {len : Nat} {ps : List (Nat × V)} {v : V} {st' : St} (hps : ∀ x ∈ ps, x.2.ok J.nx)
    (h : vbuildSlice P st t len ps = some (v, st')) :
    ∃ J' w', (Instr.buildSlice t len (ps.map fun x => (x.1, x.2.real J)).toArray).run P w = .ok (v.real J') w' ∧ v.ok J'.nx ∧ Post J ro B st w J' st' w' := by
  unfold vbuildSlice at h
  split at h
  · rename_i e hd
    split at h
    · rename_i n z hs hz
      cases hc : (Nat.ble (len * n) 16777216 && Nat.blt 0 n && Nat.beq z.cells.length n) with
      | false => simp [hc] at h
      | true =>
        simp only [hc, cond_true] at h
        simp only [Bool.and_eq_true, Nat.ble_eq, Nat.blt_eq, Nat.beq_eq] at hc
        obtain ⟨⟨c1, c2⟩, c3⟩ := hc
        cases hf : vfill (fun i => some (i * n, n)) (repeatL z.cells len) ps with
        | none => simp [hf] at h
        | some cs =>
          simp only [hf] at h
          cases hb : blkOf cs n false with
          | none => simp [hb] at h
          | some b =>
            simp only [hb, natF_eq, Option.some.injEq, Prod.mk.injEq] at h
            obtain ⟨rfl, rfl⟩ := h
            obtain ⟨_, _, _, hzok⟩ := zeroOf_real J J.nx hz
            obtain ⟨q1, q2, q3⟩ := vfill_real J _ ps _ cs hf
            obtain ⟨b1, b2, b3, b4, b5, b6⟩ := blkOf_spec hb
            refine ⟨J.push (w.heap.size, 0, 0), w.alloc (.cells (cs.map (V.real J)).toArray e), ?_, ?_, ?_⟩
            · have hcells : (Array.range (len * n)).map (fun i => (if len * n = 0 then (#[] : Array Value) else (z.real J).cells)[i % (if len * n = 0 then (#[] : Array Value) else (z.real J).cells).size]!) = ((repeatL z.cells len).map (V.real J)).toArray := by
                apply Array.ext'
                apply List.ext_getElem?
                intro i
                by_cases hi : i < len * n
                · have h0 : ¬ len * n = 0 := by omega
                  have hlen : (z.real J).cells.size = n := by rw [V.cells_real]; simp [c3]
                  have hm : i % n < z.cells.length := by rw [c3]; exact Nat.mod_lt _ c2
                  simp only [h0, if_false, Array.toList_map, Array.toList_range, List.getElem?_map, List.getElem?_range hi, Option.map_some, hlen]
                  rw [repeatL_get _ _ _ (by rw [c3]; exact hi), c3, List.getElem?_eq_getElem hm, Option.map_some]
                  rw [V.cells_real]
                  simp [hm]
                · have : (repeatL z.cells len).length ≤ i := by rw [repeatL_length, c3]; omega
                  simp [hi, List.getElem?_eq_none this]
              have hbig : ¬ (len * n > 2 ^ 24) := by omega
              have hfin : (V.sl st.nx 0 len len false).real (J.push (w.heap.size, 0, 0)) = .slice (some ⟨w.heap.size, 0, none⟩) len len := by
                rw [← hn]; simp [V.real, Inj.push_self]
              rw [hfin]
              unfold Instr.buildSlice
              by_cases h0 : len * n = 0
              · simp only [h0, if_true] at hcells
                simp only [Sem.run_bind, run_underlying hd, Result.andThen_ok, sizeB_run w hs, h0, if_true, pure_bind]
                rw [if_neg (by omega), hcells, q1]
                simp [newRow]
              · simp only [h0, if_false] at hcells
                simp only [Sem.run_bind, run_underlying hd, Result.andThen_ok, sizeB_run w hs, h0, if_false, pure_bind]
                rw [if_neg hbig]
                simp only [Sem.run_bind, zeroOf_run J hz, Result.andThen_ok]
                rw [hcells, q1]
                simp [newRow]
            · simp only [V.ok, Inj.push]; omega
            · refine alloc_post hn hh hro (by simp [b1]) (by simp [b3]) (fun o _ => by simp) (fun o u hu => ?_)
              rw [b5] at hu
              have hm := List.mem_of_getElem? hu
              exact ⟨q3 J.nx hps (repeatL_mem _ (V.ok_cells hzok) len) u hm, b6 u hm, by simp [hu]⟩
    · simp at h
  · simp at h

end
end Go.Vm
