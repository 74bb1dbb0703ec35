/-
  Operations on slices, held against the model's. Nothing is claimed here.
-/
import Derived.Test.YteepfgedogiphaaDoorVu
import Derived.Laws.Slices
namespace Go.Vm
open Go.RowKit

section
variable {P : Program} {J : Inj} {ro : Nat} {B : World} {st : St} {w : World}

theorem vmakeSlice_post (hn : J.nx = st.nx) (hh : HR J ro B st.hp.get w) (hro : ro ≤ J.nx) {t : TypeId} {len cap : Int} {kl kc : IntKind} {v : V} {st' : St}
    (h : vmakeSlice P st t len cap = some (v, st')) :
    ∃ J' w', (Instr.makeSlice t (.int kl len) (.int kc cap)).run P w = .ok (v.real J') w' ∧ v.ok J'.nx ∧ Post J ro B st w J' st' w' := by
  unfold vmakeSlice at h
  split at h
  · rename_i e hd
    split at h
    · rename_i ti z hi hz
      generalize hcd : (ile 0 len && ile len cap && ile (ti.bytes * cap) 1099511627776 && ile cap 1099511627776 && Nat.blt 0 ti.size && Nat.beq z.cells.length ti.size && z.cells.all V.atom) = c at h
      cases c with
      | false => simp at h
      | true =>
        simp only [cond_true, natF_eq, Option.some.injEq, Prod.mk.injEq] at h
        obtain ⟨rfl, rfl⟩ := h
        simp only [Bool.and_eq_true, ile, decide_eq_true_eq, Nat.blt_eq, Nat.beq_eq, List.all_eq_true] at hcd
        obtain ⟨⟨⟨⟨⟨⟨c1, c2⟩, c3⟩, c4⟩, c5⟩, c6⟩, c7⟩ := hcd
        obtain ⟨ti', z1, z2, zok⟩ := zeroOf_real J J.nx hz
        rw [hi, Option.some.injEq] at z1
        subst z1
        have hr := run_make (P := P) w t e ti (z.real J) hd hi z2 kl kc len cap c1 c2 (by omega) (by omega)
        refine ⟨J.push (w.heap.size, 0, 0), _, ?_, ?_, alloc_post hn hh hro (b := ⟨.e, z.cells, cap.toNat * ti.size, ti.size, false⟩) (x := 0) (e := e) (c := madeCells (z.real J).cells (cap.toNat * ti.size)) (fz := (0, 0)) (by rw [size_madeCells]; exact Nat.le_refl _) (by simp) (fun o _ => by simp) (fun o u hu => ?_)⟩
        · rw [hr, ← hn]
          simp [V.real, Inj.push_self]
        · simp only [V.ok, Inj.push]; omega
        · have ho := Blk.get_lt hu
          dsimp only at ho
          simp only [Blk.get, T.get_e] at hu
          rw [show Nat.blt o (cap.toNat * ti.size) = true from by rw [Nat.blt_eq]; exact ho, cond_true] at hu
          have hm := List.mem_of_getElem? hu
          refine ⟨V.ok_cells zok u hm, c7 u hm, ?_⟩
          have hlen : (z.real J).cells.size = ti.size := by rw [V.cells_real]; simp [c6]
          have hmod : o % ti.size < z.cells.length := by rw [c6]; exact Nat.mod_lt _ c5
          rw [List.getElem?_eq_getElem hmod, Option.some.injEq] at hu
          subst hu
          simp only [madeCells, hlen]
          rw [Array.getElem?_map, Array.getElem?_range, if_pos ho, Option.map_some]
          rw [V.cells_real]
          simp [hmod]
    · simp at h
  · simp at h

end
end Go.Vm
