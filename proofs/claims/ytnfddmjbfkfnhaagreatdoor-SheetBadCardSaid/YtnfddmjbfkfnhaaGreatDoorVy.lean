/-
  copy, len, min, max, and conversions. Nothing is claimed here.
-/
import Derived.Test.YtnfddmjbfkfnhaaGreatDoorVx
namespace Go.Vm
open Go.RowKit

section
variable {P : Program} {J : Inj} {ro : Nat} {B : World} {st : St} {w : World}

theorem vcopy_post (hn : J.nx = st.nx) (hh : HR J ro B st.hp.get w) (hro : ro ≤ J.nx) {t u ty : TypeId} {d x v : V} {st' : St} (hx : x.ok J.nx) (h : vcopy P ro st t d x = some (v, st')) :
    ∃ w', (Builtin.copy_ #[t, u] ty #[d.real J, x.real J]).run P w = .ok (v.real J) w' ∧ v.ok J.nx ∧ Post J ro B st w J st' w' := by
  unfold vcopy at h
  cases hd : P.underlying t with
  | none => simp [hd] at h
  | some dt =>
  cases dt <;> simp only [hd, reduceCtorEq] at h
  rename_i e
  cases hi : P.info? e with
  | none => simp [hi] at h
  | some ti =>
  cases hl : vlen x with
  | none => simp [hi, hl] at h
  | some n =>
  simp only [hi, hl] at h
  have hlen := vlen_real (P := P) (J := J) (w := w) hl
  cases d with
  | sn =>
    simp only at h
    cases hf : vfirst st ti.size 0 x with
    | none => simp [hf] at h
    | some new =>
      simp only [hf, Option.some.injEq, Prod.mk.injEq] at h
      obtain ⟨rfl, rfl⟩ := h
      obtain ⟨f1, _, _, _⟩ := vfirst_real (P := P) hh hx hl (Nat.zero_le _) hf
      refine ⟨w, ?_, by simp [V.ok], Post.refl hn hh hro⟩
      simp [Builtin.copy_, run_underlying hd, hlen, sizeOf, typeInfo, hi, f1, V.real, goInt]
  | sl g off len cap op =>
    simp only at h
    cases hf : vfirst st ti.size (Nat.min n len) x with
    | none => simp [hf] at h
    | some new =>
    cases hg : st.hp.get g with
    | none => simp [hf, hg] at h
    | some b =>
    simp only [hf, hg] at h
    cases hrog : Nat.ble ro g with
    | false => simp [hrog] at h
    | true =>
    simp only [hrog, cond_true] at h
    rw [Nat.ble_eq] at hrog
    cases hp : b.put new off with
    | none => simp [hp] at h
    | some b' =>
      simp only [hp, Option.some.injEq, Prod.mk.injEq] at h
      obtain ⟨rfl, rfl⟩ := h
      obtain ⟨f1, _, f3, _⟩ := vfirst_real (P := P) hh hx hl (Nat.min_le_left _ _) hf
      obtain ⟨w', r1, r2, r3, r4⟩ := HR.put (P := P) new hh (g := g) (o := off) (i := 0) hg hrog (by simpa using hp) f3
      refine ⟨w', ?_, by simp [V.ok], Inj.le.refl J, by rw [St.write_eq]; exact hn, ?_, r3, Ext.write _ _ _, hro, Fr.write hg r4⟩
      · simp only [Builtin.copy_, V.real, List.getElem?_toArray, List.getElem?_cons_zero, List.getElem?_cons_succ, Sem.run_bind, run_underlying hd, Result.andThen_ok, hlen, sizeOf, typeInfo, run_program, hi, Sem.run_pure]
        simp only [f1, Result.andThen_ok, r1]
        rfl
      · rw [St.write_eq]
        show HR J ro B (st.hp.upd g (some b')).get w'
        rw [get_upd_fun]; exact r2
  | _ => simp at h

theorem vlenOp_real {t ty : TypeId} {x v : V} (h : vlenOp P t x = some v) : (Builtin.len_ #[t] ty #[x.real J]).run P w = .ok (v.real J) w ∧ ∀ n, v.ok n := by
  unfold vlenOp at h
  split at h
  · rename_i e
    simp only [Option.some.injEq] at h
    subst h
    have hs : ∀ l x, (⟨(unpackL l x).toArray⟩ : ByteArray).size = l := fun l x => by simp [ByteArray.size, length_unpackL]
    simp only [V.real, V.ok, implies_true, and_true, run_len_string w t ty _ e, hs]
    rfl
  · rename_i e
    simp only [Option.some.injEq] at h
    subst h
    simp [Builtin.len_, V.real, run_underlying e, goInt, V.ok]
  · rename_i e
    simp only [Option.some.injEq] at h
    subst h
    simp [Builtin.len_, V.real, run_underlying e, goInt, V.ok]
  · rename_i e
    simp only [Option.some.injEq] at h
    subst h
    simp [Builtin.len_, V.real, run_underlying e, goInt, V.ok]
  · rename_i e
    simp only [Option.some.injEq] at h
    subst h
    simp [Builtin.len_, V.real, run_underlying e, goInt, V.ok]
  · rename_i e
    simp only [Option.some.injEq] at h
    subst h
    simp [Builtin.len_, V.real, run_underlying e, goInt, V.ok]
  · rename_i e
    simp only [Option.some.injEq] at h
    subst h
    refine ⟨?_, by simp [V.ok]⟩
    simp [Builtin.len_, run_underlying e, goInt, V.real]
  · simp at h

theorem vmin2_real {mn : Bool} {x y v : V} (h : vmin2 mn x y = some v) :
    ((if mn then Builtin.min2 (x.real J) (y.real J) else Builtin.max2 (x.real J) (y.real J)) : Sem Value).run P w = .ok (v.real J) w ∧ ∀ n, v.ok n := by
  unfold vmin2 at h
  split at h
  · rename_i k a k' b
    simp only [Option.some.injEq] at h
    subst h
    refine ⟨?_, by simp [V.ok]⟩
    cases mn
    · by_cases e : a < b <;> simp [V.real, Builtin.max2, ilt, e]
    · by_cases e : b < a <;> simp [V.real, Builtin.min2, ilt, e]
  · simp at h
theorem modify_push {α : Type} (a : Array α) (x : α) (f : α → α) : (a.push x).modify a.size f = a.push (f x) := by
  apply Array.ext
  · simp
  · intro i h1 h2
    rw [Array.getElem_modify]
    by_cases hi : i = a.size
    · subst hi; simp
    · have : i < a.size := by simp at h2; omega
      rw [if_neg (fun q => hi q.symm), Array.getElem_push_lt this, Array.getElem_push_lt this]
theorem freeze_alloc (u : World) (c : Array Value) (e : TypeId) (n : Nat) : World.freeze (u.alloc (.cells c e)) ⟨u.heap.size, n, none⟩ 1 = u.alloc (.cells c e (n, n + 1)) := by
  unfold World.freeze
  rw [if_neg (by decide)]
  simp only [World.alloc]
  rw [modify_push]
  simp

theorem vminL_real {mn : Bool} : ∀ (l : List V) {x v : V}, vminL mn x l = some v → x.ok J.nx → (∀ y ∈ l, y.ok J.nx) →
    ((l.map (V.real J)).foldlM (fun a b => if mn then Builtin.min2 a b else Builtin.max2 a b) (x.real J) : Sem Value).run P w = .ok (v.real J) w ∧ v.ok J.nx
  | [], x, v, h, hx, _ => by simp only [vminL, Option.some.injEq] at h; subst h; simp [hx]
  | y :: l, x, v, h, hx, hl => by
    simp only [vminL] at h
    cases hm : vmin2 mn x y with
    | none => simp [hm] at h
    | some z =>
      simp only [hm] at h
      obtain ⟨q1, q2⟩ := vmin2_real (P := P) (J := J) (w := w) hm
      obtain ⟨p1, p2⟩ := vminL_real l h (q2 J.nx) (fun y hy => hl y (List.mem_cons_of_mem _ hy))
      refine ⟨?_, p2⟩
      rw [List.map_cons, List.foldlM_cons, Sem.run_bind, q1]
      exact p1

theorem foldl_push_bytes : ∀ (ns : List Int) (s : ByteArray), ns.foldl (fun r n => r.push (UInt8.ofNat n.toNat)) s = ⟨(s.data.toList ++ ns.map fun n => UInt8.ofNat n.toNat).toArray⟩
  | [], s => by simp
  | n :: ns, s => by
    rw [List.foldl_cons, foldl_push_bytes ns]
    simp [ByteArray.push]

theorem bytesOfCells_spec : ∀ (cs : List V) (l : List UInt8), bytesOfCells cs = some l → ∃ ns : List Int, cs.map (V.real J) = ns.map (Value.int .u8) ∧ l = ns.map fun n => UInt8.ofNat n.toNat
  | [], l, h => by simp only [bytesOfCells, Option.some.injEq] at h; subst h; exact ⟨[], rfl, rfl⟩
  | c :: cs, l, h => by
    obtain ⟨n, rfl⟩ : ∃ n, c = .i .u8 n := by
      cases c with
      | i k n => cases k <;> first | exact ⟨n, rfl⟩ | simp [bytesOfCells] at h
      | _ => simp [bytesOfCells] at h
    simp only [bytesOfCells] at h
    cases hr : bytesOfCells cs with
    | none => simp [hr] at h
    | some r =>
      simp only [hr, Option.some.injEq] at h
      subst h
      obtain ⟨ns, q1, q2⟩ := bytesOfCells_spec cs r hr
      exact ⟨n :: ns, by simp [V.real, q1], by simp [q2]⟩

theorem vtext_zero {b : Blk} {len off : Nat} (h : b.zeros len off = true) : ∃ cs, b.row len off = some cs ∧ bytesOfCells cs = some (List.replicate len 0) := by
  unfold Blk.zeros at h
  split at h
  · rename_i hc hz
    rw [Bool.and_eq_true, Nat.beq_eq, Nat.ble_eq] at h
    obtain ⟨h1, h2⟩ := h
    have hg : ∀ o, o < b.sz → b.get o = some (.i .u8 0) := by
      intro o ho
      unfold Blk.get
      rw [show Nat.blt o b.sz = true from by rw [Nat.blt_eq]; exact ho, hc, hz, h1, Nat.mod_one]
      rfl
    have key : ∀ (n o : Nat), o + n ≤ b.sz → b.row n o = some (List.replicate n (.i .u8 0)) := by
      intro n
      induction n with
      | zero => intro o _; rfl
      | succ n ih =>
        intro o ho
        simp only [Blk.row, hg o (by omega), ih (o + 1) (by omega), List.replicate_succ]
    have hb : ∀ n : Nat, bytesOfCells (List.replicate n (.i .u8 0)) = some (List.replicate n 0) := by
      intro n
      induction n with
      | zero => rfl
      | succ n ih => rw [List.replicate_succ]; simp only [bytesOfCells, ih]; rw [List.replicate_succ]; rfl
    exact ⟨_, key len off h2, hb len⟩
  · cases h
theorem pack_zero : ∀ n : Nat, packL (List.replicate n 0) = 0
  | 0 => rfl
  | n + 1 => by rw [List.replicate_succ]; unfold packL; rw [pack_zero n]; rfl
theorem vtext_spec {b : Blk} {len off : Nat} {v : V} (h : vtext b len off = some v) : ∃ cs l, b.row len off = some cs ∧ bytesOfCells cs = some l ∧ v = .str l := by
  unfold vtext at h
  cases hz : b.zeros len off with
  | true =>
    simp only [hz, Option.some.injEq] at h
    obtain ⟨cs, h1, h2⟩ := vtext_zero hz
    exact ⟨cs, _, h1, h2, by rw [← h]; unfold V.str; rw [List.length_replicate, pack_zero]⟩
  | false =>
    simp only [hz] at h
    cases hr : b.row len off with
    | none => simp [hr] at h
    | some cs =>
      simp only [hr] at h
      cases hb : bytesOfCells cs with
      | none => simp [hb] at h
      | some l => simp only [hb, Option.some.injEq] at h; exact ⟨cs, l, rfl, hb, h.symm⟩
theorem vtext_of {b : Blk} {len off : Nat} {cs : List V} {l : List UInt8} (hr : b.row len off = some cs) (hb : bytesOfCells cs = some l) : vtext b len off = some (.str l) := by
  unfold vtext
  cases hz : b.zeros len off with
  | true =>
    obtain ⟨cs', h1, h2⟩ := vtext_zero hz
    rw [hr] at h1
    cases h1
    rw [hb] at h2
    cases h2
    simp only
    unfold V.str
    rw [List.length_replicate, pack_zero]
  | false => simp only [hr, hb]
theorem vconvert_post (hn : J.nx = st.nx) (hh : HR J ro B st.hp.get w) (hro : ro ≤ J.nx) {s d : TypeId} {x v : V} {st' : St} (hx : x.ok J.nx) (h : vconvert P st s d x = some (v, st')) :
    ∃ J' w', (convert s d (x.real J)).run P w = .ok (v.real J') w' ∧ v.ok J'.nx ∧ Post J ro B st w J' st' w' := by
  unfold vconvert at h
  split at h
  · rename_i ds k k' n hs hd
    simp only [Option.some.injEq, Prod.mk.injEq] at h
    obtain ⟨rfl, rfl⟩ := h
    refine ⟨J, w, ?_, by simp [V.ok], Post.refl hn hh hro⟩
    simp [convert, run_underlying hs, run_underlying hd, V.real, Conv.intToInt]
  · rename_i ds l y hs hd
    simp only [Option.some.injEq, Prod.mk.injEq] at h
    obtain ⟨rfl, rfl⟩ := h
    refine ⟨J, w, ?_, hx, Post.refl hn hh hro⟩
    simp [convert, run_underlying hs, run_underlying hd, V.real]
  · rename_i ds e l y hs hd
    cases he : P.underlying e with
    | none => simp [he] at h
    | some de =>
    simp only [he] at h
    split at h
    · rename_i he'
      simp only [Option.some.injEq] at he'
      subst he'
      cases hb : Nat.ble l 1099511627776 with
      | false => simp [hb] at h
      | true =>
      simp only [hb, cond_true] at h
      cases hbk : blkOf (cellsOfBytes l y) 1 false with
      | none => simp [hbk] at h
      | some b =>
        simp only [hbk, natF_eq, Option.some.injEq, Prod.mk.injEq] at h
        obtain ⟨rfl, rfl⟩ := h
        rw [Nat.ble_eq] at hb
        simp only [V.ok] at hx
        obtain ⟨b1, b2, b3, b4, b5, b6⟩ := blkOf_spec hbk
        rw [cellsOfBytes_eq] at b1 b5 b6
        rw [List.length_map, length_unpackL] at b1
        generalize hcap : Question.cut (.appendCap l 0 e) (w.tape w.drawn (.appendCap l 0 e)) = cap
        have hle : l ≤ cap := by rw [← hcap]; simp only [Question.cut]; omega
        have hsz : ((unpackL l y).toArray.map (fun b => Value.int .u8 (b.toNat : Int)) ++ Array.replicate (cap - l) (Value.int .u8 0)).size = cap := by simp [length_unpackL]; omega
        have hal : HR (J.push (w.heap.size, 0, cap - l)) ro B (fun k => if k = J.nx then some b else st.hp.get k)
            (w.drew.alloc (.cells ((unpackL l y).toArray.map (fun b => Value.int .u8 (b.toNat : Int)) ++ Array.replicate (cap - l) (Value.int .u8 0)) e (cap, cap + 1))) := by
          refine (hh.congr (w' := w.drew) rfl).alloc (blkOf_mp hbk) (by rw [hsz, b1]; exact hle) (fun q => by rw [b3] at q; cases q) (fun o ho => by rw [hsz, show b.full = false from by unfold Blk.full; rw [b3, b2]; rfl, Bool.toNat_false] at ho; simp; omega) (fun o u hu => ?_)
          rw [b5] at hu
          have hm := List.mem_of_getElem? hu
          refine ⟨?_, b6 u hm, ?_⟩
          · obtain ⟨c, _, rfl⟩ := List.mem_map.1 hm; simp [V.ok]
          · have hlt : o < l := by
              rcases Nat.lt_or_ge o l with q | q
              · exact q
              · rw [List.getElem?_eq_none (by simp [length_unpackL]; exact q)] at hu; cases hu
            rw [Array.getElem?_append_left (by simp [length_unpackL]; exact hlt)]
            rw [List.getElem?_map] at hu
            cases hc : (unpackL l y)[o]? with
            | none => simp [hc] at hu
            | some c => simp only [hc, Option.map_some, Option.some.injEq] at hu; subst hu; simp [hc, V.real]
        refine ⟨J.push (w.heap.size, 0, cap - l), w.drew.alloc (.cells ((unpackL l y).toArray.map (fun b => Value.int .u8 (b.toNat : Int)) ++ Array.replicate (cap - l) (Value.int .u8 0)) e (cap, cap + 1)), ?_, ?_, J.le_push _, by show J.nx + 1 = st.nx + 1; omega, ?_, ?_, Ext.alloc hn hh b, Nat.le_succ_of_le hro, Fr.alloc (w := w.drew) hn (hh.congr rfl) b⟩
        · have hs2 : (⟨(unpackL l y).toArray⟩ : ByteArray).size = l := by simp [ByteArray.size, length_unpackL]
          have hfin : (V.sl st.nx 0 l l true).real (J.push (w.heap.size, 0, cap - l)) = .slice (some ⟨w.heap.size, 0, none⟩) l cap := by
            rw [← hn]; simp only [V.real, Inj.push_self, Nat.add_zero, cond_true]; rw [show l + (cap - l) = cap from by omega]
          rw [hfin]
          simp only [V.real, convert, Sem.run_bind, run_underlying hs, run_underlying hd, run_underlying he, Result.andThen_ok, Conv.stringToBytes, run_choose, Question.forced, Bool.false_eq_true, if_false, hs2, hcap, World.drew_eq, newRow, run_newObj, World.alloc_eq, Sem.run_pure, markStringish, run_shape]
          have hsh : ∀ c : Array Value, (w.drew.alloc (.cells c e)).shape? w.drew.heap.size = some (e, c.size) := fun c => by
            show (match (w.heap.push (.cells c e))[w.heap.size]? with | some (.cells c elem _) => some (elem, c.size) | _ => none) = _
            simp
          rw [hsh]
          simp only [run_freeze, Result.andThen_ok]
          rw [hsz]
          simp only [World.size_drew, Result.ok.injEq, true_and]
          show World.freeze (w.drew.alloc _) _ 1 = _
          exact freeze_alloc w.drew _ e cap
        · simp only [V.ok, Inj.push]; omega
        · show HR _ ro B (st.hp.upd st.nx (some b)).get _
          rw [get_upd_fun, ← hn]
          exact hal
        · exact (Below.drew (Below.refl B.heap.size w)).alloc hh.base.size _
    · simp at h
  · rename_i e hs hd
    cases he : P.underlying e with
    | none => simp [he] at h
    | some de =>
    simp only [he] at h
    split at h
    · rename_i he'
      simp only [Option.some.injEq] at he'
      subst he'
      simp only [Option.some.injEq, Prod.mk.injEq] at h
      obtain ⟨rfl, rfl⟩ := h
      refine ⟨J, w, ?_, by simp [V.ok], Post.refl hn hh hro⟩
      simp [convert, run_underlying hs, run_underlying hd, run_underlying he, V.real, Conv.bytesToString, unpackL]
      rfl
    · simp at h
  · rename_i e g off len cap op hs hd
    cases he : P.underlying e with
    | none => simp [he] at h
    | some de =>
    cases hg : st.hp.get g with
    | none => simp [he, hg] at h
    | some b =>
    simp only [he, hg] at h
    split at h
    · rename_i he' hb'
      simp only [Option.some.injEq] at he' hb'
      subst he' hb'
      cases ht : vtext b len off with
      | none => simp [ht] at h
      | some u =>
        simp only [ht, Option.some.injEq, Prod.mk.injEq] at h
        obtain ⟨rfl, rfl⟩ := h
        obtain ⟨cs, l, hr, hbc, rfl⟩ := vtext_spec ht
        obtain ⟨q1, _, _, _⟩ := (hh.blk g b hg).row (P := P) hr
        obtain ⟨ns, n1, n2⟩ := bytesOfCells_spec (J := J) cs l hbc
        refine ⟨J, w, ?_, V.str_ok _ _, Post.refl hn hh hro⟩
        rw [V.str_real]
        simp only [V.real]
        rw [run_convert_bytes_string w s d e _ _ _ hs he hd, run_bytesToString w _ _ _ ns (by rw [← n1]; exact q1), foldl_push_bytes, n2]
        rfl
    · simp at h
  · rename_i e g o o2 hs hd
    cases he : P.underlying e with
    | none => simp [he] at h
    | some de =>
    simp only [he] at h
    split at h
    · rename_i he'
      simp only [Option.some.injEq] at he'
      subst he'
      simp only [Option.some.injEq, Prod.mk.injEq] at h
      obtain ⟨rfl, rfl⟩ := h
      refine ⟨J, w, ?_, by simp [V.ok], Post.refl hn hh hro⟩
      simp only [V.real]
      rw [run_convert_bytes_string w s d e _ _ _ hs he hd, run_bytesToString w _ _ _ [] (by simp [loadCells, loadCellsFrom])]
      simp [unpackL]
      rfl
    · simp at h
  · rename_i e a hs hd
    cases he : P.underlying e with
    | none => simp [he] at h
    | some de =>
    simp only [he] at h
    split at h
    · rename_i he'
      simp only [Option.some.injEq] at he'
      subst he'
      simp only [Option.some.injEq, Prod.mk.injEq] at h
      obtain ⟨rfl, rfl⟩ := h
      refine ⟨J, w, ?_, by simp [V.ok], Post.refl hn hh hro⟩
      simp only [V.real]
      rw [run_convert_bytes_string w s d e _ _ _ hs he hd, run_bytesToString w _ _ _ [] (by simp [loadCells, loadCellsFrom])]
      simp [unpackL]
      rfl
    · simp at h
  · rename_i e g o o2 hs hd
    cases he : P.underlying e with
    | none => simp [he] at h
    | some de =>
    simp only [he] at h
    split at h
    · rename_i he'
      simp only [Option.some.injEq] at he'
      subst he'
      simp only [Option.some.injEq, Prod.mk.injEq] at h
      obtain ⟨rfl, rfl⟩ := h
      refine ⟨J, w, ?_, by simp [V.ok], Post.refl hn hh hro⟩
      simp only [V.real]
      rw [run_convert_bytes_string w s d e _ _ _ hs he hd, run_bytesToString w _ _ _ [] (by simp [loadCells, loadCellsFrom])]
      simp [unpackL]
      rfl
    · simp at h
  · simp at h

/-- A block is marked as the bytes of a text. -/
theorem HR.mark {h : Nat → Option Blk} {w : World} (hh : HR J ro B h w) {g : Nat} {b : Blk} (hg : h g = some b) (hop : b.full = false) (hro : ro ≤ g) {c : Array Value} {e : TypeId} {fz : Nat × Nat} (hc : w.heap[(J.m g).1]? = some (.cells c e fz)) :
    HR J ro B h (w.freeze ⟨(J.m g).1, c.size, none⟩ 1) ∧ Below B.heap.size w (w.freeze ⟨(J.m g).1, c.size, none⟩ 1) := by
  have hm0 := (hh.blk g b hg).mp_cells hc
  obtain ⟨k0, c0, e0, fz0, k1, k2, k3, k4, k5⟩ := (hh.blk g b hg).cells hm0
  rw [hc] at k1
  obtain ⟨rfl, rfl, rfl⟩ : c = c0 ∧ e = e0 ∧ fz = fz0 := by simpa using k1
  obtain ⟨k4a, k4b⟩ := k4 hro
  have hB : ∀ k, k ≠ (J.m g).1 → (w.freeze ⟨(J.m g).1, c.size, none⟩ 1).heap[k]? = w.heap[k]? := fun k hk => by
    unfold World.freeze
    rw [if_neg (by decide)]
    simp only [Array.getElem?_modify]
    rw [if_neg (fun q => hk q.symm)]
  have hS : (w.freeze ⟨(J.m g).1, c.size, none⟩ 1).heap[(J.m g).1]? = some (.cells c e (if fz.1 == fz.2 then (c.size, c.size + 1) else (min fz.1 c.size, max fz.2 (c.size + 1)))) := by
    unfold World.freeze
    rw [if_neg (by decide)]
    simp only [Array.getElem?_modify, hc, if_true, Option.map_some]
  have hsz : (w.freeze ⟨(J.m g).1, c.size, none⟩ 1).heap.size = w.heap.size := by
    unfold World.freeze
    rw [if_neg (by decide)]
    simp
  have hbel : Below B.heap.size w (w.freeze ⟨(J.m g).1, c.size, none⟩ 1) := ⟨rfl, rfl, rfl, by rw [hsz]; exact Nat.le_refl _, fun k hk => hB k (by omega)⟩
  refine ⟨⟨hh.base.below hbel, fun g' b' hg' => ?_, hh.inj⟩, hbel⟩
  by_cases hgg : (J.m g').1 = (J.m g).1
  · obtain rfl := hh.inj g' g b' b hg' hg hgg
    rw [hg] at hg'
    cases hg'
    refine BR.of_cells hm0 ⟨k0, c, e, _, hS, k2, k3, fun _ => ⟨k4a, fun o ho => ?_⟩, k5⟩
    rw [hop, Bool.toNat_false, Nat.add_zero] at ho
    have h1 := k4b o (by omega)
    have h0 := k4b 0 (by omega)
    by_cases q : fz.1 = fz.2
    · rw [if_pos (by simpa using q)]
      refine ⟨?_, by simp⟩
      simp; omega
    · rw [if_neg (by simpa using q)]
      have hlt : fz.1 < fz.2 := by omega
      have hge : c.size ≤ fz.1 := by
        rcases Nat.lt_or_ge fz.1 c.size with z | z
        · exfalso
          have := (k4b fz.1 (by omega)).1
          simp at this
          omega
        · exact z
      refine ⟨?_, by simp only; omega⟩
      simp only [Nat.min_eq_right hge]
      simp; omega
  · have := hh.blk g' b' hg'
    unfold BR CR MR at *
    rw [hB _ hgg]
    exact this

theorem World.freeze_other {w : World} {r i c n : Nat} (h : i ≠ r) : (w.freeze ⟨r, c, none⟩ n).heap[i]? = w.heap[i]? := by
  unfold World.freeze
  split
  · rfl
  · simp only [Array.getElem?_modify]
    rw [if_neg (fun q => h q.symm)]

theorem vconv2_of {s d : TypeId} {x : V} {r : V × St} (h : vconvert P st s d x = some r) : vconv2 P ro st s d x = some r := by
  unfold vconv2
  split
  · rename_i e e' g o l c op hs hd
    unfold vconvert at h
    simp only [hs, hd] at h
    cases h
  · exact h
theorem vconv2_post (hn : J.nx = st.nx) (hh : HR J ro B st.hp.get w) (hro : ro ≤ J.nx) {s d : TypeId} {x v : V} {st' : St} (hx : x.ok J.nx) (h : vconv2 P ro st s d x = some (v, st')) :
    ∃ J' w', (convert s d (x.real J)).run P w = .ok (v.real J') w' ∧ v.ok J'.nx ∧ Post J ro B st w J' st' w' := by
  unfold vconv2 at h
  split at h
  · rename_i e e' g o l c op hs hd
    split at h
    · rename_i b he hb
      generalize hc : (decide (s = d) && !b.full && Nat.ble ro g && b.mp.isNone) = cc at h
      cases cc with
      | false => simp at h
      | true =>
        simp only [cond_true, Option.some.injEq, Prod.mk.injEq] at h
        obtain ⟨rfl, rfl⟩ := h
        simp only [Bool.and_eq_true, decide_eq_true_eq, Nat.ble_eq, Bool.not_eq_true'] at hc
        obtain ⟨⟨⟨rfl, hop⟩, hrg⟩, hmp⟩ := hc
        obtain ⟨k0, c0, e0, fz0, k1, _⟩ := (hh.blk g b hb).cells (Option.isNone_iff_eq_none.1 hmp)
        obtain ⟨m1, m2⟩ := hh.mark hb hop hrg k1
        rw [hs] at hd
        obtain rfl : e = e' := by simpa using hd
        refine ⟨J, w.freeze ⟨(J.m g).1, c0.size, none⟩ 1, ?_, hx, ⟨Inj.le.refl J, hn, m1, m2, Ext.refl _, hro, fun i hi hf => ⟨World.freeze_other (fun q => hf g b hb q.symm), hf⟩⟩⟩
        have hsh : w.shape? (J.m g).1 = some (e0, c0.size) := by simp only [World.shape?, k1]
        have hm : (markStringish ⟨(J.m g).1, (J.m g).2.1 + o, none⟩).run P w = .ok () (w.freeze ⟨(J.m g).1, c0.size, none⟩ 1) := by
          simp [markStringish, shape, Sem.run, hsh]
        simp [convert, run_underlying hs, run_underlying he, V.real, hm]
    · cases h
  · exact vconvert_post hn hh hro hx h
end
end Go.Vm
