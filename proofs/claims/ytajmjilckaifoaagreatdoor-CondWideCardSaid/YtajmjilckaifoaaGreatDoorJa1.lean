/-
  copy, len, min, max, and conversions. Nothing is claimed here.
-/
import Derived.Test.YtajmjilckaifoaaGreatDoorJa0
import Derived.WideKeyRuns
import Derived.MapKept
import Derived.Scope
import Derived.OrdersHeld
namespace Go.Vm
open Go.RowKit

section
variable {P : Program} {J : Inj} {ro : Nat} {B : World} {st : St} {w : World}

theorem vcopy_post (hn : J.nx = st.nx) (hh : HR J ro B st.hp.get w) (hro : ro ≤ J.nx) {t u ty : TypeId} {d x v : V} {st' : St} (hx : x.ok J.nx) (h : vcopy P ro st t d x = some (v, st')) :
    ∃ w', (Builtin.copy_ #[t, u] ty #[d.real J, x.real J]).run P w = .ok (v.real J) w' ∧ v.ok J.nx ∧ Post J ro B st w J st' w' := by
  unfold vcopy at h
  cases hd : P.underlying t with
  | none => simp [hd] at h
  | some dt =>
  cases dt <;> simp only [hd, reduceCtorEq] at h
  rename_i e
  cases hi : P.info? e with
  | none => simp [hi] at h
  | some ti =>
  cases hl : vlen x with
  | none => simp [hi, hl] at h
  | some n =>
  simp only [hi, hl] at h
  have hlen := vlen_real (P := P) (J := J) (w := w) hl
  cases d with
  | sn =>
    simp only at h
    cases hf : vfirst st ti.size 0 x with
    | none => simp [hf] at h
    | some new =>
      simp only [hf, Option.some.injEq, Prod.mk.injEq] at h
      obtain ⟨rfl, rfl⟩ := h
      obtain ⟨f1, _, _, _⟩ := vfirst_real (P := P) hh hx hl (Nat.zero_le _) hf
      refine ⟨w, ?_, by simp [V.ok], Post.refl hn hh hro⟩
      simp [Builtin.copy_, run_underlying hd, hlen, sizeOf, typeInfo, hi, f1, V.real, goInt]
  | sl g off len cap op =>
    simp only at h
    cases hf : vfirst st ti.size (Nat.min n len) x with
    | none => simp [hf] at h
    | some new =>
    cases hg : st.hp.get g with
    | none => simp [hf, hg] at h
    | some b =>
    simp only [hf, hg] at h
    cases hrog : Nat.ble ro g with
    | false => simp [hrog] at h
    | true =>
    simp only [hrog, cond_true] at h
    rw [Nat.ble_eq] at hrog
    cases hp : b.put new off with
    | none => simp [hp] at h
    | some b' =>
      simp only [hp, Option.some.injEq, Prod.mk.injEq] at h
      obtain ⟨rfl, rfl⟩ := h
      obtain ⟨f1, _, f3, _⟩ := vfirst_real (P := P) hh hx hl (Nat.min_le_left _ _) hf
      obtain ⟨w', r1, r2, r3, r4⟩ := HR.put (P := P) new hh (g := g) (o := off) (i := 0) hg hrog (by simpa using hp) f3
      refine ⟨w', ?_, by simp [V.ok], Inj.le.refl J, by rw [St.write_eq]; exact hn, ?_, r3, Ext.write _ _ _, hro, Fr.write hg r4⟩
      · simp only [Builtin.copy_, V.real, List.getElem?_toArray, List.getElem?_cons_zero, List.getElem?_cons_succ, Sem.run_bind, run_underlying hd, Result.andThen_ok, hlen, sizeOf, typeInfo, run_program, hi, Sem.run_pure]
        simp only [f1, Result.andThen_ok, r1]
        rfl
      · rw [St.write_eq]
        show HR J ro B (st.hp.upd g (some b')).get w'
        rw [get_upd_fun]; exact r2
  | _ => simp at h

theorem vlenOp_real {t ty : TypeId} {x v : V} (h : vlenOp P t x = some v) : (Builtin.len_ #[t] ty #[x.real J]).run P w = .ok (v.real J) w ∧ ∀ n, v.ok n := by
  unfold vlenOp at h
  split at h
  · rename_i e
    simp only [Option.some.injEq] at h
    subst h
    have hs : ∀ l x, (⟨(unpackL l x).toArray⟩ : ByteArray).size = l := fun l x => by simp [ByteArray.size, length_unpackL]
    simp only [V.real, V.ok, implies_true, and_true, run_len_string w t ty _ e, hs]
    rfl
  · rename_i e
    simp only [Option.some.injEq] at h
    subst h
    simp [Builtin.len_, V.real, run_underlying e, goInt, V.ok]
  · rename_i e
    simp only [Option.some.injEq] at h
    subst h
    simp [Builtin.len_, V.real, run_underlying e, goInt, V.ok]
  · rename_i e
    simp only [Option.some.injEq] at h
    subst h
    simp [Builtin.len_, V.real, run_underlying e, goInt, V.ok]
  · rename_i e
    simp only [Option.some.injEq] at h
    subst h
    simp [Builtin.len_, V.real, run_underlying e, goInt, V.ok]
  · rename_i e
    simp only [Option.some.injEq] at h
    subst h
    simp [Builtin.len_, V.real, run_underlying e, goInt, V.ok]
  · rename_i e
    simp only [Option.some.injEq] at h
    subst h
    refine ⟨?_, by simp [V.ok]⟩
    simp [Builtin.len_, run_underlying e, goInt, V.real]
  · simp at h

theorem vmin2_real {mn : Bool} {x y v : V} (h : vmin2 mn x y = some v) :
    ((if mn then Builtin.min2 (x.real J) (y.real J) else Builtin.max2 (x.real J) (y.real J)) : Sem Value).run P w = .ok (v.real J) w ∧ ∀ n, v.ok n := by
  unfold vmin2 at h
  split at h
  · rename_i k a k' b
    simp only [Option.some.injEq] at h
    subst h
    refine ⟨?_, by simp [V.ok]⟩
    cases mn
    · by_cases e : a < b <;> simp [V.real, Builtin.max2, ilt, e]
    · by_cases e : b < a <;> simp [V.real, Builtin.min2, ilt, e]
  · simp at h
theorem modify_push {α : Type} (a : Array α) (x : α) (f : α → α) : (a.push x).modify a.size f = a.push (f x) := by
  apply Array.ext
  · simp
  · intro i h1 h2
    rw [Array.getElem_modify]
    by_cases hi : i = a.size
    · subst hi; simp
    · have : i < a.size := by simp at h2; omega
      rw [if_neg (fun q => hi q.symm), Array.getElem_push_lt this, Array.getElem_push_lt this]
theorem freeze_alloc (u : World) (c : Array Value) (e : TypeId) (n : Nat) : World.freeze (u.alloc (.cells c e)) ⟨u.heap.size, n, none⟩ 1 = u.alloc (.cells c e (n, n + 1)) := by
  unfold World.freeze
  rw [if_neg (by decide)]
  simp only [World.alloc]
  rw [modify_push]
  simp

theorem vminL_real {mn : Bool} : ∀ (l : List V) {x v : V}, vminL mn x l = some v → x.ok J.nx → (∀ y ∈ l, y.ok J.nx) →
    ((l.map (V.real J)).foldlM (fun a b => if mn then Builtin.min2 a b else Builtin.max2 a b) (x.real J) : Sem Value).run P w = .ok (v.real J) w ∧ v.ok J.nx
  | [], x, v, h, hx, _ => by simp only [vminL, Option.some.injEq] at h; subst h; simp [hx]
  | y :: l, x, v, h, hx, hl => by
    simp only [vminL] at h
    cases hm : vmin2 mn x y with
    | none => simp [hm] at h
    | some z =>
      simp only [hm] at h
      obtain ⟨q1, q2⟩ := vmin2_real (P := P) (J := J) (w := w) hm
      obtain ⟨p1, p2⟩ := vminL_real l h (q2 J.nx) (fun y hy => hl y (List.mem_cons_of_mem _ hy))
      refine ⟨?_, p2⟩
      rw [List.map_cons, List.foldlM_cons, Sem.run_bind, q1]
      exact p1

theorem foldl_push_bytes : ∀ (ns : List Int) (s : ByteArray), ns.foldl (fun r n => r.push (UInt8.ofNat n.toNat)) s = ⟨(s.data.toList ++ ns.map fun n => UInt8.ofNat n.toNat).toArray⟩
  | [], s => by simp
  | n :: ns, s => by
    rw [List.foldl_cons, foldl_push_bytes ns]
    simp [ByteArray.push]

theorem bytesOfCells_spec : ∀ (cs : List V) (l : List UInt8), bytesOfCells cs = some l → ∃ ns : List Int, cs.map (V.real J) = ns.map (Value.int .u8) ∧ l = ns.map fun n => UInt8.ofNat n.toNat
  | [], l, h => by simp only [bytesOfCells, Option.some.injEq] at h; subst h; exact ⟨[], rfl, rfl⟩
  | c :: cs, l, h => by
    obtain ⟨n, rfl⟩ : ∃ n, c = .i .u8 n := by
      cases c with
      | i k n => cases k <;> first | exact ⟨n, rfl⟩ | simp [bytesOfCells] at h
      | _ => simp [bytesOfCells] at h
    simp only [bytesOfCells] at h
    cases hr : bytesOfCells cs with
    | none => simp [hr] at h
    | some r =>
      simp only [hr, Option.some.injEq] at h
      subst h
      obtain ⟨ns, q1, q2⟩ := bytesOfCells_spec cs r hr
      exact ⟨n :: ns, by simp [V.real, q1], by simp [q2]⟩

theorem vtext_zero {b : Blk} {len off : Nat} (h : b.zeros len off = true) : ∃ cs, b.row len off = some cs ∧ bytesOfCells cs = some (List.replicate len 0) := by
  unfold Blk.zeros at h
  split at h
  · rename_i hc hz
    rw [Bool.and_eq_true, Nat.beq_eq, Nat.ble_eq] at h
    obtain ⟨h1, h2⟩ := h
    have hg : ∀ o, o < b.sz → b.get o = some (.i .u8 0) := by
      intro o ho
      unfold Blk.get
      rw [show Nat.blt o b.sz = true from by rw [Nat.blt_eq]; exact ho, hc, hz, h1, Nat.mod_one]
      rfl
    have key : ∀ (n o : Nat), o + n ≤ b.sz → b.row n o = some (List.replicate n (.i .u8 0)) := by
      intro n
      induction n with
      | zero => intro o _; rfl
      | succ n ih =>
        intro o ho
        simp only [Blk.row, hg o (by omega), ih (o + 1) (by omega), List.replicate_succ]
    have hb : ∀ n : Nat, bytesOfCells (List.replicate n (.i .u8 0)) = some (List.replicate n 0) := by
      intro n
      induction n with
      | zero => rfl
      | succ n ih => rw [List.replicate_succ]; simp only [bytesOfCells, ih]; rw [List.replicate_succ]; rfl
    exact ⟨_, key len off h2, hb len⟩
  · cases h
theorem pack_zero : ∀ n : Nat, packL (List.replicate n 0) = 0
  | 0 => rfl
  | n + 1 => by rw [List.replicate_succ]; unfold packL; rw [pack_zero n]; rfl
theorem vtext_spec {b : Blk} {len off : Nat} {v : V} (h : vtext b len off = some v) : ∃ cs l, b.row len off = some cs ∧ bytesOfCells cs = some l ∧ v = .str l := by
  unfold vtext at h
  cases hz : b.zeros len off with
  | true =>
    simp only [hz, Option.some.injEq] at h
    obtain ⟨cs, h1, h2⟩ := vtext_zero hz
    exact ⟨cs, _, h1, h2, by rw [← h]; unfold V.str; rw [List.length_replicate, pack_zero]⟩
  | false =>
    simp only [hz] at h
    cases hr : b.row len off with
    | none => simp [hr] at h
    | some cs =>
      simp only [hr] at h
      cases hb : bytesOfCells cs with
      | none => simp [hb] at h
      | some l => simp only [hb, Option.some.injEq] at h; exact ⟨cs, l, rfl, hb, h.symm⟩
theorem vtext_of {b : Blk} {len off : Nat} {cs : List V} {l : List UInt8} (hr : b.row len off = some cs) (hb : bytesOfCells cs = some l) : vtext b len off = some (.str l) := by
  unfold vtext
  cases hz : b.zeros len off with
  | true =>
    obtain ⟨cs', h1, h2⟩ := vtext_zero hz
    rw [hr] at h1
    cases h1
    rw [hb] at h2
    cases h2
    simp only
    unfold V.str
    rw [List.length_replicate, pack_zero]
  | false => simp only [hr, hb]
theorem vconvert_post (hn : J.nx = st.nx) (hh : HR J ro B st.hp.get w) (hro : ro ≤ J.nx) {s d : TypeId} {x v : V} {st' : St} (hx : x.ok J.nx) (h : vconvert P st s d x = some (v, st')) :
    ∃ J' w', (convert s d (x.real J)).run P w = .ok (v.real J') w' ∧ v.ok J'.nx ∧ Post J ro B st w J' st' w' := by
  unfold vconvert at h
  split at h
  · rename_i ds k k' n hs hd
    simp only [Option.some.injEq, Prod.mk.injEq] at h
    obtain ⟨rfl, rfl⟩ := h
    refine ⟨J, w, ?_, by simp [V.ok], Post.refl hn hh hro⟩
    simp [convert, run_underlying hs, run_underlying hd, V.real, Conv.intToInt]
  · rename_i ds l y hs hd
    simp only [Option.some.injEq, Prod.mk.injEq] at h
    obtain ⟨rfl, rfl⟩ := h
    refine ⟨J, w, ?_, hx, Post.refl hn hh hro⟩
    simp [convert, run_underlying hs, run_underlying hd, V.real]
  · rename_i ds e l y hs hd
    cases he : P.underlying e with
    | none => simp [he] at h
    | some de =>
    simp only [he] at h
    split at h
    · rename_i he'
      simp only [Option.some.injEq] at he'
      subst he'
      cases hb : Nat.ble l 1099511627776 with
      | false => simp [hb] at h
      | true =>
      simp only [hb, cond_true] at h
      cases hbk : blkOf (cellsOfBytes l y) 1 false with
      | none => simp [hbk] at h
      | some b =>
        simp only [hbk, natF_eq, Option.some.injEq, Prod.mk.injEq] at h
        obtain ⟨rfl, rfl⟩ := h
        rw [Nat.ble_eq] at hb
        simp only [V.ok] at hx
        obtain ⟨b1, b2, b3, b4, b5, b6⟩ := blkOf_spec hbk
        rw [cellsOfBytes_eq] at b1 b5 b6
        rw [List.length_map, length_unpackL] at b1
        generalize hcap : Question.cut (.appendCap l 0 e) (w.tape w.drawn (.appendCap l 0 e)) = cap
        have hle : l ≤ cap := by rw [← hcap]; simp only [Question.cut]; omega
        have hsz : ((unpackL l y).toArray.map (fun b => Value.int .u8 (b.toNat : Int)) ++ Array.replicate (cap - l) (Value.int .u8 0)).size = cap := by simp [length_unpackL]; omega
        have hal : HR (J.push (w.heap.size, 0, cap - l)) ro B (fun k => if k = J.nx then some b else st.hp.get k)
            (w.drew.alloc (.cells ((unpackL l y).toArray.map (fun b => Value.int .u8 (b.toNat : Int)) ++ Array.replicate (cap - l) (Value.int .u8 0)) e (cap, cap + 1))) := by
          refine (hh.congr (w' := w.drew) rfl).alloc (blkOf_mp hbk) (by rw [hsz, b1]; exact hle) (fun q => by rw [b3] at q; cases q) (fun o ho => by rw [hsz, show b.full = false from by unfold Blk.full; rw [b3, b2]; rfl, Bool.toNat_false] at ho; simp; omega) (fun o u hu => ?_)
          rw [b5] at hu
          have hm := List.mem_of_getElem? hu
          refine ⟨?_, b6 u hm, ?_⟩
          · obtain ⟨c, _, rfl⟩ := List.mem_map.1 hm; simp [V.ok]
          · have hlt : o < l := by
              rcases Nat.lt_or_ge o l with q | q
              · exact q
              · rw [List.getElem?_eq_none (by simp [length_unpackL]; exact q)] at hu; cases hu
            rw [Array.getElem?_append_left (by simp [length_unpackL]; exact hlt)]
            rw [List.getElem?_map] at hu
            cases hc : (unpackL l y)[o]? with
            | none => simp [hc] at hu
            | some c => simp only [hc, Option.map_some, Option.some.injEq] at hu; subst hu; simp [hc, V.real]
        refine ⟨J.push (w.heap.size, 0, cap - l), w.drew.alloc (.cells ((unpackL l y).toArray.map (fun b => Value.int .u8 (b.toNat : Int)) ++ Array.replicate (cap - l) (Value.int .u8 0)) e (cap, cap + 1)), ?_, ?_, J.le_push _, by show J.nx + 1 = st.nx + 1; omega, ?_, ?_, Ext.alloc hn hh b, Nat.le_succ_of_le hro, Fr.alloc (w := w.drew) hn (hh.congr rfl) b⟩
        · have hs2 : (⟨(unpackL l y).toArray⟩ : ByteArray).size = l := by simp [ByteArray.size, length_unpackL]
          have hfin : (V.sl st.nx 0 l l true).real (J.push (w.heap.size, 0, cap - l)) = .slice (some ⟨w.heap.size, 0, none⟩) l cap := by
            rw [← hn]; simp only [V.real, Inj.push_self, Nat.add_zero, cond_true]; rw [show l + (cap - l) = cap from by omega]
          rw [hfin]
          simp only [V.real, convert, Sem.run_bind, run_underlying hs, run_underlying hd, run_underlying he, Result.andThen_ok, Conv.stringToBytes, run_choose, Question.forced, Bool.false_eq_true, if_false, hs2, hcap, World.drew_eq, newRow, run_newObj, World.alloc_eq, Sem.run_pure, markStringish, run_shape]
          have hsh : ∀ c : Array Value, (w.drew.alloc (.cells c e)).shape? w.drew.heap.size = some (e, c.size) := fun c => by
            show (match (w.heap.push (.cells c e))[w.heap.size]? with | some (.cells c elem _) => some (elem, c.size) | _ => none) = _
            simp
          rw [hsh]
          simp only [run_freeze, Result.andThen_ok]
          rw [hsz]
          simp only [World.size_drew, Result.ok.injEq, true_and]
          show World.freeze (w.drew.alloc _) _ 1 = _
          exact freeze_alloc w.drew _ e cap
        · simp only [V.ok, Inj.push]; omega
        · show HR _ ro B (st.hp.upd st.nx (some b)).get _
          rw [get_upd_fun, ← hn]
          exact hal
        · exact (Below.drew (Below.refl B.heap.size w)).alloc hh.base.size _
    · simp at h
  · rename_i e hs hd
    cases he : P.underlying e with
    | none => simp [he] at h
    | some de =>
    simp only [he] at h
    split at h
    · rename_i he'
      simp only [Option.some.injEq] at he'
      subst he'
      simp only [Option.some.injEq, Prod.mk.injEq] at h
      obtain ⟨rfl, rfl⟩ := h
      refine ⟨J, w, ?_, by simp [V.ok], Post.refl hn hh hro⟩
      simp [convert, run_underlying hs, run_underlying hd, run_underlying he, V.real, Conv.bytesToString, unpackL]
      rfl
    · simp at h
  · rename_i e g off len cap op hs hd
    cases he : P.underlying e with
    | none => simp [he] at h
    | some de =>
    cases hg : st.hp.get g with
    | none => simp [he, hg] at h
    | some b =>
    simp only [he, hg] at h
    split at h
    · rename_i he' hb'
      simp only [Option.some.injEq] at he' hb'
      subst he' hb'
      cases ht : vtext b len off with
      | none => simp [ht] at h
      | some u =>
        simp only [ht, Option.some.injEq, Prod.mk.injEq] at h
        obtain ⟨rfl, rfl⟩ := h
        obtain ⟨cs, l, hr, hbc, rfl⟩ := vtext_spec ht
        obtain ⟨q1, _, _, _⟩ := (hh.blk g b hg).row (P := P) hr
        obtain ⟨ns, n1, n2⟩ := bytesOfCells_spec (J := J) cs l hbc
        refine ⟨J, w, ?_, V.str_ok _ _, Post.refl hn hh hro⟩
        rw [V.str_real]
        simp only [V.real]
        rw [run_convert_bytes_string w s d e _ _ _ hs he hd, run_bytesToString w _ _ _ ns (by rw [← n1]; exact q1), foldl_push_bytes, n2]
        rfl
    · simp at h
  · rename_i e g o o2 hs hd
    cases he : P.underlying e with
    | none => simp [he] at h
    | some de =>
    simp only [he] at h
    split at h
    · rename_i he'
      simp only [Option.some.injEq] at he'
      subst he'
      simp only [Option.some.injEq, Prod.mk.injEq] at h
      obtain ⟨rfl, rfl⟩ := h
      refine ⟨J, w, ?_, by simp [V.ok], Post.refl hn hh hro⟩
      simp only [V.real]
      rw [run_convert_bytes_string w s d e _ _ _ hs he hd, run_bytesToString w _ _ _ [] (by simp [loadCells, loadCellsFrom])]
      simp [unpackL]
      rfl
    · simp at h
  · rename_i e a hs hd
    cases he : P.underlying e with
    | none => simp [he] at h
    | some de =>
    simp only [he] at h
    split at h
    · rename_i he'
      simp only [Option.some.injEq] at he'
      subst he'
      simp only [Option.some.injEq, Prod.mk.injEq] at h
      obtain ⟨rfl, rfl⟩ := h
      refine ⟨J, w, ?_, by simp [V.ok], Post.refl hn hh hro⟩
      simp only [V.real]
      rw [run_convert_bytes_string w s d e _ _ _ hs he hd, run_bytesToString w _ _ _ [] (by simp [loadCells, loadCellsFrom])]
      simp [unpackL]
      rfl
    · simp at h
  · rename_i e g o o2 hs hd
    cases he : P.underlying e with
    | none => simp [he] at h
    | some de =>
    simp only [he] at h
    split at h
    · rename_i he'
      simp only [Option.some.injEq] at he'
      subst he'
      simp only [Option.some.injEq, Prod.mk.injEq] at h
      obtain ⟨rfl, rfl⟩ := h
      refine ⟨J, w, ?_, by simp [V.ok], Post.refl hn hh hro⟩
      simp only [V.real]
      rw [run_convert_bytes_string w s d e _ _ _ hs he hd, run_bytesToString w _ _ _ [] (by simp [loadCells, loadCellsFrom])]
      simp [unpackL]
      rfl
    · simp at h
  · simp at h

/-- A block is marked as the bytes of a text. -/
theorem HR.mark {h : Nat → Option Blk} {w : World} (hh : HR J ro B h w) {g : Nat} {b : Blk} (hg : h g = some b) (hop : b.full = false) (hro : ro ≤ g) {c : Array Value} {e : TypeId} {fz : Nat × Nat} (hc : w.heap[(J.m g).1]? = some (.cells c e fz)) :
    HR J ro B h (w.freeze ⟨(J.m g).1, c.size, none⟩ 1) ∧ Below B.heap.size w (w.freeze ⟨(J.m g).1, c.size, none⟩ 1) := by
  have hm0 := (hh.blk g b hg).mp_cells hc
  obtain ⟨k0, c0, e0, fz0, k1, k2, k3, k4, k5⟩ := (hh.blk g b hg).cells hm0
  rw [hc] at k1
  obtain ⟨rfl, rfl, rfl⟩ : c = c0 ∧ e = e0 ∧ fz = fz0 := by simpa using k1
  obtain ⟨k4a, k4b⟩ := k4 hro
  have hB : ∀ k, k ≠ (J.m g).1 → (w.freeze ⟨(J.m g).1, c.size, none⟩ 1).heap[k]? = w.heap[k]? := fun k hk => by
    unfold World.freeze
    rw [if_neg (by decide)]
    simp only [Array.getElem?_modify]
    rw [if_neg (fun q => hk q.symm)]
  have hS : (w.freeze ⟨(J.m g).1, c.size, none⟩ 1).heap[(J.m g).1]? = some (.cells c e (if fz.1 == fz.2 then (c.size, c.size + 1) else (min fz.1 c.size, max fz.2 (c.size + 1)))) := by
    unfold World.freeze
    rw [if_neg (by decide)]
    simp only [Array.getElem?_modify, hc, if_true, Option.map_some]
  have hsz : (w.freeze ⟨(J.m g).1, c.size, none⟩ 1).heap.size = w.heap.size := by
    unfold World.freeze
    rw [if_neg (by decide)]
    simp
  have hbel : Below B.heap.size w (w.freeze ⟨(J.m g).1, c.size, none⟩ 1) := ⟨rfl, rfl, rfl, by rw [hsz]; exact Nat.le_refl _, fun k hk => hB k (by omega)⟩
  refine ⟨⟨hh.base.below hbel, fun g' b' hg' => ?_, hh.inj⟩, hbel⟩
  by_cases hgg : (J.m g').1 = (J.m g).1
  · obtain rfl := hh.inj g' g b' b hg' hg hgg
    rw [hg] at hg'
    cases hg'
    refine BR.of_cells hm0 ⟨k0, c, e, _, hS, k2, k3, fun _ => ⟨k4a, fun o ho => ?_⟩, k5⟩
    rw [hop, Bool.toNat_false, Nat.add_zero] at ho
    have h1 := k4b o (by omega)
    have h0 := k4b 0 (by omega)
    by_cases q : fz.1 = fz.2
    · rw [if_pos (by simpa using q)]
      refine ⟨?_, by simp⟩
      simp; omega
    · rw [if_neg (by simpa using q)]
      have hlt : fz.1 < fz.2 := by omega
      have hge : c.size ≤ fz.1 := by
        rcases Nat.lt_or_ge fz.1 c.size with z | z
        · exfalso
          have := (k4b fz.1 (by omega)).1
          simp at this
          omega
        · exact z
      refine ⟨?_, by simp only; omega⟩
      simp only [Nat.min_eq_right hge]
      simp; omega
  · have := hh.blk g' b' hg'
    unfold BR CR MR at *
    rw [hB _ hgg]
    exact this

theorem World.freeze_other {w : World} {r i c n : Nat} (h : i ≠ r) : (w.freeze ⟨r, c, none⟩ n).heap[i]? = w.heap[i]? := by
  unfold World.freeze
  split
  · rfl
  · simp only [Array.getElem?_modify]
    rw [if_neg (fun q => h q.symm)]

theorem vconv2_of {s d : TypeId} {x : V} {r : V × St} (h : vconvert P st s d x = some r) : vconv2 P ro st s d x = some r := by
  unfold vconv2
  split
  · rename_i e e' g o l c op hs hd
    unfold vconvert at h
    simp only [hs, hd] at h
    cases h
  · exact h
theorem vconv2_post (hn : J.nx = st.nx) (hh : HR J ro B st.hp.get w) (hro : ro ≤ J.nx) {s d : TypeId} {x v : V} {st' : St} (hx : x.ok J.nx) (h : vconv2 P ro st s d x = some (v, st')) :
    ∃ J' w', (convert s d (x.real J)).run P w = .ok (v.real J') w' ∧ v.ok J'.nx ∧ Post J ro B st w J' st' w' := by
  unfold vconv2 at h
  split at h
  · rename_i e e' g o l c op hs hd
    split at h
    · rename_i b he hb
      generalize hc : (decide (s = d) && !b.full && Nat.ble ro g && b.mp.isNone) = cc at h
      cases cc with
      | false => simp at h
      | true =>
        simp only [cond_true, Option.some.injEq, Prod.mk.injEq] at h
        obtain ⟨rfl, rfl⟩ := h
        simp only [Bool.and_eq_true, decide_eq_true_eq, Nat.ble_eq, Bool.not_eq_true'] at hc
        obtain ⟨⟨⟨rfl, hop⟩, hrg⟩, hmp⟩ := hc
        obtain ⟨k0, c0, e0, fz0, k1, _⟩ := (hh.blk g b hb).cells (Option.isNone_iff_eq_none.1 hmp)
        obtain ⟨m1, m2⟩ := hh.mark hb hop hrg k1
        rw [hs] at hd
        obtain rfl : e = e' := by simpa using hd
        refine ⟨J, w.freeze ⟨(J.m g).1, c0.size, none⟩ 1, ?_, hx, ⟨Inj.le.refl J, hn, m1, m2, Ext.refl _, hro, fun i hi hf => ⟨World.freeze_other (fun q => hf g b hb q.symm), hf⟩⟩⟩
        have hsh : w.shape? (J.m g).1 = some (e0, c0.size) := by simp only [World.shape?, k1]
        have hm : (markStringish ⟨(J.m g).1, (J.m g).2.1 + o, none⟩).run P w = .ok () (w.freeze ⟨(J.m g).1, c0.size, none⟩ 1) := by
          simp [markStringish, shape, Sem.run, hsh]
        simp [convert, run_underlying hs, run_underlying he, V.real, hm]
    · cases h
  · exact vconvert_post hn hh hro hx h
end
end Go.Vm
set_option linter.unusedVariables false
set_option linter.unusedSimpArgs false
namespace Go.Vm
open Go.RowKit

section
variable {P : Program} {J : Inj} {ro : Nat} {B : World} {st : St} {w : World}

/-- Two places of blocks of one's own. -/
theorem same_other (hh : HR J ro B st.hp.get w) {g g' o o' : Nat} {b b' : Blk} (h1 : st.hp.get g = some b) (h2 : st.hp.get g' = some b') (hne : g ≠ g') (m1 : b.mp = none) (m2 : b'.mp = none) (r1 : ro ≤ g) (r2 : ro ≤ g') (l1 : o < b.sz) (l2 : o' < b'.sz) (hf : b.full = true ∨ b'.full = true) :
    (sameAddr ⟨(J.m g).1, (J.m g).2.1 + o, none⟩ ⟨(J.m g').1, (J.m g').2.1 + o', none⟩).run P w = .ok false w := by
  have hbl : (J.m g).1 ≠ (J.m g').1 := fun e => hne (hh.inj g g' b b' h1 h2 e)
  obtain ⟨_, c, e, fz, a1, a2, a3, a4, a5⟩ := (hh.blk g b h1).cells m1
  obtain ⟨_, c', e', fz', b1, b2, b3, b4, b5⟩ := (hh.blk g' b' h2).cells m2
  have fa := (a4 r1).2 ((J.m g).2.1 + o) (by omega)
  have fb := (b4 r2).2 ((J.m g').2.1 + o') (by omega)
  have hz1 : c.size ≠ 0 := by omega
  have hz2 : c'.size ≠ 0 := by omega
  have ends : (decide (fz.1 ≤ c.size) && decide (c.size < fz.2)) = false ∨ (decide (fz'.1 ≤ c'.size) && decide (c'.size < fz'.2)) = false := by
    rcases hf with q | q
    · exact .inl ((a4 r1).2 c.size (by rw [q]; simp)).1
    · exact .inr ((b4 r2).2 c'.size (by rw [q]; simp)).1
  have nz1 : ∀ n, c.size = n → n ≠ 0 := fun n q z => hz1 (q.trans z)
  have nz2 : ∀ n, c'.size = n → n ≠ 0 := fun n q z => hz2 (q.trans z)
  generalize hs1 : c.size = n1 at *
  generalize hs2 : c'.size = n2 at *
  obtain ⟨n1, rfl⟩ : ∃ k, n1 = k + 1 := ⟨n1 - 1, by omega⟩
  obtain ⟨n2, rfl⟩ : ∃ k, n2 = k + 1 := ⟨n2 - 1, by omega⟩
  have fa1 := fa.1
  have fb1 := fb.1
  rcases ends with q | q
  · simp [sameAddr, hbl, World.frozen?, a1, b1, noView, viewAt, World.shape?, mayBeOne, stringish, fa1, fb1, hs1, hs2, q]
  · simp [sameAddr, hbl, World.frozen?, a1, b1, noView, viewAt, World.shape?, mayBeOne, stringish, fa1, fb1, hs1, hs2, q]

theorem keq1_real (hh : HR J ro B st.hp.get w) (D : Nat) : ∀ (t : TypeId) (x y : V) (r : Bool), x.ok J.nx → y.ok J.nx → keq1 P ro st t x y = some r → (Op.equalIn (D + 1) t (x.real J) (y.real J)).run P w = .ok r w := by
  intro t x y r hx hy h
  unfold keq1 at h
  split at h
  · rename_i a b e; simp only [Option.some.injEq] at h; subst h; simp only [V.real]; exact run_equalIn_bool w D t a b e
  · rename_i k a k' b e
    cases hk : decide (k = k') with
    | false => simp [hk] at h
    | true =>
      simp only [hk, cond_true, Option.some.injEq] at h
      subst h
      have := of_decide_eq_true hk
      subst this
      simp only [V.real]; exact run_equalIn_int w D t k _ a b e
  · rename_i e
    simp only [Option.some.injEq] at h; subst h
    simp only [V.ok] at hx hy
    simp only [V.real]; rw [run_equalIn_string w D t _ _ e, bytes_beq _ _ _ _ hx hy]
  · rename_i e; simp only [Option.some.injEq] at h; subst h; simp [V.real, Op.equalIn, run_underlying e]
  · rename_i e; simp only [Option.some.injEq] at h; subst h; simp [V.real, Op.equalIn, run_underlying e]
  · rename_i e; simp only [Option.some.injEq] at h; subst h; simp [V.real, Op.equalIn, run_underlying e]
  · rename_i el g o g' o' e
    split at h
    · rename_i k hs
      have hsz := sizeB_run w hs
      simp only [V.real]
      have key : (sameAddr ⟨(J.m g).1, (J.m g).2.1 + o, none⟩ ⟨(J.m g').1, (J.m g').2.1 + o', none⟩).run P w = .ok r w := by
        cases hg : Nat.beq g g' with
        | true =>
          rw [hg, cond_true] at h
          rw [Nat.beq_eq] at hg
          subst hg
          have h := Option.some.inj h
          subst h
          have : (sameAddr ⟨(J.m g).1, (J.m g).2.1 + o, none⟩ ⟨(J.m g).1, (J.m g).2.1 + o', none⟩).run P w = .ok ((⟨(J.m g).1, (J.m g).2.1 + o, none⟩ : Addr) == ⟨(J.m g).1, (J.m g).2.1 + o', none⟩) w := by simp [sameAddr]
          rw [this]
          congr 1
          rw [Bool.eq_iff_iff, beq_iff_eq, Nat.beq_eq]
          constructor
          · intro q
            have := congrArg Addr.off q
            simp only at this
            omega
          · intro q; rw [q]
        | false =>
          rw [hg, cond_false] at h
          split at h
          · rename_i b b' h1 h2
            generalize hc : (b.mp.isNone && b'.mp.isNone && Nat.ble ro g && Nat.ble ro g' && Nat.blt o b.sz && Nat.blt o' b'.sz && (b.full || b'.full)) = c at h
            cases c with
            | false => cases h
            | true =>
              rw [cond_true] at h
              have h := Option.some.inj h
              subst h
              simp only [Bool.and_eq_true, Bool.or_eq_true, Nat.ble_eq, Nat.blt_eq, Option.isNone_iff_eq_none] at hc
              obtain ⟨⟨⟨⟨⟨⟨c1, c2⟩, c3⟩, c4⟩, c5⟩, c6⟩, c7⟩ := hc
              exact same_other hh h1 h2 (fun q => by rw [q, show Nat.beq g' g' = true from by rw [Nat.beq_eq]] at hg; cases hg) c1 c2 c3 c4 c5 c6 c7
          · cases h
      simp only [Op.equalIn, Sem.run_bind, run_underlying e, Result.andThen_ok, hsz]
      simp only [ne_eq, Nat.add_eq_zero_iff, Nat.one_ne_zero, and_false, not_false_eq_true, if_true]
      exact key
    · cases h
  · cases h

theorem keqS_real {eq : TypeId → V → V → Option Bool} (hh : HR J ro B st.hp.get w) (D : Nat) (heq : ∀ (t : TypeId) (x y : V) (r : Bool), x.ok J.nx → y.ok J.nx → eq t x y = some r → (Op.equalIn (D + 1) t (x.real J) (y.real J)).run P w = .ok r w) :
    ∀ (t : TypeId) (x y : V) (r : Bool), x.ok J.nx → y.ok J.nx → keqS P ro st eq t x y = some r → (Op.equalIn (D + 2) t (x.real J) (y.real J)).run P w = .ok r w := by
  intro t x y r hx hy h
  unfold keqS at h
  split at h
  · rename_i fs xs ys e
    cases hs : P.stoodInHeld t with
    | true => simp [hs] at h
    | false =>
      simp only [hs, cond_false] at h
      have hf : P.fieldsOf t = fs := by simp [Program.fieldsOf, e]
      simp only [V.real, V.reals_eq]
      rw [show D + 2 = (D + 1) + 1 from rfl, run_equalIn_struct w (D + 1) t _ _ (by rw [hf]; exact e) hs, hf]
      simp only [V.ok, V.oks_iff] at hx hy
      exact veqFields_real w hx hy (fun t x y r h1 h2 h3 => heq t x y r h1 h2 h3) _ _ h
  · exact keq1_real hh (D + 1) t _ _ r hx hy h
theorem keq_real (hh : HR J ro B st.hp.get w) {t : TypeId} {x y : V} {r : Bool} (hx : x.ok J.nx) (hy : y.ok J.nx) (h : keq P ro st t x y = some r) : (Op.equal t (x.real J) (y.real J)).run P w = .ok r w := by
  unfold keq at h
  unfold Op.equal
  exact keqS_real hh 9998 (keqS_real hh 9997 (keq1_real hh 9997)) t x y r hx hy h

theorem ck1_run {t : TypeId} {x : V} (h : ck1 P t x = true) (e : Bool) (n : Nat) : (Instr.checkKey e (n + 1) t (x.real J)).run P w = .ok () w := by
  unfold ck1 at h
  unfold Instr.checkKey
  split at h <;> first | (cases h; done) | skip
  all_goals (rename_i d; simp [run_underlying d, V.real])

theorem ckFields_run {ck : TypeId → V → Bool} {xs : List V} (e : Bool) (n : Nat) (hck : ∀ t x, ck t x = true → (Instr.checkKey e (n + 1) t (x.real J)).run P w = .ok () w) : ∀ (fs : List Field), ckFields P ck xs fs = true →
    (forIn fs PUnit.unit (fun f (_ : PUnit) => do
      if f.name ≠ "_" then Instr.checkKey e (n + 1) f.type (← part f.type (xs.map (V.real J)).toArray f.offset)
      pure (ForInStep.yield PUnit.unit) : Field → PUnit → Sem (ForInStep PUnit))).run P w = .ok PUnit.unit w
  | [], h => by simp
  | f :: r, h => by
    rw [ckFields] at h
    rw [List.forIn_cons]
    cases hn : f.name == "_" with
    | true =>
      rw [hn, cond_true] at h
      have : f.name = "_" := by simpa using hn
      have ih := ckFields_run e n hck r h
      simpa [this] using ih
    | false =>
      rw [hn, cond_false] at h
      have hn' : ¬ f.name = "_" := by simpa using hn
      split at h
      · rename_i x hx
        rw [Bool.and_eq_true] at h
        have ih := ckFields_run e n hck r h.2
        have p1 := vpart_real (P := P) (J := J) w hx
        have p2 := hck _ _ h.1
        simp only [Sem.run_bind, ne_eq, hn', not_false_eq_true, if_true, p1, p2, Result.andThen_ok, Sem.run_pure]
        exact ih
      · cases h

theorem ckS_run {ck : TypeId → V → Bool} (e : Bool) (n : Nat) (hck : ∀ t x, ck t x = true → (Instr.checkKey e (n + 1) t (x.real J)).run P w = .ok () w) (t : TypeId) (x : V) (h : ckS P ck t x = true) : (Instr.checkKey e (n + 2) t (x.real J)).run P w = .ok () w := by
  unfold ckS at h
  split at h
  · rename_i fs xs hd
    have := ckFields_run (P := P) (J := J) (w := w) e n hck fs.toList h
    rw [show n + 2 = (n + 1) + 1 from rfl, Instr.checkKey]
    simp only [V.real, V.reals_eq, Sem.run_bind, run_underlying hd, Result.andThen_ok]
    rw [← Array.forIn_toList]
    simp at this ⊢
    rw [this]
    rfl
  · exact ck1_run h e (n + 1)
theorem ckV_run {t : TypeId} {x : V} (h : ckV P t x = true) (e : Bool) : (Instr.checkKey e 10000 t (x.real J)).run P w = .ok () w :=
  ckS_run e 9998 (ckS_run e 9997 fun _ _ h => ck1_run h e 9997) t x h

theorem find_asking (hh : HR J ro B st.hp.get w) {t : TypeId} {k : V} (hk : k.ok J.nx) : ∀ (es : List (V × V)) (ms : List MapEntry) (i : Nat) (r : Option (Nat × V)), (∀ x ∈ es, x.1.ok J.nx ∧ x.2.ok J.nx) → ms.map (fun e => (e.key, e.val)) = es.map (fun x => (x.1.real J, x.2.real J)) → findV P ro st t k es i = some r →
    (Instr.findAsking t (k.real J) ms i).run P w = .ok (r.map fun x => (x.1, x.2.real J)) w ∧ (∀ x, r = some x → x.2.ok J.nx)
  | [], ms, i, r, _, hm, h => by
    obtain rfl : ms = [] := by cases ms with | nil => rfl | cons _ _ => cases hm
    simp only [findV, Option.some.injEq] at h
    subst h
    exact ⟨by simp [Instr.findAsking], fun x q => by cases q⟩
  | e :: es, ms, i, r, hok, hm, h => by
    obtain ⟨m, ms, rfl⟩ : ∃ m l, ms = m :: l := by cases ms with | nil => cases hm | cons m l => exact ⟨m, l, rfl⟩
    simp only [List.map_cons, List.cons.injEq] at hm
    obtain ⟨he, hm⟩ := hm
    have hkey : m.key = e.1.real J := congrArg Prod.fst he
    have hval : m.val = e.2.real J := congrArg Prod.snd he
    have hoe := hok e (List.mem_cons_self ..)
    rw [findV] at h
    unfold Instr.findAsking
    cases hq : keq P ro st t k e.1 with
    | none => rw [hq] at h; cases h
    | some q =>
      have hr := keq_real hh hk hoe.1 hq
      rw [hq] at h
      rw [hkey]
      simp only [Sem.run_bind, hr, Result.andThen_ok]
      cases q with
      | true =>
        simp only [Option.some.injEq] at h
        subst h
        simp only [if_true, Sem.run_pure, hval, Option.map_some]
        exact ⟨trivial, fun x q => by cases q; exact hoe.2⟩
      | false =>
        simp only [Bool.false_eq_true, if_false]
        exact find_asking hh hk es ms (i + 1) r (fun x hx => hok x (List.mem_cons_of_mem _ hx)) hm h

theorem find_now (hh : HR J ro B st.hp.get w) {t : TypeId} {d : TypeDesc} (hd : P.underlying t = some d) {k : V} (hk : k.ok J.nx) : ∀ (es : List (V × V)) (ms : List MapEntry) (i : Nat) (r : Option (Nat × V)) (a : Option (Nat × Value)), (∀ x ∈ es, x.1.ok J.nx ∧ x.2.ok J.nx) → ms.map (fun e => (e.key, e.val)) = es.map (fun x => (x.1.real J, x.2.real J)) → findV P ro st t k es i = some r →
    Instr.findNow d (k.real J) ms i = some a → a = r.map fun x => (x.1, x.2.real J)
  | [], ms, i, r, a, _, hm, h, ha => by
    obtain rfl : ms = [] := by cases ms with | nil => rfl | cons _ _ => cases hm
    simp only [findV, Option.some.injEq] at h
    subst h
    simpa [Instr.findNow] using ha.symm
  | e :: es, ms, i, r, a, hok, hm, h, ha => by
    obtain ⟨m, ms, rfl⟩ : ∃ m l, ms = m :: l := by cases ms with | nil => cases hm | cons m l => exact ⟨m, l, rfl⟩
    simp only [List.map_cons, List.cons.injEq] at hm
    obtain ⟨he, hm⟩ := hm
    have hkey : m.key = e.1.real J := congrArg Prod.fst he
    have hval : m.val = e.2.real J := congrArg Prod.snd he
    have hoe := hok e (List.mem_cons_self ..)
    rw [findV] at h
    rw [Instr.findNow, hkey] at ha
    cases hq : keq P ro st t k e.1 with
    | none => rw [hq] at h; cases h
    | some q =>
      rw [hq] at h
      have agree : ∀ s, Instr.sameNow d (k.real J) (e.1.real J) = some s → s = q := by
        intro s hs
        have hr := keq_real hh hk hoe.1 hq
        unfold Instr.sameNow at hs
        split at hs
        · rename_i kd k1 a1 k2 a2 e1 e2
          split at hs
          · rename_i hkk
            subst hkk
            have := run_equalIn_int (P := P) w 9999 t k1 kd a1 a2 hd
            rw [e1, e2] at hr
            unfold Op.equal at hr
            rw [show Op.maxDepth = 9999 + 1 from rfl, this] at hr
            have hs := Option.some.inj hs
            have hr := Result.ok.inj hr
            rw [← hs]; exact hr.1
          · cases hs
        · rename_i a1 a2 e1 e2
          have := run_equalIn_string (P := P) w 9999 t a1 a2 hd
          rw [e1, e2] at hr
          unfold Op.equal at hr
          rw [show Op.maxDepth = 9999 + 1 from rfl, this] at hr
          have hs := Option.some.inj hs
          have hr := Result.ok.inj hr
          rw [← hs, ← hr.1]
          obtain ⟨x⟩ := a1
          obtain ⟨y⟩ := a2
          rw [ByteArray.toList_mk, ByteArray.toList_mk]
          show (x == y) = _
          rw [Bool.eq_iff_iff, beq_iff_eq, beq_iff_eq]
          exact ⟨fun q => by rw [q], fun q => Array.ext' q⟩
        · rename_i a1 a2 e1 e2
          have := run_equalIn_bool (P := P) w 9999 t a1 a2 hd
          rw [e1, e2] at hr
          unfold Op.equal at hr
          rw [show Op.maxDepth = 9999 + 1 from rfl, this] at hr
          have hs := Option.some.inj hs
          have hr := Result.ok.inj hr
          rw [← hs]; exact hr.1
        · cases hs
      split at ha
      · rename_i hs
        have := agree _ hs
        subst this
        simp only [Option.some.injEq] at h ha
        rw [← h, ← ha, hval]
        rfl
      · rename_i hs
        have := agree _ hs
        subst this
        exact find_now hh hd hk es ms (i + 1) r a (fun x hx => hok x (List.mem_cons_of_mem _ hx)) hm h ha
      · cases ha

theorem find_run (hh : HR J ro B st.hp.get w) {t : TypeId} {d : TypeDesc} (hd : P.underlying t = some d) {k : V} (hk : k.ok J.nx) {es : List (V × V)} {ms : List MapEntry} {r : Option (Nat × V)} (hok : ∀ x ∈ es, x.1.ok J.nx ∧ x.2.ok J.nx) (hm : ms.map (fun e => (e.key, e.val)) = es.map (fun x => (x.1.real J, x.2.real J))) (h : findV P ro st t k es 0 = some r) :
    (Instr.findKey t (k.real J) ms).run P w = .ok (r.map fun x => (x.1, x.2.real J)) w ∧ (∀ x, r = some x → x.2.ok J.nx) := by
  obtain ⟨h1, h2⟩ := find_asking hh hk es ms 0 r hok hm h
  refine ⟨?_, h2⟩
  unfold Instr.findKey
  simp only [Sem.run_bind, run_underlying hd, Result.andThen_ok]
  cases ha : Instr.findNow d (k.real J) ms 0 with
  | none => exact h1
  | some a =>
    rw [find_now hh hd hk es ms 0 r a hok hm h ha]
    simp

/-! ### The operations -/

theorem get_map {r : Nat} {es : Array MapEntry} {clock : Nat} (hb : w.heap[r]? = some (.map es clock)) : (getObj r).run P w = .ok (.map es clock) w := by
  simp [getObj, Sem.run, hb]
theorem set_map {r : Nat} {es : Array MapEntry} {clock : Nat} (o : Obj) (hb : w.heap[r]? = some (.map es clock)) : (setObj r o).run P w = .ok () { w with heap := w.heap.setIfInBounds r o } := by
  simp [setObj, Sem.run, hb]

theorem ckV_under {t : TypeId} {k : V} (h : ckV P t k = true) : ∃ d, P.underlying t = some d := by
  cases hd : P.underlying t with
  | some d => exact ⟨d, rfl⟩
  | none =>
    unfold ckV ckS ck1 at h
    rw [hd] at h
    cases k <;> cases h

theorem map_at (hh : HR J ro B st.hp.get w) {g : Nat} {b : Blk} {es : List (V × V)} (hg : st.hp.get g = some b) (hm : b.mp = some es) : MR J B g b es w := by
  have h := (hh.blk g b hg).2
  rw [hm] at h
  exact h

theorem vlookup_real (hh : HR J ro B st.hp.get w) {t : TypeId} {x k v : V} {ok : Bool} (hx : x.ok J.nx) (hk : k.ok J.nx) (h : vlookup P ro st t x k ok = some v) : (Instr.lookup t (x.real J) (k.real J) ok).run P w = .ok (v.real J) w ∧ v.ok J.nx := by
  unfold vlookup at h
  split at h
  · rename_i kt et g hd
    split at h
    · rename_i b z hg hz
      split at h
      · rename_i es hm
        cases hc : ckV P kt k with
        | false => rw [hc] at h; cases h
        | true =>
          rw [hc, cond_true] at h
          obtain ⟨dk, hdk⟩ := ckV_under hc
          obtain ⟨m1, m2, ⟨ms, ck, m3, m4⟩, m5⟩ := map_at hh hg hm
          obtain ⟨ti, z1, z2, zok⟩ := zeroOf_real J J.nx hz
          have zr := zeroOf_run (P := P) (w := w) J hz
          have hck := ckV_run (P := P) (J := J) (w := w) hc ms.isEmpty
          cases hf : findV P ro st kt k es 0 with
          | none => rw [hf] at h; cases h
          | some r =>
            obtain ⟨f1, f2⟩ := find_run hh hdk hk m5 m4 hf
            rw [hf] at h
            simp only [V.real, Instr.lookup, Sem.run_bind, run_underlying hd, Result.andThen_ok, get_map m3, Sem.run_pure, hck, f1]
            cases r with
            | none =>
              simp only [Option.some.injEq] at h
              subst h
              simp only [Option.map_none, Sem.run_bind, zr, Result.andThen_ok, Sem.run_pure]
              cases ok with
              | true => exact ⟨by simp [V.real, V.reals], by simp only [cond_true, V.ok, V.oks]; exact ⟨zok, trivial, trivial⟩⟩
              | false => exact ⟨by simp, by simpa using zok⟩
            | some x =>
              obtain ⟨i, y⟩ := x
              simp only [Option.some.injEq] at h
              subst h
              have hy := f2 (i, y) rfl
              simp only [Option.map_some, Sem.run_pure, Result.andThen_ok]
              cases ok with
              | true => exact ⟨by simp [V.real, V.reals], by simp only [cond_true, V.ok, V.oks]; exact ⟨hy, trivial, trivial⟩⟩
              | false => exact ⟨by simp, by simpa using hy⟩
      · cases h
    · cases h
  · cases h

theorem sameA_bits {x y : V} (h : sameA x y = true) : x = y ∧ ∀ n, Instr.sameBits n (x.real J) (y.real J) = true := by
  unfold sameA at h
  split at h
  · obtain rfl := eq_of_beq h; exact ⟨rfl, fun n => by cases n <;> simp [V.real, Instr.sameBits]⟩
  · rw [Bool.and_eq_true, decide_eq_true_eq, beq_iff_eq] at h
    obtain ⟨rfl, rfl⟩ := h; exact ⟨rfl, fun n => by cases n <;> simp [V.real, Instr.sameBits]⟩
  · rw [Bool.and_eq_true, Nat.beq_eq, Nat.beq_eq] at h
    obtain ⟨rfl, rfl⟩ := h
    refine ⟨rfl, fun n => ?_⟩
    have : ∀ a : ByteArray, (a == a) = true := fun ⟨x⟩ => by show (x == x) = true; simp
    cases n <;> simp [V.real, Instr.sameBits, this]
  · exact ⟨rfl, fun n => by cases n <;> simp [V.real, Instr.sameBits]⟩
  · rw [Bool.and_eq_true, Nat.beq_eq, Nat.beq_eq] at h
    obtain ⟨rfl, rfl⟩ := h; exact ⟨rfl, fun n => by cases n <;> simp [V.real, Instr.sameBits]⟩
  · cases h
theorem sameAs_bits : ∀ {x y : List V}, sameAs x y = true → x = y ∧ ∀ n, ((V.reals J x).zip (V.reals J y)).all (fun p => Instr.sameBits n p.1 p.2) = true
  | [], [], _ => ⟨rfl, fun n => by simp [V.reals]⟩
  | x :: r, y :: s, h => by
    rw [sameAs, Bool.and_eq_true] at h
    obtain ⟨h1, h2⟩ := sameA_bits (J := J) h.1
    obtain ⟨h3, h4⟩ := sameAs_bits h.2
    subst h1 h3
    exact ⟨rfl, fun n => by simp only [V.reals, List.zip_cons_cons, List.all_cons, h2 n, h4 n, Bool.and_self]⟩
theorem sameKey_bits {x y : V} (h : sameKey x y = true) : x = y ∧ ∀ n, Instr.sameBits (n + 1) (x.real J) (y.real J) = true := by
  unfold sameKey at h
  split at h
  · obtain ⟨h1, h2⟩ := sameAs_bits (J := J) h
    subst h1
    refine ⟨rfl, fun n => ?_⟩
    have := h2 n
    simp only [V.real, Instr.sameBits, List.size_toArray, beq_self_eq_true, Bool.true_and]
    exact this
  · obtain ⟨h1, h2⟩ := sameA_bits (J := J) h
    exact ⟨h1, fun n => h2 _⟩

/-- The entries of a map are others. -/
theorem HR.setMap {h : Nat → Option Blk} (hh : HR J ro B h w) {g : Nat} {b : Blk} {es es' : List (V × V)} {ms' : Array MapEntry} {ck' : Nat} (hg : h g = some b) (hm : b.mp = some es) (hmap : ms'.toList.map (fun e => (e.key, e.val)) = es'.map fun x => (x.1.real J, x.2.real J)) (hok : ∀ x ∈ es', x.1.ok J.nx ∧ x.2.ok J.nx) :
    HR J ro B (fun k => if k = g then some { b with mp := some es' } else h k) { w with heap := w.heap.setIfInBounds (J.m g).1 (.map ms' ck') } ∧ Below B.heap.size w { w with heap := w.heap.setIfInBounds (J.m g).1 (.map ms' ck') } ∧ ∀ k, k ≠ (J.m g).1 → (w.heap.setIfInBounds (J.m g).1 (.map ms' ck'))[k]? = w.heap[k]? := by
  have hb := hh.blk g b hg
  have h1 := hb.2
  rw [hm] at h1
  obtain ⟨m1, m2, ⟨ms, ck, m3, m4⟩, m5⟩ := h1
  have hlt : (J.m g).1 < w.heap.size := (Array.getElem?_eq_some_iff.1 m3).1
  have hother : ∀ k, k ≠ (J.m g).1 → (w.heap.setIfInBounds (J.m g).1 (.map ms' ck'))[k]? = w.heap[k]? := fun k hk => by rw [Array.getElem?_setIfInBounds_ne (fun e => hk e.symm)]
  have hself : (w.heap.setIfInBounds (J.m g).1 (.map ms' ck'))[(J.m g).1]? = some (.map ms' ck') := by rw [Array.getElem?_setIfInBounds_self_of_lt hlt]
  have hbel : Below B.heap.size w { w with heap := w.heap.setIfInBounds (J.m g).1 (.map ms' ck') } := ⟨rfl, rfl, rfl, by show w.heap.size ≤ (w.heap.setIfInBounds _ _).size; simp, fun k hk => hother k (by omega)⟩
  refine ⟨⟨hh.base.below hbel, fun k bk hk => ?_, fun k k' bk bk' hk hk' heq => ?_⟩, hbel, hother⟩
  · by_cases hkg : k = g
    · subst hkg
      simp only [if_true, Option.some.injEq] at hk
      subst hk
      exact ⟨hb.1, m1, m2, ⟨ms', ck', hself, hmap⟩, hok⟩
    · rw [if_neg hkg] at hk
      have hne : (J.m k).1 ≠ (J.m g).1 := fun e => hkg (hh.inj k g bk b hk hg e)
      have := hh.blk k bk hk
      unfold BR CR MR at *
      simp only [hother _ hne]
      exact this
  · have hex : ∀ q bq, (if q = g then some ({ b with mp := some es' } : Blk) else h q) = some bq → ∃ b', h q = some b' := by
      intro q bq hq
      by_cases e : q = g
      · subst e; exact ⟨b, hg⟩
      · rw [if_neg e] at hq; exact ⟨bq, hq⟩
    obtain ⟨b1, hb1⟩ := hex k bk hk
    obtain ⟨b2, hb2⟩ := hex k' bk' hk'
    exact hh.inj k k' b1 b2 hb1 hb2 heq

theorem vmapUpdate_post (hn : J.nx = st.nx) (hh : HR J ro B st.hp.get w) (hro : ro ≤ J.nx) {t : TypeId} {x k v : V} {st' : St} (hk : k.ok J.nx) (hv : v.ok J.nx) (h : vmapUpdate P ro st t x k v = some st') :
    ∃ w', (Instr.mapUpdate t (x.real J) (k.real J) (v.real J)).run P w = .ok () w' ∧ Post J ro B st w J st' w' := by
  unfold vmapUpdate at h
  split at h
  · rename_i kt et g hd
    split at h
    · rename_i b hg
      split at h
      · rename_i es hm
        cases hc : ckV P kt k with
        | false => rw [hc] at h; cases h
        | true =>
          rw [hc, cond_true] at h
          obtain ⟨dk, hdk⟩ := ckV_under hc
          obtain ⟨m1, m2, ⟨ms, ck, m3, m4⟩, m5⟩ := map_at hh hg hm
          have hck := ckV_run (P := P) (J := J) (w := w) hc false
          have hlen : ms.size = es.length := by have := congrArg List.length m4; simpa using this
          have post : ∀ (es' : List (V × V)) (ms' : Array MapEntry) (ck' : Nat), ms'.toList.map (fun e => (e.key, e.val)) = es'.map (fun x => (x.1.real J, x.2.real J)) → (∀ x ∈ es', x.1.ok J.nx ∧ x.2.ok J.nx) → Post J ro B st w J (st.write g { b with mp := some es' }) { w with heap := w.heap.setIfInBounds (J.m g).1 (.map ms' ck') } := by
            intro es' ms' ck' h1 h2
            obtain ⟨s1, s2, s3⟩ := hh.setMap (ck' := ck') hg hm h1 h2
            refine ⟨Inj.le.refl J, by rw [St.write_eq]; exact hn, ?_, s2, Ext.write _ _ _, hro, Fr.write hg s3⟩
            rw [St.write_eq]
            show HR J ro B (st.hp.upd g (some _)).get _
            rw [get_upd_fun]
            exact s1
          cases hf : findV P ro st kt k es 0 with
          | none => rw [hf] at h; cases h
          | some r =>
            obtain ⟨f1, f2⟩ := find_run hh hdk hk m5 m4 hf
            rw [hf] at h
            simp only [V.real, Instr.mapUpdate, Sem.run_bind, run_underlying hd, Result.andThen_ok, get_map m3, Sem.run_pure, hck, f1]
            cases r with
            | none =>
              simp only [Option.some.injEq] at h
              subst h
              simp only [Option.map_none]
              refine ⟨_, set_map _ m3, post _ _ _ ?_ ?_⟩
              · rw [Array.toList_push, List.map_append, List.map_append, m4]
                rfl
              · intro y hy
                rcases List.mem_append.1 hy with q | q
                · exact m5 y q
                · rw [List.mem_singleton] at q; subst q; exact ⟨hk, hv⟩
            | some x =>
              obtain ⟨i, y⟩ := x
              simp only at h
              cases he : es[i]? with
              | none => rw [he] at h; cases h
              | some e =>
                rw [he] at h
                simp only at h
                cases hs : sameKey e.1 k with
                | false => rw [hs] at h; cases h
                | true =>
                  rw [hs, cond_true, Option.some.injEq] at h
                  subst h
                  obtain ⟨q1, q2⟩ := sameKey_bits (J := J) hs
                  have hmi : ∃ m, ms[i]? = some m ∧ m.key = e.1.real J := by
                    have := congrArg (·[i]?) m4
                    simp only [List.getElem?_map, he, Option.map_some] at this
                    cases hx : ms.toList[i]? with
                    | none => rw [hx] at this; cases this
                    | some m =>
                      rw [hx, Option.map_some, Option.some.injEq] at this
                      exact ⟨m, by rw [← Array.getElem?_toList]; exact hx, congrArg Prod.fst this⟩
                  obtain ⟨m, hm1, hm2⟩ := hmi
                  simp only [Option.map_some, hm1, Option.getD_some, hm2, Instr.keyThatStays, q2 9999, if_true, Sem.run_bind, Sem.run_pure, Result.andThen_ok]
                  refine ⟨_, set_map _ m3, post _ _ _ ?_ ?_⟩
                  · apply List.ext_getElem?
                    intro j
                    rw [List.getElem?_map, List.getElem?_map, Array.getElem?_toList, Array.getElem?_modify, List.getElem?_set]
                    have hj := congrArg (·[j]?) m4
                    simp only [List.getElem?_map, Array.getElem?_toList] at hj
                    by_cases hij : i = j
                    · subst hij
                      have hlt : i < es.length := (List.getElem?_eq_some_iff.1 he).1
                      simp [hm1, hlt]
                    · simp only [hij, if_false]
                      exact hj
                  · intro y hy
                    rcases List.mem_or_eq_of_mem_set hy with q | q
                    · exact m5 y q
                    · subst q; exact ⟨hk, hv⟩
      · cases h
    · cases h
  · cases h

theorem vmakeMap_post (hn : J.nx = st.nx) (hh : HR J ro B st.hp.get w) (hro : ro ≤ J.nx) (t : TypeId) : ∃ J' w', (Instr.makeMap t none).run P w = .ok ((vmakeMap st).1.real J') w' ∧ (vmakeMap st).1.ok J'.nx ∧ Post J ro B st w J' (vmakeMap st).2 w' := by
  have hle := J.le_push (w.heap.size, 0, 0)
  have hbel : Below B.heap.size w (w.alloc (.map #[] 0)) := (Below.refl B.heap.size w).alloc hh.base.size _
  refine ⟨J.push (w.heap.size, 0, 0), w.alloc (.map #[] 0), ?_, ?_, hle, by unfold vmakeMap; rw [natF_eq]; show J.nx + 1 = st.nx + 1; omega, ?_, hbel, ?_, Nat.le_succ_of_le hro, ?_⟩
  · unfold vmakeMap
    rw [natF_eq, ← hn]
    simp only [Instr.makeMap, V.real, Inj.push_self, newObj, Sem.run_bind]
    rfl
  · unfold vmakeMap
    rw [natF_eq]
    simp only [V.ok, Inj.push]
    omega
  · unfold vmakeMap
    rw [natF_eq]
    show HR _ ro B (st.hp.upd st.nx (some _)).get _
    rw [get_upd_fun, ← hn]
    refine ⟨hh.base.below hbel, fun g bg hg => ?_, fun g g' bg bg' hg hg' heq => ?_⟩
    · by_cases e1 : g = J.nx
      · subst e1
        simp only [if_true, Option.some.injEq] at hg
        subst hg
        refine ⟨Nat.lt_succ_self _, rfl, ?_, ⟨#[], 0, ?_, rfl⟩, fun x hx => by cases hx⟩
        · rw [Inj.push_self]; exact hh.base.size
        · rw [Inj.push_self]; show (w.heap.push _)[w.heap.size]? = _; simp
      · rw [if_neg e1] at hg
        have hb := hh.blk g bg hg
        exact BR.carry hle (fun _ q => q) (Below.heap_alloc _ _ _ hb.lt) hb
    · by_cases e1 : g = J.nx <;> by_cases e2 : g' = J.nx
      · rw [e1, e2]
      · exfalso
        rw [if_neg e2] at hg'
        have hb := hh.blk g' bg' hg'
        have hm := hle.m g' hb.1
        rw [e1, Inj.push_self, hm] at heq
        have := hb.lt
        simp only at heq
        omega
      · exfalso
        rw [if_neg e1] at hg
        have hb := hh.blk g bg hg
        have hm := hle.m g hb.1
        rw [e2, Inj.push_self, hm] at heq
        have := hb.lt
        simp only at heq
        omega
      · rw [if_neg e1] at hg
        rw [if_neg e2] at hg'
        rw [hle.m g (hh.blk g bg hg).1, hle.m g' (hh.blk g' bg' hg').1] at heq
        exact hh.inj g g' bg bg' hg hg' heq
  · unfold vmakeMap; rw [natF_eq]; exact Ext.alloc hn hh _
  · unfold vmakeMap
    rw [natF_eq]
    refine Fr.push (h0 := st.hp.get) (fun _ _ q => q) (fun g b hg => (hh.blk g b hg).1) (.inl (Nat.le_refl _)) (fun k bk hk => ?_) (fun i hi _ => Below.heap_alloc _ _ _ hi)
    have hk : (st.hp.upd st.nx (some _)).get k = some bk := hk
    rw [T.get_upd] at hk
    by_cases e1 : k = st.nx
    · exact .inl (e1.trans hn.symm)
    · rw [if_neg e1] at hk; exact .inr hk
end
end Go.Vm
namespace Go.Vm
open Go.RowKit

structure FR (J : Inj) (nt : Nat) (fr : T V) (tmps : Array Value) : Prop where
  size : nt ≤ tmps.size
  get : ∀ t v, fr.get t = some v → v.ok J.nx ∧ tmps[t]? = some (v.real J)

/-- What an operation's run comes to. -/
def Done (P : Program) (J : Inj) (ro : Nat) (B : World) (st : St) (w : World) (v : Option V) (st' : St) : Result Next → Prop
  | .ok (.value u) w' => ∃ x J', v = some x ∧ u = x.real J' ∧ x.ok J'.nx ∧ Post J ro B st w J' st' w'
  | .ok .skip w' => v = none ∧ ∃ J', Post J ro B st w J' st' w'
  | .ok (.enter f args) w' => w' = w ∧ Calls P f args w fun e w'' => ∃ x J', v = some x ∧ e = .returned (x.real J') ∧ x.ok J'.nx ∧ Post J ro B st w J' st' w''
  | _ => False

def CallOK (P : Program) (ro : Nat) (B : World) (call : CallF) : Prop :=
  ∀ f args st v st', call f args st = some (v, st') → ∀ J w, J.nx = st.nx → HR J ro B st.hp.get w → ro ≤ J.nx → V.oks J.nx args →
    (∃ fn c, P.funcs[f]? = some fn ∧ fn.body = some c) ∧
    Calls P f (V.reals J args).toArray w fun e w' => ∃ J', e = .returned (v.real J') ∧ v.ok J'.nx ∧ Post J ro B st w J' st' w'

section
variable {P : Program} {J : Inj} {ro : Nat} {B : World} {st st' : St} {w : World} {nt : Nat} {fr : T V} {a : Act}

theorem opnd_spec (hf : FR J nt fr a.tmps) (x : Operand) (v : V) (h : opnd fr x = some v) : a.eval x = v.real J ∧ v.ok J.nx := by
  cases x with
  | tmp t =>
    obtain ⟨q1, q2⟩ := hf.get t v h
    exact ⟨by simp [Act.eval, Array.getD_eq_getD_getElem?, q2], q1⟩
  | const c =>
    simp only [opnd] at h
    have := ofV_real J J.nx 4 c v h
    exact ⟨this.1.symm, this.2⟩
  | global g =>
    simp only [opnd] at h
    cases hb : Nat.blt g GL with
    | false => rw [hb] at h; cases h
    | true =>
      rw [hb] at h
      obtain rfl := Option.some.inj h
      rw [Nat.blt_eq] at hb
      obtain ⟨q1, q2⟩ := J.fix g hb
      exact ⟨by simp [Act.eval, V.real, q2], q1⟩
  | func f => simp only [opnd, Option.some.injEq] at h; subst h; simp [Act.eval, V.real, V.reals, V.ok, V.oks]

theorem done_value {v : V} {u : Value} (hp : Post J ro B st w J st w) (he : u = v.real J) (hv : v.ok J.nx) : Done P J ro B st w (some v) st (.ok (.value u) w) :=
  ⟨v, J, rfl, he, hv, hp⟩

theorem run_val {s : Sem Value} {v : V} {J' : Inj} {w' : World} (hr : s.run P w = .ok (v.real J') w') (hv : v.ok J'.nx) (hp : Post J ro B st w J' st' w') :
    Done P J ro B st w (some v) st' ((do pure (.value (← s)) : Sem Next).run P w) := by
  simp only [Sem.run_bind, hr, Result.andThen_ok, Sem.run_pure]
  exact ⟨v, J', rfl, rfl, hv, hp⟩

theorem optO_spec (hf : FR J nt fr a.tmps) {o : Option Operand} {x : Option V} (h : (match o with | none => some none | some o => (opnd fr o).map some) = some x) : o.map a.eval = x.map (V.real J) := by
  cases o with
  | none => simp only [Option.some.injEq] at h; subst h; rfl
  | some o =>
    simp only [Option.map_eq_some_iff] at h
    obtain ⟨v, h1, rfl⟩ := h
    simp [(opnd_spec hf o v h1).1]

theorem builtin_post (hn : J.nx = st.nx) (hh : HR J ro B st.hp.get w) (hro : ro ≤ J.nx) {b : Builtin} {ts : Array TypeId} {ty : TypeId} {cs : Array Bool} {args : List V} {v : V} (ha : V.oks J.nx args)
    (h : vbuiltin P ro b ts.toList args st = some (v, st')) :
    Done P J ro B st w (some v) st' ((builtin b ts ty cs (args.map (V.real J)).toArray).run P w) := by
  have hp := Post.refl hn hh hro
  unfold vbuiltin at h
  split at h
  · rename_i t x hts
    obtain rfl : ts = #[t] := by apply Array.ext'; simpa using hts
    cases hv : vlenOp P t x with
    | none => simp [hv] at h
    | some u =>
      simp only [hv, Option.some.injEq, Prod.mk.injEq] at h
      obtain ⟨rfl, rfl⟩ := h
      obtain ⟨q1, q2⟩ := vlenOp_real (P := P) (J := J) (w := w) (ty := ty) hv
      exact run_val q1 (q2 _) hp
  · rename_i t u s x hts
    obtain rfl : ts = #[t, u] := by apply Array.ext'; simpa using hts
    simp only [V.oks] at ha
    cases hu : P.underlying u with
    | none => simp [hu] at h
    | some d =>
      simp only [hu] at h
      by_cases hni : ∃ k, d = .int k
      · obtain ⟨k, rfl⟩ := hni
        simp at h
      · have h' : vappend P ro st t s x = some (v, st') := by
          cases d <;> first | exact h | exact absurd ⟨_, rfl⟩ hni
        obtain ⟨J', w', r1, r2, r3⟩ := vappend_post (P := P) (ty := ty) hn hh hro hu (fun k e => hni ⟨k, e⟩) ha.1 ha.2.1 h'
        exact run_val r1 r2 r3
  · rename_i t u d x hts
    obtain rfl : ts = #[t, u] := by apply Array.ext'; simpa using hts
    simp only [V.oks] at ha
    obtain ⟨w', r1, r2, r3⟩ := vcopy_post (P := P) (u := u) (ty := ty) hn hh hro ha.2.1 h
    exact run_val r1 r2 r3
  · rename_i x r
    simp only [V.oks] at ha
    cases hv : vminL true x r with
    | none => simp [hv] at h
    | some u =>
      simp only [hv, Option.some.injEq, Prod.mk.injEq] at h
      obtain ⟨rfl, rfl⟩ := h
      obtain ⟨q1, q2⟩ := vminL_real (P := P) (J := J) (w := w) r hv ha.1 ((V.oks_iff _ _).1 ha.2)
      exact run_val (s := Builtin.min_ ts ty ((x :: r).map (V.real J)).toArray) (by simpa [Builtin.min_] using q1) q2 hp
  · rename_i x r
    simp only [V.oks] at ha
    cases hv : vminL false x r with
    | none => simp [hv] at h
    | some u =>
      simp only [hv, Option.some.injEq, Prod.mk.injEq] at h
      obtain ⟨rfl, rfl⟩ := h
      obtain ⟨q1, q2⟩ := vminL_real (P := P) (J := J) (w := w) r hv ha.1 ((V.oks_iff _ _).1 ha.2)
      exact run_val (s := Builtin.max_ ts ty ((x :: r).map (V.real J)).toArray) (by simpa [Builtin.max_] using q1) q2 hp
  · simp at h

set_option maxHeartbeats 2000000 in
theorem vop_sound {call : CallF} (hcall : CallOK P ro B call) (hname : ∀ (f : Nat) (fn : Func), P.funcs[f]? = some fn → (fn.name == "runtime.NumGoroutine") = false) (hn : J.nx = st.nx) (hh : HR J ro B st.hp.get w) (hro : ro ≤ J.nx)
    (hf : FR J nt fr a.tmps) {o : Oper} {v : Option V} (h : vop P ro call fr st o.op = some (v, st')) : Done P J ro B st w v st' ((execOp a.eval o).run P w) := by
  have hp := Post.refl hn hh hro
  have hop := opnd_spec hf
  obtain ⟨dst, op, ty, pos, after, guard⟩ := o
  cases op <;> simp only [vop, reduceCtorEq] at h
  case move x =>
    cases hx : opnd fr x with
    | none => simp [hx] at h
    | some u =>
      simp only [hx, Option.some.injEq, Prod.mk.injEq] at h
      obtain ⟨rfl, rfl⟩ := h
      exact done_value hp (hop x u hx).1 (hop x u hx).2
  case assign x =>
    cases hx : opnd fr x with
    | none => simp [hx] at h
    | some u =>
      simp only [hx, Option.some.injEq, Prod.mk.injEq] at h
      obtain ⟨rfl, rfl⟩ := h
      exact done_value hp (hop x u hx).1 (hop x u hx).2
  case pick c x y =>
    cases hc : opnd fr c with
    | none => simp [hc] at h
    | some u =>
      cases u <;> simp only [hc, reduceCtorEq] at h
      rename_i t
      cases hx : opnd fr (cond t x y) with
      | none => simp [hx] at h
      | some u =>
        simp only [hx, Option.some.injEq, Prod.mk.injEq] at h
        obtain ⟨rfl, rfl⟩ := h
        have hc' := (hop c _ hc).1
        simp only [V.real] at hc'
        simp only [execOp, hc', asBool, Sem.run_bind, Sem.run_pure, Result.andThen_ok]
        cases t
        · exact done_value hp (hop y u hx).1 (hop y u hx).2
        · exact done_value hp (hop x u hx).1 (hop x u hx).2
  case alloc t =>
    cases hz : zeroOf P t with
    | none => simp [hz] at h
    | some z =>
      cases hs : sizeB P t with
      | none => simp [hz, hs] at h
      | some n =>
        simp only [hz, hs] at h
        cases ha : valloc st z n with
        | none => simp [ha] at h
        | some r =>
          obtain ⟨x, st1⟩ := r
          simp only [ha, Option.some.injEq, Prod.mk.injEq] at h
          obtain ⟨rfl, rfl⟩ := h
          obtain ⟨_, _, _, zok⟩ := zeroOf_real J J.nx hz
          obtain ⟨J', w', r1, r2, r3, r4⟩ := valloc_post (P := P) hn hh hro t zok ha
          simp only [execOp]
          refine run_val (s := Instr.alloc t true (.tuple #[])) ?_ r3 r4
          rw [r2]
          simp [Instr.alloc, zeroOf_run J hz, r1]
  case box t x =>
    cases hx : opnd fr x with
    | none => simp [hx] at h
    | some u =>
      cases hs : sizeB P t with
      | none => simp [hx, hs] at h
      | some n =>
        simp only [hx, hs] at h
        cases ha : valloc st u n with
        | none => simp [ha] at h
        | some r =>
          obtain ⟨y, st1⟩ := r
          simp only [ha, Option.some.injEq, Prod.mk.injEq] at h
          obtain ⟨rfl, rfl⟩ := h
          obtain ⟨e1, e2⟩ := hop x u hx
          obtain ⟨J', w', r1, r2, r3, r4⟩ := valloc_post (P := P) hn hh hro t e2 ha
          simp only [execOp]
          refine run_val (s := Instr.box t (a.eval x)) ?_ r3 r4
          rw [r2, e1]
          simp [Instr.box, r1]
  case build t ps =>
    cases hps : partsOf fr ps.toList with
    | none => simp [hps] at h
    | some r =>
      simp only [hps] at h
      cases hb : vbuild P t r with
      | none => simp [hb] at h
      | some u =>
        simp only [hb, Option.some.injEq, Prod.mk.injEq] at h
        obtain ⟨rfl, rfl⟩ := h
        obtain ⟨p1, p2⟩ := partsOf_spec hop _ _ hps
        obtain ⟨q1, q2⟩ := vbuild_real (P := P) (J := J) (w := w) (n := J.nx) p2 hb
        have hm : (ps.map fun p => (p.1, a.eval p.2)) = (r.map fun x => (x.1, x.2.real J)).toArray := by
          apply Array.ext'; simpa using p1
        have he : execOp a.eval ⟨dst, .build t ps, ty, pos, after, guard⟩ = (do pure (.value (← Instr.build t (ps.map fun p => (p.1, a.eval p.2)))) : Sem Next) := rfl
        rw [he, hm]
        exact run_val q1 q2 hp
  case buildSlice t len ps =>
    cases hps : partsOf fr ps.toList with
    | none => simp [hps] at h
    | some r =>
      simp only [hps] at h
      cases hb : vbuildSlice P st t len r with
      | none => simp [hb] at h
      | some u =>
        obtain ⟨x, st1⟩ := u
        simp only [hb, Option.some.injEq, Prod.mk.injEq] at h
        obtain ⟨rfl, rfl⟩ := h
        obtain ⟨p1, p2⟩ := partsOf_spec hop _ _ hps
        obtain ⟨J', w', r1, r2, r3⟩ := vbuildSlice_post (P := P) hn hh hro p2 hb
        have hm : (ps.map fun p => (p.1, a.eval p.2)) = (r.map fun x => (x.1, x.2.real J)).toArray := by
          apply Array.ext'; simpa using p1
        have he : execOp a.eval ⟨dst, .buildSlice t len ps, ty, pos, after, guard⟩ = (do pure (.value (← Instr.buildSlice t len (ps.map fun p => (p.1, a.eval p.2)))) : Sem Next) := rfl
        rw [he, hm]
        exact run_val r1 r2 r3
  case load t x =>
    cases hx : opnd fr x with
    | none => simp [hx] at h
    | some u =>
      cases u <;> simp only [hx, reduceCtorEq] at h
      rename_i g off
      cases hv : vload P st t g off with
      | none => simp [hv] at h
      | some y =>
        simp only [hv, Option.some.injEq, Prod.mk.injEq] at h
        obtain ⟨rfl, rfl⟩ := h
        obtain ⟨q1, q2⟩ := vload_real (P := P) hn hh hv
        simp only [execOp]
        refine run_val (s := Instr.loadAt t (a.eval x)) ?_ (by rw [hn]; exact q2) hp
        rw [(hop x _ hx).1]; exact q1
  case store t x y =>
    cases hx : opnd fr x with
    | none => simp [hx] at h
    | some u =>
      cases u <;> simp only [hx, reduceCtorEq] at h
      rename_i g off
      cases hy : opnd fr y with
      | none => simp [hy] at h
      | some z =>
        simp only [hy] at h
        cases hs : vstore P ro st t g off z with
        | none => simp [hs] at h
        | some st1 =>
          simp only [hs, Option.some.injEq, Prod.mk.injEq] at h
          obtain ⟨rfl, rfl⟩ := h
          obtain ⟨w', q1, q2⟩ := vstore_post (P := P) hn hh hro (hop y z hy).2 hs
          show Done P J ro B st w none st1 ((do Instr.storeAt t (a.eval x) (a.eval y); pure .skip : Sem Next).run P w)
          rw [(hop x _ hx).1, (hop y z hy).1]
          simp only [Sem.run_bind, q1, Result.andThen_ok, Sem.run_pure]
          exact ⟨rfl, J, q2⟩
  case nilCheck x =>
    cases hx : opnd fr x with
    | none => simp [hx] at h
    | some u =>
      cases u <;> simp only [hx, reduceCtorEq] at h
      rename_i g off
      simp only [Option.some.injEq, Prod.mk.injEq] at h
      obtain ⟨rfl, rfl⟩ := h
      have e := hop x _ hx
      simp only [execOp, e.1, V.real]
      exact done_value hp (by simp [V.real]) e.2
  case binOp op xt x y yt =>
    cases hx : opnd fr x with
    | none => simp [hx] at h
    | some u =>
      cases hy : opnd fr y with
      | none => simp [hx, hy] at h
      | some z =>
        simp only [hx, hy] at h
        cases hb : vbin P op xt u z with
        | none => simp [hb] at h
        | some r =>
          simp only [hb, Option.some.injEq, Prod.mk.injEq] at h
          obtain ⟨rfl, rfl⟩ := h
          have q := vbin_real (P := P) (J := J) (n := J.nx) w x y (hop x u hx).2 (hop y z hy).2 hb
          have e1 := (hop x u hx).1
          have e2 := (hop y z hy).1
          rw [← e1, ← e2] at q
          have hrun : (execOp a.eval ⟨dst, .binOp op xt x y yt, ty, pos, after, guard⟩).run P w = .ok (.value (r.real J)) w := by
            have : execOp a.eval ⟨dst, .binOp op xt x y yt, ty, pos, after, guard⟩ = (do pure (.value (← (do eqGuard op xt x y (a.eval x) (a.eval y); binOp op xt (a.eval x) (a.eval y) : Sem Value))) : Sem Next) := rfl
            rw [this, Sem.run_bind, q.1]
            rfl
          rw [hrun]
          exact done_value hp rfl q.2
  case unOp op xt x =>
    cases hx : opnd fr x with
    | none => simp [hx] at h
    | some u =>
      simp only [hx] at h
      cases hb : vun op u with
      | none => simp [hb] at h
      | some r =>
        simp only [hb, Option.some.injEq, Prod.mk.injEq] at h
        obtain ⟨rfl, rfl⟩ := h
        obtain ⟨q1, q2⟩ := vun_real (P := P) (J := J) w hb
        simp only [execOp]
        refine run_val (s := Op.unary op (a.eval x)) ?_ (q2 _) hp
        rw [(hop x u hx).1]; exact q1
  case convert s d x =>
    cases hx : opnd fr x with
    | none => simp [hx] at h
    | some u =>
      simp only [hx] at h
      cases hb : vconv2 P ro st s d u with
      | none => simp [hb] at h
      | some r =>
        obtain ⟨y, st1⟩ := r
        simp only [hb, Option.some.injEq, Prod.mk.injEq] at h
        obtain ⟨rfl, rfl⟩ := h
        obtain ⟨J', w', r1, r2, r3⟩ := vconv2_post (P := P) hn hh hro (hop x u hx).2 hb
        simp only [execOp]
        refine run_val (s := convert s d (a.eval x)) ?_ r2 r3
        rw [(hop x u hx).1]; exact r1
  case makeFunc fn first caps =>
    cases hx : opnds fr first.toList with
    | none => simp [hx] at h
    | some xs =>
      cases hy : opnds fr caps.toList with
      | none => simp [hx, hy] at h
      | some ys =>
        simp only [hx, hy, Option.some.injEq, Prod.mk.injEq] at h
        obtain ⟨rfl, rfl⟩ := h
        obtain ⟨p1, p2⟩ := opnds_spec hop _ _ hx
        obtain ⟨q1, q2⟩ := opnds_spec hop _ _ hy
        simp only [execOp]
        refine run_val (s := Instr.makeFunc fn (first.map a.eval) (caps.map a.eval)) (J' := J) (w' := w) ?_ (by simp only [V.ok]; exact ⟨p2, q2⟩) hp
        have e1 : first.map a.eval = (V.reals J xs).toArray := by apply Array.ext'; rw [V.reals_eq]; simpa using p1
        have e2 : caps.map a.eval = (V.reals J ys).toArray := by apply Array.ext'; rw [V.reals_eq]; simpa using q1
        rw [e1, e2]
        simp [Instr.makeFunc, V.real]
  case makeMap t r =>
    cases r with
    | some _ => cases h
    | none =>
      simp only [Option.some.injEq, Prod.mk.injEq] at h
      obtain ⟨rfl, rfl⟩ := h
      obtain ⟨J', w', r1, r2, r3⟩ := vmakeMap_post (P := P) hn hh hro t
      simp only [execOp]
      exact run_val (s := Instr.makeMap t none) r1 r2 r3
  case lookup t x k ok =>
    cases hx : opnd fr x with
    | none => simp [hx] at h
    | some u =>
      cases hk : opnd fr k with
      | none => simp [hx, hk] at h
      | some z =>
        simp only [hx, hk] at h
        cases hv : vlookup P ro st t u z ok with
        | none => simp [hv] at h
        | some y =>
          simp only [hv, Option.some.injEq, Prod.mk.injEq] at h
          obtain ⟨rfl, rfl⟩ := h
          obtain ⟨q1, q2⟩ := vlookup_real (P := P) hh (hop x u hx).2 (hop k z hk).2 hv
          simp only [execOp]
          refine run_val (s := Instr.lookup t (a.eval x) (a.eval k) ok) ?_ q2 hp
          rw [(hop x u hx).1, (hop k z hk).1]
          exact q1
  case mapUpdate t m k x =>
    cases hm : opnd fr m with
    | none => simp [hm] at h
    | some u =>
      cases hk : opnd fr k with
      | none => simp [hm, hk] at h
      | some z =>
        cases hx : opnd fr x with
        | none => simp [hm, hk, hx] at h
        | some y =>
          simp only [hm, hk, hx] at h
          cases hv : vmapUpdate P ro st t u z y with
          | none => simp [hv] at h
          | some st1 =>
            simp only [hv, Option.some.injEq, Prod.mk.injEq] at h
            obtain ⟨rfl, rfl⟩ := h
            obtain ⟨w', q1, q2⟩ := vmapUpdate_post (P := P) hn hh hro (hop k z hk).2 (hop x y hx).2 hv
            simp only [execOp]
            rw [(hop m u hm).1, (hop k z hk).1, (hop x y hx).1]
            simp only [Sem.run_bind, q1, Result.andThen_ok, Sem.run_pure]
            exact ⟨rfl, J, q2⟩
  case makeSlice t l c =>
    cases hx : opnd fr l with
    | none => simp [hx] at h
    | some u =>
      cases u <;> simp only [hx, reduceCtorEq] at h
      cases hy : opnd fr c with
      | none => simp [hy] at h
      | some z =>
        cases z <;> simp only [hy, reduceCtorEq] at h
        rename_i k1 n1 k2 n2
        cases hb : vmakeSlice P st t n1 n2 with
        | none => simp [hb] at h
        | some r =>
          obtain ⟨y, st1⟩ := r
          simp only [hb, Option.some.injEq, Prod.mk.injEq] at h
          obtain ⟨rfl, rfl⟩ := h
          obtain ⟨J', w', r1, r2, r3⟩ := vmakeSlice_post (P := P) (kl := k1) (kc := k2) hn hh hro hb
          simp only [execOp]
          refine run_val (s := Instr.makeSlice t (a.eval l) (a.eval c)) ?_ r2 r3
          rw [(hop l _ hx).1, (hop c _ hy).1]
          simp only [V.real] at r1 ⊢
          exact r1
  case slice t x lo hi mx =>
    cases hx : opnd fr x with
    | none => simp [hx] at h
    | some u =>
      simp only [hx] at h
      split at h
      · rename_i lo' hi' mx' h1 h2 h3
        cases hb : vslice P t u lo' hi' mx' with
        | none => simp [hb] at h
        | some r =>
          simp only [hb, Option.some.injEq, Prod.mk.injEq] at h
          obtain ⟨rfl, rfl⟩ := h
          obtain ⟨q1, q2⟩ := vslice_real (P := P) (J := J) (w := w) (n := J.nx) (hop x u hx).2 hb
          simp only [execOp]
          refine run_val (s := Instr.sliceAt t (a.eval x) (lo.map a.eval) (hi.map a.eval) (mx.map a.eval)) ?_ q2 hp
          rw [(hop x u hx).1, optO_spec hf h1, optO_spec hf h2, optO_spec hf h3]
          exact q1
      · simp at h
  case fieldAddr t x f =>
    cases hx : opnd fr x with
    | none => simp [hx] at h
    | some u =>
      cases u <;> simp only [hx, reduceCtorEq] at h
      rename_i g off
      cases hv : vfieldAddr P t g off f with
      | none => simp [hv] at h
      | some y =>
        simp only [hv, Option.some.injEq, Prod.mk.injEq] at h
        obtain ⟨rfl, rfl⟩ := h
        have e := hop x _ hx
        simp only [V.ok] at e
        obtain ⟨q1, q2⟩ := vfieldAddr_real (P := P) (J := J) w e.2 hv
        simp only [execOp]
        refine run_val (s := Instr.fieldAt t (a.eval x) f) ?_ q2 hp
        rw [e.1]; exact q1
  case field t x f =>
    cases hx : opnd fr x with
    | none => simp [hx] at h
    | some u =>
      simp only [hx] at h
      cases hv : vfield P t u f with
      | none => simp [hv] at h
      | some y =>
        simp only [hv, Option.some.injEq, Prod.mk.injEq] at h
        obtain ⟨rfl, rfl⟩ := h
        obtain ⟨q1, q2⟩ := vfield_real (P := P) (J := J) w (hop x u hx).2 hv
        simp only [execOp]
        refine run_val (s := Instr.field t (a.eval x) f) ?_ q2 hp
        rw [(hop x u hx).1]; exact q1
  case indexAddr t x i =>
    cases hx : opnd fr x with
    | none => simp [hx] at h
    | some u =>
      cases hi : opnd fr i with
      | none => simp [hx, hi] at h
      | some z =>
        cases z <;> simp only [hx, hi, reduceCtorEq] at h
        rename_i k n
        cases hv : vindexAddr P t u n with
        | none => simp [hv] at h
        | some y =>
          simp only [hv, Option.some.injEq, Prod.mk.injEq] at h
          obtain ⟨rfl, rfl⟩ := h
          obtain ⟨q1, q2⟩ := vindexAddr_real (P := P) (J := J) (k := k) w (hop x u hx).2 hv
          simp only [execOp]
          refine run_val (s := Instr.indexAt t (a.eval x) (a.eval i)) ?_ q2 hp
          rw [(hop x u hx).1, (hop i _ hi).1]
          simp only [V.real] at q1 ⊢
          exact q1
  case index t x i =>
    cases hx : opnd fr x with
    | none => simp [hx] at h
    | some u =>
      cases hi : opnd fr i with
      | none => simp [hx, hi] at h
      | some z =>
        cases z <;> simp only [hx, hi, reduceCtorEq] at h
        rename_i k n
        cases hv : vindex P t u n with
        | none => simp [hv] at h
        | some y =>
          simp only [hv, Option.some.injEq, Prod.mk.injEq] at h
          obtain ⟨rfl, rfl⟩ := h
          obtain ⟨q1, q2⟩ := vindex_real (P := P) (J := J) (k := k) w (hop x u hx).2 hv
          simp only [execOp]
          refine run_val (s := Instr.index t (a.eval x) (a.eval i)) ?_ q2 hp
          rw [(hop x u hx).1, (hop i _ hi).1]
          simp only [V.real] at q1 ⊢
          exact q1
  case extract x i =>
    cases hx : opnd fr x with
    | none => simp [hx] at h
    | some u =>
      cases u <;> simp only [hx, reduceCtorEq] at h
      rename_i vs
      cases hv : vs[i]? with
      | none => simp [hv] at h
      | some y =>
        simp only [hv, Option.some.injEq, Prod.mk.injEq] at h
        obtain ⟨rfl, rfl⟩ := h
        have e := hop x _ hx
        simp only [V.ok, V.oks_iff] at e
        simp only [execOp]
        refine run_val (s := Instr.extract (a.eval x) i) (J' := J) (w' := w) ?_ (e.2 y (List.mem_of_getElem? hv)) hp
        rw [e.1]
        simp [Instr.extract, V.real, V.reals_eq, hv]
  case call c =>
    cases hx : opnds fr c.args.toList with
    | none => simp [hx] at h
    | some args =>
      simp only [hx] at h
      obtain ⟨p1, p2⟩ := opnds_spec hop _ _ hx
      have e1 : c.args.map a.eval = (args.map (V.real J)).toArray := by apply Array.ext'; simpa using p1
      cases hc : c.callee with
      | invoke r m => simp [hc] at h
      | builtin b =>
        simp only [hc] at h
        cases hb : vbuiltin P ro b c.argTypes.toList args st with
        | none => simp [hb] at h
        | some r =>
          obtain ⟨y, st1⟩ := r
          simp only [hb, Option.some.injEq, Prod.mk.injEq] at h
          obtain ⟨rfl, rfl⟩ := h
          have := builtin_post (P := P) (ty := ty) (cs := c.args.map fun | .const _ => true | _ => false) hn hh hro p2 hb
          simp only [execOp, resolve, hc, Sem.run_bind, Sem.run_pure, Result.andThen_ok, invoke, e1]
          exact this
      | value f =>
        simp only [hc] at h
        cases hfo : opnd fr f with
        | none => simp [hfo] at h
        | some u =>
          simp only [hfo] at h
          split at h
          · rename_i fid first caps heq
            simp only [Option.some.injEq] at heq
            subst heq
            cases hcl : call fid (first ++ args ++ caps) st with
            | none => simp only [hcl, reduceCtorEq] at h
            | some r =>
              obtain ⟨y, st1⟩ := r
              simp only [hcl, Option.some.injEq, Prod.mk.injEq] at h
              obtain ⟨rfl, rfl⟩ := h
              have e2 := hop f _ hfo
              simp only [V.ok] at e2
              have hok : V.oks J.nx (first ++ args ++ caps) := by
                rw [V.oks_iff]
                intro z hz
                simp only [List.mem_append] at hz
                rcases hz with (hz | hz) | hz
                · exact (V.oks_iff _ _).1 e2.2.1 z hz
                · exact (V.oks_iff _ _).1 p2 z hz
                · exact (V.oks_iff _ _).1 e2.2.2 z hz
              obtain ⟨⟨fn, cd, hfn, hbody⟩, hC⟩ := hcall fid _ st y st1 hcl J w hn hh hro hok
              have hargs : (V.reals J first).toArray ++ (args.map (V.real J)).toArray ++ (V.reals J caps).toArray = (V.reals J (first ++ args ++ caps)).toArray := by
                simp [V.reals_eq]
              have hnm := hname fid fn hfn
              simp only [execOp, resolve, hc, e2.1, V.real, Deferred.ofValue, Sem.run_bind, Sem.run_pure, Result.andThen_ok, invoke, e1, hargs, callFunc, run_program, hfn, hnm, hbody, Bool.false_eq_true, if_false, Option.isNone_some]
              refine ⟨rfl, hC.mono ?_⟩
              rintro e w' ⟨J', h1, h2, h3⟩
              exact ⟨y, J', rfl, h1, h2, h3⟩
          · simp at h
end
end Go.Vm
namespace Go.Vm
open Go.RowKit

section
variable {P : Program} {J : Inj} {ro : Nat} {B : World} {st st' : St} {w : World} {nt : Nat} {fr : T V} {a : Act}

/-- What a quiet operation's run comes to. -/
def Quiet1 (J : Inj) (st : St) (w : World) (v : Option V) (st' : St) (r : Result Next) : Prop :=
  st' = st ∧ ∃ x, v = some x ∧ r = .ok (.value (x.real J)) w ∧ x.ok J.nx
theorem quiet_value {v : V} {u : Value} (he : u = v.real J) (hv : v.ok J.nx) : Quiet1 J st w (some v) st (.ok (.value u) w) := ⟨rfl, v, rfl, by rw [he], hv⟩
theorem quiet_val {s : Sem Value} {v : V} (hr : s.run P w = .ok (v.real J) w) (hv : v.ok J.nx) : Quiet1 J st w (some v) st ((do pure (.value (← s)) : Sem Next).run P w) := by
  simp only [Sem.run_bind, hr, Result.andThen_ok, Sem.run_pure]
  exact ⟨rfl, v, rfl, rfl, hv⟩

set_option maxHeartbeats 2000000 in
theorem vop_quiet {call : CallF} (hn : J.nx = st.nx) (hh : HR J ro B st.hp.get w) (hf : FR J nt fr a.tmps) {o : Oper} {v : Option V} (hq : quietOp o.op = true) (hnc : notCall o.op = true) (h : vop P ro call fr st o.op = some (v, st')) :
    Quiet1 J st w v st' ((execOp a.eval o).run P w) := by
  have hop := opnd_spec hf
  obtain ⟨dst, op, ty, pos, after, guard⟩ := o
  cases op <;> simp only [quietOp, Bool.false_eq_true] at hq <;> simp only [vop] at h
  case move x =>
    cases hx : opnd fr x with
    | none => simp [hx] at h
    | some u =>
      simp only [hx, Option.some.injEq, Prod.mk.injEq] at h
      obtain ⟨rfl, rfl⟩ := h
      exact quiet_value (hop x u hx).1 (hop x u hx).2
  case assign x =>
    cases hx : opnd fr x with
    | none => simp [hx] at h
    | some u =>
      simp only [hx, Option.some.injEq, Prod.mk.injEq] at h
      obtain ⟨rfl, rfl⟩ := h
      exact quiet_value (hop x u hx).1 (hop x u hx).2
  case pick c x y =>
    cases hc : opnd fr c with
    | none => simp [hc] at h
    | some u =>
      cases u <;> simp only [hc, reduceCtorEq] at h
      rename_i t
      cases hx : opnd fr (cond t x y) with
      | none => simp [hx] at h
      | some u =>
        simp only [hx, Option.some.injEq, Prod.mk.injEq] at h
        obtain ⟨rfl, rfl⟩ := h
        have hc' := (hop c _ hc).1
        simp only [V.real] at hc'
        simp only [execOp, hc', asBool, Sem.run_bind, Sem.run_pure, Result.andThen_ok]
        cases t
        · exact quiet_value (hop y u hx).1 (hop y u hx).2
        · exact quiet_value (hop x u hx).1 (hop x u hx).2
  case load t x =>
    cases hx : opnd fr x with
    | none => simp [hx] at h
    | some u =>
      cases u <;> simp only [hx, reduceCtorEq] at h
      rename_i g off
      cases hv : vload P st t g off with
      | none => simp [hv] at h
      | some y =>
        simp only [hv, Option.some.injEq, Prod.mk.injEq] at h
        obtain ⟨rfl, rfl⟩ := h
        obtain ⟨q1, q2⟩ := vload_real (P := P) hn hh hv
        simp only [execOp]
        refine quiet_val (s := Instr.loadAt t (a.eval x)) ?_ (by rw [hn]; exact q2)
        rw [(hop x _ hx).1]; exact q1
  case build t ps =>
    cases hps : partsOf fr ps.toList with
    | none => simp [hps] at h
    | some r =>
      simp only [hps] at h
      cases hb : vbuild P t r with
      | none => simp [hb] at h
      | some u =>
        simp only [hb, Option.some.injEq, Prod.mk.injEq] at h
        obtain ⟨rfl, rfl⟩ := h
        obtain ⟨p1, p2⟩ := partsOf_spec hop _ _ hps
        obtain ⟨q1, q2⟩ := vbuild_real (P := P) (J := J) (w := w) (n := J.nx) p2 hb
        have hm : (ps.map fun p => (p.1, a.eval p.2)) = (r.map fun x => (x.1, x.2.real J)).toArray := by
          apply Array.ext'; simpa using p1
        have he : execOp a.eval ⟨dst, .build t ps, ty, pos, after, guard⟩ = (do pure (.value (← Instr.build t (ps.map fun p => (p.1, a.eval p.2)))) : Sem Next) := rfl
        rw [he, hm]
        exact quiet_val q1 q2
  case nilCheck x =>
    cases hx : opnd fr x with
    | none => simp [hx] at h
    | some u =>
      cases u <;> simp only [hx, reduceCtorEq] at h
      rename_i g off
      simp only [Option.some.injEq, Prod.mk.injEq] at h
      obtain ⟨rfl, rfl⟩ := h
      have e := hop x _ hx
      simp only [execOp, e.1, V.real]
      exact quiet_value (by simp [V.real]) e.2
  case binOp op xt x y yt =>
    cases hx : opnd fr x with
    | none => simp [hx] at h
    | some u =>
      cases hy : opnd fr y with
      | none => simp [hx, hy] at h
      | some z =>
        simp only [hx, hy] at h
        cases hb : vbin P op xt u z with
        | none => simp [hb] at h
        | some r =>
          simp only [hb, Option.some.injEq, Prod.mk.injEq] at h
          obtain ⟨rfl, rfl⟩ := h
          have q := vbin_real (P := P) (J := J) (n := J.nx) w x y (hop x u hx).2 (hop y z hy).2 hb
          have e1 := (hop x u hx).1
          have e2 := (hop y z hy).1
          rw [← e1, ← e2] at q
          have hrun : (execOp a.eval ⟨dst, .binOp op xt x y yt, ty, pos, after, guard⟩).run P w = .ok (.value (r.real J)) w := by
            have : execOp a.eval ⟨dst, .binOp op xt x y yt, ty, pos, after, guard⟩ = (do pure (.value (← (do eqGuard op xt x y (a.eval x) (a.eval y); binOp op xt (a.eval x) (a.eval y) : Sem Value))) : Sem Next) := rfl
            rw [this, Sem.run_bind, q.1]
            rfl
          rw [hrun]
          exact quiet_value rfl q.2
  case unOp op xt x =>
    cases hx : opnd fr x with
    | none => simp [hx] at h
    | some u =>
      simp only [hx] at h
      cases hb : vun op u with
      | none => simp [hb] at h
      | some r =>
        simp only [hb, Option.some.injEq, Prod.mk.injEq] at h
        obtain ⟨rfl, rfl⟩ := h
        obtain ⟨q1, q2⟩ := vun_real (P := P) (J := J) w hb
        simp only [execOp]
        refine quiet_val (s := Op.unary op (a.eval x)) ?_ (q2 _)
        rw [(hop x u hx).1]; exact q1
  case makeFunc fn first caps =>
    cases hx : opnds fr first.toList with
    | none => simp [hx] at h
    | some xs =>
      cases hy : opnds fr caps.toList with
      | none => simp [hx, hy] at h
      | some ys =>
        simp only [hx, hy, Option.some.injEq, Prod.mk.injEq] at h
        obtain ⟨rfl, rfl⟩ := h
        obtain ⟨p1, p2⟩ := opnds_spec hop _ _ hx
        obtain ⟨q1, q2⟩ := opnds_spec hop _ _ hy
        simp only [execOp]
        refine quiet_val (s := Instr.makeFunc fn (first.map a.eval) (caps.map a.eval)) ?_ (by simp only [V.ok]; exact ⟨p2, q2⟩)
        have e1 : first.map a.eval = (V.reals J xs).toArray := by apply Array.ext'; rw [V.reals_eq]; simpa using p1
        have e2 : caps.map a.eval = (V.reals J ys).toArray := by apply Array.ext'; rw [V.reals_eq]; simpa using q1
        rw [e1, e2]
        simp [Instr.makeFunc, V.real]
  case slice t x lo hi mx =>
    cases hx : opnd fr x with
    | none => simp [hx] at h
    | some u =>
      simp only [hx] at h
      split at h
      · rename_i lo' hi' mx' h1 h2 h3
        cases hb : vslice P t u lo' hi' mx' with
        | none => simp [hb] at h
        | some r =>
          simp only [hb, Option.some.injEq, Prod.mk.injEq] at h
          obtain ⟨rfl, rfl⟩ := h
          obtain ⟨q1, q2⟩ := vslice_real (P := P) (J := J) (w := w) (n := J.nx) (hop x u hx).2 hb
          simp only [execOp]
          refine quiet_val (s := Instr.sliceAt t (a.eval x) (lo.map a.eval) (hi.map a.eval) (mx.map a.eval)) ?_ q2
          rw [(hop x u hx).1, optO_spec hf h1, optO_spec hf h2, optO_spec hf h3]
          exact q1
      · simp at h
  case fieldAddr t x f =>
    cases hx : opnd fr x with
    | none => simp [hx] at h
    | some u =>
      cases u <;> simp only [hx, reduceCtorEq] at h
      rename_i g off
      cases hv : vfieldAddr P t g off f with
      | none => simp [hv] at h
      | some y =>
        simp only [hv, Option.some.injEq, Prod.mk.injEq] at h
        obtain ⟨rfl, rfl⟩ := h
        have e := hop x _ hx
        simp only [V.ok] at e
        obtain ⟨q1, q2⟩ := vfieldAddr_real (P := P) (J := J) w e.2 hv
        simp only [execOp]
        refine quiet_val (s := Instr.fieldAt t (a.eval x) f) ?_ q2
        rw [e.1]; exact q1
  case field t x f =>
    cases hx : opnd fr x with
    | none => simp [hx] at h
    | some u =>
      simp only [hx] at h
      cases hv : vfield P t u f with
      | none => simp [hv] at h
      | some y =>
        simp only [hv, Option.some.injEq, Prod.mk.injEq] at h
        obtain ⟨rfl, rfl⟩ := h
        obtain ⟨q1, q2⟩ := vfield_real (P := P) (J := J) w (hop x u hx).2 hv
        simp only [execOp]
        refine quiet_val (s := Instr.field t (a.eval x) f) ?_ q2
        rw [(hop x u hx).1]; exact q1
  case indexAddr t x i =>
    cases hx : opnd fr x with
    | none => simp [hx] at h
    | some u =>
      cases hi : opnd fr i with
      | none => simp [hx, hi] at h
      | some z =>
        cases z <;> simp only [hx, hi, reduceCtorEq] at h
        rename_i k n
        cases hv : vindexAddr P t u n with
        | none => simp [hv] at h
        | some y =>
          simp only [hv, Option.some.injEq, Prod.mk.injEq] at h
          obtain ⟨rfl, rfl⟩ := h
          obtain ⟨q1, q2⟩ := vindexAddr_real (P := P) (J := J) (k := k) w (hop x u hx).2 hv
          simp only [execOp]
          refine quiet_val (s := Instr.indexAt t (a.eval x) (a.eval i)) ?_ q2
          rw [(hop x u hx).1, (hop i _ hi).1]
          simp only [V.real] at q1 ⊢
          exact q1
  case index t x i =>
    cases hx : opnd fr x with
    | none => simp [hx] at h
    | some u =>
      cases hi : opnd fr i with
      | none => simp [hx, hi] at h
      | some z =>
        cases z <;> simp only [hx, hi, reduceCtorEq] at h
        rename_i k n
        cases hv : vindex P t u n with
        | none => simp [hv] at h
        | some y =>
          simp only [hv, Option.some.injEq, Prod.mk.injEq] at h
          obtain ⟨rfl, rfl⟩ := h
          obtain ⟨q1, q2⟩ := vindex_real (P := P) (J := J) (k := k) w (hop x u hx).2 hv
          simp only [execOp]
          refine quiet_val (s := Instr.index t (a.eval x) (a.eval i)) ?_ q2
          rw [(hop x u hx).1, (hop i _ hi).1]
          simp only [V.real] at q1 ⊢
          exact q1
  case extract x i =>
    cases hx : opnd fr x with
    | none => simp [hx] at h
    | some u =>
      cases u <;> simp only [hx, reduceCtorEq] at h
      rename_i vs
      cases hv : vs[i]? with
      | none => simp [hv] at h
      | some y =>
        simp only [hv, Option.some.injEq, Prod.mk.injEq] at h
        obtain ⟨rfl, rfl⟩ := h
        have e := hop x _ hx
        simp only [V.ok, V.oks_iff] at e
        simp only [execOp]
        refine quiet_val (s := Instr.extract (a.eval x) i) ?_ (e.2 y (List.mem_of_getElem? hv))
        rw [e.1]
        simp [Instr.extract, V.real, V.reals_eq, hv]
  case call c =>
    simp only [notCall] at hnc
    cases hx : opnds fr c.args.toList with
    | none => simp [hx] at h
    | some args =>
      simp only [hx] at h
      obtain ⟨p1, p2⟩ := opnds_spec hop _ _ hx
      have e1 : c.args.map a.eval = (args.map (V.real J)).toArray := by apply Array.ext'; simpa using p1
      cases hc : c.callee with
      | invoke r m => simp [hc] at h
      | value f => simp [hc] at hnc
      | builtin b =>
        simp only [hc] at h hq
        cases hb : vbuiltin P ro b c.argTypes.toList args st with
        | none => simp [hb] at h
        | some r =>
          obtain ⟨y, st1⟩ := r
          simp only [hb, Option.some.injEq, Prod.mk.injEq] at h
          obtain ⟨rfl, rfl⟩ := h
          simp only [execOp, resolve, hc, Sem.run_bind, Sem.run_pure, Result.andThen_ok, invoke, e1]
          unfold vbuiltin at hb
          split at hb
          · rename_i t x hts
            obtain hts' : c.argTypes = #[t] := by apply Array.ext'; simpa using hts
            rw [hts']
            cases hv : vlenOp P t x with
            | none => simp [hv] at hb
            | some u =>
              simp only [hv, Option.some.injEq, Prod.mk.injEq] at hb
              obtain ⟨rfl, rfl⟩ := hb
              obtain ⟨q1, q2⟩ := vlenOp_real (P := P) (J := J) (w := w) (ty := ty) hv
              exact quiet_val q1 (q2 _)
          · simp at hq
          · simp at hq
          · rename_i x r
            simp only [V.oks] at p2
            cases hv : vminL true x r with
            | none => simp [hv] at hb
            | some u =>
              simp only [hv, Option.some.injEq, Prod.mk.injEq] at hb
              obtain ⟨rfl, rfl⟩ := hb
              obtain ⟨q1, q2⟩ := vminL_real (P := P) (J := J) (w := w) r hv p2.1 ((V.oks_iff _ _).1 p2.2)
              exact quiet_val (s := Builtin.min_ c.argTypes ty ((x :: r).map (V.real J)).toArray) (by simpa [Builtin.min_] using q1) q2
          · rename_i x r
            simp only [V.oks] at p2
            cases hv : vminL false x r with
            | none => simp [hv] at hb
            | some u =>
              simp only [hv, Option.some.injEq, Prod.mk.injEq] at hb
              obtain ⟨rfl, rfl⟩ := hb
              obtain ⟨q1, q2⟩ := vminL_real (P := P) (J := J) (w := w) r hv p2.1 ((V.oks_iff _ _).1 p2.2)
              exact quiet_val (s := Builtin.max_ c.argTypes ty ((x :: r).map (V.real J)).toArray) (by simpa [Builtin.max_] using q1) q2
          · simp at hb
theorem vop_call {call : CallF} (hcall : CallOK P ro B call) (hname : ∀ (f : Nat) (fn : Func), P.funcs[f]? = some fn → (fn.name == "runtime.NumGoroutine") = false) (hn : J.nx = st.nx) (hh : HR J ro B st.hp.get w) (hro : ro ≤ J.nx)
    (hf : FR J nt fr a.tmps) {o : Oper} {v : Option V} (hnc : notCall o.op = false) (h : vop P ro call fr st o.op = some (v, st')) :
    ∃ y fid args, v = some y ∧ (execOp a.eval o).run P w = .ok (.enter fid args) w ∧ Calls P fid args w fun e w' => ∃ J', e = .returned (y.real J') ∧ y.ok J'.nx ∧ Post J ro B st w J' st' w' := by
  have hop := opnd_spec hf
  obtain ⟨dst, op, ty, pos, after, guard⟩ := o
  cases op with
  | call c =>
    simp only [vop] at h
    simp only [notCall] at hnc
    cases hx : opnds fr c.args.toList with
    | none => simp [hx] at h
    | some args =>
      simp only [hx] at h
      obtain ⟨p1, p2⟩ := opnds_spec hop _ _ hx
      have e1 : c.args.map a.eval = (args.map (V.real J)).toArray := by apply Array.ext'; simpa using p1
      cases hc : c.callee with
      | invoke r m => simp [hc] at h
      | builtin b => simp [hc] at hnc
      | value f =>
        simp only [hc] at h
        cases hfo : opnd fr f with
        | none => simp [hfo] at h
        | some u =>
          simp only [hfo] at h
          split at h
          · rename_i fid first caps heq
            simp only [Option.some.injEq] at heq
            subst heq
            cases hcl : call fid (first ++ args ++ caps) st with
            | none => simp only [hcl, reduceCtorEq] at h
            | some r =>
              obtain ⟨y, st1⟩ := r
              simp only [hcl, Option.some.injEq, Prod.mk.injEq] at h
              obtain ⟨rfl, rfl⟩ := h
              have e2 := hop f _ hfo
              simp only [V.ok] at e2
              have hok : V.oks J.nx (first ++ args ++ caps) := by
                rw [V.oks_iff]
                intro z hz
                simp only [List.mem_append] at hz
                rcases hz with (hz | hz) | hz
                · exact (V.oks_iff _ _).1 e2.2.1 z hz
                · exact (V.oks_iff _ _).1 p2 z hz
                · exact (V.oks_iff _ _).1 e2.2.2 z hz
              obtain ⟨⟨fn, cd, hfn, hbody⟩, hC⟩ := hcall fid _ st y st1 hcl J w hn hh hro hok
              have hargs : (V.reals J first).toArray ++ (args.map (V.real J)).toArray ++ (V.reals J caps).toArray = (V.reals J (first ++ args ++ caps)).toArray := by
                simp [V.reals_eq]
              have hnm := hname fid fn hfn
              simp only [execOp, resolve, hc, e2.1, V.real, Deferred.ofValue, Sem.run_bind, Sem.run_pure, Result.andThen_ok, invoke, e1, hargs, callFunc, run_program, hfn, hnm, hbody, Bool.false_eq_true, if_false, Option.isNone_some]
              exact ⟨y, _, _, rfl, rfl, hC⟩
          · simp at h
  | _ => simp [notCall] at hnc
end
end Go.Vm
namespace Go.Vm
open Go.RowKit

theorem FR.mono {J J' : Inj} {nt : Nat} {fr : T V} {tmps : Array Value} (h : FR J nt fr tmps) (hle : J.le J') : FR J' nt fr tmps :=
  ⟨h.size, fun t v hv => by
    obtain ⟨q1, q2⟩ := h.get t v hv
    exact ⟨V.ok_le hle.nx v q1, by rw [V.real_le hle v q1]; exact q2⟩⟩

theorem FR.put {J : Inj} {nt : Nat} {fr fr' : T V} {a : Act} {dst : Option Nat} {v : Option V} {u : Value} (h : FR J nt fr a.tmps) (hv : (∃ x, v = some x ∧ u = x.real J ∧ x.ok J.nx) ∨ (v = none ∧ u = undef))
    (hp : vput nt fr dst v = some fr') : FR J nt fr' (a.put dst u).tmps := by
  unfold vput at hp
  cases dst with
  | none => simp only [Option.some.injEq] at hp; subst hp; exact h
  | some d =>
    simp only at hp
    cases hd : Nat.blt d nt with
    | false => simp [hd] at hp
    | true =>
      simp only [hd, cond_true] at hp
      rw [Nat.blt_eq] at hd
      have key : ∃ x : V, fr' = fr.upd d (some x) ∧ u = x.real J ∧ x.ok J.nx := by
        rcases hv with ⟨x, rfl, h1, h2⟩ | ⟨rfl, h1⟩
        · simp only [V.force_eq, Option.some.injEq] at hp
          exact ⟨x, hp.symm, h1, h2⟩
        · simp only [Option.some.injEq] at hp
          exact ⟨.t [], hp.symm, by rw [h1]; simp [V.real, V.reals, undef], by simp [V.ok, V.oks]⟩
      obtain ⟨x, rfl, rfl, hx⟩ := key
      refine ⟨by simp only [Act.put, Array.size_setIfInBounds]; exact h.size, fun t y hy => ?_⟩
      rw [T.get_upd] at hy
      by_cases e : t = d
      · subst e
        simp only [if_true, Option.some.injEq] at hy
        subst hy
        exact ⟨hx, by simp only [Act.put]; rw [Array.getElem?_setIfInBounds_self_of_lt (Nat.lt_of_lt_of_le hd h.size)]⟩
      · rw [if_neg e] at hy
        obtain ⟨q1, q2⟩ := h.get t y hy
        exact ⟨q1, by simp only [Act.put]; rw [Array.getElem?_setIfInBounds_ne (fun q => e q.symm)]; exact q2⟩

theorem put_defers (a : Act) (dst : Option Nat) (u : Value) : (a.put dst u).defers = a.defers := by cases dst <;> rfl

theorem vwanted_spec {J : Inj} {nt : Nat} {fr : T V} {ops : Array Oper} {a : Act} {o : Oper} {x : Bool} (h : FR J nt fr a.tmps) (hw : vwanted ops fr o = some x) : Region.wanted o (yielded ops a.tmps) = x := by
  unfold vwanted at hw
  unfold Region.wanted
  cases hg : o.guard with
  | none => simp only [hg, Option.some.injEq] at hw ⊢; exact hw
  | some jw =>
    obtain ⟨j, want⟩ := jw
    simp only [hg] at hw ⊢
    unfold yielded
    cases hd : (ops[j]?).bind (·.dst) with
    | none => simp only [hd, Option.some.injEq] at hw; subst hw; simp
    | some d =>
      simp only [hd] at hw
      cases hf : fr.get d with
      | none => simp [hf] at hw
      | some v =>
        obtain ⟨_, q2⟩ := h.get d v hf
        simp only [Option.bind_some, q2]
        cases v <;> simp only [hf, Option.some.injEq] at hw <;> subst hw <;> simp [V.real]

section
variable {P : Program} {ro : Nat} {B : World}

theorem wp_of_done {J : Inj} {st st' : St} {w : World} {v : Option V} {o : Oper} {a : Act} {next : Act → World → Prop} {Q : Exit → Act → World → Prop} (h : Done P J ro B st w v st' ((execOp a.eval o).run P w))
    (hnext : ∀ J' w' u, Post J ro B st w J' st' w' → ((∃ x, v = some x ∧ u = x.real J' ∧ x.ok J'.nx) ∨ (v = none ∧ u = undef)) → next (a.put o.dst u) w') : o.wp P a w next Q := by
  unfold Oper.wp
  generalize (execOp a.eval o).run P w = r at h
  cases r with
  | halt x w' => exact h.elim
  | ok n w' =>
    cases n with
    | value u => obtain ⟨x, J', h1, h2, h3, h4⟩ := h; exact hnext J' w' u h4 (.inl ⟨x, h1, h2, h3⟩)
    | skip => obtain ⟨h1, J', h2⟩ := h; exact hnext J' w' undef h2 (.inr ⟨h1, rfl⟩)
    | enter f args =>
      obtain ⟨rfl, hc⟩ := h
      refine hc.mono ?_
      rintro e w'' ⟨x, J', h1, rfl, h3, h4⟩
      exact hnext J' w'' _ h4 (.inl ⟨x, h1, rfl, h3⟩)
    | _ => exact h.elim

/-- Operations in the order of the text. -/
theorem vops_sound {nt : Nat} {call : CallF} (hcall : CallOK P ro B call) (hname : ∀ (f : Nat) (fn : Func), P.funcs[f]? = some fn → (fn.name == "runtime.NumGoroutine") = false) {ops : Array Oper} {Q : Exit → Act → World → Prop} :
    ∀ (l : List Oper) (k : Nat) (fr fr' : T V) (st st' : St) (J : Inj) (w : World) (a : Act), (∀ j, l[j]? = ops[k + j]?) → vops P ro nt call ops l fr st = some (fr', st') → J.nx = st.nx → HR J ro B st.hp.get w → ro ≤ J.nx →
      FR J nt fr a.tmps → a.defers = [] → (∀ J' a' w', Post J ro B st w J' st' w' → FR J' nt fr' a'.tmps → a'.defers = [] → Q .normal a' w') → wpOps P ops Q (List.range' k l.length) a w
  | [], k, fr, fr', st, st', J, w, a, _, h, hn, hh, hro, hf, hd, hQ => by
    simp only [vops, Option.some.injEq, Prod.mk.injEq] at h
    obtain ⟨rfl, rfl⟩ := h
    exact hQ J a w (Post.refl hn hh hro) hf hd
  | o :: l, k, fr, fr', st, st', J, w, a, hl, h, hn, hh, hro, hf, hd, hQ => by
    have h0 : ops[k]? = some o := by simpa using (hl 0).symm
    have hl' : ∀ j, l[j]? = ops[k + 1 + j]? := fun j => by have := hl (j + 1); simpa [Nat.add_assoc, Nat.add_comm 1 j] using this
    simp only [vops] at h
    rw [List.length_cons, List.range'_succ]
    simp only [wpOps, h0]
    cases hw : vwanted ops fr o with
    | none => simp [hw] at h
    | some x =>
      rw [vwanted_spec hf hw]
      cases x with
      | true =>
        simp only [hw] at h
        simp only [if_true]
        cases hv : vop P ro call fr st o.op with
        | none => simp [hv] at h
        | some r =>
          obtain ⟨v, st1⟩ := r
          simp only [hv] at h
          cases hp : vput nt fr o.dst v with
          | none => simp [hp] at h
          | some fr1 =>
            simp only [hp] at h
            refine .inl (wp_of_done (vop_sound hcall hname hn hh hro hf hv) fun J1 w1 u hpost hu => ?_)
            exact vops_sound hcall hname l (k + 1) fr1 fr' st1 st' J1 w1 _ hl' h hpost.nx hpost.hr hpost.ro ((hf.mono hpost.le).put hu hp) (by rw [put_defers]; exact hd)
              fun J2 a2 w2 p2 f2 d2 => hQ J2 a2 w2 (hpost.trans p2) f2 d2
      | false =>
        simp only [hw] at h
        simp only [Bool.false_eq_true, if_false]
        cases hp : vput nt fr o.dst none with
        | none => simp [hp] at h
        | some fr1 =>
          simp only [hp] at h
          exact vops_sound hcall hname l (k + 1) fr1 fr' st st' J w _ hl' h hn hh hro (hf.put (.inr ⟨rfl, rfl⟩) hp) (by rw [put_defers]; exact hd) hQ

/-- The memory that is as it was, and may be more. -/
def Still (J : Inj) (ro : Nat) (B : World) (st : St) (w0 : World) (w : World) : Prop := HR J ro B st.hp.get w ∧ Below B.heap.size w0 w ∧ Fr J st.hp.get w0 J st.hp.get w

/-- Operations whose order is open. -/
theorem vopsQ_sound {nt : Nat} {call : CallF} (hcall : CallOK P ro B call) (hname : ∀ (f : Nat) (fn : Func), P.funcs[f]? = some fn → (fn.name == "runtime.NumGoroutine") = false) {ops : Array Oper} {st : St} {J : Inj} {w0 : World} (hn : J.nx = st.nx) (hro : ro ≤ J.nx) (hex : ∃ w, Still J ro B st w0 w) {Q : Act → Prop} :
    ∀ (l : List Oper) (fr fr' : T V) (a : Act), vopsQ P ro nt call ops l fr st = some fr' → FR J nt fr a.tmps → a.defers = [] →
      (∀ a', FR J nt fr' a'.tmps → a'.defers = [] → Q a') → wpQuiet P ops (Still J ro B st w0) Q l a
  | [], fr, fr', a, h, hf, hd, hQ => by
    simp only [vopsQ, Option.some.injEq] at h
    subst h
    exact hQ a hf hd
  | o :: l, fr, fr', a, h, hf, hd, hQ => by
    simp only [vopsQ] at h
    unfold wpQuiet
    cases hw : vwanted ops fr o with
    | none => simp [hw] at h
    | some x =>
      rw [vwanted_spec hf hw]
      cases x with
      | false =>
        simp only [hw] at h
        simp only [Bool.false_eq_true, if_false]
        cases hp : vput nt fr o.dst none with
        | none => simp [hp] at h
        | some fr1 =>
          simp only [hp] at h
          exact vopsQ_sound hcall hname hn hro hex l fr1 fr' _ h (hf.put (.inr ⟨rfl, rfl⟩) hp) (by rw [put_defers]; exact hd) hQ
      | true =>
        simp only [hw] at h
        simp only [if_true]
        cases hq : quietOp o.op with
        | false => simp [hq] at h
        | true =>
          simp only [hq] at h
          cases hv : vop P ro call fr ⟨st.nx, st.hp, st.nx⟩ o.op with
          | none => simp [hv] at h
          | some r =>
            obtain ⟨v, st1⟩ := r
            simp only [hv] at h
            generalize hc : (Nat.ble st.nx st1.ver && (Nat.beq st1.nx st.nx || plainO v)) = c at h
            cases c with
            | false => simp at h
            | true =>
              simp only [cond_true] at h
              simp only [Bool.and_eq_true, Nat.beq_eq, Nat.ble_eq, Bool.or_eq_true] at hc
              cases hp : vput nt fr o.dst v with
              | none => simp [hp] at h
              | some fr1 =>
                simp only [hp] at h
                have fin : ∀ x : V, v = some x → x.ok J.nx → (∀ w, Still J ro B st w0 w → o.quietAt P a (Still J ro B st w0) w (x.real J)) → o.quiet P a (Still J ro B st w0) (wpQuiet P ops (Still J ro B st w0) Q l) := by
                  intro x hx hok hat
                  exact ⟨x.real J, hat, vopsQ_sound hcall hname hn hro hex l fr1 fr' _ h (hf.put (.inl ⟨x, hx, rfl, hok⟩) hp) (by rw [put_defers]; exact hd) hQ⟩
                cases hnc : notCall o.op with
                | true =>
                  obtain ⟨wx, hwx⟩ := hex
                  obtain ⟨_, x, hx, _, hok⟩ := vop_quiet (w := wx) (st := ⟨st.nx, st.hp, st.nx⟩) hn hwx.1 hf hq hnc hv
                  refine fin x hx hok fun w hs => ?_
                  obtain ⟨_, x', hx', hr, _⟩ := vop_quiet (w := w) (st := ⟨st.nx, st.hp, st.nx⟩) hn hs.1 hf hq hnc hv
                  rw [hx, Option.some.injEq] at hx'
                  subst hx'
                  unfold Oper.quietAt
                  rw [hr]
                  exact ⟨rfl, rfl⟩
                | false =>
                  have conv : ∀ (x : V) (J' : Inj) (w w' : World), v = some x → x.ok J'.nx → Still J ro B st w0 w → Post J ro B ⟨st.nx, st.hp, st.nx⟩ w J' st1 w' → x.real J' = x.real J ∧ x.ok J.nx ∧ Still J ro B st w0 w' := by
                    intro x J' w w' hx hok hs hpo
                    subst hx
                    refine ⟨?_, ?_, HR.back hs.1 hpo.hr hpo.le (fun g b hg => hpo.ext.hp g b hg (by have := (hs.1.blk g b hg).1; omega)), hs.2.1.trans hpo.below, fun i hi hf => ⟨(hpo.fr i (Nat.lt_of_lt_of_le hi hs.2.1.size) hf).1.trans (hs.2.2 i hi hf).1, hf⟩⟩
                    · rcases hc.2 with e | e
                      · have : x.ok J.nx := by rw [hn, ← e, ← hpo.nx]; exact hok
                        exact V.real_le hpo.le x this
                      · exact V.real_plainT J J' x e
                    · rcases hc.2 with e | e
                      · rw [hn, ← e, ← hpo.nx]; exact hok
                      · exact V.ok_plainT J'.nx J.nx x e hok
                  obtain ⟨wx, hwx⟩ := hex
                  obtain ⟨y, _, _, hy, _, hC⟩ := vop_call (st := ⟨st.nx, st.hp, st.nx⟩) hcall hname hn hwx.1 hro hf hnc hv
                  obtain ⟨_, w'', _, ⟨J', _, h3, h4⟩, _⟩ := hC []
                  refine fin y hy (conv y J' wx w'' hy h3 hwx h4).2.1 fun w hs => ?_
                  obtain ⟨y', f', args', hy', hr, hC'⟩ := vop_call (st := ⟨st.nx, st.hp, st.nx⟩) hcall hname hn hs.1 hro hf hnc hv
                  rw [hy, Option.some.injEq] at hy'
                  subst hy'
                  unfold Oper.quietAt
                  rw [hr]
                  refine ⟨rfl, hC'.mono ?_⟩
                  rintro e w' ⟨J', h1, h3, h4⟩
                  obtain ⟨q1, q2, q3⟩ := conv y J' w w' hy h3 hs h4
                  exact ⟨by rw [h1, q1], q3⟩

/-- Operations whose order is open, none of them a call: the world stays as it is. -/
theorem vopsS_sound {nt : Nat} {call : CallF} {ops : Array Oper} {st : St} {J : Inj} {w1 : World} (hn : J.nx = st.nx) (hs : HR J ro B st.hp.get w1) {Q : Act → Prop} :
    ∀ (l : List Oper) (fr fr' : T V) (a : Act), (l.all fun o => notCall o.op) = true → vopsQ P ro nt call ops l fr st = some fr' → FR J nt fr a.tmps → a.defers = [] →
      (∀ a', FR J nt fr' a'.tmps → a'.defers = [] → Q a') → wpStill P ops w1 Q l a
  | [], fr, fr', a, _, h, hf, hd, hQ => by
    simp only [vopsQ, Option.some.injEq] at h
    subst h
    exact hQ a hf hd
  | o :: l, fr, fr', a, hall, h, hf, hd, hQ => by
    rw [List.all_cons, Bool.and_eq_true] at hall
    simp only [vopsQ] at h
    unfold wpStill
    cases hw : vwanted ops fr o with
    | none => simp [hw] at h
    | some x =>
      rw [vwanted_spec hf hw]
      cases x with
      | false =>
        simp only [hw] at h
        simp only [Bool.false_eq_true, if_false]
        cases hp : vput nt fr o.dst none with
        | none => simp [hp] at h
        | some fr1 =>
          simp only [hp] at h
          exact vopsS_sound hn hs l fr1 fr' _ hall.2 h (hf.put (.inr ⟨rfl, rfl⟩) hp) (by rw [put_defers]; exact hd) hQ
      | true =>
        simp only [hw] at h
        simp only [if_true]
        cases hq : quietOp o.op with
        | false => simp [hq] at h
        | true =>
          simp only [hq] at h
          cases hv : vop P ro call fr ⟨st.nx, st.hp, st.nx⟩ o.op with
          | none => simp [hv] at h
          | some r =>
            obtain ⟨v, st1⟩ := r
            simp only [hv] at h
            generalize (Nat.ble st.nx st1.ver && (Nat.beq st1.nx st.nx || plainO v)) = c at h
            cases c with
            | false => simp at h
            | true =>
              simp only [cond_true] at h
              cases hp : vput nt fr o.dst v with
              | none => simp [hp] at h
              | some fr1 =>
                simp only [hp] at h
                obtain ⟨_, x, hx, hr, hok⟩ := vop_quiet (w := w1) (st := ⟨st.nx, st.hp, st.nx⟩) hn hs hf hq hall.1 hv
                unfold Oper.still
                rw [hr]
                exact ⟨rfl, vopsS_sound hn hs l fr1 fr' _ hall.2 h (hf.put (.inl ⟨x, hx, rfl, hok⟩) hp) (by rw [put_defers]; exact hd) hQ⟩
end
end Go.Vm
set_option linter.unusedVariables false
namespace Go

section
variable {P : Program} {ops : Array Oper} {Q : Exit → Act → World → Prop} {md : Region.Mode} {S0 : World → Prop}

/-- What is to hold as long as no operation that waits for number x has come up. -/
structure Held where
  x : Nat
  h : World → Prop

theorem Region.waitsT_spec {md : Region.Mode} {ops : Array Oper} {j i : Nat} (h : Region.waitsT md ops j i = true) : ∃ oj, ops[j]? = some oj ∧ ((∃ e ∈ oj.after, Region.binds md e = true ∧ e.on = i) ∨ ∃ d ∈ oj.after, Region.binds md d = true ∧ ∃ od, ops[d.on]? = some od ∧ ∃ e ∈ od.after, Region.binds md e = true ∧ e.on = i) := by
  unfold Region.waitsT at h
  cases hc : Region.waitsFor md ops j i with
  | true =>
    obtain ⟨oj, h1, h2⟩ := Region.waitsFor_spec hc
    exact ⟨oj, h1, .inl h2⟩
  | false =>
    rw [hc] at h
    dsimp only at h
    split at h
    · rename_i o ho
      obtain ⟨d, hd, hb⟩ := Array.any_eq_true'.1 h
      rw [Bool.and_eq_true] at hb
      obtain ⟨od, h1, h2⟩ := Region.waitsFor_spec hb.2
      exact ⟨o, ho, .inr ⟨d, hd, hb.1, od, h1, h2⟩⟩
    · cases h

/-- What an operation that has come waits for has come. -/
def Closed (md : Region.Mode) (ops : Array Oper) (listed : Array Bool) : Prop := ∀ d od, ops[d]? = some od → listed.getD d false = true → ∀ e ∈ od.after, Region.binds md e = true → listed.getD e.on false = true
theorem Closed.set {md : Region.Mode} {ops : Array Oper} {listed : Array Bool} (h : Closed md ops listed) {i : Nat} (hi : i ∈ Region.ready md ops listed) : Closed md ops (listed.setIfInBounds i true) := by
  intro d od hd hl e he hb
  refine getD_set_true ?_
  by_cases q : i = d
  · subst q
    obtain ⟨_, o, ho, hall⟩ := mem_ready.1 hi
    rw [hd] at ho
    cases ho
    exact hall e he hb
  · rw [getD_set_ne false q] at hl
    exact h d od hd hl e he hb

/-- Whatever order is picked from here on, and what is held holds behind every operation that does not wait for it. -/
def wpAnyE (P : Program) (md : Region.Mode) (ops : Array Oper) (Q : Exit → Act → World → Prop) (S0 : World → Prop) : Nat → Array Bool → List Held → Act → World → Prop
  | 0, listed, _, a, w => Region.ready md ops listed = [] ∧ Q .normal a w
  | fuel + 1, listed, E, a, w => Closed md ops listed → (Region.ready md ops listed = [] → Q .normal a w) ∧
    ∀ i ∈ Region.ready md ops listed, wpOp P ops Q i (fun a' w' => ∃ E', (∀ e ∈ E, Region.waitsT md ops i e.x = false → e ∈ E') ∧ (S0 w' ∧ ∀ e ∈ E', e.h w') ∧ wpAnyE P md ops Q S0 fuel (listed.setIfInBounds i true) E' a' w') a w

theorem wpAny_of_E : ∀ (fuel : Nat) (listed : Array Bool) (E : List Held) (a : Act) (w : World), Closed md ops listed → wpAnyE P md ops Q S0 fuel listed E a w → wpAny P md ops Q fuel listed a w
  | 0, _, _, _, _, _, h => h
  | fuel + 1, _, _, _, _, hc, h => ⟨(h hc).1, fun i hi => wpOp_mono (fun a' w' ⟨E', _, _, h'⟩ => wpAny_of_E fuel _ E' a' w' (hc.set hi) h') ((h hc).2 i hi)⟩

theorem wpAnyE_less {E1 E2 : List Held} (hE : ∀ e ∈ E1, e ∈ E2) : ∀ {fuel : Nat} {listed : Array Bool} {a : Act} {w : World}, wpAnyE P md ops Q S0 fuel listed E2 a w → wpAnyE P md ops Q S0 fuel listed E1 a w
  | 0, _, _, _, h => h
  | _ + 1, _, _, _, h => fun hc => ⟨(h hc).1, fun i hi => wpOp_mono (fun _ _ ⟨E', h1, h2, h3⟩ => ⟨E', fun e he hw => h1 e (hE e he) hw, h2, h3⟩) ((h hc).2 i hi)⟩

theorem wpAnyE_first {oi : Oper} {v : Value} (e : Held) (hi : ops[e.x]? = some oi) (hsel : ∀ (j : Nat) (o : Oper) cs b, ops[j]? = some o → o.op ≠ .select cs b)
    (hQ : ∀ c a w, Q (.panic c) (a.put oi.dst v) w → Q (.panic c) a w) :
    ∀ (fuel : Nat) (listed : Array Bool) (E : List Held) (a : Act) (w : World),
      (∀ j oj, ops[j]? = some oj → j ≠ e.x → listed.getD j true = false → (∀ d ∈ oj.after, Region.binds md d = true → d.on ≠ e.x) → oi.apart ops oj = true) →
      e.x ∈ Region.ready md ops listed → YieldsIf P ops (fun w => S0 w ∧ e.h w) oi v a → S0 w → e.h w → (∀ e' ∈ E, e'.h w) →
      wpAnyE P md ops Q S0 fuel (listed.setIfInBounds e.x true) (e :: E) (a.put oi.dst v) w → wpAnyE P md ops Q S0 (fuel + 1) listed E a w := by
  intro fuel
  induction fuel with
  | zero =>
    intro listed E a w _ hr hy hS he hE H hcl
    refine ⟨fun h => (by rw [h] at hr; cases hr), fun j hj => ?_⟩
    by_cases hji : j = e.x
    · subst hji
      exact hy.wpOp hi ⟨hS, he⟩ ⟨e :: E, fun e' he' _ => List.mem_cons_of_mem _ he', ⟨hS, fun e' he' => (List.mem_cons.1 he').elim (fun q => q ▸ he) (hE e')⟩, H⟩
    · have := ready_mono hj hji
      rw [H.1] at this
      cases this
  | succ fuel ih =>
    intro listed E a w hfree hr hy hS he hE H hcl
    refine ⟨fun h => (by rw [h] at hr; cases hr), fun j hj => ?_⟩
    by_cases hji : j = e.x
    · subst hji
      exact hy.wpOp hi ⟨hS, he⟩ ⟨e :: E, fun e' he' _ => List.mem_cons_of_mem _ he', ⟨hS, fun e' he' => (List.mem_cons.1 he').elim (fun q => q ▸ he) (hE e')⟩, H⟩
    · have h1 := (H (hcl.set hr)).2 j (ready_mono hj hji)
      obtain ⟨hjun, oj, hoj, hall⟩ := mem_ready.1 hj
      have hnot : ∀ d ∈ oj.after, Region.binds md d = true → d.on ≠ e.x := fun d hd hb heq => by
        have h1 := hall d hd hb
        have h0 := (mem_ready.1 hr).1
        rw [heq, getD_both h0] at h1
        cases h1
      have hw : Region.waitsT md ops j e.x = false := by
        cases hc : Region.waitsT md ops j e.x with
        | false => rfl
        | true =>
          obtain ⟨o2, ho2, ⟨d, hd, hb, hon⟩ | ⟨d, hd, hb, od, hod, d2, hd2, hb2, hon⟩⟩ := Region.waitsT_spec hc
          · rw [hoj] at ho2
            cases ho2
            exact absurd hon (hnot d hd hb)
          · rw [hoj] at ho2
            cases ho2
            have q := hcl _ _ hod (hall d hd hb) d2 hd2 hb2
            rw [hon, getD_both (mem_ready.1 hr).1] at q
            cases q
      have h2 := wpOp_putIf hoj (hfree j oj hoj hji hjun hnot) (fun cs b => hsel e.x oi cs b hi) (fun cs b => hsel j oj cs b hoj) hQ hy h1
      have hfree' : ∀ k ok, ops[k]? = some ok → k ≠ e.x → (listed.setIfInBounds j true).getD k true = false →
          (∀ d ∈ ok.after, Region.binds md d = true → d.on ≠ e.x) → oi.apart ops ok = true := fun k ok hk hki hun hno => by
        refine hfree k ok hk hki ?_ hno
        by_cases hjk : j = k
        · subst hjk; exact hjun
        · rw [getD_set_ne true hjk] at hun; exact hun
      refine wpOp_mono (fun a' w' h3 => ?_) h2
      obtain ⟨hy', E', hk, ⟨hs0, hh⟩, hrec⟩ := h3
      have hmem : e ∈ E' := hk e (List.mem_cons_self ..) hw
      refine ⟨E', fun e2 he2 hw2 => hk e2 (List.mem_cons_of_mem _ he2) hw2, ⟨hs0, hh⟩, ih (listed.setIfInBounds j true) E' a' w' hfree' (ready_mono hr (Ne.symm hji)) hy' hs0 (hh e hmem) hh ?_⟩
      rw [Array.setIfInBounds_comm _ _ hji]
      exact wpAnyE_less (fun x hx => (List.mem_cons.1 hx).elim (fun q => q ▸ hmem) id) hrec
end
end Go

namespace Go.Vm

theorem same1_eq {x y : V} (h : same1 x y = true) : x = y := by
  unfold same1 at h
  split at h <;> first
    | rfl
    | (simp only [Bool.and_eq_true, Nat.beq_eq, decide_eq_true_eq] at h; simp_all; done)
    | (rename_i a b; cases a <;> cases b <;> simp_all; done)
    | (rename_i a b c d op a' b' c' d' op'; simp only [Bool.and_eq_true, Nat.beq_eq] at h; cases op <;> cases op' <;> simp_all; done)
    | cases h
theorem sameL_eq : ∀ {xs ys : List V}, sameL xs ys = true → xs = ys
  | [], [], _ => rfl
  | x :: xs, y :: ys, h => by
    simp only [sameL, Bool.and_eq_true] at h
    rw [same1_eq h.1, sameL_eq h.2]
  | [], _ :: _, h => by cases h
  | _ :: _, [], h => by cases h
theorem sameV_eq {x y : V} (h : sameV x y = true) : x = y := by
  unfold sameV at h
  split at h
  · rw [sameL_eq h]
  · exact same1_eq h

theorem opCls_quiet {op : Op} (h : opCls op = 0 ∨ opCls op = 1) : quietOp op = true ∧ notCall op = true := by
  cases op <;> simp only [opCls, quietOp, notCall, cond_true, cond_false, and_true, true_and] at h ⊢ <;> first
    | omega
    | trivial
    | (rename_i c; obtain ⟨callee, xs, ts⟩ := c; cases callee <;> simp_all; rename_i b; cases b <;> simp_all)

section
variable {P : Program} {ro : Nat} {B : World}

/-- An entry of the evaluator, and what it says of the world. -/
def EntOK (P : Program) (ro : Nat) (B : World) (J : Inj) (c : Ent) (e : Held) : Prop :=
  e.x = c.x ∧ ∀ J' st' w', J.le J' → J'.nx = st'.nx → HR J' ro B st'.hp.get w' → vload P st' c.t c.id c.off = some c.v → e.h w'
def EntsOK (P : Program) (ro : Nat) (B : World) (J : Inj) (es : List Ent) (E : List Held) : Prop := ∀ e ∈ E, (∀ w, e.h w) ∨ ∃ c ∈ es, EntOK P ro B J c e

theorem EntsOK.mono {J J' : Inj} (hle : J.le J') {es : List Ent} {E : List Held} (h : EntsOK P ro B J es E) : EntsOK P ro B J' es E := fun e he =>
  (h e he).imp id fun ⟨c, hc, h1, h2⟩ => ⟨c, hc, h1, fun J2 st2 w2 hl => h2 J2 st2 w2 (hle.trans hl)⟩

theorem mem_aliveE {ops : Array Oper} {i : Nat} {c : Ent} : ∀ {es : List Ent}, c ∈ es → Region.waitsT .any ops i c.x = false → c ∈ aliveE ops i es
  | [], h, _ => by cases h
  | e :: r, h, hw => by
    simp only [aliveE]
    rcases List.mem_cons.1 h with rfl | q
    · rw [hw]; exact List.mem_cons_self ..
    · cases Region.waitsT .any ops i e.x with
      | true => exact mem_aliveE q hw
      | false => exact List.mem_cons_of_mem _ (mem_aliveE q hw)
theorem mem_aliveE' {ops : Array Oper} {i : Nat} {c : Ent} : ∀ {es : List Ent}, c ∈ aliveE ops i es → c ∈ es
  | [], h => by cases h
  | e :: r, h => by
    simp only [aliveE] at h
    cases hw : Region.waitsT .any ops i e.x with
    | true => rw [hw] at h; exact List.mem_cons_of_mem _ (mem_aliveE' h)
    | false =>
      rw [hw] at h
      rcases List.mem_cons.1 h with rfl | q
      · exact List.mem_cons_self ..
      · exact List.mem_cons_of_mem _ (mem_aliveE' q)
theorem keepB_mem {st : St} {c : Ent} : ∀ {es : List Ent}, keepB P st es = true → c ∈ es → vload P st c.t c.id c.off = some c.v
  | [], _, h => by cases h
  | e :: r, hk, h => by
    simp only [keepB] at hk
    cases hv : vload P st e.t e.id e.off with
    | none => rw [hv] at hk; cases hk
    | some v =>
      rw [hv] at hk
      dsimp only at hk
      cases hs : sameV v e.v with
      | false => rw [hs] at hk; cases hk
      | true =>
        rw [hs] at hk
        rcases List.mem_cons.1 h with rfl | q
        · rw [hv, sameV_eq hs]
        · exact keepB_mem hk q

theorem HR.empty {J : Inj} {w : World} (h : Old B w) : HR J ro B (T.e : T Blk).get w := ⟨h, fun g b hg => (by rw [T.get_e] at hg; cases hg), fun g g' b b' hg => (by rw [T.get_e] at hg; cases hg)⟩

theorem runO_sound {nt : Nat} {call : CallF} (hcall : CallOK P ro B call) (hname : ∀ (f : Nat) (fn : Func), P.funcs[f]? = some fn → (fn.name == "runtime.NumGoroutine") = false) {ops : Array Oper} {Q : Exit → Act → World → Prop}
    (hsel : Region.noSelect ops = true) (hQp : ∀ c a w, ¬ Q (.panic c) a w) :
    ∀ (fuel : Nat) (listed : Array Bool) (l : List (Nat × Oper)) (es : List Ent) (E : List Held) (fr fr' : T V) (st st' : St) (J : Inj) (w : World) (a : Act),
      planGo ops fuel listed = some l → runO P ro nt call ops l es fr st = some (fr', st') → J.nx = st.nx → HR J ro B st.hp.get w → ro ≤ J.nx → FR J nt fr a.tmps → a.defers = [] →
      EntsOK P ro B J es E → (∀ e ∈ E, e.h w) → (∀ c ∈ es, vload P st c.t c.id c.off = some c.v) → (∀ J' a' w', Post J ro B st w J' st' w' → FR J' nt fr' a'.tmps → a'.defers = [] → Q .normal a' w') → wpAnyE P .any ops Q (Old B) fuel listed E a w := by
  intro fuel
  induction fuel with
  | zero =>
    intro listed l es E fr fr' st st' J w a hp h hn hh hro hf hd hes hE hvl hQ
    simp only [planGo] at hp
    split at hp
    · rename_i hr
      cases hp
      simp only [runO, Option.some.injEq, Prod.mk.injEq] at h
      obtain ⟨rfl, rfl⟩ := h
      exact ⟨hr, hQ J a w (Post.refl hn hh hro) hf hd⟩
    · cases hp
  | succ fuel ih =>
    intro listed l es E fr fr' st st' J w a hp h hn hh hro hf hd hes hE hvl hQ
    have hsel' := Region.noSelect_spec hsel
    simp only [planGo] at hp
    split at hp
    · -- one that may come first
      rename_i i hfind
      split at hp
      · rename_i o hfree hi
        split at hp
        · rename_i l' hp'
          cases hp
          have hmem : i ∈ Region.ready .any ops listed := List.mem_of_find?_eq_some hfind
          have hcls : Nat.ble (opCls o.op) 1 = true := by
            have := List.find?_some hfind
            simpa only [clsAt, hi] using this
          rw [Nat.ble_eq] at hcls
          have go : ∀ (v : Value) (e : Held) (es' : List Ent) (fr1 : T V), e.x = i → YieldsIf P ops (fun w => Old B w ∧ e.h w) o v a → e.h w → EntsOK P ro B J es' (e :: E) → (∀ c ∈ es', vload P st c.t c.id c.off = some c.v) → FR J nt fr1 (a.put o.dst v).tmps →
              runO P ro nt call ops l' es' fr1 st = some (fr', st') → wpAnyE P .any ops Q (Old B) (fuel + 1) listed E a w := by
            intro v e es' fr1 hx hy he hes' hvl' hf1 hrun
            subst hx
            exact wpAnyE_first e hi hsel' (fun c a w q => (hQp _ _ _ q).elim) fuel listed E a w (Region.free_spec hi hfree) hmem hy hh.base he hE
              (ih (listed.setIfInBounds e.x true) l' es' (e :: E) fr1 fr' st st' J w _ hp' hrun hn hh hro hf1 (by rw [put_defers]; exact hd) hes' (fun e' he' => (List.mem_cons.1 he').elim (fun q => q ▸ he) (hE e')) hvl' hQ)
          have triv : EntsOK P ro B J es (⟨i, fun _ => True⟩ :: E) := fun e he => (List.mem_cons.1 he).elim (fun q => .inl (by subst q; intro _; trivial)) (hes e)
          simp only [runO] at h
          cases hw : vwanted ops fr o with
          | none => simp [hw] at h
          | some x =>
            cases x with
            | false =>
              simp only [hw] at h
              cases hpt : vput nt fr o.dst none with
              | none => simp [hpt] at h
              | some fr1 =>
                simp only [hpt] at h
                exact go undef ⟨i, fun _ => True⟩ es fr1 rfl (.inr ⟨vwanted_spec hf hw, rfl⟩) trivial triv hvl (hf.put (.inr ⟨rfl, rfl⟩) hpt) h
            | true =>
              simp only [hw] at h
              split at h
              · rename_i hc
                obtain ⟨q1, q2⟩ := opCls_quiet (.inl hc)
                cases hv : vop P ro call fr ⟨st.nx, .e, 0⟩ o.op with
                | none => simp [hv] at h
                | some r =>
                  obtain ⟨v, st1⟩ := r
                  simp only [hv] at h
                  cases hpt : vput nt fr o.dst v with
                  | none => simp [hpt] at h
                  | some fr1 =>
                    simp only [hpt] at h
                    obtain ⟨_, x, rfl, _, hok⟩ := vop_quiet (w := w) (st := ⟨st.nx, .e, 0⟩) hn (HR.empty hh.base) hf q1 q2 hv
                    refine go (x.real J) ⟨i, fun _ => True⟩ es fr1 rfl (.inl ⟨vwanted_spec hf hw, fun w2 hw2 => ?_⟩) trivial triv hvl (hf.put (.inl ⟨x, rfl, rfl, hok⟩) hpt) h
                    obtain ⟨_, x', hx', hr, _⟩ := vop_quiet (w := w2) (st := ⟨st.nx, .e, 0⟩) hn (HR.empty hw2.1) hf q1 q2 hv
                    cases hx'
                    exact hr
              · rename_i hc
                obtain ⟨q1, q2⟩ := opCls_quiet (.inr hc)
                split at h
                · rename_i t x hop
                  split at h
                  · rename_i id off hx
                    cases hv : vload P st t id off with
                    | none => simp [hv] at h
                    | some v =>
                      simp only [hv] at h
                      cases hpt : vput nt fr o.dst (some v) with
                      | none => simp [hpt] at h
                      | some fr1 =>
                        simp only [hpt] at h
                        have vl : ∀ st2 : St, vload P st2 t id off = some v → vop P ro call fr st2 o.op = some (some v, st2) := fun st2 h2 => by rw [hop]; simp only [vop, hx, h2]
                        have yields : ∀ (J2 : Inj) (st2 : St) (w2 : World), J.le J2 → J2.nx = st2.nx → HR J2 ro B st2.hp.get w2 → vload P st2 t id off = some v → (execOp a.eval o).run P w2 = .ok (.value (v.real J)) w2 ∧ v.ok J2.nx := by
                          intro J2 st2 w2 hl hn2 hh2 hv2
                          obtain ⟨_, x', hx', hr, hok⟩ := vop_quiet (w := w2) (st := st2) hn2 hh2 (hf.mono hl) q1 q2 (vl st2 hv2)
                          cases hx'
                          obtain ⟨_, x'', hx'', _, hok0⟩ := vop_quiet (w := w) (st := st) hn hh hf q1 q2 (vl st hv)
                          cases hx''
                          exact ⟨by rw [hr, V.real_le hl _ hok0], hok⟩
                        have here := yields J st w (Inj.le.refl J) hn hh hv
                        refine go (v.real J) ⟨i, fun w2 => (execOp a.eval o).run P w2 = .ok (.value (v.real J)) w2⟩ (⟨i, t, id, off, v⟩ :: es) fr1 rfl (.inl ⟨vwanted_spec hf hw, fun w2 hw2 => hw2.2⟩) here.1 ?_ (fun c hc => (List.mem_cons.1 hc).elim (fun q => by subst q; exact hv) (hvl c)) (hf.put (.inl ⟨v, rfl, rfl, by rw [hn] at *; exact here.2⟩) hpt) h
                        intro e he
                        rcases List.mem_cons.1 he with rfl | q
                        · exact .inr ⟨_, List.mem_cons_self .., rfl, fun J2 st2 w2 hl hn2 hh2 hv2 => (yields J2 st2 w2 hl hn2 hh2 hv2).1⟩
                        · exact (hes e q).imp (fun q => q) fun ⟨c, hc, hok⟩ => ⟨c, List.mem_cons_of_mem _ hc, hok⟩
                  · cases h
                · cases h
              · rename_i h0 h1
                exfalso
                rcases Nat.le_one_iff_eq_zero_or_eq_one.1 hcls with q | q
                · exact h0 q
                · exact h1 q
        · cases hp
      · cases hp
    · -- the only one that may come
      rename_i hfind
      split at hp
      · rename_i i hr
        split at hp
        · rename_i o hi
          split at hp
          · rename_i l' hp'
            cases hp
            have hcls : ¬ opCls o.op ≤ 1 := by
              have := List.find?_eq_none.1 hfind i (by rw [hr]; exact List.mem_singleton.2 rfl)
              simpa only [clsAt, hi, Nat.ble_eq] using this
            intro hcl0
            refine ⟨fun h0 => (by rw [hr] at h0; cases h0), fun j hj => ?_⟩
            rw [hr] at hj
            obtain rfl : j = i := List.mem_singleton.1 hj
            unfold wpOp
            simp only [hi]
            simp only [runO] at h
            cases hw : vwanted ops fr o with
            | none => simp [hw] at h
            | some x =>
              rw [vwanted_spec hf hw]
              cases x with
              | false =>
                simp only [hw] at h
                cases hpt : vput nt fr o.dst none with
                | none => simp [hpt] at h
                | some fr1 =>
                  simp only [hpt] at h
                  simp only [Bool.false_eq_true, if_false]
                  exact ⟨E, fun e he _ => he, ⟨hh.base, hE⟩, ih _ l' es E fr1 fr' st st' J w _ hp' h hn hh hro (hf.put (.inr ⟨rfl, rfl⟩) hpt) (by rw [put_defers]; exact hd) hes hE hvl hQ⟩
              | true =>
                simp only [hw] at h
                split at h
                · omega
                · omega
                · cases hv : vop P ro call fr ⟨st.nx, st.hp, st.nx⟩ o.op with
                  | none => simp [hv] at h
                  | some r =>
                    obtain ⟨v, st1⟩ := r
                    simp only [hv] at h
                    generalize hk : (Nat.ble st.nx st1.ver || keepB P st1 (aliveE ops j es)) = kk at h
                    cases kk with
                    | false => simp at h
                    | true =>
                      simp only at h
                      cases hpt : vput nt fr o.dst v with
                      | none => simp [hpt] at h
                      | some fr1 =>
                        simp only [hpt, natF_eq] at h
                        simp only [if_true]
                        refine .inl (wp_of_done (vop_sound (st := ⟨st.nx, st.hp, st.nx⟩) hcall hname hn hh hro hf hv) fun J1 w1 u hpost0 hu => ?_)
                        have hpost : Post J ro B st w J1 ⟨st1.nx, st1.hp, low st.ver st1.ver⟩ w1 := ⟨hpost0.le, hpost0.nx, hpost0.hr, hpost0.below, ⟨hpost0.ext.nx, low_left _ _, fun g b hg he => hpost0.ext.hp g b hg (Nat.lt_of_lt_of_le he (low_right _ _))⟩, hpost0.ro, hpost0.fr⟩
                        have hkeep : ∀ c ∈ aliveE ops j es, vload P st1 c.t c.id c.off = some c.v := by
                          intro c hc
                          rw [Bool.or_eq_true] at hk
                          rcases hk with q | q
                          · rw [Nat.ble_eq] at q
                            have h0 := hvl c (mem_aliveE' hc)
                            have hb : ∃ b, st.hp.get c.id = some b := by
                              unfold vload at h0
                              cases hg : st.hp.get c.id with
                              | none => simp [hg] at h0
                              | some b => exact ⟨b, rfl⟩
                            obtain ⟨b, hb⟩ := hb
                            have hlt := (hh.blk c.id b hb).1
                            have h1 := hpost0.ext.hp c.id b hb (by omega)
                            unfold vload at h0 ⊢
                            rw [h1]
                            rw [hb] at h0
                            exact h0
                          · exact keepB_mem q hc
                        have hE' : EntsOK P ro B J1 (aliveE ops j es) (E.filter fun e => !Region.waitsT .any ops j e.x) := by
                          intro e he
                          obtain ⟨he1, he2⟩ := List.mem_filter.1 he
                          refine ((hes.mono hpost.le) e he1).imp id ?_
                          rintro ⟨c, hc, h1, h2⟩
                          exact ⟨c, mem_aliveE hc (by rw [← h1]; simpa using he2), h1, h2⟩
                        have hold : ∀ e ∈ E.filter fun e => !Region.waitsT .any ops j e.x, e.h w1 := by
                          intro e he
                          rcases hE' e he with q | ⟨c, hc, h1, h2⟩
                          · exact q w1
                          · exact h2 J1 st1 w1 (Inj.le.refl _) hpost0.nx hpost0.hr (hkeep c hc)
                        exact ⟨E.filter fun e => !Region.waitsT .any ops j e.x, fun e he hwt => List.mem_filter.2 ⟨he, by simpa using hwt⟩, ⟨hpost.hr.base, hold⟩,
                          ih _ l' _ _ fr1 fr' _ st' J1 w1 _ hp' h hpost.nx hpost.hr hpost.ro ((hf.mono hpost.le).put hu hpt) (by rw [put_defers]; exact hd) hE' hold hkeep (fun J2 a2 w2 p2 f2 d2 => hQ J2 a2 w2 (hpost.trans p2) f2 d2)⟩
          · cases hp
        · cases hp
      · cases hp

/-! ### Rows of constants whose turn may come early -/
open Go.RowKit

/-- What names it: a row of some elements, or a variable. -/
def mkA : Option Nat → Nat → V
  | some n, g => .sl g 0 n n false
  | none, g => .p g 0
def rkA : Option Nat → Nat → Value
  | some n, x => .slice (some ⟨x, 0, none⟩) n n
  | none, x => .pointer (some ⟨x, 0, none⟩)
theorem mkA_real (J : Inj) (n : Option Nat) (x : Nat) : (mkA n J.nx).real (J.push (x, 0, 0)) = rkA n x := by
  cases n <;> simp [mkA, rkA, V.real, Inj.push_self]
theorem mkA_ok (n : Option Nat) (g m : Nat) (h : g < m) : (mkA n g).ok m := by
  cases n <;> simp [mkA, V.ok, h]

/-- What is known of a row of constants that is laid anew. -/
structure AL (P : Program) (o : Oper) (d : Nat) (n : Option Nat) (cs : List V) (e : TypeId) (b : Blk) : Prop where
  dst : o.dst = some d
  grd : o.guard = none
  cls : ¬ opCls o.op ≤ 1
  sz : b.sz = cs.length
  op : b.op = false
  mp : b.mp = none
  get : ∀ k : Nat, b.get k = cs[k]?
  ok : ∀ J : Inj, ∀ u ∈ cs, u.ok J.nx
  atom : ∀ u ∈ cs, u.atom = true
  run : ∀ (J : Inj) (w : World) (a : Act), (execOp a.eval o).run P w = .ok (.value (rkA n w.heap.size)) (w.alloc (.cells (cs.map (V.real J)).toArray e))
  vop : ∀ (ro : Nat) (call : CallF) (fr : T V) (st : St), vop P ro call fr st o.op = some (some (mkA n st.nx), st.alloc b)

theorem opnd_e {x : Operand} {v : V} {fr : T V} (h : opnd .e x = some v) : opnd fr x = some v := by
  cases x with
  | tmp t => simp only [opnd, T.get_e] at h; cases h
  | _ => exact h
theorem partsOf_e {fr : T V} : ∀ {ps : List (Nat × Operand)} {r : List (Nat × V)}, partsOf .e ps = some r → partsOf fr ps = some r
  | [], r, h => h
  | (i, o) :: ps, r, h => by
    simp only [partsOf] at h ⊢
    cases h1 : opnd .e o with
    | none => simp [h1] at h
    | some v =>
      simp only [h1] at h
      cases h2 : partsOf .e ps with
      | none => simp [h2] at h
      | some vs =>
        simp only [h2] at h
        simp only [opnd_e h1, partsOf_e h2]
        exact h

theorem AL.of {o : Oper} (h : allocB P o = true) : ∃ d n cs e b, AL P o d n cs e b := by
  obtain ⟨dst, op, ty, pos, after, guard⟩ := o
  unfold allocB at h
  split at h
  · rename_i d t n ps h1 h2 h3
    dsimp only at h1 h2 h3
    subst h1
    subst h2
    subst h3
    split at h
    · rename_i pv hps
      cases hb : vbuildSlice P ⟨0, .e, 0⟩ t n pv with
      | none => rw [hb] at h; cases h
      | some u =>
        obtain ⟨v, st'⟩ := u
        obtain ⟨e, es, cs, b, q1, q2, q3⟩ := vbuildSlice_fine hb
        obtain ⟨b1, b2, b3, b4, b5, b6⟩ := blkOf_spec q1
        have hp : ∀ (J : Inj) (a : Act), pv.map (fun x => (x.1, x.2.real J)) = ps.toList.map (fun p => (p.1, a.eval p.2)) ∧ ∀ x ∈ pv, x.2.ok J.nx := by
          intro J a
          have hf : FR J 0 (.e : T V) a.tmps := ⟨Nat.zero_le _, fun t v ht => by rw [T.get_e] at ht; cases ht⟩
          obtain ⟨p1, p2⟩ := partsOf_spec (J := J) (f := a.eval) (fun x v hx => opnd_spec hf x v hx) _ _ hps
          exact ⟨p1.symm, p2⟩
        refine ⟨d, some n, cs, e, b, rfl, rfl, ?_, b1, b3, blkOf_mp q1, b5, fun J => ?_, b6, fun J w a => ?_, fun ro call fr st => ?_⟩
        · simp [opCls, quietOp]
        · exact (q3 J (hp J ⟨#[], []⟩).2).1
        · have hm : (ps.map fun p => (p.1, a.eval p.2)) = (pv.map fun x => (x.1, x.2.real J)).toArray := by
            apply Array.ext'; simpa using (hp J a).1.symm
          have he : execOp a.eval ⟨some d, .buildSlice t n ps, ty, pos, after, none⟩ = (do pure (.value (← Instr.buildSlice t n (ps.map fun p => (p.1, a.eval p.2)))) : Sem Next) := rfl
          rw [he, hm]
          simp only [Sem.run_bind, (q3 J (hp J a).2).2 w, Result.andThen_ok, Sem.run_pure, rkA]
        · simp only [Go.Vm.vop, partsOf_e hps, q2 st, mkA]
    · cases h
  · rename_i d t h1 h2 h3
    dsimp only at h1 h2 h3
    subst h1
    subst h2
    subst h3
    cases hz : zeroOf P t with
    | none => simp [hz] at h
    | some z =>
      cases hs : sizeB P t with
      | none => simp [hz, hs] at h
      | some n =>
        simp only [hz, hs] at h
        unfold valloc at h
        cases hb : blkOf z.cells n false with
        | none => simp [hb] at h
        | some b =>
          obtain ⟨b1, b2, b3, b4, b5, b6⟩ := blkOf_spec hb
          refine ⟨d, none, z.cells, t, b, rfl, rfl, ?_, b1, b3, blkOf_mp hb, b5, fun J => ?_, b6, fun J w a => ?_, fun ro call fr st => ?_⟩
          · simp [opCls, quietOp]
          · obtain ⟨_, _, _, zok⟩ := zeroOf_real J J.nx hz
            exact V.ok_cells zok
          · have he : execOp a.eval ⟨some d, .alloc t, ty, pos, after, none⟩ = (do pure (.value (← Instr.alloc t true (.tuple #[]))) : Sem Next) := rfl
            rw [he]
            simp [Instr.alloc, zeroOf_run J hz, newVar, newRow, V.cells_real, rkA]
          · simp only [Go.Vm.vop, hz, hs, valloc, hb, natF_eq, mkA]
  · cases h

/-- Two states of the temporaries that differ at what is pending alone. -/
structure Ax (ops : Array Oper) (pens : List (Nat × Nat)) (a0 a : Act) : Prop where
  df : a.defers = a0.defers
  sz : a.tmps.size = a0.tmps.size
  get : ∀ t, (∀ q ∈ pens, ∀ o, ops[q.1]? = some o → o.dst ≠ some t) → a.tmps[t]? = a0.tmps[t]?

theorem Ax.put {ops : Array Oper} {pens : List (Nat × Nat)} {a0 a : Act} (h : Ax ops pens a0 a) (dst : Option Nat) (u : Value) : Ax ops pens (a0.put dst u) (a.put dst u) := by
  cases dst with
  | none => exact h
  | some d =>
    refine ⟨h.df, by simp [Act.put, h.sz], fun t ht => ?_⟩
    simp only [Act.put]
    rw [Array.getElem?_setIfInBounds, Array.getElem?_setIfInBounds, h.sz, h.get t ht]

theorem Ax.op {ops : Array Oper} {pens : List (Nat × Nat)} {a0 a : Act} (h : Ax ops pens a0 a) (hsel : Region.noSelect ops = true) {i : Nat} {o : Oper} (hi : ops[i]? = some o)
    (hap : ∀ q ∈ pens, ∀ oq, ops[q.1]? = some oq → oq.apart ops o = true) : execOp a.eval o = execOp a0.eval o ∧ Region.wanted o (yielded ops a.tmps) = Region.wanted o (yielded ops a0.tmps) := by
  have hl : ∀ t, t ∈ o.looksAt ops → a.tmps[t]? = a0.tmps[t]? := fun t ht => h.get t fun q hq oq hoq hd => (Oper.apart_spec (hap q hq oq hoq)).1 t hd ht
  refine ⟨execOp_congr o (fun cs b => Region.noSelect_spec hsel i o cs b hi) fun x hx => ?_, ?_⟩
  · cases x with
    | tmp t =>
      have := hl t (by
        unfold Oper.looksAt
        refine List.mem_append_left _ (List.mem_filterMap.2 ⟨.tmp t, by simpa using hx, rfl⟩))
      simp [Act.eval, Array.getD_eq_getD_getElem?, this]
    | _ => rfl
  · unfold Region.wanted
    cases hg : o.guard with
    | none => rfl
    | some jw =>
      obtain ⟨j, want⟩ := jw
      simp only [yielded]
      cases hd : (ops[j]?).bind (·.dst) with
      | none => rfl
      | some d =>
        have := hl d (by
          unfold Oper.looksAt
          refine List.mem_append_right _ ?_
          simp [hg, hd])
        simp only [Option.bind_some, this]

/-- How many have not come up. -/
def cntL (ops : Array Oper) (listed : Array Bool) : Nat := (List.range ops.size).countP fun j => !listed.getD j true

theorem cnt_set {listed : Array Bool} {i : Nat} (h : listed.getD i true = false) : ∀ n, i < n → (List.range n).countP (fun j => !(listed.setIfInBounds i true).getD j true) + 1 = (List.range n).countP fun j => !listed.getD j true := by
  have hi : (listed.setIfInBounds i true).getD i true = true := by
    rcases Nat.lt_or_ge i listed.size with q | q
    · simp [q]
    · simp [q]
  have hlow : ∀ n, n ≤ i → (List.range n).countP (fun j => !(listed.setIfInBounds i true).getD j true) = (List.range n).countP fun j => !listed.getD j true := by
    intro n hn
    refine List.countP_congr fun j hj => ?_
    rw [List.mem_range] at hj
    rw [getD_set_ne true (by omega)]
  intro n
  induction n with
  | zero => intro q; omega
  | succ n ih =>
    intro hn
    rw [List.range_succ, List.countP_append, List.countP_append]
    simp only [List.countP_cons, List.countP_nil]
    by_cases e : i = n
    · subst e
      rw [hlow i (Nat.le_refl _), hi, h]
      simp
    · rw [getD_set_ne true e]
      have := ih (by omega)
      omega

theorem cnt_pos {listed : Array Bool} {i n : Nat} (h : listed.getD i true = false) (hi : i < n) : 0 < (List.range n).countP fun j => !listed.getD j true := by
  rw [List.countP_pos_iff]
  exact ⟨i, List.mem_range.2 hi, by simp [h]⟩

/-- What came up before its turn: where it lies. -/
def Pen (P : Program) (ops : Array Oper) (N0 : Nat) (J : Inj) (st : St) (w : World) (a : Act) (q : Nat × Nat) : Prop :=
  ∃ o d n cs e b, ops[q.1]? = some o ∧ AL P o d n cs e b ∧ (d < a.tmps.size → a.tmps[d]? = some (rkA n q.2)) ∧ N0 ≤ q.2 ∧ q.2 < w.heap.size ∧ Free J st.hp.get q.2 ∧ w.heap[q.2]? = some (.cells (cs.map (V.real J)).toArray e)

structure PInv (P : Program) (ro : Nat) (B : World) (nt : Nat) (ops : Array Oper) (J0 : Inj) (st0 : St) (w0 : World) (lA : Array Bool) (es : List Ent) (fr : T V) (st : St) (F : Nat) (J : Inj) (w : World) (a0 a : Act) (listed : Array Bool) (pens : List (Nat × Nat)) (E : List Held) : Prop where
  acc : Post J0 ro B st0 w0 J st w
  fr : FR J nt fr a0.tmps
  df : a0.defers = []
  ls : listed.size = ops.size
  la : lA.size = ops.size
  lr : ∀ j, j < ops.size → listed.getD j true = (lA.getD j true || pens.any fun q => q.1 == j)
  cnt : cntL ops listed ≤ F
  ax : Ax ops pens a0 a
  pn : ∀ q ∈ pens, lA.getD q.1 true = false ∧ Pen P ops w0.heap.size J st w a q
  al : ∀ q ∈ pens, allocAt P ops q.1 = true
  clo : ∀ q ∈ pens, ∀ x, listed.getD x true = false → Region.waitsT .any ops q.1 x = false
  rr : pens.Pairwise fun p q => p.1 ≠ q.1 ∧ p.2 ≠ q.2
  hes : EntsOK P ro B J es E
  hE : ∀ e ∈ E, e.h w
  hw : ∀ e ∈ E, ∀ q ∈ pens, Region.waitsT .any ops q.1 e.x = false
  hvl : ∀ c ∈ es, vload P st c.t c.id c.off = some c.v

theorem getD_lt {l : Array Bool} {i : Nat} (h : l.getD i true = false) : i < l.size := by
  rcases Nat.lt_or_ge i l.size with q | q
  · exact q
  · simp [q] at h
theorem getD_tf {l : Array Bool} {i : Nat} (h : i < l.size) : l.getD i true = l.getD i false := by simp [h]

theorem Pen.keep {ops : Array Oper} {N0 : Nat} {J J1 : Inj} {st st1 : St} {w w1 : World} {a : Act} {q : Nat × Nat} (h : Pen P ops N0 J st w a q) (hle : J.le J1) (hs : w.heap.size ≤ w1.heap.size)
    (hk : w1.heap[q.2]? = w.heap[q.2]? ∧ Free J1 st1.hp.get q.2) {dst : Option Nat} {u : Value} (hd : ∀ o, ops[q.1]? = some o → o.dst = none ∨ o.dst ≠ dst) : Pen P ops N0 J1 st1 w1 (a.put dst u) q := by
  obtain ⟨o, d, n, cs, e, b, h1, h2, h3, h4, h5, h6, h7⟩ := h
  refine ⟨o, d, n, cs, e, b, h1, h2, fun hlt => ?_, h4, by omega, hk.2, ?_⟩
  · have hne : dst ≠ some d := by
      rcases hd o h1 with q | q
      · rw [h2.dst] at q; cases q
      · rw [h2.dst] at q; exact fun z => q z.symm
    cases dst with
    | none => exact h3 hlt
    | some d' =>
      have : d' ≠ d := fun z => hne (by rw [z])
      simp only [Act.put, Array.size_setIfInBounds] at hlt ⊢
      rw [Array.getElem?_setIfInBounds_ne this]
      exact h3 hlt
  · rw [hk.1, h7]
    congr 3
    exact List.map_congr_left fun u hu => (V.real_le hle u (h2.ok J u hu)).symm

/-- What may come up in truth is i, or a row of constants. -/
theorem may_ready {ops : Array Oper} {lA listed : Array Bool} {pens : List (Nat × Nat)} {i j : Nat} (ls : listed.size = ops.size) (lr : ∀ j, j < ops.size → listed.getD j true = (lA.getD j true || pens.any fun q => q.1 == j))
    (al : ∀ q ∈ pens, allocAt P ops q.1 = true) (hip : ∀ q ∈ pens, q.1 ≠ i) (hall : (Region.ready .any ops (mayL P ops lA i)).all (fun j => Nat.beq j i || allocAt P ops j) = true) (hj : j ∈ Region.ready .any ops listed) : j = i ∨ allocAt P ops j = true := by
  by_cases e : j = i
  · exact .inl e
  · cases ha : allocAt P ops j with
    | true => exact .inr rfl
    | false =>
      exfalso
      obtain ⟨h0, o, ho, hdep⟩ := mem_ready.1 hj
      have hjl : j < ops.size := by
        rcases Nat.lt_or_ge j ops.size with q | q
        · exact q
        · rw [Array.getElem?_eq_none q] at ho; cases ho
      have hmay : ∀ k d, k < ops.size → (mayL P ops lA i).getD k d = (lA.getD k true || (allocAt P ops k && !(Nat.beq k i))) := by
        intro k d hk
        unfold mayL
        simp [Array.getD_eq_getD_getElem?, hk]
      have hm : j ∈ Region.ready .any ops (mayL P ops lA i) := by
        refine mem_ready.2 ⟨?_, o, ho, fun e' he' hb => ?_⟩
        · rw [hmay j true hjl, ha]
          have := lr j hjl
          rw [h0] at this
          simp only [Bool.false_and, Bool.or_false]
          cases hq : lA.getD j true with
          | false => rfl
          | true => rw [hq] at this; simp at this
        · have h1 := hdep e' he' hb
          have hlt : e'.on < ops.size := by
            rcases Nat.lt_or_ge e'.on ops.size with q | q
            · exact q
            · rw [← ls] at q; simp [q] at h1
          rw [hmay _ false hlt]
          have h2 := lr e'.on hlt
          rw [getD_tf (by rw [ls]; exact hlt), h1] at h2
          cases hq : lA.getD e'.on true with
          | true => rfl
          | false =>
            rw [hq, Bool.false_or] at h2
            obtain ⟨q, hq1, hq2⟩ := List.any_eq_true.1 h2.symm
            rw [beq_iff_eq] at hq2
            have := al q hq1
            rw [hq2] at this
            have hne : Nat.beq e'.on i = false := by
              cases hz : Nat.beq e'.on i with
              | false => rfl
              | true => rw [Nat.beq_eq] at hz; exact absurd (hq2.trans hz) (hip q hq1)
            rw [this, hne]; rfl
      have := List.all_eq_true.1 hall j hm
      rw [ha, Bool.or_false, Nat.beq_eq] at this
      exact e this

theorem Pen.free {ops : Array Oper} {N0 : Nat} {J : Inj} {st : St} {w : World} {a : Act} {q : Nat × Nat} (h : Pen P ops N0 J st w a q) : N0 ≤ q.2 ∧ q.2 < w.heap.size ∧ Free J st.hp.get q.2 := by
  obtain ⟨o, d, n, cs, e, b, h1, h2, h3, h4, h5, h6, h7⟩ := h
  exact ⟨h4, h5, h6⟩

theorem pen_spec {ops : Array Oper} (h : penOK P ops = true) {p j : Nat} {x y : Oper} (hp : ops[p]? = some x) (hj : ops[j]? = some y) (ha : allocAt P ops p = true) (hne : j ≠ p) :
    (Region.waitsFor .any ops j p = true ∨ x.apart ops y = true) ∧ (allocAt P ops j = true → x.dst ≠ y.dst) := by
  have lt : ∀ {k : Nat} {o : Oper}, ops[k]? = some o → k < ops.size := fun {k o} hk => by
    rcases Nat.lt_or_ge k ops.size with q | q
    · exact q
    · rw [Array.getElem?_eq_none q] at hk; cases hk
  unfold penOK at h
  have h1 := List.all_eq_true.1 h p (List.mem_range.2 (lt hp))
  rw [ha, Bool.not_true, Bool.false_or] at h1
  have h2 := List.all_eq_true.1 h1 j (List.mem_range.2 (lt hj))
  have hb : Nat.beq j p = false := by
    cases hz : Nat.beq j p with
    | false => rfl
    | true => rw [Nat.beq_eq] at hz; exact absurd hz hne
  rw [hb, Bool.false_or, hp, hj] at h2
  simp only [Bool.and_eq_true, Bool.or_eq_true, Bool.not_eq_true', decide_eq_true_eq] at h2
  refine ⟨h2.1, fun q => ?_⟩
  rcases h2.2 with z | z
  · rw [q] at z; cases z
  · exact z

theorem getD_set_self {l : Array Bool} (i : Nat) : (l.setIfInBounds i true).getD i true = true := by
  rcases Nat.lt_or_ge i l.size with q | q
  · simp [q]
  · simp [q]
theorem pw_of {α : Type} {R : α → α → Prop} (hs : ∀ a b, R a b → R b a) : ∀ {l : List α}, l.Pairwise R → ∀ a ∈ l, ∀ b ∈ l, a ≠ b → R a b
  | [], _, a, ha, _, _, _ => by cases ha
  | x :: l, h, a, ha, b, hb, hne => by
    obtain ⟨h1, h2⟩ := List.pairwise_cons.1 h
    rcases List.mem_cons.1 ha with e1 | ha1
    · rcases List.mem_cons.1 hb with e2 | hb1
      · exact absurd (e1.trans e2.symm) hne
      · rw [e1]; exact h1 b hb1
    · rcases List.mem_cons.1 hb with e2 | hb1
      · rw [e2]; exact hs _ _ (h1 a ha1)
      · exact pw_of hs h2 a ha1 b hb1 hne

theorem HR.under0 {J : Inj} {B : World} {h : Nat → Option Blk} {w w' : World} (hh : HR J ro B h w) (hb : Below w.heap.size w w') : HR J ro B h w' := by
  refine ⟨hh.base.below (hb.mono hh.base.size), fun g b hg => ?_, hh.inj⟩
  have h1 := hh.blk g b hg
  have h2 := hb.block _ h1.lt
  unfold BR CR MR at *
  rw [h2]
  exact h1
theorem HR.more {J : Inj} {st : St} {w : World} (hh : HR J ro B st.hp.get w) (o : Obj) : HR J ro B st.hp.get (w.alloc o) := hh.under0 ((Below.refl _ w).alloc (Nat.le_refl _) o)
theorem Post.more {J : Inj} {st : St} {w : World} (hn : J.nx = st.nx) (hh : HR J ro B st.hp.get w) (hro : ro ≤ J.nx) (o : Obj) : Post J ro B st w J st (w.alloc o) :=
  ⟨Inj.le.refl J, hn, hh.more o, (Below.refl _ w).alloc hh.base.size o, Ext.refl _, hro, Fr.same fun i hi => Below.heap_alloc w o i hi⟩

/-- A region whose order is open, where rows of constants may be laid before their turn. -/
theorem runP_sound {nt : Nat} {call : CallF} (hcall : CallOK P ro B call) (hname : ∀ (f : Nat) (fn : Func), P.funcs[f]? = some fn → (fn.name == "runtime.NumGoroutine") = false) {ops : Array Oper} {Q : Exit → Act → World → Prop}
    (hsel : Region.noSelect ops = true) (hQp : ∀ c a w, ¬ Q (.panic c) a w) (hpen : penOK P ops = true) {J0 : Inj} {st0 : St} {w0 : World} {fr' : T V} {st' : St} (hB0 : B.heap.size ≤ w0.heap.size)
    (hQ : ∀ J' a' w', Post J0 ro B st0 w0 J' st' w' → FR J' nt fr' a'.tmps → a'.defers = [] → Q .normal a' w') :
    ∀ (fuel : Nat) (lA : Array Bool) (l : List (Nat × Oper)) (es : List Ent) (fr : T V) (st : St), planP P ops fuel lA = some l → runO P ro nt call ops l es fr st = some (fr', st') →
      ∀ (F : Nat) (J : Inj) (w : World) (a0 a : Act) (listed : Array Bool) (pens : List (Nat × Nat)) (E : List Held), PInv P ro B nt ops J0 st0 w0 lA es fr st F J w a0 a listed pens E → wpAnyE P .any ops Q (Old B) F listed E a w := by
  have lt : ∀ {k : Nat} {o : Oper}, ops[k]? = some o → k < ops.size := fun {k o} hk => by
    rcases Nat.lt_or_ge k ops.size with q | q
    · exact q
    · rw [Array.getElem?_eq_none q] at hk; cases hk
  have hsel' := Region.noSelect_spec hsel
  intro fuel
  induction fuel with
  | zero =>
    intro lA l es fr st hp h F J w a0 a listed pens E I
    simp only [planP] at hp
    split at hp
    · rename_i hall
      cases hp
      simp only [runO, Option.some.injEq, Prod.mk.injEq] at h
      obtain ⟨rfl, rfl⟩ := h
      have hl : ∀ j, j < ops.size → lA.getD j true = true := fun j hj => by
        rw [getD_tf (by rw [I.la]; exact hj)]
        exact List.all_eq_true.1 hall j (List.mem_range.2 hj)
      have hpe : pens = [] := by
        cases pens with
        | nil => rfl
        | cons q r =>
          obtain ⟨h1, o, d, n, cs, e, b, h2, _⟩ := I.pn q (List.mem_cons_self ..)
          rw [hl q.1 (lt h2)] at h1
          cases h1
      subst hpe
      have hr : Region.ready .any ops listed = [] := by
        refine List.eq_nil_iff_forall_not_mem.2 fun j hj => ?_
        obtain ⟨h0, o, ho, _⟩ := mem_ready.1 hj
        rw [I.lr j (lt ho), hl j (lt ho)] at h0
        cases h0
      have hf : FR J nt fr a.tmps := ⟨by rw [I.ax.sz]; exact I.fr.size, fun t v ht => by rw [I.ax.get t (fun q hq => by cases hq)]; exact I.fr.get t v ht⟩
      have q := hQ J a w I.acc hf (I.ax.df.trans I.df)
      cases F with
      | zero => exact ⟨hr, q⟩
      | succ F => exact fun _ => ⟨fun _ => q, fun i hi => by rw [hr] at hi; cases hi⟩
    · cases hp
  | succ fuel ih =>
    intro lA l es fr st hp h
    -- whatever comes next, and has not come up
    have common : ∀ {i : Nat} {o : Oper}, ops[i]? = some o → i ∈ Region.ready .any ops lA → ∀ {F : Nat} {J : Inj} {w : World} {a0 a : Act} {listed : Array Bool} {pens : List (Nat × Nat)} {E : List Held},
        PInv P ro B nt ops J0 st0 w0 lA es fr st F J w a0 a listed pens E → (∀ q ∈ pens, q.1 ≠ i) →
        listed.getD i true = false ∧ i ∈ Region.ready .any ops listed ∧ (∀ q ∈ pens, ∀ oq, ops[q.1]? = some oq → oq.apart ops o = true) ∧ (∀ q ∈ pens, ∀ oq d, ops[q.1]? = some oq → oq.dst = some d → o.dst ≠ some d) ∧ cntL ops (listed.setIfInBounds i true) + 1 ≤ F ∧
        (∀ j, j < ops.size → (listed.setIfInBounds i true).getD j true = ((lA.setIfInBounds i true).getD j true || pens.any fun q => q.1 == j)) ∧ (∀ q ∈ pens, ∀ x, (listed.setIfInBounds i true).getD x true = false → Region.waitsT .any ops q.1 x = false) := by
      intro i o hi hiA F J w a0 a listed pens E I hnp
      obtain ⟨hi0, o2, ho2, hdep⟩ := mem_ready.1 hiA
      rw [hi] at ho2
      cases ho2
      have hil := lt hi
      have hl0 : listed.getD i true = false := by
        rw [I.lr i hil, hi0, Bool.false_or]
        refine List.any_eq_false.2 fun q hq => ?_
        rw [beq_iff_eq]
        exact hnp q hq
      have hap : ∀ q ∈ pens, ∀ oq, ops[q.1]? = some oq → oq.apart ops o = true := by
        intro q hq oq hoq
        rcases (pen_spec hpen hoq hi (I.al q hq) (fun z => hnp q hq z.symm)).1 with z | z
        · obtain ⟨oj, hoj, e, he, hb, hon⟩ := Region.waitsFor_spec z
          rw [hi] at hoj
          cases hoj
          have h1 := hdep e he hb
          rw [hon, getD_both (I.pn q hq).1] at h1
          cases h1
        · exact z
      refine ⟨hl0, mem_ready.2 ⟨hl0, o, hi, fun e he hb => ?_⟩, hap, fun q hq oq d hoq hd => (Oper.apart_spec (hap q hq oq hoq)).2.1 d hd, ?_, fun j hj => ?_, fun q hq x hx => ?_⟩
      · have h1 := hdep e he hb
        have hlt : e.on < ops.size := by
          rcases Nat.lt_or_ge e.on ops.size with q | q
          · exact q
          · rw [← I.la] at q; simp [q] at h1
        rw [← getD_tf (by rw [I.ls]; exact hlt), I.lr _ hlt, getD_tf (by rw [I.la]; exact hlt), h1]
        rfl
      · have := cnt_set hl0 ops.size hil
        have h2 := I.cnt
        unfold cntL at h2 ⊢
        omega
      · by_cases e : i = j
        · subst e
          rw [getD_set_self, getD_set_self]
          rfl
        · rw [getD_set_ne true e, getD_set_ne true e]
          exact I.lr j hj
      · by_cases e : i = x
        · subst e
          rw [getD_set_self] at hx
          cases hx
        · rw [getD_set_ne true e] at hx
          exact I.clo q hq x hx
    have pens1 : ∀ {i : Nat} {J J1 : Inj} {st1 : St} {w w1 : World} {a0 a : Act} {F : Nat} {listed : Array Bool} {pens : List (Nat × Nat)} {E : List Held} {dst : Option Nat} {u : Value}, PInv P ro B nt ops J0 st0 w0 lA es fr st F J w a0 a listed pens E → (∀ q ∈ pens, q.1 ≠ i) →
        J.le J1 → w.heap.size ≤ w1.heap.size → Fr J st.hp.get w J1 st1.hp.get w1 → (∀ q ∈ pens, ∀ oq d, ops[q.1]? = some oq → oq.dst = some d → dst ≠ some d) →
        ∀ q ∈ pens, (lA.setIfInBounds i true).getD q.1 true = false ∧ Pen P ops w0.heap.size J1 st1 w1 (a.put dst u) q := by
      intro i J J1 st1 w w1 a0 a F listed pens E dst u I hnp hle hs hfr hd q hq
      obtain ⟨p1, p2⟩ := I.pn q hq
      obtain ⟨f1, f2, f3⟩ := p2.free
      exact ⟨by rw [getD_set_ne true (fun z => hnp q hq z.symm)]; exact p1, p2.keep hle hs (hfr q.2 f2 f3) (fun o ho => by
        cases hod : o.dst with
        | none => exact .inl rfl
        | some d => exact .inr fun z => hd q hq o d ho hod z.symm)⟩
    simp only [planP] at hp
    split at hp
    · -- one that may come first
      rename_i i hfind
      split at hp
      · rename_i o hfree hi
        split at hp
        · rename_i l' hp'
          cases hp
          intro F J w a0 a listed pens E I
          have hiA := List.mem_of_find?_eq_some hfind
          have hcls : Nat.ble (opCls o.op) 1 = true := by
            have := List.find?_some hfind
            simpa only [clsAt, hi] using this
          rw [Nat.ble_eq] at hcls
          have hnp : ∀ q ∈ pens, q.1 ≠ i := by
            intro q hq e
            obtain ⟨_, o', d, n, cs, e', b, h1, h2, _⟩ := I.pn q hq
            rw [e, hi] at h1
            cases h1
            exact h2.cls hcls
          obtain ⟨hl0, hready, hap, hdq, hcn, hlr, hclo⟩ := common hi hiA I hnp
          obtain ⟨hex, hwt⟩ := I.ax.op hsel hi hap
          have hn := I.acc.nx
          have hh := I.acc.hr
          have hf := I.fr
          have hvl := I.hvl
          cases F with
          | zero => omega
          | succ F =>
          have go : ∀ (v : Value) (e : Held) (es' : List Ent) (fr1 : T V), e.x = i → YieldsIf P ops (fun w => Old B w ∧ e.h w) o v a → e.h w → EntsOK P ro B J es' (e :: E) → (∀ c ∈ es', vload P st c.t c.id c.off = some c.v) → FR J nt fr1 (a0.put o.dst v).tmps →
              runO P ro nt call ops l' es' fr1 st = some (fr', st') → wpAnyE P .any ops Q (Old B) (F + 1) listed E a w := by
            intro v e es' fr1 hx hy he hes' hvl' hf1 hrun
            subst hx
            refine wpAnyE_first e hi hsel' (fun c a w q => (hQp _ _ _ q).elim) F listed E a w (fun j oj hj hji hun hno => Region.free_spec hi hfree j oj hj hji ?_ hno) hready hy hh.base he I.hE ?_
            · have := I.lr j (lt hj)
              rw [hun] at this
              cases hq : lA.getD j true with
              | false => rfl
              | true => rw [hq] at this; cases this
            · exact ih (lA.setIfInBounds e.x true) l' es' fr1 st hp' hrun F J w (a0.put o.dst v) (a.put o.dst v) (listed.setIfInBounds e.x true) pens (e :: E)
                { acc := I.acc, fr := hf1, df := by rw [put_defers]; exact I.df, ls := by rw [Array.size_setIfInBounds]; exact I.ls, la := by rw [Array.size_setIfInBounds]; exact I.la,
                  lr := hlr, cnt := by omega, ax := I.ax.put _ _, pn := pens1 I hnp (Inj.le.refl J) (Nat.le_refl _) (Fr.same fun _ _ => rfl) hdq, al := I.al, clo := hclo, rr := I.rr, hes := hes',
                  hE := fun e' he' => (List.mem_cons.1 he').elim (fun q => q ▸ he) (I.hE e'), hw := fun e' he' q hq => (List.mem_cons.1 he').elim (fun z => by rw [z]; exact I.clo q hq _ hl0) (fun z => I.hw e' z q hq), hvl := hvl' }
          have triv : EntsOK P ro B J es (⟨i, fun _ => True⟩ :: E) := fun e he => (List.mem_cons.1 he).elim (fun q => .inl (by subst q; intro _; trivial)) (I.hes e)
          simp only [runO] at h
          cases hw : vwanted ops fr o with
          | none => simp [hw] at h
          | some x =>
            have hwa := hwt.trans (vwanted_spec hf hw)
            cases x with
            | false =>
              simp only [hw] at h
              cases hpt : vput nt fr o.dst none with
              | none => simp [hpt] at h
              | some fr1 =>
                simp only [hpt] at h
                exact go undef ⟨i, fun _ => True⟩ es fr1 rfl (.inr ⟨hwa, rfl⟩) trivial triv hvl (hf.put (.inr ⟨rfl, rfl⟩) hpt) h
            | true =>
              simp only [hw] at h
              split at h
              · rename_i hc
                obtain ⟨q1, q2⟩ := opCls_quiet (.inl hc)
                cases hv : vop P ro call fr ⟨st.nx, .e, 0⟩ o.op with
                | none => simp [hv] at h
                | some r =>
                  obtain ⟨v, st1⟩ := r
                  simp only [hv] at h
                  cases hpt : vput nt fr o.dst v with
                  | none => simp [hpt] at h
                  | some fr1 =>
                    simp only [hpt] at h
                    obtain ⟨_, x, rfl, _, hok⟩ := vop_quiet (w := w) (st := ⟨st.nx, .e, 0⟩) hn (HR.empty hh.base) hf q1 q2 hv
                    refine go (x.real J) ⟨i, fun _ => True⟩ es fr1 rfl (.inl ⟨hwa, fun w2 hw2 => ?_⟩) trivial triv hvl (hf.put (.inl ⟨x, rfl, rfl, hok⟩) hpt) h
                    obtain ⟨_, x', hx', hr, _⟩ := vop_quiet (w := w2) (st := ⟨st.nx, .e, 0⟩) hn (HR.empty hw2.1) hf q1 q2 hv
                    cases hx'
                    rw [hex]
                    exact hr
              · rename_i hc
                obtain ⟨q1, q2⟩ := opCls_quiet (.inr hc)
                split at h
                · rename_i t x hop
                  split at h
                  · rename_i id off hx
                    cases hv : vload P st t id off with
                    | none => simp [hv] at h
                    | some v =>
                      simp only [hv] at h
                      cases hpt : vput nt fr o.dst (some v) with
                      | none => simp [hpt] at h
                      | some fr1 =>
                        simp only [hpt] at h
                        have vl : ∀ st2 : St, vload P st2 t id off = some v → vop P ro call fr st2 o.op = some (some v, st2) := fun st2 h2 => by rw [hop]; simp only [vop, hx, h2]
                        have yields : ∀ (J2 : Inj) (st2 : St) (w2 : World), J.le J2 → J2.nx = st2.nx → HR J2 ro B st2.hp.get w2 → vload P st2 t id off = some v → (execOp a.eval o).run P w2 = .ok (.value (v.real J)) w2 ∧ v.ok J2.nx := by
                          intro J2 st2 w2 hl hn2 hh2 hv2
                          obtain ⟨_, x', hx', hr, hok⟩ := vop_quiet (w := w2) (st := st2) hn2 hh2 (hf.mono hl) q1 q2 (vl st2 hv2)
                          cases hx'
                          obtain ⟨_, x'', hx'', _, hok0⟩ := vop_quiet (w := w) (st := st) hn hh hf q1 q2 (vl st hv)
                          cases hx''
                          rw [hex]
                          exact ⟨by rw [hr, V.real_le hl _ hok0], hok⟩
                        have here := yields J st w (Inj.le.refl J) hn hh hv
                        refine go (v.real J) ⟨i, fun w2 => (execOp a.eval o).run P w2 = .ok (.value (v.real J)) w2⟩ (⟨i, t, id, off, v⟩ :: es) fr1 rfl (.inl ⟨hwa, fun w2 hw2 => hw2.2⟩) here.1 ?_ (fun c hc => (List.mem_cons.1 hc).elim (fun q => by subst q; exact hv) (hvl c)) (hf.put (.inl ⟨v, rfl, rfl, by rw [hn] at *; exact here.2⟩) hpt) h
                        intro e he
                        rcases List.mem_cons.1 he with rfl | q
                        · exact .inr ⟨_, List.mem_cons_self .., rfl, fun J2 st2 w2 hl hn2 hh2 hv2 => (yields J2 st2 w2 hl hn2 hh2 hv2).1⟩
                        · exact (I.hes e q).imp (fun q => q) fun ⟨c, hc, hok⟩ => ⟨c, List.mem_cons_of_mem _ hc, hok⟩
                  · cases h
                · cases h
              · rename_i h0 h1
                exfalso
                rcases Nat.le_one_iff_eq_zero_or_eq_one.1 hcls with q | q
                · exact h0 q
                · exact h1 q
        · cases hp
      · cases hp
    · rename_i hfind
      split at hp
      · rename_i i hpick
        split at hp
        · rename_i o hc hi
          split at hp
          · rename_i l' hp'
            cases hp
            rw [Bool.and_eq_true] at hc
            obtain ⟨hc1, hall⟩ := hc
            have hiA : i ∈ Region.ready .any ops lA := by simpa using hc1
            have hcls : ¬ opCls o.op ≤ 1 := by
              have := List.find?_eq_none.1 hfind i hiA
              simpa only [clsAt, hi, Nat.ble_eq] using this
            simp only [runO] at h
            -- it has come up already
            have early : ∀ {F : Nat} {J : Inj} {w : World} {a0 a : Act} {listed : Array Bool} {pens : List (Nat × Nat)} {E : List Held}, PInv P ro B nt ops J0 st0 w0 lA es fr st F J w a0 a listed pens E → (∃ q ∈ pens, q.1 = i) → wpAnyE P .any ops Q (Old B) F listed E a w := by
              intro F J w a0 a listed pens E I ⟨q, hq, hqi⟩
              subst hqi
              obtain ⟨h0, o', d, n, cs, e, b, h1, hAL, h3, h4, h5, h6, h7⟩ := I.pn q hq
              rw [hi] at h1
              cases h1
              have hw : vwanted ops fr o = some true := by unfold vwanted; rw [hAL.grd]
              simp only [hw] at h
              split at h
              · omega
              · omega
              · simp only [hAL.vop] at h
                generalize hk : (Nat.ble st.nx (St.alloc ⟨st.nx, st.hp, st.nx⟩ b).ver || keepB P (St.alloc ⟨st.nx, st.hp, st.nx⟩ b) (aliveE ops q.1 es)) = kk at h
                cases kk with
                | false => simp at h
                | true =>
                simp only at h
                cases hpt : vput nt fr o.dst (some (mkA n st.nx)) with
                | none => simp [hpt] at h
                | some fr1 =>
                simp only [hpt, natF_eq] at h
                have hn := I.acc.nx
                have hpush := I.acc.hr.push (w' := w) (b := b) (r := q.2) (d := 0) (x := 0) (c := (cs.map (V.real J)).toArray) (hm0 := hAL.mp) (e := e) (fz := (0, 0)) (fun _ _ _ => rfl) I.acc.hr.base h7 (by omega) h6 (by simp [hAL.sz])
                  (fun k => by rw [hAL.op] at k; cases k) (fun o _ => by simp) (fun k v hv => by
                    rw [hAL.get k] at hv
                    have hm := List.mem_of_getElem? hv
                    exact ⟨hAL.ok J v hm, hAL.atom v hm, by simp [hv]⟩)
                have hget : ∀ g, (St.alloc ⟨st.nx, st.hp, st.nx⟩ b).hp.get g = if g = J.nx then some b else st.hp.get g := fun g => by
                  show (st.hp.upd st.nx (some b)).get g = _
                  rw [T.get_upd, hn]
                have hold : ∀ g bg, st.hp.get g = some bg → g ≠ J.nx := fun g bg hg => by have := (I.acc.hr.blk g bg hg).1; omega
                have hpw := pw_of (R := fun p q : Nat × Nat => p.1 ≠ q.1 ∧ p.2 ≠ q.2) (fun a b h => ⟨h.1.symm, h.2.symm⟩) I.rr
                have hle := J.le_push (q.2, 0, 0)
                have hfrr : ∀ r, r ≠ q.2 → Free J st.hp.get r → Free (J.push (q.2, 0, 0)) (St.alloc ⟨st.nx, st.hp, st.nx⟩ b).hp.get r := by
                  intro r hr hfree g bg hg
                  rw [hget] at hg
                  by_cases e1 : g = J.nx
                  · rw [e1, Inj.push_self]; exact fun z => hr z.symm
                  · rw [if_neg e1] at hg
                    rw [hle.m g (I.acc.hr.blk g bg hg).1]
                    exact hfree g bg hg
                have hsub : ∀ p ∈ pens.filter (fun p => !(p.1 == q.1)), p ∈ pens ∧ p.1 ≠ q.1 := fun p hp => by
                  obtain ⟨p1, p2⟩ := List.mem_filter.1 hp
                  exact ⟨p1, by simpa using p2⟩
                have hreal : (mkA n st.nx).real (J.push (q.2, 0, 0)) = rkA n q.2 := by
                  rw [← hn]; exact mkA_real J n q.2
                refine ih (lA.setIfInBounds q.1 true) l' (aliveE ops q.1 es) fr1 _ hp' h F (J.push (q.2, 0, 0)) w (a0.put o.dst (rkA n q.2)) a listed (pens.filter fun p => !(p.1 == q.1)) E
                  { acc := ?acc, fr := ?fr, df := by rw [put_defers]; exact I.df, ls := I.ls, la := by rw [Array.size_setIfInBounds]; exact I.la,
                    lr := ?lr, cnt := I.cnt, ax := ?ax, pn := ?pn, al := fun p hp => I.al p (hsub p hp).1, clo := fun p hp => I.clo p (hsub p hp).1, rr := I.rr.filter _, hes := ?hes,
                    hE := I.hE, hw := fun e he p hp => I.hw e he p (hsub p hp).1, hvl := ?hvl }
                case acc =>
                  refine ⟨I.acc.le.trans hle, by show J.nx + 1 = st.nx + 1; omega, ?_, I.acc.below, I.acc.ext.trans ⟨Nat.le_succ _, low_left _ _, fun g bg hg he => ?_⟩, Nat.le_succ_of_le I.acc.ro, fun r hr hfree => ?_⟩
                  · rw [show (⟨(St.alloc ⟨st.nx, st.hp, st.nx⟩ b).nx, (St.alloc ⟨st.nx, st.hp, st.nx⟩ b).hp, low st.ver (St.alloc ⟨st.nx, st.hp, st.nx⟩ b).ver⟩ : St).hp.get = fun g => if g = J.nx then some b else st.hp.get g from funext hget]
                    exact hpush
                  · show (St.alloc ⟨st.nx, st.hp, st.nx⟩ b).hp.get g = _
                    rw [hget, if_neg (hold g bg hg)]
                    exact hg
                  · obtain ⟨p1, p2⟩ := I.acc.fr r hr hfree
                    exact ⟨p1, hfrr r (by omega) p2⟩
                case fr => exact (I.fr.mono hle).put (.inl ⟨mkA n st.nx, rfl, hreal.symm, mkA_ok _ _ _ (by simp only [Inj.push]; omega)⟩) hpt
                case lr =>
                  intro j hj
                  rw [I.lr j hj]
                  by_cases e1 : q.1 = j
                  · have h1 : (pens.any fun p => p.1 == j) = true := List.any_eq_true.2 ⟨q, hq, by simpa using e1⟩
                    rw [h1, ← e1, getD_set_self]
                    simp
                  · rw [getD_set_ne true e1]
                    congr 1
                    rw [Bool.eq_iff_iff, List.any_eq_true, List.any_eq_true]
                    constructor
                    · rintro ⟨p, hp, hpj⟩
                      exact ⟨p, List.mem_filter.2 ⟨hp, by
                        have hpj' : p.1 = j := by simpa using hpj
                        have : p.1 ≠ q.1 := fun z => e1 (z.symm.trans hpj')
                        simpa using this⟩, hpj⟩
                    · rintro ⟨p, hp, hpj⟩
                      exact ⟨p, (hsub p hp).1, hpj⟩
                case ax =>
                  refine ⟨by rw [put_defers]; exact I.ax.df, ?_, fun t ht => ?_⟩
                  · rw [hAL.dst]; simp [Act.put, I.ax.sz]
                  · rw [hAL.dst]
                    simp only [Act.put]
                    by_cases e1 : d = t
                    · subst e1
                      rcases Nat.lt_or_ge d a.tmps.size with z | z
                      · rw [h3 z, Array.getElem?_setIfInBounds_self_of_lt (by rw [← I.ax.sz]; exact z)]
                      · rw [Array.getElem?_eq_none z, Array.getElem?_eq_none (by rw [Array.size_setIfInBounds, ← I.ax.sz]; exact z)]
                    · rw [Array.getElem?_setIfInBounds_ne e1]
                      refine I.ax.get t fun p hp op hop hd => ?_
                      by_cases e2 : p.1 = q.1
                      · rw [e2, hi] at hop
                        cases hop
                        rw [hAL.dst] at hd
                        exact e1 (Option.some.inj hd)
                      · exact ht p (List.mem_filter.2 ⟨hp, by simpa using e2⟩) op hop hd
                case pn =>
                  intro p hp
                  obtain ⟨p1, p2⟩ := hsub p hp
                  obtain ⟨f1, f2, f3⟩ := (I.pn p p1).2.free
                  refine ⟨by rw [getD_set_ne true (fun z => p2 z.symm)]; exact (I.pn p p1).1, ?_⟩
                  have := (I.pn p p1).2.keep (st1 := ⟨(St.alloc ⟨st.nx, st.hp, st.nx⟩ b).nx, (St.alloc ⟨st.nx, st.hp, st.nx⟩ b).hp, low st.ver (St.alloc ⟨st.nx, st.hp, st.nx⟩ b).ver⟩) (w1 := w) (dst := none) (u := undef) hle (Nat.le_refl _)
                    ⟨rfl, hfrr p.2 (hpw p p1 q hq (fun z => p2 (by rw [z]))).2 f3⟩ (fun o2 _ => by cases o2.dst <;> simp)
                  exact this
                case hes =>
                  intro e' he'
                  refine ((I.hes.mono hle) e' he').imp id ?_
                  rintro ⟨c, hc, k1, k2⟩
                  exact ⟨c, mem_aliveE hc (by rw [← k1]; exact I.hw e' he' q hq), k1, k2⟩
                case hvl =>
                  intro c hc
                  have k0 := I.hvl c (mem_aliveE' hc)
                  cases hg : st.hp.get c.id with
                  | none => simp [vload, hg] at k0
                  | some bg =>
                    have e1 : (St.alloc ⟨st.nx, st.hp, st.nx⟩ b).hp.get c.id = some bg := by
                      rw [hget, if_neg (hold _ bg hg)]
                      exact hg
                    unfold vload at k0 ⊢
                    rw [hg] at k0
                    dsimp only
                    rw [e1]
                    exact k0
            intro F
            induction F with
            | zero =>
              intro J w a0 a listed pens E I
              by_cases hmem : ∃ q ∈ pens, q.1 = i
              · exact early I hmem
              · have := (common hi hiA I (fun q hq z => hmem ⟨q, hq, z⟩)).2.2.2.2.1
                omega
            | succ F ihF =>
              intro J w a0 a listed pens E I
              by_cases hmem : ∃ q ∈ pens, q.1 = i
              · exact early I hmem
              have hnp : ∀ q ∈ pens, q.1 ≠ i := fun q hq z => hmem ⟨q, hq, z⟩
              obtain ⟨hl0, hready, hap, hdq, hcn, hlr, hclo⟩ := common hi hiA I hnp
              obtain ⟨hex, hwt⟩ := I.ax.op hsel hi hap
              have hn := I.acc.nx
              have hh := I.acc.hr
              have hf := I.fr
              have hro := I.acc.ro
              intro hcl0
              refine ⟨fun h0 => (by rw [h0] at hready; cases hready), fun j hj => ?_⟩
              by_cases hji : j = i
              · subst hji
                unfold wpOp
                simp only [hi]
                cases hw : vwanted ops fr o with
                | none => simp [hw] at h
                | some x =>
                  rw [hwt, vwanted_spec hf hw]
                  cases x with
                  | false =>
                    simp only [hw] at h
                    cases hpt : vput nt fr o.dst none with
                    | none => simp [hpt] at h
                    | some fr1 =>
                      simp only [hpt] at h
                      simp only [Bool.false_eq_true, if_false]
                      exact ⟨E, fun e he _ => he, ⟨hh.base, I.hE⟩, ih _ l' es fr1 st hp' h F J w (a0.put o.dst undef) (a.put o.dst undef) (listed.setIfInBounds j true) pens E
                        { acc := I.acc, fr := hf.put (.inr ⟨rfl, rfl⟩) hpt, df := by rw [put_defers]; exact I.df, ls := by rw [Array.size_setIfInBounds]; exact I.ls, la := by rw [Array.size_setIfInBounds]; exact I.la,
                          lr := hlr, cnt := by omega, ax := I.ax.put _ _, pn := pens1 I hnp (Inj.le.refl J) (Nat.le_refl _) (Fr.same fun _ _ => rfl) hdq, al := I.al, clo := hclo, rr := I.rr, hes := I.hes, hE := I.hE, hw := I.hw, hvl := I.hvl }⟩
                  | true =>
                    simp only [hw] at h
                    split at h
                    · omega
                    · omega
                    · cases hv : vop P ro call fr ⟨st.nx, st.hp, st.nx⟩ o.op with
                      | none => simp [hv] at h
                      | some r =>
                        obtain ⟨v, st1⟩ := r
                        simp only [hv] at h
                        generalize hk : (Nat.ble st.nx st1.ver || keepB P st1 (aliveE ops j es)) = kk at h
                        cases kk with
                        | false => simp at h
                        | true =>
                          simp only at h
                          cases hpt : vput nt fr o.dst v with
                          | none => simp [hpt] at h
                          | some fr1 =>
                            simp only [hpt, natF_eq] at h
                            simp only [if_true]
                            have hdone := vop_sound (st := ⟨st.nx, st.hp, st.nx⟩) hcall hname hn hh hro hf hv
                            rw [← hex] at hdone
                            refine .inl (wp_of_done hdone fun J1 w1 u hpost0 hu => ?_)
                            have hpost : Post J ro B st w J1 ⟨st1.nx, st1.hp, low st.ver st1.ver⟩ w1 := ⟨hpost0.le, hpost0.nx, hpost0.hr, hpost0.below, ⟨hpost0.ext.nx, low_left _ _, fun g b hg he => hpost0.ext.hp g b hg (Nat.lt_of_lt_of_le he (low_right _ _))⟩, hpost0.ro, hpost0.fr⟩
                            have hkeep : ∀ c ∈ aliveE ops j es, vload P st1 c.t c.id c.off = some c.v := by
                              intro c hc
                              rw [Bool.or_eq_true] at hk
                              rcases hk with q | q
                              · rw [Nat.ble_eq] at q
                                have h0 := I.hvl c (mem_aliveE' hc)
                                have hb : ∃ b, st.hp.get c.id = some b := by
                                  unfold vload at h0
                                  cases hg : st.hp.get c.id with
                                  | none => simp [hg] at h0
                                  | some b => exact ⟨b, rfl⟩
                                obtain ⟨b, hb⟩ := hb
                                have hlt := (hh.blk c.id b hb).1
                                have h1 := hpost0.ext.hp c.id b hb (by omega)
                                unfold vload at h0 ⊢
                                rw [h1]
                                rw [hb] at h0
                                exact h0
                              · exact keepB_mem q hc
                            have hE' : EntsOK P ro B J1 (aliveE ops j es) (E.filter fun e => !Region.waitsT .any ops j e.x) := by
                              intro e he
                              obtain ⟨he1, he2⟩ := List.mem_filter.1 he
                              refine ((I.hes.mono hpost.le) e he1).imp id ?_
                              rintro ⟨c, hc, h1, h2⟩
                              exact ⟨c, mem_aliveE hc (by rw [← h1]; simpa using he2), h1, h2⟩
                            have hold : ∀ e ∈ E.filter fun e => !Region.waitsT .any ops j e.x, e.h w1 := by
                              intro e he
                              rcases hE' e he with q | ⟨c, hc, h1, h2⟩
                              · exact q w1
                              · exact h2 J1 st1 w1 (Inj.le.refl _) hpost0.nx hpost0.hr (hkeep c hc)
                            exact ⟨E.filter fun e => !Region.waitsT .any ops j e.x, fun e he hwt => List.mem_filter.2 ⟨he, by simpa using hwt⟩, ⟨hpost.hr.base, hold⟩,
                              ih _ l' _ fr1 _ hp' h F J1 w1 (a0.put o.dst u) (a.put o.dst u) (listed.setIfInBounds j true) pens _
                                { acc := I.acc.trans hpost, fr := (hf.mono hpost.le).put hu hpt, df := by rw [put_defers]; exact I.df, ls := by rw [Array.size_setIfInBounds]; exact I.ls, la := by rw [Array.size_setIfInBounds]; exact I.la,
                                  lr := hlr, cnt := by omega, ax := I.ax.put _ _, pn := pens1 I hnp hpost.le hpost.below.size hpost.fr hdq, al := I.al, clo := hclo, rr := I.rr, hes := hE', hE := hold, hw := fun e he => I.hw e (List.mem_filter.1 he).1, hvl := hkeep }⟩
              · -- a row of constants, before its turn
                have haj : allocAt P ops j = true := by
                  rcases may_ready I.ls I.lr I.al hnp hall hj with q | q
                  · exact absurd q hji
                  · exact q
                obtain ⟨hj0, oj, hoj, hdep⟩ := mem_ready.1 hj
                have hjl := lt hoj
                have hob : allocB P oj = true := by
                  unfold allocAt at haj
                  rw [hoj] at haj
                  exact haj
                obtain ⟨d, n, cs, e, b, hAL⟩ := AL.of hob
                have hlAj : lA.getD j true = false := by
                  have := I.lr j hjl
                  rw [hj0] at this
                  cases hq : lA.getD j true with
                  | false => rfl
                  | true => rw [hq] at this; cases this
                have hjp : ∀ q ∈ pens, q.1 ≠ j := by
                  intro q hq z
                  have := I.lr j hjl
                  rw [hj0, hlAj, Bool.false_or] at this
                  have h1 := List.any_eq_false.1 this.symm q hq
                  rw [beq_iff_eq] at h1
                  exact h1 z
                unfold wpOp
                simp only [hoj]
                have hwj : Region.wanted oj (yielded ops a.tmps) = true := by unfold Region.wanted; rw [hAL.grd]
                rw [hwj]
                simp only [if_true]
                refine .inl ?_
                unfold Oper.wp
                rw [hAL.run J w a]
                show ∃ E', _
                have hm := hh.more (Obj.cells (cs.map (V.real J)).toArray e)
                have hsz : (w.alloc (Obj.cells (cs.map (V.real J)).toArray e)).heap.size = w.heap.size + 1 := by show (w.heap.push _).size = _; simp
                have hold : ∀ e' ∈ E.filter fun e => !Region.waitsT .any ops j e.x, e'.h (w.alloc (Obj.cells (cs.map (V.real J)).toArray e)) := by
                  intro e' he'
                  rcases I.hes e' (List.mem_filter.1 he').1 with q | ⟨c, hc, h1, h2⟩
                  · exact q _
                  · exact h2 J st _ (Inj.le.refl _) hn hm (I.hvl c hc)
                refine ⟨E.filter fun e => !Region.waitsT .any ops j e.x, fun e he hwt => List.mem_filter.2 ⟨he, by simpa using hwt⟩, ⟨hm.base, hold⟩,
                  ihF J (w.alloc (Obj.cells (cs.map (V.real J)).toArray e)) a0 (a.put oj.dst (rkA n w.heap.size)) (listed.setIfInBounds j true) ((j, w.heap.size) :: pens) (E.filter fun e => !Region.waitsT .any ops j e.x)
                    { acc := I.acc.trans (Post.more hn hh hro _), fr := hf, df := I.df, ls := by rw [Array.size_setIfInBounds]; exact I.ls, la := I.la,
                      lr := ?lr, cnt := ?cnt, ax := ?ax, pn := ?pn, al := ?al, clo := ?clo, rr := ?rr, hes := fun e' he' => I.hes e' (List.mem_filter.1 he').1, hE := hold, hw := ?hw, hvl := I.hvl }⟩
                case lr =>
                  intro k hk
                  rw [List.any_cons]
                  by_cases e1 : j = k
                  · subst e1
                    rw [getD_set_self]
                    simp
                  · rw [getD_set_ne true e1, I.lr k hk]
                    have : (j == k) = false := by simpa using e1
                    dsimp only
                    rw [this, Bool.false_or]
                case cnt =>
                  have h1 := cnt_set hj0 ops.size hjl
                  have h2 := I.cnt
                  unfold cntL at h2 ⊢
                  omega
                case ax =>
                  refine ⟨by rw [put_defers]; exact I.ax.df, by rw [hAL.dst]; simp [Act.put, I.ax.sz], fun t ht => ?_⟩
                  have h1 := ht (j, w.heap.size) (List.mem_cons_self ..) oj hoj
                  rw [hAL.dst] at h1 ⊢
                  have h2 : d ≠ t := fun z => h1 (by rw [z])
                  simp only [Act.put]
                  rw [Array.getElem?_setIfInBounds_ne h2]
                  exact I.ax.get t fun p hp => ht p (List.mem_cons_of_mem _ hp)
                case pn =>
                  intro q hq
                  rcases List.mem_cons.1 hq with rfl | hq
                  · refine ⟨hlAj, oj, d, n, cs, e, b, hoj, hAL, fun hlt => ?_, I.acc.below.size, by rw [hsz]; exact Nat.lt_succ_self _, fun g bg hg z => ?_, ?_⟩
                    · rw [hAL.dst] at hlt ⊢
                      simp only [Act.put, Array.size_setIfInBounds] at hlt ⊢
                      rw [Array.getElem?_setIfInBounds_self_of_lt hlt]
                    · have := (hh.blk g bg hg).lt
                      dsimp only at z
                      omega
                    · show (w.heap.push _)[w.heap.size]? = _
                      simp
                  · obtain ⟨f1, f2, f3⟩ := (I.pn q hq).2.free
                    exact ⟨(I.pn q hq).1, (I.pn q hq).2.keep (Inj.le.refl J) (by rw [hsz]; exact Nat.le_succ _) ⟨Below.heap_alloc w _ _ f2, f3⟩ (fun oq hoq => by
                      have := (pen_spec hpen hoq hoj (I.al q hq) (fun z => hjp q hq z.symm)).2 haj
                      exact .inr this)⟩
                case al =>
                  intro q hq
                  rcases List.mem_cons.1 hq with rfl | hq
                  · exact haj
                  · exact I.al q hq
                case clo =>
                  intro q hq x hx
                  have hxj : j ≠ x := by
                    intro z
                    subst z
                    rw [getD_set_self] at hx
                    cases hx
                  rw [getD_set_ne true hxj] at hx
                  rcases List.mem_cons.1 hq with rfl | hq
                  · cases hz : Region.waitsT .any ops j x with
                    | false => rfl
                    | true =>
                      obtain ⟨o2, ho2, ⟨e', he', hb, hon⟩ | ⟨d, hd2, hb, od, hod, e2, he2, hb2, hon⟩⟩ := Region.waitsT_spec hz
                      · rw [hoj] at ho2
                        cases ho2
                        have := hdep e' he' hb
                        rw [hon, getD_both hx] at this
                        cases this
                      · rw [hoj] at ho2
                        cases ho2
                        have := hcl0 _ _ hod (hdep d hd2 hb) e2 he2 hb2
                        rw [hon, getD_both hx] at this
                        cases this
                  · exact I.clo q hq x hx
                case rr =>
                  refine List.pairwise_cons.2 ⟨fun q hq => ⟨fun z => hjp q hq z.symm, fun z => ?_⟩, I.rr⟩
                  have := (I.pn q hq).2.free.2.1
                  dsimp only at z
                  omega
                case hw =>
                  intro e' he' q hq
                  obtain ⟨k1, k2⟩ := List.mem_filter.1 he'
                  rcases List.mem_cons.1 hq with rfl | hq
                  · simpa using k2
                  · exact I.hw e' k1 q hq
          · cases hp
        · cases hp
      · cases hp

/-- A REGION WHOSE ORDER IS OPEN. -/
theorem planOf_sound {nt : Nat} {call : CallF} (hcall : CallOK P ro B call) (hname : ∀ (f : Nat) (fn : Func), P.funcs[f]? = some fn → (fn.name == "runtime.NumGoroutine") = false) (hmix : P.follows .mixedOrders = true) {ops : Array Oper} {Q : Exit → Act → World → Prop}
    (hQp : ∀ c a w, ¬ Q (.panic c) a w) {id : Nat} {l : List (Nat × Oper)} {fr fr' : T V} {st st' : St} {J : Inj} {w : World} {a : Act} (hp : planOf P ops = some l) (h : runO P ro nt call ops l [] fr st = some (fr', st'))
    (hn : J.nx = st.nx) (hh : HR J ro B st.hp.get w) (hro : ro ≤ J.nx) (hf : FR J nt fr a.tmps) (hd : a.defers = []) (hQ : ∀ J' a' w', Post J ro B st w J' st' w' → FR J' nt fr' a'.tmps → a'.defers = [] → Q .normal a' w') : (Code.region id ops true).wp P Q a w := by
  unfold planOf at hp
  split at hp
  · rename_i hsel
    refine wp_region_any hmix (wpAny_of_E (S0 := Old B) _ _ [] _ _ (fun d od _ hl => by
      have z : (Array.replicate ops.size false)[d]?.getD false = false := by rw [Array.getElem?_replicate]; split <;> rfl
      simp only [Array.getD_eq_getD_getElem?] at hl
      rw [z] at hl
      cases hl) ?_)
    have p0 : Post J ro B st w J st { w with drawn := w.drawn + 1 } := ⟨Inj.le.refl J, hn, hh.congr rfl, ⟨rfl, rfl, rfl, Nat.le_refl _, fun _ _ => rfl⟩, Ext.refl _, hro, Fr.same fun _ _ => rfl⟩
    split at hp
    · rename_i l0 hp0
      cases hp
      exact runO_sound hcall hname hsel hQp ops.size _ l [] [] fr fr' st st' J _ a hp0 h hn p0.hr hro hf hd (fun _ h => by cases h) (fun _ h => by cases h) (fun _ h => by cases h) (fun J' a' w' hp' => hQ J' a' w' (p0.trans hp'))
    · cases hpen : penOK P ops with
      | false => rw [hpen] at hp; cases hp
      | true =>
        rw [hpen, cond_true] at hp
        exact runP_sound hcall hname hsel hQp hpen p0.hr.base.size (fun J' a' w' hp' => hQ J' a' w' (p0.trans hp')) ops.size _ l [] fr st hp h ops.size J _ a a (Array.replicate ops.size false) [] []
          { acc := Post.refl hn p0.hr hro, fr := hf, df := hd, ls := by simp, la := by simp, lr := fun j hj => by simp, cnt := by unfold cntL; exact Nat.le_trans (List.countP_le_length) (by simp), ax := ⟨rfl, rfl, fun _ _ => rfl⟩, pn := fun _ h => (List.not_mem_nil h).elim,
            al := fun _ h => (List.not_mem_nil h).elim, clo := fun _ h => (List.not_mem_nil h).elim, rr := List.Pairwise.nil, hes := fun _ h => (List.not_mem_nil h).elim, hE := fun _ h => (List.not_mem_nil h).elim, hw := fun _ h => (List.not_mem_nil h).elim, hvl := fun _ h => (List.not_mem_nil h).elim }
  · cases hp
end
end Go.Vm
