/-
  append and the other builtins, and conversions. Nothing is claimed here.
-/
import Derived.Test.YtnfddmjbfkfnhaaGreatDoorVw
namespace Go.Vm
open Go.RowKit

section
variable {P : Program} {J : Inj} {ro : Nat} {B : World} {st : St} {w : World}

theorem append_room {t u ty e : TypeId} {ti : TypeInfo} {d : TypeDesc} (hd : P.underlying t = some (.slice e)) (hi : P.info? e = some ti) (hu : P.underlying u = some d) (hni : ∀ k, d ≠ .int k)
    {base : Option Addr} {sLen sCap n : Nat} {X : Value} {new : Array Value} (hl : (Builtin.lenOf X).run P w = .ok n w) (hf : (Builtin.firstCells ti.size n X).run P w = .ok new w) (hroom : sLen + n ≤ sCap) :
    (Builtin.append_ #[t, u] ty #[.slice base sLen sCap, X]).run P w =
      ((match base with | some a => storeCells (a.add (sLen * ti.size)) new.toList | none => pure () : Sem Unit).run P w).andThen fun _ w' => .ok (.slice base (sLen + n) sCap) w' := by
  have hz : (match d with | .int _ => true | _ => false) = false := by cases d <;> first | rfl | exact absurd rfl (hni _)
  simp only [Builtin.append_, List.getElem?_toArray, List.getElem?_cons_zero, List.getElem?_cons_succ, Sem.run_bind, run_underlying hd, run_underlying hu, Result.andThen_ok, sizeOf, typeInfo, run_program, hi, Sem.run_pure]
  cases d <;> first
    | exact absurd rfl (hni _)
    | (simp [hl, hf, hroom]; cases base <;> simp)

theorem append_grow {t u ty e : TypeId} {ti : TypeInfo} {d : TypeDesc} (hd : P.underlying t = some (.slice e)) (hi : P.info? e = some ti) (hu : P.underlying u = some d) (hni : ∀ k, d ≠ .int k)
    {base : Option Addr} {sLen sCap n : Nat} {X : Value} {old new : Array Value} {z : Value} (hz : ti.zero = some z) (hb : 0 < ti.bytes) (hl : (Builtin.lenOf X).run P w = .ok n w)
    (hf : (Builtin.firstCells ti.size n X).run P w.drew = .ok new w.drew) (ho : (Builtin.firstCells ti.size sLen (.slice base sLen sCap)).run P w.drew = .ok old w.drew)
    (hroom : ¬ sLen + n ≤ sCap) (hbound : (sLen + n) * ti.bytes ≤ 1099511627776) :
    ∃ c, sLen + n ≤ c ∧ (Builtin.append_ #[t, u] ty #[.slice base sLen sCap, X]).run P w =
      .ok (.slice (some ⟨w.heap.size, 0, none⟩) (sLen + n) c) (w.drew.alloc (.cells (old ++ new ++ Builtin.zeroCells z.cells (c - (sLen + n))) e)) := by
  have hneed : sLen + n ≤ 1099511627776 := Nat.le_trans (Nat.le_mul_of_pos_right _ hb) hbound
  have hbytes : ti.bytes ≤ 1099511627776 := Nat.le_trans (Nat.le_mul_of_pos_left _ (by omega)) hbound
  have hcap : ¬ (Builtin.nextslicecap (sLen + n) sCap * ti.bytes > 2 ^ 48) := by
    have h1 := nextslicecap_le (sLen + n) sCap (by omega)
    have h2 := Nat.mul_le_mul_right ti.bytes h1
    have h3 : (2 * (sLen + n) + 192) * ti.bytes = 2 * ((sLen + n) * ti.bytes) + 192 * ti.bytes := by rw [Nat.add_mul, Nat.mul_assoc]
    omega
  have hne : ¬ ti.bytes = 0 := by omega
  refine ⟨Question.cut (.appendCap (sLen + n) sCap e) (w.tape w.drawn (.appendCap (sLen + n) sCap e)), ?_, ?_⟩
  · simp only [Question.cut]; omega
  · simp only [Builtin.append_, List.getElem?_toArray, List.getElem?_cons_zero, List.getElem?_cons_succ, Sem.run_bind, run_underlying hd, run_underlying hu, Result.andThen_ok, sizeOf, typeInfo, run_program, hi, Sem.run_pure]
    cases d <;> first
      | exact absurd rfl (hni _)
      | simp only [Bool.false_eq_true, if_false, Sem.run_bind, hl, Result.andThen_ok, Sem.run_ite, if_neg hroom, typeInfo, run_program, hi, Sem.run_pure, if_neg hcap, run_choose, Question.forced, World.drew_eq, run_askRoom, ho, Bool.not_false, if_true, hf, zeroValue, hz, newRow, run_newObj, World.alloc_eq, World.size_drew, false_or, and_false, hne]
theorem V.real_sn (J : Inj) : V.sn.real J = .slice none 0 0 := by simp only [V.real]

/-- The elements of a slice, as they lie there. -/
theorem old_cells {J : Inj} {g off len : Nat} {w : World} {es k : Nat} {op : Bool} {cap : Nat} {c : Array Value} {e : TypeId} {fz : Nat × Nat}
    (hc : w.heap[(J.m g).1]? = some (.cells c e fz)) (hk : len * es = k) (hsz : k = 0 ∨ (J.m g).2.1 + off + k ≤ c.size) :
    (Builtin.firstCells es len ((V.sl g off len cap op).real J)).run P w = .ok (c.extract ((J.m g).2.1 + off) ((J.m g).2.1 + off + k)) w := by
  subst hk
  simp only [V.real, Builtin.firstCells]
  rcases hsz with h0 | hsz
  · rw [h0]; simp [loadCells, loadCellsFrom]; exact Nat.min_le_left _ _
  refine len_cells_at (fun j hj => ?_) hsz
  rw [Addr.add_lit]
  simp [World.cell?, hc]

/-- What is appended may be any value that has these elements. -/
theorem vappend_postX (hn : J.nx = st.nx) (hh : HR J ro B st.hp.get w) (hro : ro ≤ J.nx) {t u ty : TypeId} {d : TypeDesc} {s x v : V} {X : Value} {st' : St} (hu : P.underlying u = some d) (hni : ∀ k, d ≠ .int k)
    (hs : s.ok J.nx) (hx : x.ok J.nx) (h : vappend P ro st t s x = some (v, st'))
    (hX : ∀ (n es : Nat) (new : List V), vlen x = some n → vfirst st es n x = some new → ∀ w1 : World, w1.heap = w.heap → (Builtin.lenOf X).run P w1 = .ok n w1 ∧ (Builtin.firstCells es n X).run P w1 = .ok (new.map (V.real J)).toArray w1) :
    ∃ J' w', (Builtin.append_ #[t, u] ty #[s.real J, X]).run P w = .ok (v.real J') w' ∧ v.ok J'.nx ∧ Post J ro B st w J' st' w' := by
  unfold vappend at h
  cases hd : P.underlying t with
  | none => simp [hd] at h
  | some dt =>
  cases dt <;> simp only [hd, reduceCtorEq] at h
  rename_i e
  cases hi : P.info? e with
  | none => simp [hi] at h
  | some ti =>
  cases hl : vlen x with
  | none => simp [hi, hl] at h
  | some n =>
  simp only [hi, hl] at h
  cases hf : vfirst st ti.size n x with
  | none => simp [hf] at h
  | some new =>
  simp only [hf] at h
  generalize hc0 : (Nat.blt 0 ti.size && Nat.blt 0 ti.bytes && zeroFits P e ti.size) = c0 at h
  cases c0 with
  | false => simp at h
  | true =>
  simp only [cond_true, Bool.and_eq_true, Nat.blt_eq] at h hc0
  obtain ⟨⟨hsz, hby⟩, hzf⟩ := hc0
  obtain ⟨z, hz, hzl⟩ := zeroFits_real hzf
  obtain ⟨ti', z1, z2, _⟩ := zeroOf_real J J.nx hz
  rw [hi, Option.some.injEq] at z1
  subst z1
  obtain ⟨_, f2, f3, f4⟩ := vfirst_real (P := P) hh hx hl (Nat.le_refl _) hf
  have hlen := (hX n ti.size new hl hf w rfl).1
  have f1 := (hX n ti.size new hl hf w rfl).2
  have g1 := (hX n ti.size new hl hf w.drew rfl).2
  have hzc : ∀ k, (Builtin.zeroCells (z.real J).cells k).size = k * ti.size := fun k => by rw [size_zeroCells, V.cells_real]; simp [hzl]
  cases s with
  | sn =>
    simp only at h
    cases hb : Nat.ble (n * ti.bytes) 1099511627776 with
    | false => simp [hb] at h
    | true =>
    simp only [hb, cond_true] at h
    rw [Nat.ble_eq] at hb
    cases hn0 : Nat.beq n 0 with
    | true =>
      simp only [hn0, cond_true, Option.some.injEq, Prod.mk.injEq] at h
      obtain ⟨rfl, rfl⟩ := h
      have := Nat.eq_of_beq_eq_true hn0
      subst this
      refine ⟨J, w, ?_, by simp [V.ok], Post.refl hn hh hro⟩
      rw [V.real_sn, append_room hd hi hu hni hlen f1 (by omega)]
      simp
    | false =>
      simp only [hn0, cond_false] at h
      have hn0' : n ≠ 0 := Nat.ne_of_beq_eq_false hn0
      cases hbk : blkOf new ti.size true with
      | none => simp [hbk] at h
      | some b1 =>
        simp only [hbk, natF_eq, Option.some.injEq, Prod.mk.injEq] at h
        obtain ⟨rfl, rfl⟩ := h
        obtain ⟨b2, b3, b4, b5, b6, b7⟩ := blkOf_spec hbk
        obtain ⟨c, k1, k2⟩ := append_grow (P := P) (w := w) (ty := ty) hd hi hu hni (base := none) (sLen := 0) (sCap := 0) (old := #[]) z2 hby hlen g1 (by simp [Builtin.firstCells]) (by omega) (by simpa using hb)
        simp only [Nat.zero_add] at k1 k2
        refine ⟨J.push (w.heap.size, 0, c - n), _, ?_, ?_, grow_post (h0 := st.hp.get) (k := 0) (old := #[]) (newV := new) (e := e) hn hh hro (fun _ _ q => q) (fun _ => rfl) (Nat.le_refl _) (fun _ _ q _ => q) rfl rfl (hzc (c - n)) b3 (by rw [b2]; omega) b5 (blkOf_mp hbk) (fun o u hu => ?_) f3 f4⟩
        · rw [V.real_sn, k2, ← hn]
          simp only [V.real, Inj.push_self, Nat.zero_add, cond_true]
          rw [show n + (c - n) = c from by omega]
        · simp only [V.ok, Inj.push]; omega
        · rw [b6] at hu
          exact .inr ⟨Nat.zero_le _, by simpa using hu⟩
  | sl g off len cap op =>
    simp only at h
    cases hg : st.hp.get g with
    | none => simp [hg] at h
    | some b =>
    simp only [hg] at h
    cases hb : Nat.ble ((len + n) * ti.bytes) 1099511627776 with
    | false => simp [hb] at h
    | true =>
    simp only [hb, cond_true] at h
    rw [Nat.ble_eq] at hb
    simp only [V.ok] at hs
    have br := hh.blk g b hg
    cases hroom : Nat.ble (len + n) cap with
    | true =>
      simp only [hroom, cond_true] at h
      rw [Nat.ble_eq] at hroom
      cases hrog : Nat.ble ro g with
      | false => simp [hrog] at h
      | true =>
      simp only [hrog, cond_true] at h
      rw [Nat.ble_eq] at hrog
      cases hp : b.put new (off + len * ti.size) with
      | none => simp [hp] at h
      | some b' =>
        simp only [hp, natF_eq, Option.some.injEq, Prod.mk.injEq] at h
        obtain ⟨rfl, rfl⟩ := h
        obtain ⟨w', r1, r2, r3, r4⟩ := HR.put (P := P) new hh (g := g) (o := off + len * ti.size) (i := 0) hg hrog (by simpa using hp) f3
        refine ⟨J, w', ?_, by simp only [V.ok]; omega, Inj.le.refl J, by rw [St.write_eq]; exact hn, ?_, r3, Ext.write _ _ _, hro, Fr.write hg r4⟩
        · rw [V.real, append_room hd hi hu hni hlen f1 (by omega)]
          simp only [Addr.add_lit]
          rw [Nat.add_assoc, r1]
          simp [V.real]
        · rw [St.write_eq]
          show HR J ro B (st.hp.upd g (some b')).get w'
          rw [get_upd_fun]; exact r2
    | false =>
      simp only [hroom, cond_false] at h
      have hroom' : ¬ len + n ≤ cap := by intro q; rw [← Nat.ble_eq] at q; rw [q] at hroom; cases hroom
      cases hgr : vgrown b off len ti.size new with
      | none => simp [hgr] at h
      | some b1 =>
      simp only [hgr] at h
      have hmp := vgrown_mp hgr
      obtain ⟨k0, c0, e0, fz0, k1, k2, k3, k4, k5⟩ := br.cells hmp.1
      obtain ⟨w1, w2, w3, w4, wk, w5⟩ := vgrown_spec (fun q => (k3 q).2) hgr
      generalize hr : (J.m g).1 = r at *
      generalize hdd : (J.m g).2.1 = d0 at *
      generalize hxx : (J.m g).2.2 = x0 at *
      have hin : len * ti.size = 0 ∨ d0 + off + len * ti.size ≤ c0.size := wk.imp id (fun q => by omega)
      have hoc := old_cells (P := P) (J := J) (g := g) (off := off) (len := len) (w := w.drew) (op := op) (cap := cap) (es := ti.size) (c := c0) (e := e0) (fz := fz0) (by rw [hr]; exact k1) rfl (by rw [hdd]; exact hin)
      rw [hdd] at hoc
      have hold : ∀ o v, b1.get o = some v → (o < len * ti.size ∧ v.ok J.nx ∧ v.atom = true ∧ (c0.extract (d0 + off) (d0 + off + len * ti.size))[o]? = some (v.real J)) ∨ (len * ti.size ≤ o ∧ new[o - len * ti.size]? = some v) := by
        intro o v hv
        rcases w5 o v hv with ⟨q1, q2⟩ | q
        · obtain ⟨p1, p2, p3⟩ := k5 _ _ q2
          refine .inl ⟨q1, p1, p2, ?_⟩
          rw [Array.getElem?_extract, if_pos (by omega), Nat.add_assoc]
          exact p3
        · exact .inr q
      have hosz : (c0.extract (d0 + off) (d0 + off + len * ti.size)).size = len * ti.size := by
        rw [Array.size_extract]
        rcases hin with q | q <;> omega
      cases op with
      | false =>
        simp only [cond_false, natF_eq, Option.some.injEq, Prod.mk.injEq] at h
        obtain ⟨rfl, rfl⟩ := h
        simp only [V.real, cond_false, Nat.add_zero, hr, hdd] at hoc ⊢
        obtain ⟨c, m1, m2⟩ := append_grow (P := P) (w := w) (ty := ty) hd hi hu hni z2 hby hlen g1 hoc hroom' hb
        refine ⟨J.push (w.heap.size, 0, c - (len + n)), _, ?_, ?_, grow_post (h0 := st.hp.get) (k := len * ti.size) (newV := new) (e := e) hn hh hro (fun _ _ q => q) (fun _ => rfl) (Nat.le_refl _) (fun _ _ q _ => q) hosz rfl (hzc (c - (len + n))) w2 w1 w4 hmp.2 hold f3 f4⟩
        · rw [m2, ← hn]
          simp only [Inj.push_self, cond_true]
          rw [show len + n + (c - (len + n)) = c from by omega]
        · simp only [V.ok, Inj.push]; omega
      | true =>
        simp only [cond_true] at h
        generalize hc1 : (Nat.ble ro g && b.op && Nat.beq b.es ti.size && Nat.beq (off + cap * ti.size) b.sz) = c1 at h
        cases c1 with
        | false => simp at h
        | true =>
        simp only [cond_true, natF_eq, Option.some.injEq, Prod.mk.injEq] at h
        simp only [Bool.and_eq_true, Nat.ble_eq, Nat.beq_eq] at hc1
        obtain ⟨⟨⟨hrog, hbop⟩, hbes⟩, hend⟩ := hc1
        obtain ⟨rfl, rfl⟩ := h
        simp only [V.real, cond_true, hr, hdd, hxx] at hoc ⊢
        have hkill : ∀ k, (st.kill g).hp.get k = if k = g then none else st.hp.get k := fun k => by
          rw [St.kill_eq]
          show (st.hp.upd g none).get k = _
          rw [T.get_upd]
        have hkver : (st.kill g).ver = low st.ver g := by rw [St.kill_eq]
        have hkv := low_left st.ver g
        have hkr := low_right st.ver g
        have hkless : ∀ k bk, (if k = g then none else st.hp.get k) = some bk → st.hp.get k = some bk := by
          intro k bk hk
          by_cases e1 : k = g
          · simp [e1] at hk
          · simpa [e1] using hk
        by_cases hrm : len + n ≤ cap + x0
        · have hcs := (k3 hbop).1
          rw [hbes] at hcs
          have hmul : (len + n) * ti.size ≤ (cap + x0) * ti.size := Nat.mul_le_mul_right _ hrm
          have hsplit : (cap + x0) * ti.size = cap * ti.size + x0 * ti.size := Nat.add_mul ..
          have hsplit2 : (len + n) * ti.size = len * ti.size + n * ti.size := Nat.add_mul ..
          have hB := (k4 hrog).1
          have hfz := (k4 hrog).2
          obtain ⟨w', c', s1, s2, s3, s4, s5, s6, s7, s8, s9⟩ := store_raw (P := P) (new.map (V.real J)) w r (d0 + off + len * ti.size) 0 c0 e0 fz0 k1 (by rw [List.length_map]; omega) (fun o ho => (hfz o (by omega)).1) (fun v hv => by
            obtain ⟨u, hu, rfl⟩ := List.mem_map.1 hv
            exact V.oneCell_real J u (f4 u hu))
          have hbel : Below B.heap.size w w' := ⟨s7, s8, s9, by omega, fun k hk => s5 k (by omega)⟩
          have hpush := (hh.less hkless).push (w' := w') (b := b1) (r := r) (d := d0 + off) (x := cap + x0 - (len + n)) (c := c') (e := e0) (hm0 := hmp.2) (fz := fz0) (fun k bk hk => ?_) (hh.base.below hbel) s2 hB ?_ (by omega) (fun _ => ⟨?_, w4⟩) (by rw [s3, show b1.full = b.full from by unfold Blk.full; rw [w3, hbop]; rfl]; exact hfz) (fun o v hv => ?_)
          · refine ⟨J.push (r, d0 + off, cap + x0 - (len + n)), w', ?_, ?_, J.le_push _, by show J.nx + 1 = st.nx + 1; omega, ?_, hbel, ⟨Nat.le_succ _, by show (st.kill g).ver ≤ st.ver; omega, fun k x hx hk => ?_⟩, Nat.le_succ_of_le hro, ?_⟩
            · rw [append_room hd hi hu hni hlen f1 hrm]
              simp only [Addr.add_lit, s1, Result.andThen_ok]
              rw [← hn]
              simp only [Inj.push_self, Nat.add_zero]
              rw [show len + n + (cap + x0 - (len + n)) = cap + x0 from by omega]
            · simp only [V.ok, Inj.push]; omega
            · show HR _ ro B ((st.kill g).hp.upd st.nx (some b1)).get w'
              rw [get_upd_fun, show (st.kill g).hp.get = _ from funext hkill, ← hn]
              exact hpush
            · have hkk : k < (st.kill g).ver := hk
              have hlt := (hh.blk k x hx).1
              show ((st.kill g).hp.upd st.nx (some b1)).get k = some x
              rw [T.get_upd, if_neg (by omega), hkill, if_neg (by omega)]
              exact hx
            · refine Fr.push (h0 := fun k => if k = g then none else st.hp.get k) hkless (fun k bk hk => (hh.blk k bk hk).1) (.inr ⟨g, b, hg, hr⟩) (fun k bk hk => ?_) (fun i hi hf => s5 i (fun q => hf g b hg (hr.trans q.symm)))
              have hk : ((st.kill g).hp.upd st.nx (some b1)).get k = some bk := hk
              rw [T.get_upd] at hk
              by_cases e1 : k = st.nx
              · exact .inl (e1.trans hn.symm)
              · rw [if_neg e1, hkill] at hk; exact .inr hk
          · refine s5 _ (fun e1 => ?_)
            by_cases e2 : k = g
            · simp [e2] at hk
            · exact e2 (hh.inj k g bk b (hkless k bk hk) hg (e1.trans hr.symm))
          · intro k bk hk e1
            by_cases e2 : k = g
            · simp [e2] at hk
            · exact e2 (hh.inj k g bk b (hkless k bk hk) hg (e1.trans hr.symm))
          · rw [s3, w2, w1, f2, Nat.sub_mul]; omega
          · rcases w5 o v hv with ⟨q1, q2⟩ | ⟨q1, q2⟩
            · obtain ⟨p1, p2, p3⟩ := k5 _ _ q2
              refine ⟨p1, p2, ?_⟩
              rw [s4, if_neg (by omega), Nat.add_assoc]
              exact p3
            · have hm := List.mem_of_getElem? q2
              have hlt : o - len * ti.size < new.length := by
                rcases Nat.lt_or_ge (o - len * ti.size) new.length with q | q
                · exact q
                · rw [List.getElem?_eq_none q] at q2; cases q2
              refine ⟨f3 v hm, f4 v hm, ?_⟩
              rw [s4, if_pos (by rw [List.length_map]; omega), List.getElem?_map, show d0 + off + o - (d0 + off + len * ti.size + 0) = o - len * ti.size from by omega, q2]
              rfl
        · obtain ⟨c, m1, m2⟩ := append_grow (P := P) (w := w) (ty := ty) hd hi hu hni z2 hby hlen g1 hoc hrm hb
          refine ⟨J.push (w.heap.size, 0, c - (len + n)), _, ?_, ?_, grow_post (h0 := fun k => if k = g then none else st.hp.get k) (k := len * ti.size) (newV := new) (e := e) hn hh hro hkless hkill (by omega) (fun k x hx hk => by rw [if_neg (by omega)]; exact hx) hosz rfl (hzc (c - (len + n))) w2 w1 w4 hmp.2 hold f3 f4⟩
          · rw [m2, ← hn]
            simp only [Inj.push_self, Nat.zero_add]
            rw [show len + n + (c - (len + n)) = c from by omega]
          · simp only [V.ok, Inj.push]; omega
  | sy g0 o0 q0 =>
    simp only at h
    cases hb : Nat.ble (n * ti.bytes) 1099511627776 with
    | false => simp [hb] at h
    | true =>
    simp only [hb, cond_true] at h
    rw [Nat.ble_eq] at hb
    have hreal : (V.sy g0 o0 q0).real J = .slice (some ⟨(J.m g0).1, (J.m g0).2.1 + cond (Nat.beq (J.m g0).2.2 0) o0 q0, none⟩) 0 0 := rfl
    cases hn0 : Nat.beq n 0 with
    | true =>
      simp only [hn0, cond_true, Option.some.injEq, Prod.mk.injEq] at h
      obtain ⟨rfl, rfl⟩ := h
      have := Nat.eq_of_beq_eq_true hn0
      subst this
      refine ⟨J, w, ?_, by simpa [V.ok] using hs, Post.refl hn hh hro⟩
      have hnew : new = [] := List.length_eq_zero_iff.1 (by simpa using f2)
      subst hnew
      rw [hreal, append_room hd hi hu hni hlen f1 (by omega)]
      simp [storeCells]
    | false =>
      simp only [hn0, cond_false] at h
      have hn0' : n ≠ 0 := Nat.ne_of_beq_eq_false hn0
      cases hbk : blkOf new ti.size true with
      | none => simp [hbk] at h
      | some b1 =>
        simp only [hbk, natF_eq, Option.some.injEq, Prod.mk.injEq] at h
        obtain ⟨rfl, rfl⟩ := h
        obtain ⟨b2, b3, b4, b5, b6, b7⟩ := blkOf_spec hbk
        obtain ⟨c, k1, k2⟩ := append_grow (P := P) (w := w) (ty := ty) hd hi hu hni (base := some ⟨(J.m g0).1, (J.m g0).2.1 + cond (Nat.beq (J.m g0).2.2 0) o0 q0, none⟩) (sLen := 0) (sCap := 0) (old := #[]) z2 hby hlen g1 (by simp [Builtin.firstCells, loadCells, loadCellsFrom]) (by omega) (by simpa using hb)
        simp only [Nat.zero_add] at k1 k2
        refine ⟨J.push (w.heap.size, 0, c - n), _, ?_, ?_, grow_post (h0 := st.hp.get) (k := 0) (old := #[]) (newV := new) (e := e) hn hh hro (fun _ _ q => q) (fun _ => rfl) (Nat.le_refl _) (fun _ _ q _ => q) rfl rfl (hzc (c - n)) b3 (by rw [b2]; omega) b5 (blkOf_mp hbk) (fun o u hu => ?_) f3 f4⟩
        · rw [hreal, k2, ← hn]
          simp only [V.real, Inj.push_self, Nat.zero_add, cond_true]
          rw [show n + (c - n) = c from by omega]
        · simp only [V.ok, Inj.push]; omega
        · rw [b6] at hu
          exact .inr ⟨Nat.zero_le _, by simpa using hu⟩
  | ze a0 =>
    simp only at h
    cases hb : Nat.ble (n * ti.bytes) 1099511627776 with
    | false => simp [hb] at h
    | true =>
    simp only [hb, cond_true] at h
    rw [Nat.ble_eq] at hb
    have hreal : (V.ze a0).real J = .slice (some a0) 0 0 := rfl
    cases hn0 : Nat.beq n 0 with
    | true =>
      simp only [hn0, cond_true, Option.some.injEq, Prod.mk.injEq] at h
      obtain ⟨rfl, rfl⟩ := h
      have := Nat.eq_of_beq_eq_true hn0
      subst this
      refine ⟨J, w, ?_, by simp [V.ok], Post.refl hn hh hro⟩
      have hnew : new = [] := List.length_eq_zero_iff.1 (by simpa using f2)
      subst hnew
      rw [hreal, append_room hd hi hu hni hlen f1 (by omega)]
      simp [storeCells]
    | false =>
      simp only [hn0, cond_false] at h
      have hn0' : n ≠ 0 := Nat.ne_of_beq_eq_false hn0
      cases hbk : blkOf new ti.size true with
      | none => simp [hbk] at h
      | some b1 =>
        simp only [hbk, natF_eq, Option.some.injEq, Prod.mk.injEq] at h
        obtain ⟨rfl, rfl⟩ := h
        obtain ⟨b2, b3, b4, b5, b6, b7⟩ := blkOf_spec hbk
        obtain ⟨c, k1, k2⟩ := append_grow (P := P) (w := w) (ty := ty) hd hi hu hni (base := some a0) (sLen := 0) (sCap := 0) (old := #[]) z2 hby hlen g1 (by simp [Builtin.firstCells, loadCells, loadCellsFrom]) (by omega) (by simpa using hb)
        simp only [Nat.zero_add] at k1 k2
        refine ⟨J.push (w.heap.size, 0, c - n), _, ?_, ?_, grow_post (h0 := st.hp.get) (k := 0) (old := #[]) (newV := new) (e := e) hn hh hro (fun _ _ q => q) (fun _ => rfl) (Nat.le_refl _) (fun _ _ q _ => q) rfl rfl (hzc (c - n)) b3 (by rw [b2]; omega) b5 (blkOf_mp hbk) (fun o u hu => ?_) f3 f4⟩
        · rw [hreal, k2, ← hn]
          simp only [V.real, Inj.push_self, Nat.zero_add, cond_true]
          rw [show n + (c - n) = c from by omega]
        · simp only [V.ok, Inj.push]; omega
        · rw [b6] at hu
          exact .inr ⟨Nat.zero_le _, by simpa using hu⟩
  | _ => simp at h
theorem vappend_post (hn : J.nx = st.nx) (hh : HR J ro B st.hp.get w) (hro : ro ≤ J.nx) {t u ty : TypeId} {d : TypeDesc} {s x v : V} {st' : St} (hu : P.underlying u = some d) (hni : ∀ k, d ≠ .int k)
    (hs : s.ok J.nx) (hx : x.ok J.nx) (h : vappend P ro st t s x = some (v, st')) :
    ∃ J' w', (Builtin.append_ #[t, u] ty #[s.real J, x.real J]).run P w = .ok (v.real J') w' ∧ v.ok J'.nx ∧ Post J ro B st w J' st' w' :=
  vappend_postX hn hh hro hu hni hs hx h fun _ _ _ hl hf w1 hw => ⟨vlen_real (P := P) (J := J) (w := w1) hl, (vfirst_real (P := P) (hh.congr hw) hx hl (Nat.le_refl _) hf).1⟩

end
end Go.Vm
