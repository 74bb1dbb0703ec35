/-
  Byte buffers that grow, in the evaluator's memory, at contents that are not known. Nothing is claimed here.
-/
import Derived.Test.YtbpbaicbaehhjaaGreatDoorVb
namespace Go.Vm

/-- The value is a slice, from its block's first cell on, of these bytes; its block is k or a later one. -/
structure Buf (k : Nat) (st : St) (v : V) (l : List UInt8) : Prop where
  b : ∃ id cap op b, v = .sl id 0 l.length cap op ∧ (k ≤ id ∧ id < st.nx) ∧ st.hp.get id = some b ∧ b.es = 1 ∧ l.length ≤ cap ∧ cap ≤ b.sz ∧ (op = true → b.op = true ∧ cap = b.sz) ∧ ∀ i : Nat, i < l.length → b.get i = (cB l)[i]?

theorem Buf.row {b : Blk} {l : List UInt8} (h : ∀ i : Nat, i < l.length → b.get i = (cB l)[i]?) : b.row l.length 0 = some (cB l) := by
  have := Blk.row_ok (b := b) (cB l) 0 (fun j hj => by rw [Nat.zero_add]; exact h j (by rwa [cB_len] at hj))
  rwa [cB_len] at this
theorem cB_app (a b : List UInt8) : cB (a ++ b) = cB a ++ cB b := by simp [cB]

/-- What a put behind the first cells leaves. -/
theorem put_behind {b b' : Blk} {l new : List UInt8} (h : ∀ i : Nat, i < l.length → b.get i = (cB l)[i]?) (hp : b.put (cB new) l.length = some b') :
    ∀ i : Nat, i < (l ++ new).length → b'.get i = (cB (l ++ new))[i]? := by
  obtain ⟨_, _, _, _, p5, _⟩ := Blk.put_spec _ _ _ _ hp
  intro i hi
  rw [List.length_append] at hi
  rw [p5 i, cB_app, cB_len]
  by_cases e : l.length ≤ i
  · rw [if_pos (by omega), List.getElem?_append_right (by rw [cB_len]; exact e), cB_len]
  · rw [if_neg (by omega), h i (by omega), List.getElem?_append_left (by rw [cB_len]; omega)]

section
variable {P : Program} {ov : Ov} {ro n nt : Nat} {call : CallF} {fr : T V} {st : St}

/-- append to a buffer. -/
theorem Do.append {t u e : TypeId} {d : TypeDesc} {x y : Operand} {xv yv : V} {l new : List UInt8} {k : Nat} (h1 : P.underlying t = some (.slice e)) (hI : ∃ ti, P.info? e = some ti ∧ ti.size = 1 ∧ ti.bytes = 1) (hz : zeroFits P e 1 = true)
    (hu : P.underlying u = some d) (hni : ∀ k, d ≠ .int k) (hx : opnd fr x = some xv) (hy : opnd fr y = some yv) (hb : Buf k st xv l) (hk : ro ≤ k) (hk2 : k ≤ st.nx) (hl : vlen yv = some new.length) (hf : vfirst st 1 new.length yv = some (cB new)) (hm : l.length + new.length ≤ 1099511627776) :
    ∃ v st', vop P ro call fr st (.call ⟨.builtin .append, #[x, y], #[t, u]⟩) = some (some v, st') ∧ Buf k st' v (l ++ new) ∧ Sub k st st' := by
  obtain ⟨ti, hi, hsz, hby⟩ := hI
  obtain ⟨id, cap, op, b, rfl, ⟨g2, gn⟩, g3, g4, g5, g6, g7, g8⟩ := hb.b
  have c1 : (Nat.blt 0 1 && Nat.blt 0 1 && zeroFits P e 1) = true := by rw [hz]; rfl
  have c2 : Nat.ble ((l.length + new.length) * 1) 1099511627776 = true := by rw [Nat.ble_eq]; omega
  have c2b : Nat.ble (l.length + new.length) 1099511627776 = true := by rw [Nat.ble_eq]; omega
  have hro : Nat.ble ro id = true := by rw [Nat.ble_eq]; omega
  have base : vop P ro call fr st (.call ⟨.builtin .append, #[x, y], #[t, u]⟩) = (match vappend P ro st t (.sl id 0 l.length cap op) yv with | some (v, st) => some (some v, st) | none => none) := by
    simp only [vop, opnds, hx, hy, vbuiltin, hu]
    cases d <;> first | rfl | exact absurd rfl (hni _)
  by_cases hc : l.length + new.length ≤ cap
  · obtain ⟨b', hb'⟩ := Blk.put_ok (cB new) b l.length (by rw [cB_len]; omega) (cB_atom new)
    have c3 : Nat.ble (l.length + new.length) cap = true := by rw [Nat.ble_eq]; exact hc
    obtain ⟨p1, p2, p3, p4, _, _⟩ := Blk.put_spec _ _ _ _ hb'
    refine ⟨.sl id 0 (l.length + new.length) cap op, st.write id b', ?_, ⟨id, cap, op, b', by rw [List.length_append], ⟨g2, by rw [St.write_eq]; exact gn⟩, by rw [St.write_eq]; dsimp only; rw [T.get_upd, if_pos rfl], p2.trans g4, by rw [List.length_append]; exact hc, by rw [p1]; exact g6, fun q => by rw [p3, p1]; exact g7 q, put_behind g8 hb'⟩, (Sub.write b' g2)⟩
    rw [base]
    simp only [vappend, h1, hi, hl, hsz, hby, hf, c1, cond_true, g3, c2b, c3, hro, Nat.zero_add, Nat.mul_one, hb', natF_eq]
  · have c3 : Nat.ble (l.length + new.length) cap = false := by rw [Bool.eq_false_iff]; intro q; rw [Nat.ble_eq] at q; exact hc q
    have grown : ∃ b', vgrown b 0 l.length 1 (cB new) = some b' ∧ b'.es = 1 ∧ b'.op = true ∧ b'.sz = l.length + new.length ∧ ∀ i : Nat, i < (l ++ new).length → b'.get i = (cB (l ++ new))[i]? := by
      unfold vgrown
      cases hq : (b.op && Nat.beq 0 0 && Nat.beq (l.length * 1) b.sz && Nat.beq b.es 1) with
      | true =>
        simp only [Bool.and_eq_true, Nat.beq_eq, Nat.mul_one] at hq
        simp only [cond_true]
        unfold Blk.grow
        obtain ⟨b', hb'⟩ := Blk.put_ok (cB new) { b with sz := b.sz + (cB new).length, op := true } l.length (by dsimp only; omega) (cB_atom new)
        have hq2 := hq.1.2
        rw [← hq2]
        rw [← hq2] at hb'
        obtain ⟨p1, p2, p3, p4, _, _⟩ := Blk.put_spec _ _ _ _ hb'
        refine ⟨b', hb', p2.trans g4, p3, by rw [p1, cB_len], put_behind (fun i hi => ?_) hb'⟩
        rw [← g8 i hi]
        unfold Blk.get
        dsimp only
        rw [show Nat.blt i (l.length + (cB new).length) = true from by rw [Nat.blt_eq]; omega, show Nat.blt i b.sz = true from by rw [Nat.blt_eq]; omega]
      | false =>
        simp only [cond_false, Nat.mul_one]
        rw [Buf.row g8]
        obtain ⟨b', hb'⟩ := blkOf_ok (cB l ++ cB new) 1 true (by intro v hv; rcases List.mem_append.1 hv with h | h; exact cB_atom _ _ h; exact cB_atom _ _ h)
        obtain ⟨q1, q2, q3, _, q5, _⟩ := blkOf_spec hb'
        exact ⟨b', hb', q2, q3, by rw [q1, List.length_append, cB_len, cB_len], fun i _ => by rw [q5, cB_app]⟩
    obtain ⟨b', hb', q1, q2, q3, q4⟩ := grown
    cases op with
    | false =>
      refine ⟨.sl st.nx 0 (l.length + new.length) (l.length + new.length) true, St.alloc ⟨st.nx, st.hp, st.ver⟩ b', ?_, ⟨st.nx, l.length + new.length, true, b', by rw [List.length_append], ⟨hk2, Nat.lt_succ_self _⟩, by unfold St.alloc; dsimp only; rw [T.get_upd, if_pos rfl], q1, by rw [List.length_append]; exact Nat.le_refl _, by omega, fun _ => ⟨q2, by omega⟩, q4⟩, (Sub.alloc (st := st) b').less hk2⟩
      rw [base]
      simp only [vappend, h1, hi, hl, hsz, hby, hf, c1, cond_true, cond_false, g3, c2, c3, hb', natF_eq]
    | true =>
      obtain ⟨r1, r2⟩ := g7 rfl
      have c4 : (Nat.ble ro id && b.op && Nat.beq b.es 1 && Nat.beq (0 + cap * 1) b.sz) = true := by
        rw [hro, r1, g4, r2]; simp
      refine ⟨.sl st.nx 0 (l.length + new.length) (l.length + new.length) true, St.alloc ⟨st.nx, (st.kill id).hp, (st.kill id).ver⟩ b', ?_, ⟨st.nx, l.length + new.length, true, b', by rw [List.length_append], ⟨hk2, Nat.lt_succ_self _⟩, by unfold St.alloc; dsimp only; rw [T.get_upd, if_pos rfl], q1, by rw [List.length_append]; exact Nat.le_refl _, by omega, fun _ => ⟨q2, by omega⟩, q4⟩, ?_⟩
      · rw [base]
        simp only [vappend, h1, hi, hl, hsz, hby, hf, c1, cond_true, g3, c2, c3, cond_false, hb', c4, natF_eq]
      · refine ⟨Nat.le_succ _, fun i hi => ?_, fun j hj q => ?_⟩
        · unfold St.alloc; dsimp only; rw [T.get_upd, if_neg (by omega), St.kill_eq]; dsimp only; rw [T.get_upd, if_neg (by omega)]
        · unfold St.alloc; dsimp only; rw [St.kill_eq]; exact low_ge q (by omega)

theorem Val.min1 {ts : Array TypeId} {x y : Operand} {m : Nat} (hx : opnd fr x = some (.i .i64 1)) (hy : opnd fr y = some (.i .i64 (m : Int))) : Val P ro call fr (.call ⟨.builtin .min, #[x, y], ts⟩) (.i .i64 ((min 1 m : Nat) : Int)) := by
  have := Val.minii (P := P) (ro := ro) (call := call) (ts := ts) hx hy
  rwa [show (if (m : Int) < 1 then (m : Int) else 1) = ((min 1 m : Nat) : Int) from by split <;> omega] at this
/-- A buffer with room. -/
theorem Do.make {t e : TypeId} {x y : Operand} {c : Nat} (h1 : P.underlying t = some (.slice e)) (hI : ∃ ti, P.info? e = some ti ∧ ti.size = 1 ∧ ti.bytes = 1) (hz : zeroOf P e = some (.i .u8 0)) (hx : opnd fr x = some (.i .i64 0)) (hy : opnd fr y = some (.i .i64 (c : Int))) (hm : c ≤ 1099511627776) :
    ∃ v st', vop P ro call fr st (.makeSlice t x y) = some (some v, st') ∧ Buf st.nx st' v [] ∧ Sub st.nx st st' := by
  obtain ⟨ti, hi, hsz, hby⟩ := hI
  have c1 : (ile 0 0 && ile 0 (c : Int) && ile ((1 : Int) * c) 1099511627776 && ile (c : Int) 1099511627776 && Nat.blt 0 1 && Nat.beq 1 1 && [V.i .u8 0].all V.atom) = true := by
    have : Nat.beq 1 1 = true := rfl
    have : Nat.blt 0 1 = true := rfl
    simp [ile, V.atom]; omega
  have hbuf : Buf st.nx (St.alloc ⟨st.nx, st.hp, st.ver⟩ ⟨.e, [.i .u8 0], c * 1, 1, false⟩) (.sl st.nx 0 0 c false) [] := by
    refine ⟨st.nx, c, false, ⟨.e, [.i .u8 0], c * 1, 1, false⟩, rfl, ⟨Nat.le_refl _, Nat.lt_succ_self _⟩, ?_, rfl, Nat.zero_le _, ?_, ?_, ?_⟩
    · unfold St.alloc; dsimp only; rw [T.get_upd, if_pos rfl]
    · dsimp only; omega
    · intro q; cases q
    · intro i hi; simp at hi
  refine ⟨.sl st.nx 0 0 c false, St.alloc ⟨st.nx, st.hp, st.ver⟩ ⟨.e, [.i .u8 0], c * 1, 1, false⟩, ?_, hbuf, Sub.alloc (st := st) _⟩
  simp only [vop, hx, hy, vmakeSlice, h1, hi, hz, hsz, hby, V.cells, List.length_singleton]
  rw [show ((1 : Nat) : Int) = 1 from rfl, c1]
  simp only [cond_true, natF_eq, Int.toNat_natCast, Int.toNat_zero]

/-- A slice of one byte. -/
theorem Do.build1 {t e : TypeId} {x : Operand} {c : UInt8} (h1 : P.underlying t = some (.slice e)) (hs : sizeB P e = some 1) (hz : zeroOf P e = some (.i .u8 0)) (hx : opnd fr x = some (.i .u8 (c.toNat : Int))) :
    ∃ v st', vop P ro call fr st (.buildSlice t 1 #[(0, x)]) = some (some v, st') ∧ v = .sl st.nx 0 1 1 false ∧ vfirst st' 1 1 (.sl st.nx 0 1 1 false) = some (cB [c]) ∧ Sub st.nx st st' ∧ st'.nx = st.nx + 1 := by
  obtain ⟨b, hb⟩ := blkOf_ok (cB [c]) 1 false (cB_atom _)
  obtain ⟨q1, q2, q3, _, q5, _⟩ := blkOf_spec hb
  refine ⟨_, St.alloc ⟨st.nx, st.hp, st.ver⟩ b, ?_, rfl, ?_, Sub.alloc (st := st) b, rfl⟩
  · have hp : partsOf fr [(0, x)] = some [(0, .i .u8 (c.toNat : Int))] := by simp only [partsOf, hx]
    have hb' : blkOf [.i .u8 (c.toNat : Int)] 1 false = some b := hb
    simp only [vop, hp, vbuildSlice, h1, hs, hz, V.cells]
    rw [show (Nat.ble (1 * 1) 16777216 && Nat.blt 0 1 && Nat.beq [V.i IntKind.u8 0].length 1) = true from rfl]
    simp only [cond_true, repeatL, List.append_nil, vfill, V.cells, Nat.zero_mul]
    rw [show (Nat.beq [V.i IntKind.u8 (c.toNat : Int)].length 1 && Nat.ble (0 + [V.i IntKind.u8 (c.toNat : Int)].length) [V.i IntKind.u8 0].length) = true from rfl]
    simp only [cond_true, setAt, List.set_cons_zero, hb', natF_eq]
  · simp only [vfirst, St.alloc]
    rw [T.get_upd, if_pos rfl]
    have := Blk.row_ok (b := b) (cB [c]) 0 (fun j _ => by rw [Nat.zero_add, q5])
    rwa [cB_len] at this

/-- A slice of one byte, and of three. -/
theorem Do.bytes1 {t e : TypeId} {x : Operand} {c : UInt8} (h1 : P.underlying t = some (.slice e)) (hs : sizeB P e = some 1) (hz : zeroOf P e = some (.i .u8 0)) (hx : opnd fr x = some (.i .u8 (c.toNat : Int))) :
    ∃ v st', vop P ro call fr st (.buildSlice t 1 #[(0, x)]) = some (some v, st') ∧ v = .sl st.nx 0 1 1 false ∧ Byt st' st.nx [c] ∧ Sub st.nx st st' := by
  obtain ⟨b, hb⟩ := blkOf_ok (cB [c]) 1 false (cB_atom _)
  refine ⟨_, St.alloc ⟨st.nx, st.hp, st.ver⟩ b, ?_, rfl, Byt.fresh (st := st) hb, Sub.alloc (st := st) b⟩
  have hp : partsOf fr [(0, x)] = some [(0, .i .u8 (c.toNat : Int))] := by simp only [partsOf, hx]
  have hb' : blkOf [.i .u8 (c.toNat : Int)] 1 false = some b := hb
  simp only [vop, hp, vbuildSlice, h1, hs, hz, V.cells]
  rw [show (Nat.ble (1 * 1) 16777216 && Nat.blt 0 1 && Nat.beq [V.i IntKind.u8 0].length 1) = true from rfl]
  simp only [cond_true, repeatL, List.append_nil, vfill, V.cells, Nat.zero_mul]
  rw [show (Nat.beq [V.i IntKind.u8 (c.toNat : Int)].length 1 && Nat.ble (0 + [V.i IntKind.u8 (c.toNat : Int)].length) [V.i IntKind.u8 0].length) = true from rfl]
  simp only [cond_true, setAt, List.set_cons_zero, hb', natF_eq]
theorem Do.bytes3 {t e : TypeId} {x y z : Operand} {a c d : UInt8} (h1 : P.underlying t = some (.slice e)) (hs : sizeB P e = some 1) (hz : zeroOf P e = some (.i .u8 0)) (hx : opnd fr x = some (.i .u8 (a.toNat : Int))) (hy : opnd fr y = some (.i .u8 (c.toNat : Int))) (hw : opnd fr z = some (.i .u8 (d.toNat : Int))) :
    ∃ v st', vop P ro call fr st (.buildSlice t 3 #[(0, x), (1, y), (2, z)]) = some (some v, st') ∧ v = .sl st.nx 0 3 3 false ∧ Byt st' st.nx [a, c, d] ∧ Sub st.nx st st' := by
  obtain ⟨b, hb⟩ := blkOf_ok (cB [a, c, d]) 1 false (cB_atom _)
  refine ⟨_, St.alloc ⟨st.nx, st.hp, st.ver⟩ b, ?_, rfl, Byt.fresh (st := st) hb, Sub.alloc (st := st) b⟩
  have hp : partsOf fr [(0, x), (1, y), (2, z)] = some [(0, .i .u8 (a.toNat : Int)), (1, .i .u8 (c.toNat : Int)), (2, .i .u8 (d.toNat : Int))] := by simp only [partsOf, hx, hy, hw]
  have hb' : blkOf [.i .u8 (a.toNat : Int), .i .u8 (c.toNat : Int), .i .u8 (d.toNat : Int)] 1 false = some b := hb
  have hf : vfill (fun i => some (i * 1, 1)) (repeatL (V.cells (V.i .u8 0)) 3) [(0, .i .u8 (a.toNat : Int)), (1, .i .u8 (c.toNat : Int)), (2, .i .u8 (d.toNat : Int))] = some [.i .u8 (a.toNat : Int), .i .u8 (c.toNat : Int), .i .u8 (d.toNat : Int)] := rfl
  simp only [vop, hp, vbuildSlice, h1, hs, hz]
  rw [show (Nat.ble (3 * 1) 16777216 && Nat.blt 0 1 && Nat.beq (V.cells (V.i IntKind.u8 0)).length 1) = true from rfl]
  simp only [cond_true, hf, hb', natF_eq]

/-- A buffer turned into a text. -/
theorem Do.bufText {t t' e : TypeId} {x : Operand} {l : List UInt8} {v : V} {k : Nat} (h1 : P.underlying t = some (.slice e)) (h2 : P.underlying t' = some .string) (h3 : P.underlying e = some (.int .u8)) (hx : opnd fr x = some v) (hb : Buf k st v l) :
    ∃ v st', vop P ro call fr st (.convert t t' x) = some (some v, st') ∧ v = V.str l ∧ st = st' := by
  obtain ⟨id, cap, op, b, rfl, ⟨g2, gn⟩, g3, g4, g5, g6, g7, g8⟩ := hb.b
  exact ⟨_, st, by simp only [vop, hx, vconv2, vconvert, h1, h2, h3, g3, vtext_of (Buf.row g8) (bytesOf_cB l)], rfl, rfl⟩
theorem Buf.keep {k : Nat} {st st' : St} {v : V} {l : List UInt8} (h : Buf k st v l) (hs : Sub st.nx st st') : Buf k st' v l := by
  obtain ⟨id, cap, op, b, rfl, ⟨g2, gn⟩, g3, g⟩ := h.b
  exact ⟨id, cap, op, b, rfl, ⟨g2, Nat.lt_of_lt_of_le gn hs.nx⟩, by rw [hs.same id gn, g3], g⟩
theorem first_str (st : St) (l : List UInt8) : vfirst st 1 l.length (V.str l) = some (cB l) := by
  simp only [vfirst, V.str]
  rw [show Nat.beq 1 1 = true from rfl]
  simp only [cond_true, cellsOf_str]
end
end Go.Vm
