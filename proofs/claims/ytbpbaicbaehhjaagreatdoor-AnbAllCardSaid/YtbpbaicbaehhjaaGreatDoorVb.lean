/-
  Blocks of bytes in the evaluator's memory, at contents that are not known. Nothing is claimed here.
-/
import Derived.Test.YtbpbaicbaehhjaaGreatDoorVv
namespace Go.Vm

def cB (l : List UInt8) : List V := l.map fun c => V.i .u8 (c.toNat : Int)
theorem cB_len (l : List UInt8) : (cB l).length = l.length := by simp [cB]
theorem cB_get (l : List UInt8) (i : Nat) : (cB l)[i]? = (l[i]?).map fun c => V.i .u8 (c.toNat : Int) := by simp [cB]
theorem cB_atom (l : List UInt8) : ∀ v ∈ cB l, v.atom = true := by
  intro v hv
  obtain ⟨c, _, rfl⟩ := List.mem_map.1 hv
  rfl
theorem cellsOf_str (l : List UInt8) : cellsOfBytes l.length (packL l) = cB l := by rw [cellsOfBytes_eq, unpackL_packL]; rfl
theorem bytesOf_cB : ∀ l : List UInt8, bytesOfCells (cB l) = some l
  | [] => rfl
  | c :: r => by
    have := bytesOf_cB r
    simp only [cB, List.map_cons] at this ⊢
    simp [bytesOfCells, this]

theorem Blk.put_ok : ∀ (vs : List V) (b : Blk) (o : Nat), o + vs.length ≤ b.sz → (∀ v ∈ vs, v.atom = true) → ∃ b', b.put vs o = some b'
  | [], b, o, _, _ => ⟨b, rfl⟩
  | v :: r, b, o, h, ha => by
    simp only [Blk.put, V.force_eq]
    have h1 : Nat.blt o b.sz = true := by rw [Nat.blt_eq]; simp at h; omega
    rw [h1, ha v (List.mem_cons_self ..)]
    exact Blk.put_ok r (b.set o v) (o + 1) (by have : (b.set o v).sz = b.sz := rfl; rw [this]; simp at h; omega) (fun x hx => ha x (List.mem_cons_of_mem _ hx))
theorem blkOf_ok (cs : List V) (es : Nat) (op : Bool) (ha : ∀ v ∈ cs, v.atom = true) : ∃ b, blkOf cs es op = some b := Blk.put_ok cs _ 0 (by simp) ha

theorem Blk.row_ok {b : Blk} : ∀ (cs : List V) (o : Nat), (∀ j : Nat, j < cs.length → b.get (o + j) = cs[j]?) → b.row cs.length o = some cs
  | [], _, _ => rfl
  | v :: r, o, h => by
    have h0 := h 0 (by simp)
    simp only [Nat.add_zero, List.getElem?_cons_zero] at h0
    have hr := Blk.row_ok (b := b) r (o + 1) (fun j hj => by
      have := h (j + 1) (by simp; omega)
      rw [show o + 1 + j = o + (j + 1) from by omega, this]; simp)
    simp only [List.length_cons, Blk.row, h0, hr]

/-- Block id holds these bytes, and no others. -/
structure Byt (st : St) (id : Nat) (l : List UInt8) : Prop where
  b : ∃ b, st.hp.get id = some b ∧ b.sz = l.length ∧ b.es = 1 ∧ b.zero = [] ∧ ∀ i : Nat, b.get i = (cB l)[i]?
/-- All blocks below k are as they were. -/
structure Sub (k : Nat) (st st' : St) : Prop where
  nx : st.nx ≤ st'.nx
  same : ∀ id, id < k → st'.hp.get id = st.hp.get id
  ver : ∀ j, j ≤ k → j ≤ st.ver → j ≤ st'.ver

theorem Sub.refl (k : Nat) (st : St) : Sub k st st := ⟨Nat.le_refl _, fun _ _ => rfl, fun _ _ q => q⟩
theorem Sub.trans {k : Nat} {a b c : St} (h : Sub k a b) (h' : Sub k b c) : Sub k a c :=
  ⟨Nat.le_trans h.nx h'.nx, fun i hi => (h'.same i hi).trans (h.same i hi), fun j hj q => h'.ver j hj (h.ver j hj q)⟩
theorem Sub.less {k j : Nat} {a b : St} (h : Sub k a b) (hj : j ≤ k) : Sub j a b :=
  ⟨h.nx, fun i hi => h.same i (by omega), fun i hi q => h.ver i (by omega) q⟩
theorem Sub.then {k : Nat} {a b c : St} (h : Sub k a b) (h' : Sub b.nx b c) (hk : k ≤ a.nx) : Sub k a c := h.trans (h'.less (Nat.le_trans hk h.nx))
theorem Byt.keep {st st' : St} {id k : Nat} {l : List UInt8} (h : Byt st id l) (hs : Sub k st st') (hk : id < k) : Byt st' id l := by
  obtain ⟨b, h1, h2⟩ := h.b
  exact ⟨b, by rw [hs.same id hk, h1], h2⟩

theorem Sub.alloc {st : St} (b : Blk) : Sub st.nx st (st.alloc b) :=
  ⟨by unfold St.alloc; simp, fun i hi => by unfold St.alloc; dsimp only; rw [T.get_upd, if_neg (by omega)], fun _ _ q => q⟩
theorem St.alloc_ver (st : St) (b : Blk) : (st.alloc b).ver = st.ver := rfl
theorem St.alloc_nx (st : St) (b : Blk) : (st.alloc b).nx = st.nx + 1 := rfl
theorem low_ge {a b k : Nat} (h : k ≤ a) (h' : k ≤ b) : k ≤ low a b := by unfold low; cases Nat.ble a b <;> simp [h, h']
theorem Sub.write {st : St} {id k : Nat} (b : Blk) (hk : k ≤ id) : Sub k st (st.write id b) := by
  rw [St.write_eq]
  exact ⟨Nat.le_refl _, fun i hi => by dsimp only; rw [T.get_upd, if_neg (by omega)], fun j hj q => low_ge q (Nat.le_trans hj hk)⟩
theorem Byt.fresh {st : St} {l : List UInt8} {op : Bool} {b : Blk} (h : blkOf (cB l) 1 op = some b) : Byt (st.alloc b) st.nx l := by
  obtain ⟨h1, h2, _, h4, h5, _⟩ := blkOf_spec h
  exact ⟨b, by unfold St.alloc; dsimp only; rw [T.get_upd, if_pos rfl], by rw [h1, cB_len], h2, h4, h5⟩

section
variable {P : Program} {ov : Ov} {ro n nt : Nat} {call : CallF} {fr : T V} {st : St}

theorem sizeB_info {t : TypeId} {k : Nat} (h : sizeB P t = some k) : ∃ ti, P.info? t = some ti ∧ ti.size = k := by
  unfold sizeB at h
  cases e : P.info? t with
  | none => rw [e] at h; cases h
  | some ti => rw [e] at h; exact ⟨ti, rfl, Option.some.inj h⟩
/-- An operation that may change the memory. -/
theorem Ops.mem {ops : Array Oper} {l : List Oper} {K : T V → St → Prop} {d : Nat} {op : Op} {ty : TypeId} {pos : String} {after : Array Edge} {R : V → St → Prop} (h : ∃ v st', vop P ro (evF P ov ro n) fr st op = some (some v, st') ∧ R v st') (hd : Nat.blt d nt = true)
    (k : ∀ v st', R v st' → Ops P ov ro n nt ops l (fr.upd d (some v)) st' K) : Ops P ov ro n nt ops (⟨some d, op, ty, pos, after, none⟩ :: l) fr st K := by
  obtain ⟨v, st', h1, h2⟩ := h
  obtain ⟨fr', st2, h3, h4⟩ := k v st' h2
  exact ⟨fr', st2, by simp only [vops, vwanted, h1, vput, hd, cond_true, V.force_eq, h3], h4⟩
theorem Ops.eff {ops : Array Oper} {l : List Oper} {K : T V → St → Prop} {op : Op} {ty : TypeId} {pos : String} {after : Array Edge} {R : St → Prop} (h : ∃ st', vop P ro (evF P ov ro n) fr st op = some (none, st') ∧ R st')
    (k : ∀ st', R st' → Ops P ov ro n nt ops l fr st' K) : Ops P ov ro n nt ops (⟨none, op, ty, pos, after, none⟩ :: l) fr st K := by
  obtain ⟨st', h1, h2⟩ := h
  obtain ⟨fr', st2, h3, h4⟩ := k st' h2
  exact ⟨fr', st2, by simp only [vops, vwanted, h1, vput, h3], h4⟩

/-- A text turned into bytes. -/
theorem Do.toBytes {t t' e : TypeId} {x : Operand} {ds : TypeDesc} {s : List UInt8} (h1 : P.underlying t = some ds) (h2 : P.underlying t' = some (.slice e)) (h3 : P.underlying e = some (.int .u8)) (hx : opnd fr x = some (V.str s)) (hl : s.length ≤ 1099511627776) :
    ∃ v st', vop P ro call fr st (.convert t t' x) = some (some v, st') ∧ v = .sl st.nx 0 s.length s.length true ∧ Byt st' st.nx s ∧ Sub st.nx st st' ∧ st'.nx = st.nx + 1 ∧ st'.ver = st.ver := by
  obtain ⟨b, hb⟩ := blkOf_ok (cB s) 1 false (cB_atom s)
  have h4 : Nat.ble s.length 1099511627776 = true := by rw [Nat.ble_eq]; exact hl
  refine ⟨_, st.alloc b, ?_, rfl, Byt.fresh hb, Sub.alloc b, rfl, rfl⟩
  simp only [vop, hx, V.str, vconv2, vconvert, h1, h2, h3, h4, cond_true, cellsOf_str, hb, natF_eq]
/-- Bytes turned into a text. -/
theorem Do.toText {t t' e : TypeId} {x : Operand} {l : List UInt8} {id cap : Nat} {op : Bool} (h1 : P.underlying t = some (.slice e)) (h2 : P.underlying t' = some .string) (h3 : P.underlying e = some (.int .u8)) (hx : opnd fr x = some (.sl id 0 l.length cap op)) (hb : Byt st id l) :
    ∃ v st', vop P ro call fr st (.convert t t' x) = some (some v, st') ∧ v = V.str l ∧ st = st' := by
  obtain ⟨b, g1, g2, g3, _, g4⟩ := hb.b
  refine ⟨_, st, ?_, rfl, rfl⟩
  have hr : b.row l.length 0 = some (cB l) := by
    have := Blk.row_ok (b := b) (cB l) 0 (fun j _ => by rw [Nat.zero_add, g4])
    rwa [cB_len] at this
  simp only [vop, hx, vconv2, vconvert, h1, h2, h3, g1, vtext_of hr (bytesOf_cB l)]
theorem Val.lenSl {t e : TypeId} {x : Operand} {id off l cap : Nat} {op : Bool} (ht : P.underlying t = some (.slice e)) (hx : opnd fr x = some (.sl id off l cap op)) : Val P ro call fr (.call ⟨.builtin .len, #[x], #[t]⟩) (.i .i64 (l : Int)) :=
  ⟨rfl, fun st => by simp only [vop, opnds, hx, vbuiltin, vlenOp, ht]; rfl⟩
theorem Val.byteAddr {t e : TypeId} {x y : Operand} {k : IntKind} {id l cap i : Nat} {op : Bool} (ht : P.underlying t = some (.slice e)) (he : sizeB P e = some 1) (hx : opnd fr x = some (.sl id 0 l cap op)) (hy : opnd fr y = some (.i k (i : Int))) (hi : i < l) :
    Val P ro call fr (.indexAddr t x y) (.p id i) :=
  ⟨rfl, fun st => by
    have h1 : (ile 0 (i : Int) && ilt (i : Int) (l : Int)) = true := by simp [ile, ilt]; omega
    simp only [vop, hx, hy, vindexAddr, ht, he, h1, cond_true, Int.toNat_natCast, Nat.mul_one, Nat.zero_add]⟩
theorem Do.loadByte {t : TypeId} {x : Operand} {id i : Nat} {l : List UInt8} (ht : P.underlying t = some (.int .u8)) (hz : sizeB P t = some 1) (hx : opnd fr x = some (.p id i)) (hb : Byt st id l) (hl : i < l.length) :
    ∃ v st', vop P ro call fr st (.load t x) = some (some v, st') ∧ v = .i .u8 ((l.getD i 0).toNat : Int) ∧ st = st' := by
  obtain ⟨b, g1, _, _, _, g4⟩ := hb.b
  obtain ⟨ti, hi, _⟩ := sizeB_info hz
  have h1 : isAggB P t = false := by unfold isAggB; rw [ht]
  have h2 : b.get i = some (.i .u8 ((l.getD i 0).toNat : Int)) := by rw [g4, cB_get, List.getD_eq_getElem?_getD, List.getElem?_eq_getElem hl]; rfl
  exact ⟨_, st, by simp only [vop, hx, vload, g1, hi, ht, h1, cond_false, h2], rfl, rfl⟩
theorem Do.storeByte {t : TypeId} {x y : Operand} {id i : Nat} {c : Int} {l : List UInt8} (hz : sizeB P t = some 1) (hx : opnd fr x = some (.p id i)) (hy : opnd fr y = some (.i .u8 c)) (hc : 0 ≤ c ∧ c ≤ 255) (hro : ro ≤ id) (hb : Byt st id l) (hl : i < l.length) :
    ∃ st', vop P ro call fr st (.store t x y) = some (none, st') ∧ Byt st' id (l.set i (UInt8.ofNat c.toNat)) ∧ Sub id st st' ∧ st'.nx = st.nx := by
  obtain ⟨b, g1, g2, g3, g4, g5⟩ := hb.b
  obtain ⟨ti, hi, hz⟩ := sizeB_info hz
  obtain ⟨b', hb'⟩ := Blk.put_ok [.i .u8 c] b i (by simp; omega) (by simp [V.atom])
  obtain ⟨p1, p2, p3, p4, p5, _⟩ := Blk.put_spec _ _ _ _ hb'
  have h1 : Nat.ble ro id = true := by rw [Nat.ble_eq]; exact hro
  refine ⟨st.write id b', ?_, ⟨b', ?_, ?_, p2.trans g3, p4.trans g4, fun k => ?_⟩, Sub.write b' (Nat.le_refl _), by rw [St.write_eq]⟩
  · simp only [vop, hx, hy, vstore, g1, hi, V.cells, List.length_singleton, hz, h1, Bool.true_and, show Nat.beq 1 1 = true from rfl, cond_true, hb']
  · rw [St.write_eq]; dsimp only; rw [T.get_upd, if_pos rfl]
  · rw [p1, g2, List.length_set]
  · rw [p5 k]
    simp only [List.length_singleton]
    by_cases e : k = i
    · subst e
      rw [if_pos (by omega), Nat.sub_self, cB_get, List.getElem?_set_self hl]
      have h3 : (UInt8.ofNat c.toNat).toNat = c.toNat := by simp; omega
      simp only [List.getElem?_cons_zero, Option.map_some, h3]
      rw [Int.toNat_of_nonneg hc.1]
    · rw [if_neg (by omega), g5, cB_get, cB_get, List.getElem?_set_ne (by omega)]
end
end Go.Vm
