/-
  Blocks of bytes in the evaluator's memory, at contents that are not known. Nothing is claimed here.
-/
import Derived.Test.YtkmgbibhkilffaaGreatDoorVv
namespace Go.Vm

def cB (l : List UInt8) : List V := l.map fun c => V.i .u8 (c.toNat : Int)
theorem cB_len (l : List UInt8) : (cB l).length = l.length := by simp [cB]
theorem cB_get (l : List UInt8) (i : Nat) : (cB l)[i]? = (l[i]?).map fun c => V.i .u8 (c.toNat : Int) := by simp [cB]
theorem cB_atom (l : List UInt8) : ∀ v ∈ cB l, v.atom = true := by
  intro v hv
  obtain ⟨c, _, rfl⟩ := List.mem_map.1 hv
  rfl
theorem cellsOf_str (l : List UInt8) : cellsOfBytes l.length (packL l) = cB l := by rw [cellsOfBytes_eq, unpackL_packL]; rfl
theorem bytesOf_cB : ∀ l : List UInt8, bytesOfCells (cB l) = some l
  | [] => rfl
  | c :: r => by
    have := bytesOf_cB r
    simp only [cB, List.map_cons] at this ⊢
    simp [bytesOfCells, this]

theorem Blk.put_ok : ∀ (vs : List V) (b : Blk) (o : Nat), o + vs.length ≤ b.sz → (∀ v ∈ vs, v.atom = true) → ∃ b', b.put vs o = some b'
  | [], b, o, _, _ => ⟨b, rfl⟩
  | v :: r, b, o, h, ha => by
    simp only [Blk.put, V.force_eq]
    have h1 : Nat.blt o b.sz = true := by rw [Nat.blt_eq]; simp at h; omega
    rw [h1, ha v (List.mem_cons_self ..)]
    exact Blk.put_ok r (b.set o v) (o + 1) (by have : (b.set o v).sz = b.sz := rfl; rw [this]; simp at h; omega) (fun x hx => ha x (List.mem_cons_of_mem _ hx))
theorem blkOf_ok (cs : List V) (es : Nat) (op : Bool) (ha : ∀ v ∈ cs, v.atom = true) : ∃ b, blkOf cs es op = some b := Blk.put_ok cs _ 0 (by simp) ha

theorem Blk.row_ok {b : Blk} : ∀ (cs : List V) (o : Nat), (∀ j : Nat, j < cs.length → b.get (o + j) = cs[j]?) → b.row cs.length o = some cs
  | [], _, _ => rfl
  | v :: r, o, h => by
    have h0 := h 0 (by simp)
    simp only [Nat.add_zero, List.getElem?_cons_zero] at h0
    have hr := Blk.row_ok (b := b) r (o + 1) (fun j hj => by
      have := h (j + 1) (by simp; omega)
      rw [show o + 1 + j = o + (j + 1) from by omega, this]; simp)
    simp only [List.length_cons, Blk.row, h0, hr]

/-- Block id holds these bytes, and no others. -/
structure Byt (st : St) (id : Nat) (l : List UInt8) : Prop where
  b : ∃ b, st.hp.get id = some b ∧ b.sz = l.length ∧ b.es = 1 ∧ b.zero = [] ∧ ∀ i : Nat, b.get i = (cB l)[i]?
/-- All blocks below k are as they were. -/
structure Sub (k : Nat) (st st' : St) : Prop where
  nx : st.nx ≤ st'.nx
  same : ∀ id, id < k → st'.hp.get id = st.hp.get id
  ver : ∀ j, j ≤ k → j ≤ st.ver → j ≤ st'.ver

theorem Sub.refl (k : Nat) (st : St) : Sub k st st := ⟨Nat.le_refl _, fun _ _ => rfl, fun _ _ q => q⟩
theorem Sub.trans {k : Nat} {a b c : St} (h : Sub k a b) (h' : Sub k b c) : Sub k a c :=
  ⟨Nat.le_trans h.nx h'.nx, fun i hi => (h'.same i hi).trans (h.same i hi), fun j hj q => h'.ver j hj (h.ver j hj q)⟩
theorem Sub.less {k j : Nat} {a b : St} (h : Sub k a b) (hj : j ≤ k) : Sub j a b :=
  ⟨h.nx, fun i hi => h.same i (by omega), fun i hi q => h.ver i (by omega) q⟩
theorem Sub.then {k : Nat} {a b c : St} (h : Sub k a b) (h' : Sub b.nx b c) (hk : k ≤ a.nx) : Sub k a c := h.trans (h'.less (Nat.le_trans hk h.nx))
theorem Byt.keep {st st' : St} {id k : Nat} {l : List UInt8} (h : Byt st id l) (hs : Sub k st st') (hk : id < k) : Byt st' id l := by
  obtain ⟨b, h1, h2⟩ := h.b
  exact ⟨b, by rw [hs.same id hk, h1], h2⟩

theorem Sub.alloc {st : St} (b : Blk) : Sub st.nx st (st.alloc b) :=
  ⟨by unfold St.alloc; simp, fun i hi => by unfold St.alloc; dsimp only; rw [T.get_upd, if_neg (by omega)], fun _ _ q => q⟩
theorem low_ge {a b k : Nat} (h : k ≤ a) (h' : k ≤ b) : k ≤ low a b := by unfold low; cases Nat.ble a b <;> simp [h, h']
theorem Sub.write {st : St} {id k : Nat} (b : Blk) (hk : k ≤ id) : Sub k st (st.write id b) := by
  rw [St.write_eq]
  exact ⟨Nat.le_refl _, fun i hi => by dsimp only; rw [T.get_upd, if_neg (by omega)], fun j hj q => low_ge q (Nat.le_trans hj hk)⟩
theorem Byt.fresh {st : St} {l : List UInt8} {op : Bool} {b : Blk} (h : blkOf (cB l) 1 op = some b) : Byt (st.alloc b) st.nx l := by
  obtain ⟨h1, h2, _, h4, h5, _⟩ := blkOf_spec h
  exact ⟨b, by unfold St.alloc; dsimp only; rw [T.get_upd, if_pos rfl], by rw [h1, cB_len], h2, h4, h5⟩

section
variable {P : Program} {ov : Ov} {ro n nt : Nat} {call : CallF} {fr : T V} {st : St}

theorem sizeB_info {t : TypeId} {k : Nat} (h : sizeB P t = some k) : ∃ ti, P.info? t = some ti ∧ ti.size = k := by
  unfold sizeB at h
  cases e : P.info? t with
  | none => rw [e] at h; cases h
  | some ti => rw [e] at h; exact ⟨ti, rfl, Option.some.inj h⟩
/-- An operation that may change the memory. -/
theorem Ops.mem {ops : Array Oper} {l : List Oper} {K : T V → St → Prop} {d : Nat} {op : Op} {ty : TypeId} {pos : String} {after : Array Edge} {R : V → St → Prop} (h : ∃ v st', vop P ro (evF P ov ro n) fr st op = some (some v, st') ∧ R v st') (hd : Nat.blt d nt = true)
    (k : ∀ v st', R v st' → Ops P ov ro n nt ops l (fr.upd d (some v)) st' K) : Ops P ov ro n nt ops (⟨some d, op, ty, pos, after, none⟩ :: l) fr st K := by
  obtain ⟨v, st', h1, h2⟩ := h
  obtain ⟨fr', st2, h3, h4⟩ := k v st' h2
  exact ⟨fr', st2, by simp only [vops, vwanted, h1, vput, hd, cond_true, V.force_eq, h3], h4⟩
theorem Ops.eff {ops : Array Oper} {l : List Oper} {K : T V → St → Prop} {op : Op} {ty : TypeId} {pos : String} {after : Array Edge} {R : St → Prop} (h : ∃ st', vop P ro (evF P ov ro n) fr st op = some (none, st') ∧ R st')
    (k : ∀ st', R st' → Ops P ov ro n nt ops l fr st' K) : Ops P ov ro n nt ops (⟨none, op, ty, pos, after, none⟩ :: l) fr st K := by
  obtain ⟨st', h1, h2⟩ := h
  obtain ⟨fr', st2, h3, h4⟩ := k st' h2
  exact ⟨fr', st2, by simp only [vops, vwanted, h1, vput, h3], h4⟩

end
end Go.Vm
