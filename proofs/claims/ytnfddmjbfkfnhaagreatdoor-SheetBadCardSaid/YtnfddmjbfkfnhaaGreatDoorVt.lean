/-
  Texts, rows and trees in the evaluator's memory: plain lemmas. Nothing is claimed here.
-/
import Derived.Test.YtnfddmjbfkfnhaaGreatDoorVd
namespace Go.Vm

section
variable {P : Program} {ov : Ov} {ro : Nat}
theorem T.get_same {α : Type} {t : T α} {i : Nat} {x : Option α} : (t.upd i x).get i = x := by rw [T.get_upd, if_pos rfl]
theorem packL_append (a b : List UInt8) : packL (a ++ b) = packL a + 256 ^ a.length * packL b := by
  induction a with
  | nil => simp [packL]
  | cons c r ih =>
    simp only [List.cons_append, packL, ih, List.length_cons, Nat.pow_succ]
    rw [Nat.mul_add, Nat.mul_comm (256 ^ r.length) 256, Nat.mul_assoc]; omega
theorem str_app (a b : List UInt8) : sApp a.length (packL a) b.length (packL b) = V.str (a ++ b) := by simp [sApp, V.str, packL_append]
theorem str_of (n x : Nat) (h : x < 256 ^ n) : V.s n x = V.str (unpackL n x) := by simp [V.str, length_unpackL, packL_unpackL n x h]
theorem str_cut (s : List UInt8) (lo hi : Nat) (h1 : lo ≤ hi) (h2 : hi ≤ s.length) : sCut (packL s) lo hi = V.str ((s.drop lo).take (hi - lo)) := by
  have h := unpackL_cut s.length (packL s) lo hi h1 h2
  rw [unpackL_packL] at h
  unfold sCut
  rw [str_of _ _ (Nat.mod_lt _ (Nat.pow_pos (by decide))), h]
theorem byteAt_packL (s : List UInt8) (i : Nat) (h : i < s.length) : byteAt (packL s) i = (s.getD i 0).toNat := by
  have h1 := unpackL_get s.length (packL s) i h
  rw [unpackL_packL] at h1
  have h2 : s.getD i 0 = UInt8.ofNat (byteAt (packL s) i) := by rw [List.getD_eq_getElem?_getD, h1]; rfl
  rw [h2]
  have := byteAt_lt (packL s) i
  simp; omega
theorem str_beq (a b : List UInt8) : (Nat.beq a.length b.length && Nat.beq (packL a) (packL b)) = (a == b) := by
  have h := unpackL_beq a.length b.length (packL a) (packL b) (packL_lt a) (packL_lt b)
  rw [unpackL_packL, unpackL_packL] at h
  exact h.symm
theorem wrap64 {a : Int} (h1 : -9223372036854775808 ≤ a) (h2 : a ≤ 9223372036854775807) : IntKind.i64.wrap a = a := by rw [IntKind.wrap_i64]; omega
def cB (l : List UInt8) : List V := l.map fun c => V.i .u8 (c.toNat : Int)
theorem cB_len (l : List UInt8) : (cB l).length = l.length := by simp [cB]
theorem cB_get (l : List UInt8) (i : Nat) : (cB l)[i]? = (l[i]?).map fun c => V.i .u8 (c.toNat : Int) := by simp [cB]
theorem cB_atom (l : List UInt8) : ∀ v ∈ cB l, v.atom = true := by
  intro v hv
  obtain ⟨c, _, rfl⟩ := List.mem_map.1 hv
  rfl
theorem cellsOf_str (l : List UInt8) : cellsOfBytes l.length (packL l) = cB l := by rw [cellsOfBytes_eq, unpackL_packL]; rfl
theorem bytesOf_cB : ∀ l : List UInt8, bytesOfCells (cB l) = some l
  | [] => rfl
  | c :: r => by
    have := bytesOf_cB r
    simp only [cB, List.map_cons] at this ⊢
    simp [bytesOfCells, this]
theorem Blk.put_ok : ∀ (vs : List V) (b : Blk) (o : Nat), o + vs.length ≤ b.sz → (∀ v ∈ vs, v.atom = true) → ∃ b', b.put vs o = some b'
  | [], b, o, _, _ => ⟨b, rfl⟩
  | v :: r, b, o, h, ha => by
    simp only [Blk.put, V.force_eq]
    have h1 : Nat.blt o b.sz = true := by rw [Nat.blt_eq]; simp at h; omega
    rw [h1, ha v (List.mem_cons_self ..)]
    exact Blk.put_ok r (b.set o v) (o + 1) (by have : (b.set o v).sz = b.sz := rfl; rw [this]; simp at h; omega) (fun x hx => ha x (List.mem_cons_of_mem _ hx))
theorem blkOf_ok (cs : List V) (es : Nat) (op : Bool) (ha : ∀ v ∈ cs, v.atom = true) : ∃ b, blkOf cs es op = some b := Blk.put_ok cs _ 0 (by simp) ha
theorem Blk.row_ok {b : Blk} : ∀ (cs : List V) (o : Nat), (∀ j : Nat, j < cs.length → b.get (o + j) = cs[j]?) → b.row cs.length o = some cs
  | [], _, _ => rfl
  | v :: r, o, h => by
    have h0 := h 0 (by simp)
    simp only [Nat.add_zero, List.getElem?_cons_zero] at h0
    have hr := Blk.row_ok (b := b) r (o + 1) (fun j hj => by
      have := h (j + 1) (by simp; omega)
      rw [show o + 1 + j = o + (j + 1) from by omega, this]; simp)
    simp only [List.length_cons, Blk.row, h0, hr]
theorem low_ge {a b k : Nat} (h : k ≤ a) (h' : k ≤ b) : k ≤ low a b := by unfold low; cases Nat.ble a b <;> simp [h, h']
theorem sizeB_info {t : TypeId} {k : Nat} (h : sizeB P t = some k) : ∃ ti, P.info? t = some ti ∧ ti.size = k := by
  unfold sizeB at h
  cases e : P.info? t with
  | none => rw [e] at h; cases h
  | some ti => rw [e] at h; exact ⟨ti, rfl, Option.some.inj h⟩
theorem first_str (st : St) (l : List UInt8) : vfirst st 1 l.length (V.str l) = some (cB l) := by
  simp only [vfirst, V.str]
  rw [show Nat.beq 1 1 = true from rfl]
  simp only [cond_true, cellsOf_str]
end
end Go.Vm
