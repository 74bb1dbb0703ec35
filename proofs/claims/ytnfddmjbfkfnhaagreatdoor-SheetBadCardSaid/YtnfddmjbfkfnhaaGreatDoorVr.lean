/-
  The evaluator's values and memory, held against the model's: relations and plain lemmas. Nothing is claimed here.
-/
import Derived.Test.YtnfddmjbfkfnhaaGreatDoorVm
import Derived.Below
import Derived.Laws.Strings
import Derived.Laws.Cells
import Derived.Lib.Strings
namespace Go.Vm

/-! ### Trees -/

theorem T.get_mkL {α : Type} (v : Option α) (r t : T α) (k : Nat) : (T.mkL v r t).get k = (T.n t v r).get k := by cases t <;> rfl
theorem T.get_mkR {α : Type} (l : T α) (v : Option α) (t : T α) (k : Nat) : (T.mkR l v t).get k = (T.n l v t).get k := by cases t <;> rfl
theorem T.get_e {α : Type} (k : Nat) : (T.e : T α).get k = none := rfl
theorem T.get_n {α : Type} (l r : T α) (v : Option α) (k : Nat) : (T.n l v r).get k = match k with
    | 0 => v
    | m + 1 => cond (Nat.beq (m % 2) 0) (l.get (m / 2)) (r.get (m / 2)) := rfl

theorem T.get_go {α : Type} (x : Option α) : ∀ (f : Nat) (t : T α) (i k : Nat), i < f → (T.go x f t i).get k = if k = i then x else t.get k := by
  intro f
  induction f with
  | zero => intro t i k h; omega
  | succ f ih =>
    intro t i k h
    cases i with
    | zero =>
      cases t <;> cases k <;> simp [T.go, T.get_n, T.get_e]
    | succ m =>
      have hm : m / 2 < f := by omega
      have key : ∀ (l r : T α) (v : Option α), (cond (Nat.beq (m % 2) 0) (T.mkL v r (T.go x f l (m / 2))) (T.mkR l v (T.go x f r (m / 2)))).get k = if k = m + 1 then x else (T.n l v r).get k := by
        intro l r v
        by_cases hp : m % 2 = 0
        · have hb : Nat.beq (m % 2) 0 = true := by rw [Nat.beq_eq]; exact hp
          simp only [hb, cond_true, T.get_mkL]
          cases k with
          | zero => simp [T.get_n]
          | succ j =>
            simp only [T.get_n]
            by_cases hj : j % 2 = 0
            · have hb' : Nat.beq (j % 2) 0 = true := by rw [Nat.beq_eq]; exact hj
              simp only [hb', cond_true, ih l (m / 2) (j / 2) hm]
              by_cases e : j = m
              · subst e; simp
              · have : ¬ (j / 2 = m / 2) := by omega
                have : ¬ (j + 1 = m + 1) := by omega
                simp [*]
            · have hb' : Nat.beq (j % 2) 0 = false := by rw [Bool.eq_false_iff]; intro h; rw [Nat.beq_eq] at h; exact hj h
              have : ¬ j = m := by omega
              simp [hb', this]
        · have hb : Nat.beq (m % 2) 0 = false := by rw [Bool.eq_false_iff]; intro h; rw [Nat.beq_eq] at h; exact hp h
          simp only [hb, cond_false, T.get_mkR]
          cases k with
          | zero => simp [T.get_n]
          | succ j =>
            simp only [T.get_n]
            by_cases hj : j % 2 = 0
            · have hb' : Nat.beq (j % 2) 0 = true := by rw [Nat.beq_eq]; exact hj
              have : ¬ j = m := by omega
              simp [hb', this]
            · have hb' : Nat.beq (j % 2) 0 = false := by rw [Bool.eq_false_iff]; intro h; rw [Nat.beq_eq] at h; exact hj h
              simp only [hb', cond_false, ih r (m / 2) (j / 2) hm]
              by_cases e : j = m
              · subst e; simp
              · have : ¬ (j / 2 = m / 2) := by omega
                have : ¬ (j + 1 = m + 1) := by omega
                simp [*]
      cases t with
      | e =>
        simp only [T.go]
        rw [key]
        cases k <;> simp [T.get_n, T.get_e]
      | n l v r =>
        simp only [T.go]
        rw [key]

theorem T.get_upd {α : Type} (t : T α) (i k : Nat) (x : Option α) : (t.upd i x).get k = if k = i then x else t.get k := T.get_go x (i + 1) t i k (Nat.lt_succ_self i)

/-! ### Forcing changes nothing -/

theorem natF_eq {R : Type} (n : Nat) (k : Nat → R) : natF n k = k n := by cases n <;> rfl
theorem intF_eq {R : Type} (n : Int) (k : Int → R) : intF n k = k n := by cases n <;> simp [intF, natF_eq]
theorem boolF_eq {R : Type} (n : Bool) (k : Bool → R) : boolF n k = k n := by cases n <;> rfl
theorem kindF_eq {R : Type} (n : IntKind) (k : IntKind → R) : kindF n k = k n := by cases n <;> rfl
theorem V.force_eq {R : Type} (v : V) (k : V → R) : v.force k = k v := by cases v <;> simp [V.force, natF_eq, intF_eq, boolF_eq, kindF_eq]

/-! ### Strings -/

theorem packL_lt (l : List UInt8) : packL l < 256 ^ l.length := by
  induction l with
  | nil => simp [packL]
  | cons c r ih =>
    have hc := c.toNat_lt
    simp only [packL, List.length_cons, Nat.pow_succ]
    have : 256 * packL r + 256 ≤ 256 * 256 ^ r.length := by
      have := Nat.mul_le_mul_left 256 (Nat.succ_le_of_lt ih)
      simpa [Nat.mul_add] using this
    omega
theorem length_unpackL (n x : Nat) : (unpackL n x).length = n := by
  induction n generalizing x with
  | zero => rfl
  | succ n ih => simp [unpackL, ih]
theorem unpackL_packL (l : List UInt8) : unpackL l.length (packL l) = l := by
  induction l with
  | nil => rfl
  | cons c r ih =>
    have hc := c.toNat_lt
    have h1 : (c.toNat + 256 * packL r) % 256 = c.toNat := by omega
    have h2 : (c.toNat + 256 * packL r) / 256 = packL r := by omega
    simp only [packL, List.length_cons, unpackL, h1, h2, ih]
    simp
theorem packL_unpackL (n x : Nat) (h : x < 256 ^ n) : packL (unpackL n x) = x := by
  induction n generalizing x with
  | zero => simp at h; simp [unpackL, packL, h]
  | succ n ih =>
    have : x / 256 < 256 ^ n := by rw [Nat.pow_succ] at h; omega
    simp only [unpackL, packL, ih _ this]
    have : (UInt8.ofNat (x % 256)).toNat = x % 256 := by simp
    rw [this]; omega
theorem unpackL_app (l m x y : Nat) (h : x < 256 ^ l) : unpackL (l + m) (x + 256 ^ l * y) = unpackL l x ++ unpackL m y := by
  induction l generalizing x with
  | zero => simp at h; subst h; simp [unpackL]
  | succ l ih =>
    have e : 256 ^ (l + 1) * y = 256 * (256 ^ l * y) := by rw [Nat.pow_succ, Nat.mul_comm (256 ^ l) 256, Nat.mul_assoc]
    have h1 : (x + 256 ^ (l + 1) * y) % 256 = x % 256 := by rw [e]; omega
    have h2 : (x + 256 ^ (l + 1) * y) / 256 = x / 256 + 256 ^ l * y := by rw [e]; omega
    have h3 : x / 256 < 256 ^ l := by rw [Nat.pow_succ] at h; omega
    rw [show l + 1 + m = (l + m) + 1 from by omega]
    simp only [unpackL, h1, h2, ih _ h3, List.cons_append]
theorem app_lt (l m x y : Nat) (h : x < 256 ^ l) (h' : y < 256 ^ m) : x + 256 ^ l * y < 256 ^ (l + m) := by
  rw [Nat.pow_add]
  calc x + 256 ^ l * y < 256 ^ l + 256 ^ l * y := by omega
    _ = 256 ^ l * (y + 1) := by rw [Nat.mul_add]; omega
    _ ≤ 256 ^ l * 256 ^ m := Nat.mul_le_mul_left _ h'
theorem unpackL_drop (n k x : Nat) : (unpackL (k + n) x).drop k = unpackL n (x / 256 ^ k) := by
  induction k generalizing x with
  | zero => simp
  | succ k ih =>
    rw [show k + 1 + n = (k + n) + 1 from by omega]
    simp only [unpackL, List.drop_succ_cons, ih]
    rw [Nat.div_div_eq_div_mul, Nat.pow_succ, Nat.mul_comm 256]
theorem unpackL_take (n k x : Nat) : (unpackL (n + k) x).take n = unpackL n x := by
  induction n generalizing x with
  | zero => simp [unpackL]
  | succ n ih =>
    rw [show n + 1 + k = (n + k) + 1 from by omega]
    simp only [unpackL, List.take_succ_cons, ih]
theorem unpackL_mod (n x : Nat) : unpackL n (x % 256 ^ n) = unpackL n x := by
  induction n generalizing x with
  | zero => rfl
  | succ n ih =>
    have h1 : x % 256 ^ (n + 1) % 256 = x % 256 := by
      rw [Nat.pow_succ, Nat.mul_comm]; exact Nat.mod_mul_right_mod x 256 (256 ^ n)
    have h2 : x % 256 ^ (n + 1) / 256 = x / 256 % 256 ^ n := by
      rw [Nat.pow_succ, Nat.mul_comm]; exact Nat.mod_mul_right_div_self x 256 (256 ^ n)
    simp only [unpackL, h1, h2, ih]
theorem unpackL_cut (n x lo hi : Nat) (h1 : lo ≤ hi) (h2 : hi ≤ n) : unpackL (hi - lo) (x / 256 ^ lo % 256 ^ (hi - lo)) = ((unpackL n x).drop lo).take (hi - lo) := by
  rw [unpackL_mod]
  have e : n = lo + ((hi - lo) + (n - hi)) := by omega
  rw [e, unpackL_drop, unpackL_take]
theorem unpackL_get (n x i : Nat) (h : i < n) : (unpackL n x)[i]? = some (UInt8.ofNat (byteAt x i)) := by
  induction n generalizing x i with
  | zero => omega
  | succ n ih =>
    cases i with
    | zero => simp [unpackL, byteAt]
    | succ i =>
      simp only [unpackL, List.getElem?_cons_succ, ih (x / 256) i (by omega), byteAt]
      rw [Nat.div_div_eq_div_mul, Nat.pow_succ, Nat.mul_comm 256]
theorem byteAt_lt (x i : Nat) : byteAt x i < 256 := Nat.mod_lt _ (by decide)
theorem unpackL_inj (l m x y : Nat) (hx : x < 256 ^ l) (hy : y < 256 ^ m) : (unpackL l x = unpackL m y) = (l = m ∧ x = y) := by
  apply propext
  constructor
  · intro h
    have h1 := congrArg List.length h
    rw [length_unpackL, length_unpackL] at h1
    have h2 := congrArg packL h
    rw [packL_unpackL _ _ hx, packL_unpackL _ _ hy] at h2
    exact ⟨h1, h2⟩
  · rintro ⟨rfl, rfl⟩; rfl
theorem unpackL_beq (l m x y : Nat) (hx : x < 256 ^ l) (hy : y < 256 ^ m) : (unpackL l x == unpackL m y) = (Nat.beq l m && Nat.beq x y) := by
  rw [Bool.eq_iff_iff]
  simp only [beq_iff_eq, Bool.and_eq_true, Nat.beq_eq]
  exact iff_of_eq (unpackL_inj l m x y hx hy)

/-! ### What a value stands for -/

/-- Where the blocks lie: block, first cell, further elements at the end. -/
structure Inj where
  nx : Nat
  m : Nat → Nat × Nat × Nat
  fix : ∀ g, g < GL → g < nx ∧ m g = (g, 0, 0)

mutual
def V.real (J : Inj) : V → Value
  | .b x => .bool x
  | .i k n => .int k n
  | .s l x => .string ⟨(unpackL l x).toArray⟩
  | .p g o => .pointer (some ⟨(J.m g).1, (J.m g).2.1 + o, none⟩)
  | .pn => .pointer none
  | .sl g o l c op => .slice (some ⟨(J.m g).1, (J.m g).2.1 + o, none⟩) l (c + cond op (J.m g).2.2 0)
  | .sn => .slice none 0 0
  | .se g o q => .slice (some ⟨(J.m g).1, (J.m g).2.1 + cond (Nat.beq (J.m g).2.2 0) o q, none⟩) 0 (J.m g).2.2
  | .ze x => .slice (some x) 0 0
  | .m g => .map (some (J.m g).1)
  | .mz => .map none
  | .sy g o q => .slice (some ⟨(J.m g).1, (J.m g).2.1 + cond (Nat.beq (J.m g).2.2 0) o q, none⟩) 0 0
  | .f fn xs ys => .func fn (V.reals J xs).toArray (V.reals J ys).toArray
  | .fz => .nilFunc
  | .nz => .nilIface
  | .a cs => .agg (V.reals J cs).toArray
  | .t vs => .tuple (V.reals J vs).toArray
def V.reals (J : Inj) : List V → List Value
  | [] => []
  | v :: r => V.real J v :: V.reals J r
end

mutual
/-- Its blocks are there, and its letters are bytes. -/
def V.ok (n : Nat) : V → Prop
  | .s l x => x < 256 ^ l
  | .p g _ => g < n
  | .sl g _ l c _ => g < n ∧ l ≤ c
  | .se g _ _ => g < n
  | .m g => g < n
  | .sy g _ _ => g < n
  | .f _ xs ys => V.oks n xs ∧ V.oks n ys
  | .a cs => V.oks n cs
  | .t vs => V.oks n vs
  | _ => True
def V.oks (n : Nat) : List V → Prop
  | [] => True
  | v :: r => V.ok n v ∧ V.oks n r
end

theorem V.reals_eq (J : Inj) (l : List V) : V.reals J l = l.map (V.real J) := by
  induction l with
  | nil => simp [V.reals]
  | cons v r ih => simp [V.reals, ih]
theorem V.oks_iff (n : Nat) (l : List V) : V.oks n l ↔ ∀ v ∈ l, V.ok n v := by
  induction l with
  | nil => simp [V.oks]
  | cons v r ih => simp [V.oks, ih]

structure Inj.le (J J' : Inj) : Prop where
  nx : J.nx ≤ J'.nx
  m : ∀ g, g < J.nx → J'.m g = J.m g
theorem Inj.le.refl (J : Inj) : J.le J := ⟨Nat.le_refl _, fun _ _ => rfl⟩
theorem Inj.le.trans {a b c : Inj} (h : a.le b) (k : b.le c) : a.le c := ⟨Nat.le_trans h.nx k.nx, fun g hg => (k.m g (Nat.lt_of_lt_of_le hg h.nx)).trans (h.m g hg)⟩

mutual
theorem V.real_le {J J' : Inj} (h : J.le J') : (v : V) → v.ok J.nx → v.real J' = v.real J
  | .b _, _ => rfl
  | .i _ _, _ => rfl
  | .s _ _, _ => rfl
  | .p g _, k => by simp only [V.ok] at k; simp only [V.real, h.m g k]
  | .pn, _ => rfl
  | .sl g _ _ _ _, k => by simp only [V.ok] at k; simp only [V.real, h.m g k.1]
  | .sn, _ => rfl
  | .se g _ _, k => by simp only [V.ok] at k; simp only [V.real, h.m g k]
  | .ze _, _ => rfl
  | .m g, k => by simp only [V.ok] at k; simp only [V.real, h.m g k]
  | .mz, _ => rfl
  | .sy g _ _, k => by simp only [V.ok] at k; simp only [V.real, h.m g k]
  | .f _ xs ys, k => by simp only [V.ok] at k; simp only [V.real, V.reals_le h xs k.1, V.reals_le h ys k.2]
  | .fz, _ => rfl
  | .nz, _ => rfl
  | .a cs, k => by simp only [V.ok] at k; simp only [V.real, V.reals_le h cs k]
  | .t vs, k => by simp only [V.ok] at k; simp only [V.real, V.reals_le h vs k]
theorem V.reals_le {J J' : Inj} (h : J.le J') : (l : List V) → V.oks J.nx l → V.reals J' l = V.reals J l
  | [], _ => rfl
  | v :: r, k => by simp only [V.oks] at k; simp only [V.reals, V.real_le h v k.1, V.reals_le h r k.2]
end
mutual
theorem V.ok_le {n m : Nat} (h : n ≤ m) : (v : V) → v.ok n → v.ok m
  | .b _, _ => by simp [V.ok]
  | .i _ _, _ => by simp [V.ok]
  | .s _ _, k => by simpa [V.ok] using k
  | .p g _, k => by simp only [V.ok] at k ⊢; omega
  | .pn, _ => by simp [V.ok]
  | .sl g _ _ _ _, k => by simp only [V.ok] at k ⊢; omega
  | .sn, _ => by simp [V.ok]
  | .se g _ _, k => by simp only [V.ok] at k ⊢; omega
  | .ze _, _ => by simp [V.ok]
  | .m g, k => by simp only [V.ok] at k ⊢; omega
  | .mz, _ => by simp [V.ok]
  | .sy g _ _, k => by simp only [V.ok] at k ⊢; omega
  | .f _ xs ys, k => by simp only [V.ok] at k ⊢; exact ⟨V.oks_le h xs k.1, V.oks_le h ys k.2⟩
  | .fz, _ => by simp [V.ok]
  | .nz, _ => by simp [V.ok]
  | .a cs, k => by simp only [V.ok] at k ⊢; exact V.oks_le h cs k
  | .t vs, k => by simp only [V.ok] at k ⊢; exact V.oks_le h vs k
theorem V.oks_le {n m : Nat} (h : n ≤ m) : (l : List V) → V.oks n l → V.oks m l
  | [], _ => by simp [V.oks]
  | v :: r, k => by simp only [V.oks] at k ⊢; exact ⟨V.ok_le h v k.1, V.oks_le h r k.2⟩
end

theorem V.real_plain (J J' : Inj) (v : V) (h : v.plain = true) : v.real J' = v.real J := by cases v <;> simp_all [V.plain, V.real]
theorem V.reals_plain (J J' : Inj) (l : List V) (h : l.all V.plain = true) : V.reals J' l = V.reals J l := by
  induction l with
  | nil => rfl
  | cons v r ih => simp only [List.all_cons, Bool.and_eq_true] at h; simp only [V.reals, V.real_plain J J' v h.1, ih h.2]
theorem V.real_plainT (J J' : Inj) (v : V) (h : v.plainT = true) : v.real J' = v.real J := by
  cases v with
  | a cs => simp only [V.real, V.reals_plain J J' cs (show cs.all V.plain = true from h)]
  | t cs => simp only [V.real, V.reals_plain J J' cs (show cs.all V.plain = true from h)]
  | _ => exact V.real_plain J J' _ h
theorem V.ok_plain (n m : Nat) (v : V) (h : v.plain = true) (k : v.ok n) : v.ok m := by cases v <;> simp_all [V.plain, V.ok]
theorem V.ok_plainT (n m : Nat) (v : V) (h : v.plainT = true) (k : v.ok n) : v.ok m := by
  have all : ∀ l : List V, l.all V.plain = true → V.oks n l → V.oks m l := by
    intro l h k
    rw [V.oks_iff] at k ⊢
    intro v hv
    rw [List.all_eq_true] at h
    exact V.ok_plain n m v (h v hv) (k v hv)
  cases v with
  | a cs => simp only [V.ok] at k ⊢; exact all cs (show cs.all V.plain = true from h) k
  | t cs => simp only [V.ok] at k ⊢; exact all cs (show cs.all V.plain = true from h) k
  | _ => exact V.ok_plain n m _ h k

theorem V.cells_real (J : Inj) (v : V) : (v.real J).cells = (v.cells.map (V.real J)).toArray := by
  cases v <;> simp [V.real, V.cells, Value.cells, V.reals_eq]
theorem V.oneCell_real (J : Inj) (v : V) (h : v.atom = true) : (v.real J).oneCell' = true := by
  cases v <;> simp_all [V.atom, V.real, Value.oneCell']
theorem V.ok_cells {n : Nat} {v : V} (h : v.ok n) : ∀ c ∈ v.cells, c.ok n := by
  cases v <;> simp_all [V.cells, V.ok, V.oks_iff]

end Go.Vm
