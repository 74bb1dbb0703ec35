/-
 The faster evaluator tells nothing but what the evaluator tells: frames, operands, memory. Nothing is claimed here.
-/
import Derived.Test.YtbpbaicbaehhjaaGreatDoorVk
namespace Go.Vk
open Go.Vm
def Even {α : Type} (f : Nat → Option α) (r : α) : Prop := ∃ m, ∀ m', m ≤ m' → f m' = some r
theorem Even.const {α : Type} {o : Option α} {r : α} (h : o = some r) : Even (fun _ => o) r := ⟨0, fun _ _ => h⟩
theorem no {p : Prop} (h : false = true) : p := Bool.noConfusion h
theorem Zbq {x t f : Bool} (h : ifB x t f = true) : (x = true ∧ t = true) ∨ (x = false ∧ f = true) := by
 cases x
 ·exact .inr ⟨rfl, h⟩
 ·exact .inl ⟨rfl, h⟩
theorem ja8 {x t : Bool} (h : ifB x t false = true) : x = true ∧ t = true := by
 cases x
 ·exact no h
 ·exact ⟨rfl, h⟩
theorem jdh {o : Option V} {k : V → Bool} (h : ZgE o k = true) : ∃ v, o = some v ∧ k v = true := by
 cases o
 ·exact no h
 ·exact ⟨_, rfl, h⟩
theorem Jdt {v : V} {t f : Bool} (h : onB v t f = true) : (v = .b true ∧ t = true) ∨ (v = .b false ∧ f = true) := by
 cases v with
 | b x =>
  cases x
  ·exact .inr ⟨rfl, h⟩
  ·exact .inl ⟨rfl, h⟩
 | _ => exact no h
theorem ZdV {v : V} {t f d : Bool} (h : Jhr v t f d = true) : (v = .b true ∧ t = true) ∨ (v = .b false ∧ f = true) ∨ ((∀ x, v ≠ .b x) ∧ d = true) := by
 cases v with
 | b x =>
  cases x
  ·exact .inr (.inl ⟨rfl, h⟩)
  ·exact .inl ⟨rfl, h⟩
 | _ => exact .inr (.inr ⟨fun x e => (by cases e), h⟩)
theorem Zax {v : V} {k : IntKind → Int → Bool} (h : onI v k = true) : ∃ kd n, v = .i kd n ∧ k kd n = true := by
 cases v with
 | i kd n => exact ⟨kd, n, rfl, h⟩
 | _ => exact no h
theorem zdu {v : V} {k : Nat → Nat → Bool} (h : onS v k = true) : ∃ l x, v = .s l x ∧ k l x = true := by
 cases v with
 | s l x => exact ⟨l, x, rfl, h⟩
 | _ => exact no h
theorem Jbq {v : V} {k : Nat → Nat → Bool} (h : onP v k = true) : ∃ g o, v = .p g o ∧ k g o = true := by
 cases v with
 | p g o => exact ⟨g, o, rfl, h⟩
 | _ => exact no h
theorem zf3 {v : V} {k : Fn → List V → List V → Bool} (h : onF v k = true) : ∃ f xs ys, v = .f f xs ys ∧ k f xs ys = true := by
 cases v with
 | f f xs ys => exact ⟨f, xs, ys, rfl, h⟩
 | _ => exact no h
theorem jf3 {v : V} {k : List V → Bool} (h : onT v k = true) : ∃ vs, v = .t vs ∧ k vs = true := by
 cases v with
 | t vs => exact ⟨vs, rfl, h⟩
 | _ => exact no h
theorem zft {v : V} {d e : Bool} (h : jhH v d e = true) : (((∃ g o p, v = .se g o p) ∨ ∃ a, v = .ze a) ∧ d = true) ∨ e = true := by
 cases v with
 | se g o p => exact .inl ⟨.inl ⟨g, o, p, rfl⟩, h⟩
 | ze a => exact .inl ⟨.inr ⟨a, rfl⟩, h⟩
 | _ => exact .inr h
theorem ZbS {v : V} {k : Nat → Nat → Nat → Nat → Bool → Bool} {n : Bool} {s : Nat → Nat → Bool} (h : jg6 v k n s = true) :
  (∃ id off l c op, v = .sl id off l c op ∧ k id off l c op = true) ∨ (v = .sn ∧ n = true) ∨ (∃ l x, v = .s l x ∧ s l x = true) := by
 cases v with
 | sl id off l c op => exact .inl ⟨id, off, l, c, op, rfl, h⟩
 | sn => exact .inr (.inl ⟨rfl, h⟩)
 | s l x => exact .inr (.inr ⟨l, x, rfl, h⟩)
 | _ => exact no h
theorem Zaj {a b : Int} {k : Nat → Nat → Bool} {d : Bool} (h : jfV a b k d = true) : (∃ m n : Nat, a = .ofNat m ∧ b = .ofNat n ∧ k m n = true) ∨ d = true := by
 cases a with
 | ofNat m => cases b with
  | ofNat n => exact .inl ⟨m, n, rfl, rfl, h⟩
  | negSucc n => exact .inr h
 | negSucc m => exact .inr h
theorem zeO {a : Int} {k : Nat → Bool} {d : Bool} (h : onN a k d = true) : (∃ m : Nat, a = .ofNat m ∧ k m = true) ∨ d = true := by
 cases a with
 | ofNat m => exact .inl ⟨m, rfl, h⟩
 | negSucc m => exact .inr h
theorem zx (n : Nat) (k : Nat → Bool) : Jao n k = k n := by cases n <;> rfl
theorem ZY (v : V) (k : V → Bool) : jaB v k = k v := by
 cases v with
 | b x => cases x <;> rfl
 | i kd n =>
  cases n with
  | ofNat m =>
   show zfe kd (fun kd => Jao m fun m => k (.i kd (.ofNat m))) = _
   rw [jdn, zx]
  | negSucc m =>
   show zfe kd (fun kd => Jao m fun m => k (.i kd (.negSucc m))) = _
   rw [jdn, zx]
 | s l x => show Jao l (fun l => Jao x fun x => k (.s l x)) = _; rw [zx, zx]
 | p g o => show Jao g (fun g => Jao o fun o => k (.p g o)) = _; rw [zx, zx]
 | sl g o l c op => cases op <;> (show Jao g (fun g => Jao o fun o => Jao l fun l => Jao c fun c => k (.sl g o l c _)) = _; rw [zx, zx, zx, zx])
 | se g o p => show Jao g (fun g => Jao o fun o => Jao p fun p => k (.se g o p)) = _; rw [zx, zx, zx]
 | _ => rfl
theorem jeZ (f : Nat) : Jco (f + 1) 0 = [] := rfl
theorem Zdh (f k : Nat) : Jco (f + 1) (k + 1) = Nat.beq (k % 2) 0 :: Jco f (k / 2) := by
 show (Bool.rec (false :: Jco f (k / 2)) (true :: Jco f (k / 2)) (Nat.beq (k % 2) 0) : List Bool) = _
 cases Nat.beq (k % 2) 0 <;> rfl
theorem jft {α : Type} (b : Bool) (p : List Bool) (t : T α) (k : α → Bool) (d : Bool) : getD (b :: p) t k d = match t with | .e => d | .n l _ r => cond b (getD p l k d) (getD p r k d) := by cases t <;> cases b <;> rfl
theorem Zft {α : Type} (k : α → Bool) (d : Bool) : ∀ (f : Nat) (t : T α) (i : Nat), i < f → getD (Jco f i) t k d = match t.get i with | some v => k v | none => d := by
 intro f
 induction f with
 | zero => intro t i h; omega
 | succ f ih =>
  intro t i h
  cases i with
  | zero =>
   rw [jeZ]
   cases t with
   | e => rfl
   | n l v r => cases v <;> rfl
  | succ j =>
   rw [Zdh, jft]
   cases t with
   | e => rfl
   | n l v r =>
    rw [T.get_n]
    dsimp only
    cases Nat.beq (j % 2) 0
    ·exact ih r (j / 2) (by omega)
    ·exact ih l (j / 2) (by omega)
theorem jep {α : Type} (i : Nat) (t : T α) (k : α → Bool) (d : Bool) : getD (zaw i) t k d = match t.get i with | some v => k v | none => d := Zft k d (i + 1) t i (Nat.lt_succ_self i)
theorem Jft {i : Nat} {t : T V} {k : V → Bool} (h : zhs (zaw i) t k = true) : ∃ v, t.get i = some v ∧ k v = true := by
 unfold zhs at h
 rw [jep] at h
 cases e : t.get i with
 | none => rw [e] at h; exact no h
 | some v => rw [e] at h; exact ⟨v, rfl, h⟩
theorem zfu {α : Type} (v : Option α) : ∀ (f : Nat) (t : T α) (i : Nat) (k : T α → Bool), i < f → ZfV (Jco f i) t v k = k (T.go v f t i) := by
 intro f
 induction f with
 | zero => intro t i k h; omega
 | succ f ih =>
  intro t i k h
  cases i with
  | zero => cases t <;> rfl
  | succ j =>
   rw [Zdh]
   have hl : j / 2 < f := by omega
   cases t with
   | e =>
    simp only [T.go]
    cases Nat.beq (j % 2) 0
    ·show ZfV (Jco f (j / 2)) .e v (fun r => k (.n .e none r)) = _
     rw [ih _ _ _ hl]
     simp only [cond_false]
     cases T.go v f .e (j / 2) <;> rfl
    ·show ZfV (Jco f (j / 2)) .e v (fun l => k (.n l none .e)) = _
     rw [ih _ _ _ hl]
     simp only [cond_true]
     cases T.go v f .e (j / 2) <;> rfl
   | n l x r =>
    simp only [T.go]
    cases Nat.beq (j % 2) 0
    ·show ZfV (Jco f (j / 2)) r v (fun r => k (.n l x r)) = _
     rw [ih _ _ _ hl]
     simp only [cond_false]
     cases T.go v f r (j / 2) <;> rfl
    ·show ZfV (Jco f (j / 2)) l v (fun l => k (.n l x r)) = _
     rw [ih _ _ _ hl]
     simp only [cond_true]
     cases T.go v f l (j / 2) <;> rfl
theorem ZcJ {α : Type} (i : Nat) (t : T α) (v : Option α) (k : T α → Bool) : ZfV (zaw i) t v k = k (t.upd i v) := zfu v (i + 1) t i k (Nat.lt_succ_self i)
theorem jfu (i : Nat) (t : T V) (v : V) (k : T V → Bool) : JgE (zaw i) t v k = k (t.upd i (some v)) := ZcJ i t (some v) k
theorem JdV {k : V → Bool} : ∀ (j : Nat) (ls : List V), zhH j ls k = true → ∃ v, ls[j]? = some v ∧ k v = true
 | 0, [], h => no h
 | 0, v :: r, h => ⟨v, rfl, h⟩
 | j + 1, [], h => no h
 | j + 1, v :: r, h => by
  obtain ⟨x, h1, h2⟩ := JdV j r h
  exact ⟨x, by simpa using h1, h2⟩
structure Rel (mask : Nat) (Jb : List Nat) (fr : T V) (ls : List V) (fr0 : T V) : Prop where
 tree : ∀ t v, zc5 mask t = true → fr.get t = some v → fr0.get t = some v
 loc : ∀ t j v, zdt Jb t = some j → ls[j]? = some v → fr0.get t = some v
 sep : ∀ t j, zdt Jb t = some j → zc5 mask t = false
theorem Rel.drop {mask : Nat} {Jb : List Nat} {fr fr0 : T V} {ls : List V} (h : Rel mask Jb fr ls fr0) : Rel mask [] fr [] fr0 :=
 ⟨h.tree, fun t j v e => (by cases e), fun t j e => (by cases e)⟩
section
variable {mask : Nat} {Jb : List Nat} {fr fr0 : T V} {ls : List V}
theorem Zbc (hr : Rel mask Jb fr ls fr0) {t : Nat} {k : V → Bool} (h : (Jfq mask Jb t).run fr ls k = true) : ∃ v, fr0.get t = some v ∧ k v = true := by
 unfold Jfq at h
 cases hp : zdt Jb t with
 | some j =>
  rw [hp] at h
  dsimp only at h
  rw [jh] at h
  obtain ⟨v, h1, h2⟩ := JdV j ls h
  exact ⟨v, hr.loc t j v hp h1, h2⟩
 | none =>
  rw [hp] at h
  cases hl : zc5 mask t with
  | true =>
   rw [hl] at h
   obtain ⟨v, h1, h2⟩ := Jft h
   exact ⟨v, hr.tree t v hl h1, h2⟩
  | false => rw [hl] at h; exact no h
theorem jg (hr : Rel mask Jb fr ls fr0) {x : Operand} {k : V → Bool} (h : (JA mask Jb x).run fr ls k = true) : ∃ v, Zx fr0 x = some v ∧ k v = true := by
 cases x with
 | tmp t => exact Zbc hr h
 | const c =>
  simp only [JA, Zx] at h ⊢
  cases e : ofV 4 c with
  | none => rw [e] at h; exact no h
  | some v => rw [e] at h; dsimp only at h; rw [V.force_eq] at h; exact ⟨v, rfl, h⟩
 | global g =>
  simp only [JA, Zx] at h ⊢
  cases e : Nat.blt g GL with
  | false => rw [e] at h; exact no h
  | true => rw [e] at h; exact ⟨_, rfl, h⟩
 | func f => exact ⟨_, rfl, h⟩
theorem ZV (hr : Rel mask Jb fr ls fr0) : ∀ {l : List Operand} {k : List V → Bool}, (jaw mask Jb l).run fr ls k = true → ∃ vs, jaq fr0 l = some vs ∧ k vs = true
 | [], k, h => ⟨[], rfl, h⟩
 | o :: r, k, h => by
  obtain ⟨v, h1, h2⟩ := jg hr (show (JA mask Jb o).run fr ls _ = true from h)
  obtain ⟨vs, h3, h4⟩ := ZV hr h2
  exact ⟨v :: vs, by simp only [jaq, h1, h3], h4⟩
theorem ZbD (hr : Rel mask Jb fr ls fr0) {o : Option Operand} {k : Option V → Bool} (h : (zeN mask Jb o).run fr ls k = true) :
  (o = none ∧ k none = true) ∨ ∃ o' v, o = some o' ∧ Zx fr0 o' = some v ∧ k (some v) = true := by
 cases o with
 | none => exact .inl ⟨rfl, h⟩
 | some o =>
  obtain ⟨v, h1, h2⟩ := jg hr (show (JA mask Jb o).run fr ls _ = true from h)
  exact .inr ⟨o, v, rfl, h1, h2⟩
theorem JbD (hr : Rel mask Jb fr ls fr0) : ∀ {l : List (Nat × Operand)} {k : List (Nat × V) → Bool}, (Jdg mask Jb l).run fr ls k = true → ∃ vs, ZQ fr0 l = some vs ∧ k vs = true
 | [], k, h => ⟨[], rfl, h⟩
 | (i, o) :: r, k, h => by
  obtain ⟨v, h1, h2⟩ := jg hr (show (JA mask Jb o).run fr ls _ = true from h)
  obtain ⟨vs, h3, h4⟩ := JbD hr h2
  exact ⟨(i, v) :: vs, by simp only [ZQ, h1, h3], h4⟩
end
theorem ZhP (l : List V) : (List.rec (motive := fun _ => Nat) 0 (fun _ _ ih => Nat.succ ih) l : Nat) = l.length := by
 induction l with
 | nil => rfl
 | cons v r ih => show Nat.succ _ = _; rw [ih]; rfl
theorem jdu (l : List V) (k : Nat → Bool) : JgX l k = k l.length := by unfold JgX; rw [zx, ZhP]
theorem JcJ (v : V) (k : List V → Bool) : jeN v k = k v.cells := by cases v <;> rfl
theorem JaX (b : Blk) (k : T V → List V → Nat → Nat → Bool → Bool) : zdV b k = k b.cs b.zero b.sz b.es b.op := rfl
theorem Zdu (st : St) (k : Nat → T Blk → Nat → Bool) : zho st k = k st.nx st.hp st.ver := rfl
theorem zaS {st : St} {id : Nat} {k : Blk → Bool} (h : jgq st id k = true) : ∃ b, st.hp.get id = some b ∧ k b = true := by
 unfold jgq at h
 rw [Zdu, jep] at h
 cases e : st.hp.get id with
 | none => rw [e] at h; exact no h
 | some b => rw [e] at h; exact ⟨b, rfl, h⟩
theorem Jdh {b : Blk} {o : Nat} {k : V → Bool} (h : jfr b.cs b.zero b.sz b.es o k = true) : ∃ v, b.get o = some v ∧ k v = true := by
 unfold jfr at h
 obtain ⟨h1, h2⟩ := ja8 h
 rw [jep] at h2
 unfold Blk.get
 rw [h1, cond_true]
 cases e : b.cs.get o with
 | some v => rw [e] at h2; exact ⟨v, rfl, h2⟩
 | none => rw [e] at h2; exact jdh h2
theorem Jbc {b : Blk} : ∀ {n o : Nat} {k : List V → Bool}, jgX b.cs b.zero b.sz b.es n o k = true → ∃ cs, b.row n o = some cs ∧ k cs = true
 | 0, o, k, h => ⟨[], rfl, h⟩
 | n + 1, o, k, h => by
  obtain ⟨v, h1, h2⟩ := Jdh (show jfr b.cs b.zero b.sz b.es o _ = true from h)
  rw [zx] at h2
  obtain ⟨cs, h3, h4⟩ := Jbc (n := n) (show jgX b.cs b.zero b.sz b.es n (o + 1) _ = true from h2)
  exact ⟨v :: cs, by simp only [Blk.row, h1, h3], h4⟩
theorem zbd : ∀ {vs : List V} {b : Blk} {o : Nat} {k : T V → Bool}, ZgX b.sz vs b.cs o k = true → ∃ cs, b.put vs o = some ⟨cs, b.zero, b.sz, b.es, b.op⟩ ∧ k cs = true
 | [], b, o, k, h => ⟨b.cs, rfl, h⟩
 | v :: r, b, o, k, h => by
  obtain ⟨h1, h2⟩ := ja8 (show ifB (Nat.blt o b.sz) _ false = true from h)
  obtain ⟨h3, h4⟩ := ja8 h2
  rw [ZY, ZcJ, zx] at h4
  obtain ⟨cs, h5, h6⟩ := zbd (vs := r) (b := b.set o v) (o := o + 1) (show ZgX b.sz r (b.cs.upd o (some v)) (o + 1) k = true from h4)
  refine ⟨cs, ?_, h6⟩
  simp only [Blk.put, h1, h3, Bool.and_self, cond_true, V.force_eq, h5]
  rfl
theorem JbS {cs : List V} {es : Nat} {op : Bool} {k : Blk → Bool} (h : zgY cs es op k = true) : ∃ b, jaO cs es op = some b ∧ k b = true := by
 unfold zgY at h
 rw [jdu] at h
 obtain ⟨t, h1, h2⟩ := zbd (b := ⟨.e, [], cs.length, es, op⟩) h
 exact ⟨_, h1, h2⟩
theorem jbd (st : St) (b : Blk) (k : Nat → St → Bool) : jbS st b k = k st.nx (St.alloc st b) := by unfold jbS; rw [Zdu, ZcJ, zx]; rfl
theorem Zgr (a b : Nat) : low a b = cond (Nat.ble a b) a b := rfl
theorem zdW (st : St) (id : Nat) (b : Blk) (k : St → Bool) : zcl st id (some b) k = k (st.write id b) := by
 unfold zcl
 rw [Zdu, ZcJ, St.write_eq, Zgr]
 cases Nat.ble st.ver id <;> rfl
theorem zcx (st : St) (id : Nat) (k : St → Bool) : zcl st id none k = k (st.kill id) := by
 unfold zcl
 rw [Zdu, ZcJ, St.kill_eq, Zgr]
 cases Nat.ble st.ver id <;> rfl
end Go.Vk
