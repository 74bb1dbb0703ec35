/-
  The faster evaluator tells nothing but what the evaluator tells: frames, operands, memory. Nothing is claimed here.
-/
import Derived.Test.YtnfddmjbfkfnhaaGreatDoorVk
namespace Go.Vk
open Go.Vm

/-- From some number on. -/
def Even {α : Type} (f : Nat → Option α) (r : α) : Prop := ∃ m, ∀ m', m ≤ m' → f m' = some r
theorem Even.const {α : Type} {o : Option α} {r : α} (h : o = some r) : Even (fun _ => o) r := ⟨0, fun _ _ => h⟩

/-! ### Cases -/

theorem no {p : Prop} (h : false = true) : p := Bool.noConfusion h
theorem ifB_true {x t f : Bool} (h : ifB x t f = true) : (x = true ∧ t = true) ∨ (x = false ∧ f = true) := by
  cases x
  · exact .inr ⟨rfl, h⟩
  · exact .inl ⟨rfl, h⟩
theorem ifB_t {x t : Bool} (h : ifB x t false = true) : x = true ∧ t = true := by
  cases x
  · exact no h
  · exact ⟨rfl, h⟩
theorem onOpt_true {o : Option V} {k : V → Bool} (h : onOpt o k = true) : ∃ v, o = some v ∧ k v = true := by
  cases o
  · exact no h
  · exact ⟨_, rfl, h⟩
theorem onB_true {v : V} {t f : Bool} (h : onB v t f = true) : (v = .b true ∧ t = true) ∨ (v = .b false ∧ f = true) := by
  cases v with
  | b x =>
    cases x
    · exact .inr ⟨rfl, h⟩
    · exact .inl ⟨rfl, h⟩
  | _ => exact no h
theorem onBx_true {v : V} {t f d : Bool} (h : onBx v t f d = true) : (v = .b true ∧ t = true) ∨ (v = .b false ∧ f = true) ∨ ((∀ x, v ≠ .b x) ∧ d = true) := by
  cases v with
  | b x =>
    cases x
    · exact .inr (.inl ⟨rfl, h⟩)
    · exact .inl ⟨rfl, h⟩
  | _ => exact .inr (.inr ⟨fun x e => (by cases e), h⟩)
theorem onI_true {v : V} {k : IntKind → Int → Bool} (h : onI v k = true) : ∃ kd n, v = .i kd n ∧ k kd n = true := by
  cases v with
  | i kd n => exact ⟨kd, n, rfl, h⟩
  | _ => exact no h
theorem onS_true {v : V} {k : Nat → Nat → Bool} (h : onS v k = true) : ∃ l x, v = .s l x ∧ k l x = true := by
  cases v with
  | s l x => exact ⟨l, x, rfl, h⟩
  | _ => exact no h
theorem onP_true {v : V} {k : Nat → Nat → Bool} (h : onP v k = true) : ∃ g o, v = .p g o ∧ k g o = true := by
  cases v with
  | p g o => exact ⟨g, o, rfl, h⟩
  | _ => exact no h
theorem onF_true {v : V} {k : Fn → List V → List V → Bool} (h : onF v k = true) : ∃ f xs ys, v = .f f xs ys ∧ k f xs ys = true := by
  cases v with
  | f f xs ys => exact ⟨f, xs, ys, rfl, h⟩
  | _ => exact no h
theorem onT_true {v : V} {k : List V → Bool} (h : onT v k = true) : ∃ vs, v = .t vs ∧ k vs = true := by
  cases v with
  | t vs => exact ⟨vs, rfl, h⟩
  | _ => exact no h
theorem onSe_true {v : V} {d e : Bool} (h : onSe v d e = true) : (((∃ g o p, v = .se g o p) ∨ (∃ a, v = .ze a) ∨ ∃ g o p, v = .sy g o p) ∧ d = true) ∨ e = true := by
  cases v with
  | se g o p => exact .inl ⟨.inl ⟨g, o, p, rfl⟩, h⟩
  | ze a => exact .inl ⟨.inr (.inl ⟨a, rfl⟩), h⟩
  | sy g o p => exact .inl ⟨.inr (.inr ⟨g, o, p, rfl⟩), h⟩
  | _ => exact .inr h
theorem onSl_true {v : V} {k : Nat → Nat → Nat → Nat → Bool → Bool} {n : Bool} {s : Nat → Nat → Bool} (h : onSl v k n s = true) :
    (∃ id off l c op, v = .sl id off l c op ∧ k id off l c op = true) ∨ (v = .sn ∧ n = true) ∨ (∃ l x, v = .s l x ∧ s l x = true) := by
  cases v with
  | sl id off l c op => exact .inl ⟨id, off, l, c, op, rfl, h⟩
  | sn => exact .inr (.inl ⟨rfl, h⟩)
  | s l x => exact .inr (.inr ⟨l, x, rfl, h⟩)
  | _ => exact no h
theorem onNN_true {a b : Int} {k : Nat → Nat → Bool} {d : Bool} (h : onNN a b k d = true) : (∃ m n : Nat, a = .ofNat m ∧ b = .ofNat n ∧ k m n = true) ∨ d = true := by
  cases a with
  | ofNat m => cases b with
    | ofNat n => exact .inl ⟨m, n, rfl, rfl, h⟩
    | negSucc n => exact .inr h
  | negSucc m => exact .inr h
theorem onN_true {a : Int} {k : Nat → Bool} {d : Bool} (h : onN a k d = true) : (∃ m : Nat, a = .ofNat m ∧ k m = true) ∨ d = true := by
  cases a with
  | ofNat m => exact .inl ⟨m, rfl, h⟩
  | negSucc m => exact .inr h
theorem natK_eq (n : Nat) (k : Nat → Bool) : natK n k = k n := by cases n <;> rfl
theorem boolR_eq {α : Type} (x : Bool) (f : Bool → α) : (Bool.rec (f false) (f true) x : α) = f x := by cases x <;> rfl
theorem forceK_eq (v : V) (k : V → Bool) : forceK v k = k v := by
  cases v with
  | b x => cases x <;> rfl
  | i kd n =>
    cases n with
    | ofNat m =>
      show kindF kd (fun kd => natK m fun m => k (.i kd (.ofNat m))) = _
      rw [kindF_eq, natK_eq]
    | negSucc m =>
      show kindF kd (fun kd => natK m fun m => k (.i kd (.negSucc m))) = _
      rw [kindF_eq, natK_eq]
  | s l x => show natK l (fun l => natK x fun x => k (.s l x)) = _; rw [natK_eq, natK_eq]
  | p g o => show natK g (fun g => natK o fun o => k (.p g o)) = _; rw [natK_eq, natK_eq]
  | sl g o l c op => cases op <;> (show natK g (fun g => natK o fun o => natK l fun l => natK c fun c => k (.sl g o l c _)) = _; rw [natK_eq, natK_eq, natK_eq, natK_eq])
  | se g o p => show natK g (fun g => natK o fun o => natK p fun p => k (.se g o p)) = _; rw [natK_eq, natK_eq, natK_eq]
  | m g => show natK g (fun g => k (.m g)) = _; rw [natK_eq]
  | mz => rfl
  | sy g o p => show natK g (fun g => natK o fun o => natK p fun p => k (.sy g o p)) = _; rw [natK_eq, natK_eq, natK_eq]
  | _ => rfl

/-! ### Trees -/

theorem pathR_zero (f : Nat) : pathR (f + 1) 0 = [] := rfl
theorem pathR_succ (f k : Nat) : pathR (f + 1) (k + 1) = Nat.beq (k % 2) 0 :: pathR f (k / 2) := by
  show (Bool.rec (false :: pathR f (k / 2)) (true :: pathR f (k / 2)) (Nat.beq (k % 2) 0) : List Bool) = _
  cases Nat.beq (k % 2) 0 <;> rfl
theorem getD_cons {α : Type} (b : Bool) (p : List Bool) (t : T α) (k : α → Bool) (d : Bool) : getD (b :: p) t k d = match t with | .e => d | .n l _ r => cond b (getD p l k d) (getD p r k d) := by cases t <;> cases b <;> rfl
theorem getD_path {α : Type} (k : α → Bool) (d : Bool) : ∀ (f : Nat) (t : T α) (i : Nat), i < f → getD (pathR f i) t k d = match t.get i with | some v => k v | none => d := by
  intro f
  induction f with
  | zero => intro t i h; omega
  | succ f ih =>
    intro t i h
    cases i with
    | zero =>
      rw [pathR_zero]
      cases t with
      | e => rfl
      | n l v r => cases v <;> rfl
    | succ j =>
      rw [pathR_succ, getD_cons]
      cases t with
      | e => rfl
      | n l v r =>
        rw [T.get_n]
        dsimp only
        cases Nat.beq (j % 2) 0
        · exact ih r (j / 2) (by omega)
        · exact ih l (j / 2) (by omega)
theorem getD_eq {α : Type} (i : Nat) (t : T α) (k : α → Bool) (d : Bool) : getD (pathOf i) t k d = match t.get i with | some v => k v | none => d := getD_path k d (i + 1) t i (Nat.lt_succ_self i)
theorem getK_true {i : Nat} {t : T V} {k : V → Bool} (h : getK (pathOf i) t k = true) : ∃ v, t.get i = some v ∧ k v = true := by
  unfold getK at h
  rw [getD_eq] at h
  cases e : t.get i with
  | none => rw [e] at h; exact no h
  | some v => rw [e] at h; exact ⟨v, rfl, h⟩

theorem updA_path {α : Type} (v : Option α) : ∀ (f : Nat) (t : T α) (i : Nat) (k : T α → Bool), i < f → updA (pathR f i) t v k = k (T.go v f t i) := by
  intro f
  induction f with
  | zero => intro t i k h; omega
  | succ f ih =>
    intro t i k h
    cases i with
    | zero => cases t <;> rfl
    | succ j =>
      rw [pathR_succ]
      have hl : j / 2 < f := by omega
      cases t with
      | e =>
        simp only [T.go]
        cases Nat.beq (j % 2) 0
        · show updA (pathR f (j / 2)) .e v (fun r => k (.n .e none r)) = _
          rw [ih _ _ _ hl]
          simp only [cond_false]
          cases T.go v f .e (j / 2) <;> rfl
        · show updA (pathR f (j / 2)) .e v (fun l => k (.n l none .e)) = _
          rw [ih _ _ _ hl]
          simp only [cond_true]
          cases T.go v f .e (j / 2) <;> rfl
      | n l x r =>
        simp only [T.go]
        cases Nat.beq (j % 2) 0
        · show updA (pathR f (j / 2)) r v (fun r => k (.n l x r)) = _
          rw [ih _ _ _ hl]
          simp only [cond_false]
          cases T.go v f r (j / 2) <;> rfl
        · show updA (pathR f (j / 2)) l v (fun l => k (.n l x r)) = _
          rw [ih _ _ _ hl]
          simp only [cond_true]
          cases T.go v f l (j / 2) <;> rfl
theorem updA_eq {α : Type} (i : Nat) (t : T α) (v : Option α) (k : T α → Bool) : updA (pathOf i) t v k = k (t.upd i v) := updA_path v (i + 1) t i k (Nat.lt_succ_self i)
theorem updK_eq (i : Nat) (t : T V) (v : V) (k : T V → Bool) : updK (pathOf i) t v k = k (t.upd i (some v)) := updA_eq i t (some v) k

theorem nthK_true {k : V → Bool} : ∀ (j : Nat) (ls : List V), nthK j ls k = true → ∃ v, ls[j]? = some v ∧ k v = true
  | 0, [], h => no h
  | 0, v :: r, h => ⟨v, rfl, h⟩
  | j + 1, [], h => no h
  | j + 1, v :: r, h => by
    obtain ⟨x, h1, h2⟩ := nthK_true j r h
    exact ⟨x, by simpa using h1, h2⟩

/-! ### Frames -/

structure Rel (mask : Nat) (names : List Nat) (fr : T V) (ls : List V) (fr0 : T V) : Prop where
  tree : ∀ t v, liveB mask t = true → fr.get t = some v → fr0.get t = some v
  loc : ∀ t j v, posOf names t = some j → ls[j]? = some v → fr0.get t = some v
  sep : ∀ t j, posOf names t = some j → liveB mask t = false
theorem Rel.drop {mask : Nat} {names : List Nat} {fr fr0 : T V} {ls : List V} (h : Rel mask names fr ls fr0) : Rel mask [] fr [] fr0 :=
  ⟨h.tree, fun t j v e => (by cases e), fun t j e => (by cases e)⟩

section
variable {mask : Nat} {names : List Nat} {fr fr0 : T V} {ls : List V}
theorem ktmp_true (hr : Rel mask names fr ls fr0) {t : Nat} {k : V → Bool} (h : (ktmp mask names t).run fr ls k = true) : ∃ v, fr0.get t = some v ∧ k v = true := by
  unfold ktmp at h
  cases hp : posOf names t with
  | some j =>
    rw [hp] at h
    dsimp only at h
    rw [natF_eq] at h
    obtain ⟨v, h1, h2⟩ := nthK_true j ls h
    exact ⟨v, hr.loc t j v hp h1, h2⟩
  | none =>
    rw [hp] at h
    cases hl : liveB mask t with
    | true =>
      rw [hl] at h
      obtain ⟨v, h1, h2⟩ := getK_true h
      exact ⟨v, hr.tree t v hl h1, h2⟩
    | false => rw [hl] at h; exact no h
theorem kopnd_true (hr : Rel mask names fr ls fr0) {x : Operand} {k : V → Bool} (h : (kopnd mask names x).run fr ls k = true) : ∃ v, opnd fr0 x = some v ∧ k v = true := by
  cases x with
  | tmp t => exact ktmp_true hr h
  | const c =>
    simp only [kopnd, opnd] at h ⊢
    cases e : ofV 4 c with
    | none => rw [e] at h; exact no h
    | some v => rw [e] at h; dsimp only at h; rw [V.force_eq] at h; exact ⟨v, rfl, h⟩
  | global g =>
    simp only [kopnd, opnd] at h ⊢
    cases e : Nat.blt g GL with
    | false => rw [e] at h; exact no h
    | true => rw [e] at h; exact ⟨_, rfl, h⟩
  | func f => exact ⟨_, rfl, h⟩
theorem kopnds_true (hr : Rel mask names fr ls fr0) : ∀ {l : List Operand} {k : List V → Bool}, (kopnds mask names l).run fr ls k = true → ∃ vs, opnds fr0 l = some vs ∧ k vs = true
  | [], k, h => ⟨[], rfl, h⟩
  | o :: r, k, h => by
    obtain ⟨v, h1, h2⟩ := kopnd_true hr (show (kopnd mask names o).run fr ls _ = true from h)
    obtain ⟨vs, h3, h4⟩ := kopnds_true hr h2
    exact ⟨v :: vs, by simp only [opnds, h1, h3], h4⟩
theorem kopndO_true (hr : Rel mask names fr ls fr0) {o : Option Operand} {k : Option V → Bool} (h : (kopndO mask names o).run fr ls k = true) :
    (o = none ∧ k none = true) ∨ ∃ o' v, o = some o' ∧ opnd fr0 o' = some v ∧ k (some v) = true := by
  cases o with
  | none => exact .inl ⟨rfl, h⟩
  | some o =>
    obtain ⟨v, h1, h2⟩ := kopnd_true hr (show (kopnd mask names o).run fr ls _ = true from h)
    exact .inr ⟨o, v, rfl, h1, h2⟩
theorem kparts_true (hr : Rel mask names fr ls fr0) : ∀ {l : List (Nat × Operand)} {k : List (Nat × V) → Bool}, (kparts mask names l).run fr ls k = true → ∃ vs, partsOf fr0 l = some vs ∧ k vs = true
  | [], k, h => ⟨[], rfl, h⟩
  | (i, o) :: r, k, h => by
    obtain ⟨v, h1, h2⟩ := kopnd_true hr (show (kopnd mask names o).run fr ls _ = true from h)
    obtain ⟨vs, h3, h4⟩ := kparts_true hr h2
    exact ⟨(i, v) :: vs, by simp only [partsOf, h1, h3], h4⟩
end

/-! ### Memory -/

theorem lenR (l : List V) : (List.rec (motive := fun _ => Nat) 0 (fun _ _ ih => Nat.succ ih) l : Nat) = l.length := by
  induction l with
  | nil => rfl
  | cons v r ih => show Nat.succ _ = _; rw [ih]; rfl
theorem lenK_eq (l : List V) (k : Nat → Bool) : lenK l k = k l.length := by unfold lenK; rw [natK_eq, lenR]
theorem cellsV_eq (v : V) (k : List V → Bool) : cellsV v k = k v.cells := by cases v <;> rfl
theorem onBlk_eq (b : Blk) (k : T V → List V → Nat → Nat → Bool → Bool) : onBlk b k = k b.cs b.zero b.sz b.es b.op := rfl
theorem onBlkM_eq (b : Blk) (k : T V → List V → Nat → Nat → Bool → Option (List (V × V)) → Bool) : onBlkM b k = k b.cs b.zero b.sz b.es b.op b.mp := rfl
theorem noMap_true {mp : Option (List (V × V))} {b : Bool} (h : noMap mp b = true) : mp = none ∧ b = true := by
  cases mp with
  | none => exact ⟨rfl, h⟩
  | some _ => cases h
theorem onSt_eq (st : St) (k : Nat → T Blk → Nat → Bool) : onSt st k = k st.nx st.hp st.ver := rfl
theorem blkK_true {st : St} {id : Nat} {k : Blk → Bool} (h : blkK st id k = true) : ∃ b, st.hp.get id = some b ∧ k b = true := by
  unfold blkK at h
  rw [onSt_eq, getD_eq] at h
  cases e : st.hp.get id with
  | none => rw [e] at h; exact no h
  | some b => rw [e] at h; exact ⟨b, rfl, h⟩
theorem cellK_true {b : Blk} {o : Nat} {k : V → Bool} (h : cellK b.cs b.zero b.sz b.es o k = true) : ∃ v, b.get o = some v ∧ k v = true := by
  unfold cellK at h
  obtain ⟨h1, h2⟩ := ifB_t h
  rw [getD_eq] at h2
  unfold Blk.get
  rw [h1, cond_true]
  cases e : b.cs.get o with
  | some v => rw [e] at h2; exact ⟨v, rfl, h2⟩
  | none => rw [e] at h2; exact onOpt_true h2
theorem rowK_true {b : Blk} : ∀ {n o : Nat} {k : List V → Bool}, rowK b.cs b.zero b.sz b.es n o k = true → ∃ cs, b.row n o = some cs ∧ k cs = true
  | 0, o, k, h => ⟨[], rfl, h⟩
  | n + 1, o, k, h => by
    obtain ⟨v, h1, h2⟩ := cellK_true (show cellK b.cs b.zero b.sz b.es o _ = true from h)
    rw [natK_eq] at h2
    obtain ⟨cs, h3, h4⟩ := rowK_true (n := n) (show rowK b.cs b.zero b.sz b.es n (o + 1) _ = true from h2)
    exact ⟨v :: cs, by simp only [Blk.row, h1, h3], h4⟩
theorem putK_true : ∀ {vs : List V} {b : Blk} {o : Nat} {k : T V → Bool}, putK b.sz vs b.cs o k = true → ∃ cs, b.put vs o = some ⟨cs, b.zero, b.sz, b.es, b.op, b.mp⟩ ∧ k cs = true
  | [], b, o, k, h => ⟨b.cs, rfl, h⟩
  | v :: r, b, o, k, h => by
    obtain ⟨h1, h2⟩ := ifB_t (show ifB (Nat.blt o b.sz) _ false = true from h)
    obtain ⟨h3, h4⟩ := ifB_t h2
    rw [forceK_eq, updA_eq, natK_eq] at h4
    obtain ⟨cs, h5, h6⟩ := putK_true (vs := r) (b := b.set o v) (o := o + 1) (show putK b.sz r (b.cs.upd o (some v)) (o + 1) k = true from h4)
    refine ⟨cs, ?_, h6⟩
    simp only [Blk.put, h1, h3, Bool.and_self, cond_true, V.force_eq, h5]
    rfl
theorem newK_true {cs : List V} {es : Nat} {op : Bool} {k : Blk → Bool} (h : newK cs es op k = true) : ∃ b, blkOf cs es op = some b ∧ k b = true := by
  unfold newK at h
  rw [lenK_eq] at h
  obtain ⟨t, h1, h2⟩ := putK_true (b := ⟨.e, [], cs.length, es, op, none⟩) h
  exact ⟨_, h1, h2⟩
theorem allocK_eq (st : St) (b : Blk) (k : Nat → St → Bool) : allocK st b k = k st.nx (St.alloc st b) := by unfold allocK; rw [onSt_eq, updA_eq, natK_eq]; rfl
theorem low_eq (a b : Nat) : low a b = cond (Nat.ble a b) a b := rfl
theorem writeK_eq (st : St) (id : Nat) (b : Blk) (k : St → Bool) : writeK st id (some b) k = k (st.write id b) := by
  unfold writeK
  rw [onSt_eq, updA_eq, St.write_eq, low_eq]
  cases Nat.ble st.ver id <;> rfl
theorem killK_eq (st : St) (id : Nat) (k : St → Bool) : writeK st id none k = k (st.kill id) := by
  unfold writeK
  rw [onSt_eq, updA_eq, St.kill_eq, low_eq]
  cases Nat.ble st.ver id <;> rfl
end Go.Vk
