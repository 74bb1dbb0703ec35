/-
  Literals, make, append, conversions: they are so. Nothing is claimed here.
-/
import Derived.Test.YtnfddmjbfkfnhaaGreatDoorSz
namespace Go.Sx
open Go.Vm

section
variable {S : Sg} {Y : Sy S} {P : Program} {G : Gl} {ro : Nat} {o0 : Nat → Prop} {E : En} {nx : Nat} {m : T (Ct S)} {st : St} {fr : T (U S)} {frV : T V}

theorem vfill_len {place : Nat → Option (Nat × Nat)} : ∀ {parts : List (Nat × U S)} {us us' : List (U S)}, sFill place us parts = some us' → us'.length = us.length
  | [], us, us', h => by simp only [sFill, Option.some.injEq] at h; rw [h]
  | (i, u) :: parts, us, us', h => by
    simp only [sFill] at h
    cases hp : place i with
    | none => simp [hp] at h
    | some q =>
      obtain ⟨off, size⟩ := q
      simp only [hp] at h
      (cases hq : (solid u && (Nat.beq (cellsU u).length size && Nat.ble (off + (cellsU u).length) us.length)) with
        | false => simp [hq] at h
        | true => rw [hq] at h; rw [vfill_len h, setAtU_len])

theorem sBuildSlice_ok (hI : Inv Y G o0 ro E nx m st) {t : TypeId} {len : Nat} {parts : List (Nat × U S)} {pv : List (Nat × V)} {k : Kn S} (h : sBuildSlice Y P nx m t len parts k) (hp : RelP Y (Dat Y (ownOf o0 E m) st) E parts pv) :
    ∃ v st', vbuildSlice P st t len pv = some (v, st') ∧ Done Y G o0 ro E m st k (some v) st' := by
  unfold sBuildSlice at h
  split at h
  · rename_i e hu
    split at h
    · rename_i n z c hn hz hcode
      cases hc : (Nat.ble (len * n) 16777216 && Nat.blt 0 n && Nat.beq (cellsU z).length n && solid z && Nat.beq n (Y.wid c)) with
      | false => rw [hc] at h; exact h.elim
      | true =>
        rw [hc] at h
        simp only [Bool.and_eq_true] at hc
        obtain ⟨⟨⟨⟨c1, c2⟩, c3⟩, c4⟩, c5⟩ := hc
        obtain ⟨us, h1, h2⟩ := onO_ok h
        obtain ⟨w, e1, e2⟩ := zeroU_ok (Y := Y) hz
        have e2 := RelV.cells c4 (e2 (Dat Y (ownOf o0 E m) st) E)
        obtain ⟨vs, h3, h4⟩ := sFill_ok h1 (repeatU_rel e2 len) hp
        rw [Nat.beq_eq] at c5 c3
        subst c5
        have hl : us.length = len * Y.wid c := by rw [vfill_len h1, repeatU_len, c3]
        obtain ⟨xs, g1, g2, g3⟩ := sRows_ok h2 (by rw [nrmr_len, hl])
        have h5 := nrmr_rel (lk := Y.lk c) (n := Y.wid c) (j := len) h4
        have hcel : ∀ (i : Nat) x, xs[i]? = some x → ∀ (j : Nat) u, (Y.cells c x)[j]? = some u → ∃ v, vs[i * Y.wid c + j]? = some v ∧ DatA Y (ownOf o0 E m) st u v := by
          intro i x hx j u hu
          obtain ⟨v, q1, q2⟩ := h5.get (g3 i x hx j u hu)
          exact ⟨v, q1, DatA.of_rel (Y.flat c x u (List.mem_of_getElem? hu)) q2⟩
        have hat : ∀ v ∈ vs, v.atom = true := by
          intro v hv
          obtain ⟨j, hj⟩ := List.mem_iff_getElem?.1 hv
          have hjl : j < len * Y.wid c := by rw [← hl, ← h4.length]; exact (List.getElem?_eq_some_iff.1 hj).1
          have hw := Y.wpos c
          have q1 : j / Y.wid c < xs.length := by rw [g1]; exact Nat.div_lt_of_lt_mul (by rw [Nat.mul_comm]; exact hjl)
          have q2 : j % Y.wid c < Y.wid c := Nat.mod_lt _ hw
          have hx := List.getElem?_eq_getElem q1
          have hu : (Y.cells c xs[j / Y.wid c])[j % Y.wid c]? = some _ := List.getElem?_eq_getElem (by rw [Y.len]; exact q2)
          obtain ⟨v', e3, e4⟩ := hcel _ _ hx _ _ hu
          rw [Nat.div_add_mod', hj] at e3
          cases e3
          exact atomU_ok (E := E) (flat_atom (Y.flat _ _ _ (List.mem_of_getElem? hu))) e4.rel
        obtain ⟨b, hb⟩ := blkOf_ok vs (Y.wid c) false hat
        obtain ⟨p1, p2, p3, p4, p5, p6⟩ := blkOf_spec hb
        have hd : Done Y G o0 ro E m st k (some (.sl st.nx 0 xs.length xs.length false)) (st.alloc b) := by
          cases ho : Y.opn c with
          | true =>
            rw [ho, cond_true] at g2
            cases hsm : Nat.ble len 2 with
            | true => rw [hsm, cond_true] at g2; exact data_new hI g2 (Nat.le_refl _) (fun i x hx j u hu => by rw [p5]; exact hcel i x hx j u hu)
            | false => rw [hsm, cond_false] at g2; exact row_ok2 hI g2 ⟨p3, p2, blkOf_mp hb⟩ (fun i x hx j u hu => by rw [p5]; exact hcel i x hx j u hu)
          | false =>
            rw [ho, cond_false] at g2
            exact buf_ok (b := b) (cap := xs.length) (op := false) hI g2 ⟨p2, blkOf_mp hb⟩ (by rw [p1, h4.length, hl, g1]) (Nat.le_refl _) ⟨fun z => (by cases z), fun z => by rw [ho] at z; cases z⟩ (fun i x hx j u hu => by rw [p5]; exact hcel i x hx j u hu)
        rw [g1] at hd
        refine ⟨_, _, ?_, hd⟩
        unfold vbuildSlice
        have c3' : Nat.beq w.cells.length (Y.wid c) = true := by rw [Nat.beq_eq, e2.length, c3]
        simp only [hu, hn, e1, c1, c2, c3', Bool.and_self, cond_true, h3, hb, natF_eq]
    · exact h.elim
  · exact h.elim

theorem sMakeSlice_ok (hI : Inv Y G o0 ro E nx m st) {t : TypeId} {len cap : Int} {k : Kn S} (h : sMakeSlice Y P nx m t len cap k) : ∃ v st', vmakeSlice P st t len cap = some (v, st') ∧ Done Y G o0 ro E m st k (some v) st' := by
  unfold sMakeSlice at h
  split at h
  · rename_i e hu
    split at h
    · rename_i ti z c hn hz hcode
      cases hc : (Nat.blt 0 ti.size && Nat.beq (cellsU z).length ti.size && solid z && Nat.beq ti.size (Y.wid c) && !(Y.opn c)) with
      | false => rw [hc] at h; exact h.elim
      | true =>
        rw [hc] at h
        simp only [Bool.and_eq_true, Bool.not_eq_true'] at hc
        obtain ⟨⟨⟨⟨c1, c3⟩, c4⟩, c5⟩, ho⟩ := hc
        obtain ⟨⟨s1, s2, s3, s4⟩, h⟩ := h
        obtain ⟨x, g1, g2⟩ := Y.dec_ok _ _ _ h
        obtain ⟨w, e1, e2⟩ := zeroU_ok (Y := Y) hz
        have e2 := RelV.cells c4 (e2 (Dat Y (ownOf o0 E m) st) E)
        have e3 := nrml_rel (lk := Y.lk c) e2
        rw [g1] at e3
        rw [Nat.beq_eq] at c3 c5
        have hwl : w.cells.length = Y.wid c := by rw [e2.length, c3, c5]
        have hat : w.cells.all V.atom = true := by
          rw [List.all_eq_true]
          intro v hv
          obtain ⟨j, hj⟩ := List.mem_iff_getElem?.1 hv
          have hjl : j < Y.wid c := by rw [← hwl]; exact (List.getElem?_eq_some_iff.1 hj).1
          have hu : (Y.cells c x)[j]? = some _ := List.getElem?_eq_getElem (by rw [Y.len]; exact hjl)
          obtain ⟨v', q1, q2⟩ := e3.get hu
          rw [hj] at q1
          cases q1
          exact atomU_ok (flat_atom (Y.flat _ _ _ (List.mem_of_getElem? hu))) q2
        have hcap : len.toNat ≤ cap.toNat := by omega
        have hd := buf_ok (xs := List.replicate len.toNat x) (b := ⟨.e, w.cells, cap.toNat * ti.size, ti.size, false, none⟩) (cap := cap.toNat) (op := false) hI g2 ⟨c5, rfl⟩ (by dsimp only; rw [c5]) (by simpa using hcap) ⟨fun z => (by cases z), fun z => by rw [ho] at z; cases z⟩ (fun i y hy j u hu => by
          have hi : i < len.toNat := by have := (List.getElem?_eq_some_iff.1 hy).1; simpa using this
          have : y = x := by rw [List.getElem?_replicate_of_lt hi] at hy; exact (Option.some.inj hy).symm
          subst this
          have hj : j < Y.wid c := by rw [← Y.len c y]; exact (List.getElem?_eq_some_iff.1 hu).1
          obtain ⟨v, q1, q2⟩ := e3.get hu
          refine ⟨v, ?_, DatA.of_rel (Y.flat c y u (List.mem_of_getElem? hu)) q2⟩
          unfold Blk.get
          dsimp only
          have hlt : i * Y.wid c + j < cap.toNat * ti.size := by
            rw [c5]
            have : (i + 1) * Y.wid c ≤ cap.toNat * Y.wid c := Nat.mul_le_mul_right _ (by omega)
            rw [Nat.succ_mul] at this
            omega
          have hb : Nat.blt (i * Y.wid c + j) (cap.toNat * ti.size) = true := by rw [Nat.blt_eq]; exact hlt
          rw [hb, cond_true, T.get_e]
          dsimp only
          rw [c5, Nat.mul_comm i, Nat.mul_add_mod, Nat.mod_eq_of_lt hj]
          exact q1)
        rw [List.length_replicate] at hd
        refine ⟨_, _, ?_, hd⟩
        unfold vmakeSlice
        have hcond : (ile 0 len && ile len cap && ile ((ti.bytes : Int) * cap) 1099511627776 && ile cap 1099511627776 && Nat.blt 0 ti.size && Nat.beq w.cells.length ti.size && w.cells.all V.atom) = true := by
          have z1 : Nat.beq w.cells.length ti.size = true := by rw [Nat.beq_eq, hwl, c5]
          rw [hat, z1, c1]
          simp only [ile, Bool.and_true, Bool.and_eq_true, decide_eq_true_eq]
          exact ⟨⟨⟨s1, s2⟩, s3⟩, s4⟩
        simp only [hu, hn, e1, hcond, cond_true, natF_eq]
    · exact h.elim
  · exact h.elim

/-- Behind old elements new ones. -/
theorem cel_app {c : S.Cd} {xs ys : List (S.Den c)} {get : Nat → Option V} {new : List V} {DA : U S → V → Prop} (h1 : Cel Y c xs get DA) (h2 : Cel Y c ys (fun k => new[k]?) DA) {get' : Nat → Option V} (hg : ∀ k, get' k = if xs.length * Y.wid c ≤ k ∧ k < xs.length * Y.wid c + new.length then new[k - xs.length * Y.wid c]? else get k) : Cel Y c (xs ++ ys) get' DA := by
  intro i x hx j u hu
  have hj : j < Y.wid c := by rw [← Y.len c x]; exact (List.getElem?_eq_some_iff.1 hu).1
  rcases Nat.lt_or_ge i xs.length with q | q
  · rw [List.getElem?_append_left q] at hx
    obtain ⟨v, e1, e2⟩ := h1 i x hx j u hu
    refine ⟨v, ?_, e2⟩
    have : (i + 1) * Y.wid c ≤ xs.length * Y.wid c := Nat.mul_le_mul_right _ q
    rw [Nat.succ_mul] at this
    rw [hg, if_neg (by omega), e1]
  · rw [List.getElem?_append_right q] at hx
    obtain ⟨v, e1, e2⟩ := h2 _ x hx j u hu
    dsimp only at e1
    have hlt := (List.getElem?_eq_some_iff.1 e1).1
    have e3 : i * Y.wid c = xs.length * Y.wid c + (i - xs.length) * Y.wid c := by rw [← Nat.add_mul]; congr 1; omega
    refine ⟨v, ?_, e2⟩
    rw [hg, if_pos (by rw [e3]; omega), show i * Y.wid c + j - xs.length * Y.wid c = (i - xs.length) * Y.wid c + j from by rw [e3]; omega, e1]

theorem sAppend_ok (hI : Inv Y G o0 ro E nx m st) {t : TypeId} {s x : U S} {sv xv : V} {k : Kn S} (h : sAppend Y P nx m t s x k) (hs : RelV Y (Dat Y (ownOf o0 E m) st) E s sv) (hx : RelV Y (Dat Y (ownOf o0 E m) st) E x xv) :
    ∃ v st', vappend P ro st t sv xv = some (v, st') ∧ Done Y G o0 ro E m st k (some v) st' := by
  unfold sAppend at h
  split at h
  · rename_i e hu
    split at h
    · rename_i ti c hi hcode
      cases hc : (Nat.beq ti.size (Y.wid c) && Nat.blt 0 ti.bytes && zeroFits P e ti.size) with
      | false => rw [hc] at h; exact h.elim
      | true =>
        rw [hc] at h
        simp only [Bool.and_eq_true] at hc
        obtain ⟨⟨c1, c2⟩, c3⟩ := hc
        rw [Nat.beq_eq] at c1
        have hw := Y.wpos c
        have c0 : (Nat.blt 0 (Y.wid c) && Nat.blt 0 ti.bytes && zeroFits P e (Y.wid c)) = true := by rw [← c1, c2, c3]; simp; omega
        obtain ⟨ys, new, h2, l1, l2, l3, l4, l5⟩ := sElems_ok hI h hx
        have base : ∀ r, vappend P ro st t sv xv = some r ↔ (match (generalizing := false) sv with
          | .sn => cond (Nat.ble (ys.length * ti.bytes) 1099511627776)
            (cond (Nat.beq ys.length 0) (some (V.sn, st)) (match blkOf new (Y.wid c) true with
              | some b => natF st.nx fun nx => natF ys.length fun n => some (V.sl nx 0 n n true, St.alloc ⟨nx, st.hp, st.ver⟩ b)
              | none => none)) none
          | .sl id off len cap op => match st.hp.get id with
            | some b => cond (Nat.ble ((len + ys.length) * ti.bytes) 1099511627776)
              (cond (Nat.ble (len + ys.length) cap)
                (cond (Nat.ble ro id) (match b.put new (off + len * Y.wid c) with
                  | some b => natF (len + ys.length) fun m => some (V.sl id off m cap op, st.write id b)
                  | none => none) none)
                (match vgrown b off len (Y.wid c) new with
                | some b' => cond op
                  (cond (Nat.ble ro id && b.op && Nat.beq b.es (Y.wid c) && Nat.beq (off + cap * Y.wid c) b.sz)
                    (natF st.nx fun nx => natF (len + ys.length) fun m => some (V.sl nx 0 m m true, St.alloc ⟨nx, (st.kill id).hp, (st.kill id).ver⟩ b')) none)
                  (natF st.nx fun nx => natF (len + ys.length) fun m => some (V.sl nx 0 m m true, St.alloc ⟨nx, st.hp, st.ver⟩ b'))
                | none => none)) none
            | none => none
          | .sy g o q => cond (Nat.ble (ys.length * ti.bytes) 1099511627776)
            (cond (Nat.beq ys.length 0) (some (V.sy g o q, st)) (match blkOf new (Y.wid c) true with
              | some b => natF st.nx fun nx => natF ys.length fun n => some (V.sl nx 0 n n true, St.alloc ⟨nx, st.hp, st.ver⟩ b)
              | none => none)) none
          | .ze a => cond (Nat.ble (ys.length * ti.bytes) 1099511627776)
            (cond (Nat.beq ys.length 0) (some (V.ze a, st)) (match blkOf new (Y.wid c) true with
              | some b => natF st.nx fun nx => natF ys.length fun n => some (V.sl nx 0 n n true, St.alloc ⟨nx, st.hp, st.ver⟩ b)
              | none => none)) none
          | _ => none) = some r := by
          intro r
          unfold vappend
          simp only [hu, hi, l1, c1, l2, c0, cond_true]
          exact Iff.rfl
        have no : noRoom sv = true → ∀ r, cond (Nat.ble (ys.length * ti.bytes) 1099511627776)
            (cond (Nat.beq ys.length 0) (some (sv, st)) (match blkOf new (Y.wid c) true with
              | some b => natF st.nx fun nx => natF ys.length fun n => some (V.sl nx 0 n n true, St.alloc ⟨nx, st.hp, st.ver⟩ b)
              | none => none)) none = some r → vappend P ro st t sv xv = some r := by
          intro q r hr
          rw [base]
          clear base hs h2 h hx
          cases sv <;> simp only [noRoom, Bool.false_eq_true] at q <;> exact hr
        have first : noRoom sv = true → (ys.length * ti.bytes ≤ 1099511627776 ∧ sBuf nx m c ys k) → ∃ v st', vappend P ro st t sv xv = some (v, st') ∧ Done Y G o0 ro E m st k (some v) st' := by
          intro q0 h2
          obtain ⟨b1, hk⟩ := h2
          have b1' : Nat.ble (ys.length * ti.bytes) 1099511627776 = true := by rw [Nat.ble_eq]; exact b1
          rcases Nat.eq_zero_or_pos ys.length with z | z
          · have : ys = [] := List.length_eq_zero_iff.1 z
            subst this
            refine ⟨sv, st, no q0 _ ?_, nil_ok hI q0 hk⟩
            have b0 : Nat.ble (0 * ti.bytes) 1099511627776 = true := b1'
            simp only [List.length_nil, b0, cond_true]
            rfl
          · obtain ⟨b, hb⟩ := blkOf_ok new (Y.wid c) true l5
            obtain ⟨p1, p2, p3, p4, p5, p6⟩ := blkOf_spec hb
            have hd := buf_ok (b := b) (cap := ys.length) (op := true) hI hk ⟨p2, blkOf_mp hb⟩ (by rw [p1, l3]) (Nat.le_refl _) ⟨fun _ => ⟨.inl p3, fun _ => rfl⟩, fun _ => rfl⟩ (fun i x hx j u hu => by rw [p5]; exact l4 i x hx j u hu)
            refine ⟨_, _, no q0 _ ?_, hd⟩
            have z' : Nat.beq ys.length 0 = false := by rw [Bool.eq_false_iff]; intro q; rw [Nat.beq_eq] at q; omega
            simp only [b1', cond_true, z', cond_false, hb, natF_eq]
        split at h2
        · simp only [RelV] at hs
          subst hs
          exact first rfl h2
        · exact first hs h2
        · rename_i r
          split at h2
          · rename_i c' xs hr
            cases hcv : (Y.cvb && !(Y.opn c')) with
            | true => rw [hcv] at h2; exact h2.elim
            | false =>
            rw [hcv, cond_false] at h2
            obtain ⟨rfl, h3⟩ := Y.cast_ok _ _ _ _ h2
            obtain ⟨b1, hk⟩ := h3
            simp only [RelV] at hs
            obtain ⟨y, e1, _⟩ := hs
            have hrl := (List.getElem?_eq_some_iff.1 e1).1
            have DAk : ∀ {E' : En} {m' : T (Ct S)} {st' : St} {ks wr : List Nat}, Step o0 E m st E' m' st' ks wr → ∀ {u : U S} {v : V}, DatA Y (ownOf o0 E m) st u v → DatA Y (ownOf o0 E' m') st' u v := fun hs _ _ hd => hs.datA hd
            have hm0 : ∀ k c, (Tmap (killCt [r]) m).get k = some c → ∃ c', m.get k = some c' := by
              intro k c e
              rw [Tmap_get] at e
              cases q : m.get k with
              | none => rw [q] at e; cases e
              | some c' => exact ⟨c', rfl⟩
            -- what is left to show: the block behind it
            have fin : ∀ (id : Nat) (cap : Nat) (op : Bool) (b' : Blk) (st' : St), (∀ id', some id = some id' → (∃ y, E[r]? = some (some id', y)) ∨ st.nx ≤ id') → ro ≤ id → id < st'.nx → st.nx ≤ st'.nx → (∀ j, j < st.nx → (∀ y, E[r]? ≠ some (some j, y)) → st'.hp.get j = st.hp.get j) →
                (∀ j, j ≤ st.nx → j ≤ st.ver → (∀ id y, E[r]? = some (some id, y) → j ≤ id) → j ≤ st'.ver) → st'.hp.get id = some b' → (b'.es = Y.wid c' ∧ b'.mp = none) → b'.sz = cap * Y.wid c' → (xs ++ ys).length ≤ cap → ((op = true → (b'.op = true ∨ (Y.cvb && !(Y.opn c')) = true) ∧ (Y.opn c' = true → cap = (xs ++ ys).length)) ∧ (Y.opn c' = true → op = true)) → Cel Y c' (xs ++ ys) b'.get (DatA Y (ownOf o0 E m) st) →
                Done Y G o0 ro E m st k (some (.sl id 0 (xs ++ ys).length cap op)) st' := by
              intro id cap op b' st' f1 f2 f3 f4 f5 f6 f7 f8 f9 f10 f11 f12
              have hst := step_re (st' := st') (m0 := Tmap (killCt [r]) m) hI (.buf c' (xs ++ ys)) hr [r] (.inl rfl) (some id) (.sl id 0 (xs ++ ys).length cap op) f1 (fun q => by cases q) hm0 f4 f5 f6
              have hE : (E.set r (some id, V.sl id 0 (xs ++ ys).length cap op))[r]? = some (some id, .sl id 0 (xs ++ ys).length cap op) := List.getElem?_set_self hrl
              obtain ⟨vs, r1, r2⟩ := rows_of_cel (off := 0) (b := b') (DA := DatA Y (ownOf o0 E m) st) (by simpa only [Nat.zero_add] using f12)
              exact ⟨some (.o r), nx, _, [r], [r], _, inv_re hI (.buf c' (xs ++ ys)) hr [r] (some id) _ f1 hst f5 (.inr ⟨id, cap, op, b', hE, f2, f3, f7, f10, f8, f9, f11, vs, fun i x hx => by rw [← r1 i x hx, Nat.zero_add], fun i x hx j u v hu hv => DAk hst (r2 i x hx j u v hu hv)⟩), hst, ⟨_, hE, rfl⟩, hk⟩
            rcases hI.ent r _ hr with ⟨v0, q1, q2, q0⟩ | ⟨id, cap, op, b, q1, q2, q3, q4, q5, q6, q7, q8, vs, q9, q10⟩
            · -- nil before
              rw [e1] at q1
              cases q1
              subst q2
              simp only [List.length_nil, Nat.zero_add] at b1
              have b1' : Nat.ble (ys.length * ti.bytes) 1099511627776 = true := by rw [Nat.ble_eq]; exact b1
              rcases Nat.eq_zero_or_pos ys.length with z | z
              · have : ys = [] := List.length_eq_zero_iff.1 z
                subst this
                have hst := step_re (st' := st) (m0 := Tmap (killCt [r]) m) hI (.buf c' []) hr [r] (.inl rfl) none sv (fun _ q => by cases q) (fun q => by cases q) hm0 (Nat.le_refl _) (fun _ _ _ => rfl) (fun _ _ q _ => q)
                have hE : (E.set r ((none : Option Nat), sv))[r]? = some (none, sv) := List.getElem?_set_self hrl
                have b0 : Nat.ble (0 * ti.bytes) 1099511627776 = true := b1'
                exact ⟨sv, st, no q0 _ (by simp only [List.length_nil, b0, cond_true]; rfl), some (.o r), nx, _, [r], [r], _, inv_re hI (.buf c' []) hr [r] none sv (fun _ q => by cases q) hst (fun _ _ _ => rfl) (.inl ⟨sv, hE, rfl, q0⟩), hst, ⟨_, hE, noRoom_atom q0⟩, hk⟩
              · obtain ⟨b, hb⟩ := blkOf_ok new (Y.wid c') true l5
                obtain ⟨p1, p2, p3, p4, p5, p6⟩ := blkOf_spec hb
                have hd := fin st.nx ys.length true b (st.alloc b) (fun id' e => .inr (by cases e; exact Nat.le_refl _)) hI.ro (Nat.lt_succ_self _) (Nat.le_succ _) (fun j hj _ => alloc_hp st b j hj) (fun _ _ q _ => q) (alloc_self st b) ⟨p2, blkOf_mp hb⟩ (by rw [p1, l3]) (by simp) ⟨fun _ => ⟨.inl p3, fun _ => by simp⟩, fun _ => rfl⟩ (fun i x hx j u hu => by rw [p5]; exact l4 i x (by simpa using hx) j u hu)
                refine ⟨_, _, no q0 _ ?_, hd⟩
                have z' : Nat.beq ys.length 0 = false := by rw [Bool.eq_false_iff]; intro q; rw [Nat.beq_eq] at q; omega
                simp only [b1', cond_true, z', cond_false, hb, natF_eq, List.nil_append]
            · rw [e1] at q1
              cases q1
              have hold := cel_of_rows (off := 0) (b := b) (DA := DatA Y (ownOf o0 E m) st) (fun i x hx => by rw [Nat.zero_add]; exact q9 i x hx) q10
              simp only [Nat.zero_add] at hold
              have b1' : Nat.ble ((xs.length + ys.length) * ti.bytes) 1099511627776 = true := by rw [Nat.ble_eq]; exact b1
              have roT : Nat.ble ro id = true := by rw [Nat.ble_eq]; exact q2
              have le1 : xs.length * Y.wid c' ≤ cap * Y.wid c' := Nat.mul_le_mul_right _ q5
              by_cases hcap : xs.length + ys.length ≤ cap
              · have le2 : (xs.length + ys.length) * Y.wid c' ≤ cap * Y.wid c' := Nat.mul_le_mul_right _ hcap
                obtain ⟨b', hp⟩ := Blk.put_ok new b (xs.length * Y.wid c') (by rw [q7, l3, ← Nat.add_mul]; exact le2) l5
                obtain ⟨p1, p2, p3, p4, p5, p6, p7⟩ := Blk.put_spec _ _ _ _ hp
                have hd := fin id cap op b' (st.write id b') (fun id' e => .inl (by cases e; exact ⟨_, e1⟩)) q2 (by rw [write_nx]; exact q3) (by rw [write_nx]; exact Nat.le_refl _) (fun j hj hh => write_hp st b' id j (fun z => by subst z; exact hh _ e1)) (fun j _ h2 h3 => write_ver st b' id j h2 (h3 id _ e1)) (write_self st b' id) ⟨p2.trans q6.1, (Blk.put_mp _ _ _ _ hp).trans q6.2⟩ (p1.trans q7) (by rw [List.length_append]; exact hcap)
                  ⟨fun z => by rw [p3, List.length_append]; have := q8.1 z; exact ⟨this.1, fun z2 => by have := this.2 z2; omega⟩, q8.2⟩ (cel_app hold l4 (fun k => p5 k))
                refine ⟨_, _, (base _).2 ?_, hd⟩
                have c4 : Nat.ble (xs.length + ys.length) cap = true := by rw [Nat.ble_eq]; exact hcap
                simp only [q4, b1', c4, cond_true, roT, Nat.zero_add, hp, natF_eq, List.length_append]
              · have c4 : Nat.ble (xs.length + ys.length) cap = false := by rw [Bool.eq_false_iff]; intro q; rw [Nat.ble_eq] at q; exact hcap q
                have grown : ∃ b', vgrown b 0 xs.length (Y.wid c') new = some b' ∧ (b'.es = Y.wid c' ∧ b'.mp = none) ∧ b'.op = true ∧ b'.sz = (xs.length + ys.length) * Y.wid c' ∧ Cel Y c' (xs ++ ys) b'.get (DatA Y (ownOf o0 E m) st) := by
                  unfold vgrown
                  rw [q6.2]
                  dsimp only
                  cases hq : (b.op && Nat.beq 0 0 && Nat.beq (xs.length * Y.wid c') b.sz && Nat.beq b.es (Y.wid c')) with
                  | true =>
                    simp only [Bool.and_eq_true, Nat.beq_eq] at hq
                    simp only [cond_true]
                    unfold Blk.grow
                    have hq2 := hq.1.2
                    obtain ⟨b', hb'⟩ := Blk.put_ok new { b with sz := b.sz + new.length, op := true } b.sz (by dsimp only; omega) l5
                    obtain ⟨p1, p2, p3, p4, p5, p6, p7⟩ := Blk.put_spec _ _ _ _ hb'
                    refine ⟨b', hb', ⟨p2.trans q6.1, (Blk.put_mp _ _ _ _ hb').trans q6.2⟩, p3, by rw [p1]; dsimp only; rw [← hq2, l3, ← Nat.add_mul], fun i x hx j u hu => ?_⟩
                    refine cel_app (get := fun k => if k < b.sz then b.get k else none) (get' := fun k => if k < b.sz + new.length then b'.get k else none) ?_ l4 ?_ i x hx j u hu |>.elim fun v hv => ⟨v, ?_, hv.2⟩
                    · intro i x hx j u hu
                      obtain ⟨v, z1, z2⟩ := hold i x hx j u hu
                      exact ⟨v, by dsimp only; rw [if_pos (Blk.get_lt z1)]; exact z1, z2⟩
                    · intro k
                      rw [hq2]
                      by_cases z1 : k < b.sz + new.length
                      · rw [if_pos z1, p5 k]
                        by_cases z2 : b.sz ≤ k
                        · rw [if_pos ⟨z2, z1⟩, if_pos ⟨z2, z1⟩]
                        · rw [if_neg (by omega), if_neg (by omega), if_pos (by omega)]
                          unfold Blk.get
                          dsimp only
                          have a1 : Nat.blt k (b.sz + new.length) = true := by rw [Nat.blt_eq]; exact z1
                          have a2 : Nat.blt k b.sz = true := by rw [Nat.blt_eq]; omega
                          rw [a1, a2]
                      · rw [if_neg z1, if_neg (by omega), if_neg (by omega)]
                    · have := hv.1
                      dsimp only at this
                      split at this
                      · exact this
                      · cases this
                  | false =>
                    have hw0 := hw
                    have key : ∀ k, k < xs.length * Y.wid c' → ∃ v, b.get k = some v ∧ v.atom = true := by
                      intro k hk
                      have h1 : k / Y.wid c' < xs.length := Nat.div_lt_of_lt_mul (by rw [Nat.mul_comm]; exact hk)
                      have h2 : k % Y.wid c' < Y.wid c' := Nat.mod_lt _ hw0
                      have hx := List.getElem?_eq_getElem h1
                      have hu : (Y.cells c' xs[k / Y.wid c'])[k % Y.wid c']? = some _ := List.getElem?_eq_getElem (by rw [Y.len]; exact h2)
                      obtain ⟨v, z1, z2⟩ := hold _ _ hx _ _ hu
                      rw [Nat.div_add_mod'] at z1
                      exact ⟨v, z1, atomU_ok (E := E) (flat_atom (Y.flat _ _ _ (List.mem_of_getElem? hu))) z2.rel⟩
                    let old : List V := (List.range (xs.length * Y.wid c')).map fun k => (b.get k).getD (.b false)
                    have hol : old.length = xs.length * Y.wid c' := by simp [old]
                    have hog : ∀ k, k < xs.length * Y.wid c' → old[k]? = b.get k := by
                      intro k hk
                      obtain ⟨v, z1, _⟩ := key k hk
                      simp only [old]
                      rw [List.getElem?_map, List.getElem?_range hk, Option.map_some, z1, Option.getD_some]
                    have hrow : b.row (xs.length * Y.wid c') 0 = some old := by
                      have := Blk.row_ok (b := b) old 0 (fun j hj => by rw [Nat.zero_add, hog j (by rw [← hol]; exact hj)])
                      rwa [hol] at this
                    have hoa : ∀ v ∈ old ++ new, v.atom = true := by
                      intro v hv
                      rcases List.mem_append.1 hv with z | z
                      · obtain ⟨j, hj⟩ := List.mem_iff_getElem?.1 z
                        have hjl : j < xs.length * Y.wid c' := by rw [← hol]; exact (List.getElem?_eq_some_iff.1 hj).1
                        rw [hog j hjl] at hj
                        obtain ⟨v', z1, z2⟩ := key j hjl
                        rw [hj] at z1
                        cases z1
                        exact z2
                      · exact l5 v z
                    obtain ⟨b', hb'⟩ := blkOf_ok (old ++ new) (Y.wid c') true hoa
                    obtain ⟨p1, p2, p3, p4, p5, p6⟩ := blkOf_spec hb'
                    refine ⟨b', by simp only [cond_false, hrow, hb'], ⟨p2, blkOf_mp hb'⟩, p3, by rw [p1, List.length_append, hol, l3, ← Nat.add_mul], cel_app (get := fun k => old[k]?) ?_ l4 (fun k => ?_)⟩
                    · intro i x hx j u hu
                      obtain ⟨v, z1, z2⟩ := hold i x hx j u hu
                      have hj : j < Y.wid c' := by rw [← Y.len c' x]; exact (List.getElem?_eq_some_iff.1 hu).1
                      have : (i + 1) * Y.wid c' ≤ xs.length * Y.wid c' := Nat.mul_le_mul_right _ (List.getElem?_eq_some_iff.1 hx).1
                      rw [Nat.succ_mul] at this
                      exact ⟨v, by dsimp only; rw [hog _ (by omega)]; exact z1, z2⟩
                    · rw [p5]
                      by_cases z : xs.length * Y.wid c' ≤ k
                      · rw [List.getElem?_append_right (by rw [hol]; exact z), hol]
                        by_cases z2 : k < xs.length * Y.wid c' + new.length
                        · rw [if_pos ⟨z, z2⟩]
                        · rw [if_neg (by omega), List.getElem?_eq_none (by omega), List.getElem?_eq_none (by rw [hol]; exact z)]
                      · rw [if_neg (by omega), List.getElem?_append_left (by rw [hol]; omega)]
                obtain ⟨b', g1, g2, g3, g4, g5⟩ := grown
                have ver2 : ∀ st' : St, (∀ j, j ≤ st.ver → j ≤ id → j ≤ st'.ver) → (∀ j, j ≤ st.nx → j ≤ st.ver → (∀ id y, E[r]? = some (some id, y) → j ≤ id) → j ≤ st'.ver) := fun st' hh j _ h2 h3 => hh j h2 (h3 id _ e1)
                cases op with
                | true =>
                  obtain ⟨o1, o2⟩ := q8.1 rfl
                  have o1 : b.op = true := o1.resolve_right (by rw [hcv]; decide)
                  have hd := fin st.nx (xs ++ ys).length true b' (St.alloc ⟨st.nx, (st.kill id).hp, (st.kill id).ver⟩ b') (fun id' e => .inr (by cases e; exact Nat.le_refl _)) hI.ro (Nat.lt_succ_self _) (Nat.le_succ _)
                    (fun j hj hh => by
                      show (St.alloc ⟨st.nx, (st.kill id).hp, (st.kill id).ver⟩ b').hp.get j = _
                      rw [alloc_hp ⟨st.nx, (st.kill id).hp, (st.kill id).ver⟩ b' j hj, St.kill_eq]
                      dsimp only
                      rw [T.get_upd, if_neg (fun z => by subst z; exact hh _ e1)])
                    (ver2 _ (fun j h1 h2 => by show j ≤ (st.kill id).ver; rw [St.kill_eq]; exact low_ge h1 h2)) (alloc_self ⟨st.nx, (st.kill id).hp, (st.kill id).ver⟩ b') g2 (by rw [g4, List.length_append]) (Nat.le_refl _) ⟨fun _ => ⟨.inl g3, fun _ => rfl⟩, fun _ => rfl⟩ g5
                  refine ⟨_, _, (base _).2 ?_, hd⟩
                  have c5 : (Nat.ble ro id && b.op && Nat.beq b.es (Y.wid c') && Nat.beq (0 + cap * Y.wid c') b.sz) = true := by rw [roT, o1, q6.1, q7]; simp
                  simp only [q4, b1', c4, cond_true, cond_false, g1, c5, natF_eq, List.length_append]
                | false =>
                  have hd := fin st.nx (xs ++ ys).length true b' (st.alloc b') (fun id' e => .inr (by cases e; exact Nat.le_refl _)) hI.ro (Nat.lt_succ_self _) (Nat.le_succ _) (fun j hj _ => alloc_hp st b' j hj) (fun _ _ q _ => q) (alloc_self st b') g2 (by rw [g4, List.length_append]) (Nat.le_refl _) ⟨fun _ => ⟨.inl g3, fun _ => rfl⟩, fun _ => rfl⟩ g5
                  refine ⟨_, _, (base _).2 ?_, hd⟩
                  simp only [q4, b1', c4, cond_true, cond_false, g1, natF_eq, List.length_append]
          · exact h2.elim
        · exact h2.elim
    · exact h.elim
  · exact h.elim

theorem map_get {α β : Type} {f : α → List (U S)} {g : β → List (U S)} {xs : List α} {ys : List β} (h : xs.map f = ys.map g) : xs.length = ys.length ∧ ∀ (i : Nat) x, xs[i]? = some x → ∃ y, ys[i]? = some y ∧ f x = g y := by
  refine ⟨by have := congrArg List.length h; simpa using this, fun i x hx => ?_⟩
  have := congrArg (·[i]?) h
  simp only [List.getElem?_map, hx, Option.map_some] at this
  cases hy : ys[i]? with
  | none => rw [hy] at this; cases this
  | some y => rw [hy] at this; exact ⟨y, rfl, Option.some.inj this⟩

/-- Bytes of a block, as a text. -/
theorem text_ok {own : Nat → Prop} {c : S.Cd} {xs : List (S.Den c)} {bs : List UInt8} {b : Blk} {off : Nat} (hw : Y.wid c = 1) (hm : xs.map (Y.cells c) = bs.map (fun y => [.i .u8 (y.toNat : Int)])) (hc : Cel Y c xs (fun k => b.get (off + k)) (DatA Y own st)) : vtext b xs.length off = some (V.str bs) := by
  obtain ⟨hl, hg⟩ := map_get hm
  have cell : ∀ j, j < bs.length → b.get (off + j) = (cB bs)[j]? := by
    intro j hj
    have hx := List.getElem?_eq_getElem (l := xs) (i := j) (by omega)
    obtain ⟨y, e1, e2⟩ := hg j _ hx
    obtain ⟨v, e3, e4⟩ := hc j _ hx 0 (.i .u8 (y.toNat : Int)) (by rw [e2]; rfl)
    dsimp only at e3
    rw [hw, Nat.mul_one, Nat.add_zero] at e3
    cases e4
    rw [e3, cB_get, e1]
    rfl
  have := Blk.row_ok (b := b) (cB bs) off (fun j hj => cell j (by rwa [cB_len] at hj))
  rw [cB_len] at this
  rw [hl]
  exact vtext_of this (bytesOf_cB bs)

theorem noRoom_conv {v : V} (h : noRoom v = true) {s d e : TypeId} (hs : P.underlying s = some (.slice e)) (hd : P.underlying d = some .string) (he : P.underlying e = some (.int .u8)) : vconvert P st s d v = some (.s 0 0, st) := by
  cases v <;> simp only [noRoom, Bool.false_eq_true] at h <;> (unfold vconvert; simp only [hs, hd, he])

theorem sConvert_ok (hI : Inv Y G o0 ro E nx m st) {s d : TypeId} {x : U S} {xv : V} {k : Kn S} (h : sConvert Y P nx m s d x k) (hx : RelV Y (Dat Y (ownOf o0 E m) st) E x xv) :
    ∃ v st', vconvert P st s d xv = some (v, st') ∧ Done Y G o0 ro E m st k (some v) st' := by
  unfold sConvert at h
  split at h
  · rename_i hs hd
    simp only [RelV] at hx
    subst hx
    exact ⟨_, st, by unfold vconvert; simp only [hs, hd], done_pure hI (u := .i _ _) rfl (sArith_ok h)⟩
  · rename_i hs hd
    simp only [RelV] at hx
    subst hx
    exact ⟨_, st, by unfold vconvert V.str; simp only [hs, hd], done_pure hI (u := .s _) rfl h⟩
  · rename_i e l hs hd
    split at h
    · rename_i c he hcode
      simp only [RelV] at hx
      subst hx
      obtain ⟨h1, h⟩ := h
      obtain ⟨xs, hw, hm, hk⟩ := Y.ofB_ok _ _ _ h
      obtain ⟨hl, hg⟩ := map_get hm
      obtain ⟨b, hb⟩ := blkOf_ok (cB l) 1 false (cB_atom l)
      obtain ⟨p1, p2, p3, p4, p5, p6⟩ := blkOf_spec hb
      have hcl : Cel Y c xs b.get (DatA Y (ownOf o0 E m) st) := (fun i x hx j u hu => by
        obtain ⟨y, e1, e2⟩ := hg i x hx
        rw [e2] at hu
        cases j with
        | zero =>
          simp only [List.getElem?_cons_zero, Option.some.injEq] at hu
          subst hu
          exact ⟨_, by rw [hw, Nat.mul_one, Nat.add_zero, p5, cB_get, e1]; rfl, .i _ _⟩
        | succ j => simp at hu)
      have hd2 : Done Y G o0 ro E m st k (some (.sl st.nx 0 xs.length xs.length true)) (st.alloc b) := by
        cases hcv : (Y.cvb && !(Y.opn c)) with
        | false =>
          rw [hcv, cond_false] at hk
          exact data_new (b := b) (cap := xs.length) (op := true) hI hk (Nat.le_refl _) hcl
        | true =>
          rw [hcv, cond_true] at hk
          exact buf_ok (b := b) (cap := xs.length) (op := true) hI hk ⟨p2.trans hw.symm, blkOf_mp hb⟩ (by rw [p1, cB_len, hw, Nat.mul_one, hl]) (Nat.le_refl _) ⟨fun _ => ⟨.inr hcv, fun _ => rfl⟩, fun _ => rfl⟩ hcl
      rw [hl] at hd2
      refine ⟨_, _, ?_, hd2⟩
      have c1 : Nat.ble l.length 1099511627776 = true := by rw [Nat.ble_eq]; exact h1
      unfold vconvert V.str
      simp only [hs, hd, he, c1, cond_true, cellsOf_str, hb, natF_eq]
    · exact h.elim
  · rename_i e hs hd
    split at h
    · rename_i he
      simp only [RelV] at hx
      subst hx
      exact ⟨.s 0 0, st, by unfold vconvert; simp only [hs, hd, he], done_pure hI (u := .s []) rfl h⟩
    · exact h.elim
  · rename_i e c xs hs hd
    split at h
    · rename_i he
      obtain ⟨bs, hw, hm, hk⟩ := Y.byt_ok _ _ _ h
      simp only [RelV] at hx
      cases hx with
      | nil =>
        obtain ⟨hl, _⟩ := map_get hm
        have : bs = [] := List.length_eq_zero_iff.1 hl.symm
        subst this
        exact ⟨.s 0 0, st, by unfold vconvert; simp only [hs, hd, he], done_pure hI (u := .s []) rfl hk⟩
      | ne =>
        obtain ⟨hl, _⟩ := map_get hm
        have : bs = [] := List.length_eq_zero_iff.1 hl.symm
        subst this
        exact ⟨.s 0 0, st, by unfold vconvert; simp only [hs, hd, he], done_pure hI (u := .s []) rfl hk⟩
      | ny =>
        obtain ⟨hl, _⟩ := map_get hm
        have : bs = [] := List.length_eq_zero_iff.1 hl.symm
        subst this
        exact ⟨.s 0 0, st, by unfold vconvert; simp only [hs, hd, he], done_pure hI (u := .s []) rfl hk⟩
      | ze =>
        obtain ⟨hl, _⟩ := map_get hm
        have : bs = [] := List.length_eq_zero_iff.1 hl.symm
        subst this
        exact ⟨.s 0 0, st, by unfold vconvert; simp only [hs, hd, he], done_pure hI (u := .s []) rfl hk⟩
      | mk vs h1 h2 h3 h4 h5 h6 =>
        exact ⟨V.str bs, st, by unfold vconvert; simp only [hs, hd, he, h3, text_ok hw hm (cel_of_rows h4 h5)], done_pure hI (u := .s bs) rfl hk⟩
    · exact h.elim
  · rename_i e r hs hd
    split at h
    · rename_i c xs he hr
      obtain ⟨bs, hw, hm, hk⟩ := Y.byt_ok _ _ _ h
      simp only [RelV] at hx
      obtain ⟨y, e1, _⟩ := hx
      rcases hI.ent r _ hr with ⟨v0, q1, q2, q0⟩ | ⟨id, cap, op, b, q1, q2, q3, q4, q5, q6, q7, q8, vs, q9, q10⟩
      · rw [e1] at q1
        cases q1
        subst q2
        obtain ⟨hl, _⟩ := map_get hm
        have : bs = [] := List.length_eq_zero_iff.1 hl.symm
        subst this
        exact ⟨.s 0 0, st, noRoom_conv q0 hs hd he, done_pure hI (u := .s []) rfl hk⟩
      · rw [e1] at q1
        cases q1
        exact ⟨V.str bs, st, by unfold vconvert; simp only [hs, hd, he, q4, text_ok hw hm (cel_of_rows (fun i x hx => by rw [Nat.zero_add]; exact q9 i x hx) q10)], done_pure hI (u := .s bs) rfl hk⟩
    · exact h.elim
  · rename_i e r w i hs hd
    split at h
    · rename_i c xs he hr
      cases hwc : Nat.beq w (Y.wid c) with
      | false => rw [hwc] at h; exact h.elim
      | true =>
        rw [hwc, cond_true] at h
        rw [Nat.beq_eq] at hwc
        subst hwc
        obtain ⟨bs, hw, hm, hk⟩ := Y.byt_ok _ _ _ h
        obtain ⟨hl, _⟩ := map_get hm
        simp only [RelV] at hx
        obtain ⟨x, y, e1, hv⟩ := hx
        have none : xs.drop i = [] → bs = [] := fun q => List.length_eq_zero_iff.1 (by rw [← hl, q]; rfl)
        rcases hI.ent r _ hr with ⟨v0, q1, q2, q0⟩ | ⟨id, cap, op, b, q1, q2, q3, q4, q5, q6, q7, q8, vs, q9, q10⟩
        · rw [e1] at q1
          cases q1
          subst q2
          have := none (by simp)
          subst this
          obtain ⟨_, rfl⟩ | ⟨_, _, _, _, q, _⟩ := hv
          · exact ⟨.s 0 0, st, noRoom_conv q0 hs hd he, done_pure hI (u := .s []) rfl hk⟩
          · rw [q] at q0; cases q0
        · rw [e1] at q1
          cases q1
          obtain ⟨q, _⟩ | ⟨_, _, _, _, q, hi, hv⟩ := hv
          · cases q
          cases q
          have hlen : (xs.drop i).length = xs.length - i := List.length_drop
          obtain ⟨o, cap', op', ho, rfl⟩ | ⟨hi2, o, o2, rfl⟩ := hv
          · have hc : Cel Y c (xs.drop i) (fun k => b.get (o + k)) (DatA Y (ownOf o0 E m) st) := by
              by_cases hlt : i < xs.length
              · rw [ho hlt]
                refine cel_of_rows (vs := fun j => vs (i + j)) (fun j x hx => ?_) (fun j x hx => ?_)
                · rw [← Nat.add_mul]
                  exact q9 (i + j) x (by rw [List.getElem?_drop] at hx; exact hx)
                · exact q10 (i + j) x (by rw [List.getElem?_drop] at hx; exact hx)
              · intro j x hx
                rw [List.getElem?_eq_none (by omega)] at hx
                cases hx
            have ht := text_ok hw hm hc
            rw [hlen] at ht
            exact ⟨V.str bs, st, by unfold vconvert; simp only [hs, hd, he, q4, ht], done_pure hI (u := .s bs) rfl hk⟩
          · have := none (List.length_eq_zero_iff.1 (by omega))
            subst this
            exact ⟨.s 0 0, st, by unfold vconvert; simp only [hs, hd, he], done_pure hI (u := .s []) rfl hk⟩
    · exact h.elim
  · exact h.elim

theorem sConv2_ok (hI : Inv Y G o0 ro E nx m st) {s d : TypeId} {x : U S} {xv : V} {k : Kn S} (h : sConv2 Y P nx m s d x k) (hx : RelV Y (Dat Y (ownOf o0 E m) st) E x xv) :
    ∃ v st', vconv2 P ro st s d xv = some (v, st') ∧ Done Y G o0 ro E m st k (some v) st' := by
  unfold sConv2 at h
  split at h
  · rename_i e e2 r hs hd
    split at h
    · rename_i c xs he hr
      cases hq0 : (decide (s = d) && Nat.beq (Y.wid c) 1) with
      | false => rw [hq0] at h; exact h.elim
      | true =>
        rw [hq0, cond_true] at h
        rw [Bool.and_eq_true, Nat.beq_eq] at hq0
        obtain ⟨hq, hw1⟩ := hq0
        have hx0 := hx
        simp only [RelV] at hx
        obtain ⟨y, e1, _⟩ := hx
        obtain ⟨id, b, q1, q2, q3, q4, q5, q6⟩ := hI.ent r _ hr
        rw [e1] at q1
        cases q1
        have c1 : (decide (s = d) && !b.full && Nat.ble ro id && b.mp.isNone) = true := by
          unfold Blk.full
          rw [hq, q5.1, q5.2.1, q5.2.2, hw1, show Nat.ble ro id = true from by rw [Nat.ble_eq]; exact q2]
          rfl
        exact ⟨_, st, by unfold vconv2; simp only [hs, hd, he, q4, c1, cond_true], done_pure hI hx0 h⟩
    · exact h.elim
  · obtain ⟨v, st', h7, h8⟩ := sConvert_ok hI h hx
    exact ⟨v, st', vconv2_of h7, h8⟩

theorem sCut_ok (hI : Inv Y G o0 ro E nx m st) {t : TypeId} {r : Nat} {kd : IntKind} {a : Int} {k : Kn S} {xv : V} (h : sCut Y P nx m t r a k) (hx : RelV Y (Dat Y (ownOf o0 E m) st) E (.o r) xv) :
    ∃ v, vslice P t xv none (some (.i kd a)) none = some v ∧ Done Y G o0 ro E m st k (some v) st := by
  unfold sCut at h
  split at h
  · rename_i e hu
    split at h
    · rename_i n c xs hn hr
      cases hc : (Nat.beq n (Y.wid c) && !(Y.opn c)) with
      | false => rw [hc] at h; exact h.elim
      | true =>
        rw [hc, cond_true] at h
        simp only [Bool.and_eq_true, Bool.not_eq_true', Nat.beq_eq] at hc
        obtain ⟨rfl, ho⟩ := hc
        obtain ⟨⟨g1, g2⟩, hk⟩ := h
        simp only [RelV] at hx
        obtain ⟨x, e1, _⟩ := hx
        have hrl := (List.getElem?_eq_some_iff.1 e1).1
        have hm0 : ∀ k c, (Tmap (killCt [r]) m).get k = some c → ∃ c', m.get k = some c' := by
          intro k c e
          rw [Tmap_get] at e
          cases q : m.get k with
          | none => rw [q] at e; cases e
          | some c' => exact ⟨c', rfl⟩
        rcases hI.ent r _ hr with ⟨v0, q1, q2, q0⟩ | ⟨id, cap, op, b, q1, q2, q3, q4, q5, q6, q7, q8, vs, q9, q10⟩
        · rw [e1] at q1
          cases q1
          subst q2
          have ha : a = 0 := by simp at g2; omega
          subst ha
          have hst := step_re (st' := st) (m0 := Tmap (killCt [r]) m) hI (.buf c (([] : List (S.Den c)).take (0 : Int).toNat)) hr [r] (.inl rfl) none xv (fun _ q => by cases q) (fun q => by cases q) hm0 (Nat.le_refl _) (fun _ _ _ => rfl) (fun _ _ q _ => q)
          have hE : (E.set r ((none : Option Nat), xv))[r]? = some (none, xv) := List.getElem?_set_self hrl
          exact ⟨xv, noRoom_slice q0 hu hn rfl, some (.o r), nx, _, [r], [r], _, inv_re hI (.buf c (([] : List (S.Den c)).take (0 : Int).toNat)) hr [r] none xv (fun _ q => by cases q) hst (fun _ _ _ => rfl) (.inl ⟨xv, hE, List.take_nil, q0⟩), hst, ⟨_, hE, noRoom_atom q0⟩, hk⟩
        · rw [e1] at q1
          cases q1
          have hl : (xs.take a.toNat).length = a.toNat := by rw [List.length_take]; omega
          have hb : vbounds xs.length cap none (some (.i kd a)) none = some (0, a.toNat, cap) := by
            unfold vbounds
            have z1 : vboundO (some (.i kd a)) cap xs.length = some a.toNat := vboundI (kd := kd) ⟨g1, by omega⟩
            rw [show vboundO none cap cap = some cap from rfl]
            dsimp only
            rw [z1]
            rfl
          have f1 : ∀ id', some id = some id' → (∃ y, E[r]? = some (some id', y)) ∨ st.nx ≤ id' := fun id' q => by cases q; exact .inl ⟨_, e1⟩
          have hst := step_re (st' := st) (m0 := Tmap (killCt [r]) m) hI (.buf c (xs.take a.toNat)) hr [r] (.inl rfl) (some id) (.sl id 0 (xs.take a.toNat).length cap op) f1 (fun q => by cases q) hm0 (Nat.le_refl _) (fun _ _ _ => rfl) (fun _ _ q _ => q)
          have hE : (E.set r (some id, V.sl id 0 (xs.take a.toNat).length cap op))[r]? = some (some id, .sl id 0 (xs.take a.toNat).length cap op) := List.getElem?_set_self hrl
          have hg : ∀ (i : Nat) x, (xs.take a.toNat)[i]? = some x → xs[i]? = some x := fun i x hx => by
            rw [List.getElem?_take] at hx
            split at hx
            · exact hx
            · cases hx
          refine ⟨.sl id 0 (xs.take a.toNat).length cap op, ?_, some (.o r), nx, _, [r], [r], _, inv_re hI (.buf c (xs.take a.toNat)) hr [r] (some id) _ f1 hst (fun _ _ _ => rfl) (.inr ⟨id, cap, op, b, hE, q2, q3, q4, by rw [hl]; omega, q6, q7, ⟨fun z => ⟨(q8.1 z).1, fun z2 => by rw [ho] at z2; cases z2⟩, q8.2⟩, vs, fun i x hx => q9 i x (hg i x hx), fun i x hx j u v hu hv => hst.datA (q10 i x (hg i x hx) j u v hu hv)⟩), hst, ⟨_, hE, rfl⟩, hk⟩
          unfold vslice
          rw [hl]
          simp only [hu, hn, hb]
          cases op with
          | true => simp
          | false => cases hc : Nat.beq cap 0 <;> simp [hc]
    · exact h.elim
  · exact h.elim

theorem sE_ok (hI : Inv Y G o0 ro E nx m st) {o : Op} {k : Kn S} (h : sE Y P fr nx m o k) (hf : RelF Y (Dat Y (ownOf o0 E m) st) E fr frV) : ∃ res st', (∀ call, vop P ro call frV st o = some (res, st')) ∧ Done Y G o0 ro E m st k res st' := by
  unfold sE at h
  split at h
  · obtain ⟨u, v, h1, h2, h3⟩ := sOpd_ok h hf
    obtain ⟨w, z, h4, h5, h6⟩ := sOpd_ok h3 hf
    split at h6
    · rename_i r w i off
      obtain ⟨u', ks, g1, g2⟩ := frzU_ok hI h6 h5
      obtain ⟨id, off, st', rfl, h7, h8⟩ := sStore_ok (drop_inv hI ks) g1 ((drop_step hI ks).relK h2) (g2 ks fun _ h => h)
      exact ⟨none, st', fun call => by simp only [vop, h1, h4, h7], h8.drop hI⟩
    · obtain ⟨id, off, st', rfl, h7, h8⟩ := sStore_ok hI h6 h2 h5
      exact ⟨none, st', fun call => by simp only [vop, h1, h4, h7], h8⟩
  · split at h
    · rename_i z n hz hn
      cases hs : solid z with
      | false => rw [hs] at h; exact h.elim
      | true =>
        rw [hs] at h
        obtain ⟨w, e1, e2⟩ := zeroU_ok (Y := Y) hz
        obtain ⟨b, h1, h2⟩ := new_ok (es := n) hI h (RelV.cells hs (e2 (Dat Y (ownOf o0 E m) st) E))
        exact ⟨_, _, fun call => by simp only [vop, e1, hn, valloc, h1, natF_eq], h2⟩
    · exact h.elim
  · split at h
    · rename_i n hn
      obtain ⟨u, v, h1, h2, h3⟩ := sOpd_ok h hf
      cases hs : solid u with
      | false => rw [hs] at h3; exact h3.elim
      | true =>
        rw [hs] at h3
        obtain ⟨b, h4, h5⟩ := new_ok (es := n) hI h3 (RelV.cells hs h2)
        exact ⟨_, _, fun call => by simp only [vop, h1, hn, valloc, h4, natF_eq], h5⟩
    · exact h.elim
  · obtain ⟨us, vs, h1, h2, h3⟩ := sParts_ok hf h
    obtain ⟨us', ks, g1, g2⟩ := frzP_ok hI h3 h2
    obtain ⟨v, st', h4, h5⟩ := sBuildSlice_ok (drop_inv hI ks) g1 (g2 ks fun _ h => h)
    exact ⟨some v, st', fun call => by simp only [vop, h1, h4], h5.drop hI⟩
  · obtain ⟨u, v, h1, h2, h3⟩ := sOpd_ok h hf
    obtain ⟨w, z, h4, h5, h6⟩ := sOpd_ok h3 hf
    split at h6
    · simp only [RelV] at h2 h5
      subst h2 h5
      obtain ⟨v, st', h7, h8⟩ := sMakeSlice_ok hI h6
      exact ⟨some v, st', fun call => by simp only [vop, h1, h4, h7], h8⟩
    · exact h6.elim
  · obtain ⟨u, v, h1, h2, h3⟩ := sOpd_ok h hf
    obtain ⟨v, st', h7, h8⟩ := sConv2_ok hI h3 h2
    exact ⟨some v, st', fun call => by simp only [vop, h1, h7], h8⟩
  · rename_i c
    obtain ⟨callee, args, ts⟩ := c
    dsimp only at h
    split at h
    · rename_i s x t u hc ha ht
      split at h
      · exact h.elim
      · rename_i d hni hu
        obtain ⟨su, sv, h1, h2, h3⟩ := sOpd_ok h hf
        obtain ⟨xu, xv, h4, h5, h6⟩ := sOpd_ok h3 hf
        obtain ⟨v, st', h7, h8⟩ := sAppend_ok hI h6 h2 h5
        refine ⟨some v, st', fun call => ?_, h8⟩
        simp only [vop, ha, ht, opnds, h1, h4, vbuiltin, hu]
        cases d <;> first | exact absurd rfl (hni _) | simp only [h7]
      · exact h.elim
    · exact h.elim
  · exact h.elim
end
end Go.Sx
