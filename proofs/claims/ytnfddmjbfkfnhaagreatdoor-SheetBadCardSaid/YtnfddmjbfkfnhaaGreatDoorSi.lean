/-
  Operations on memory: they are so. Nothing is claimed here.
-/
import Derived.Test.YtnfddmjbfkfnhaaGreatDoorSg
namespace Go.Sx
open Go.Vm

section
variable {S : Sg} {Y : Sy S} {P : Program} {G : Gl} {ro : Nat} {o0 : Nat → Prop}

def RelO (Y : Sy S) (D : DD S) (E : En) : Option (U S) → Option V → Prop
  | some u, some v => RelV Y D E u v
  | none, none => True
  | _, _ => False
/-- What an operation on memory, or a call, comes to. -/
def Done (Y : Sy S) (G : Gl) (o0 : Nat → Prop) (ro : Nat) (E : En) (m : T (Ct S)) (st : St) (k : Kn S) (res : Option V) (st' : St) : Prop :=
  ∃ u nx' m' ks wr E', Inv Y G o0 ro E' nx' m' st' ∧ Step o0 E m st E' m' st' ks wr ∧ RelO Y (Dat Y (ownOf o0 E' m') st') E' u res ∧ k u nx' m' ks wr

variable {E : En} {nx : Nat} {m : T (Ct S)} {st : St} {fr : T (U S)} {frV : T V}

theorem done_pure (hI : Inv Y G o0 ro E nx m st) {k : Kn S} {u : U S} {v : V} (hr : RelV Y (Dat Y (ownOf o0 E m) st) E u v) (hk : k (some u) nx m [] []) : Done Y G o0 ro E m st k (some v) st :=
  ⟨some u, nx, m, [], [], E, hI, Step.refl .., hr, hk⟩

theorem alloc_hp (st : St) (b : Blk) (id : Nat) (h : id < st.nx) : (st.alloc b).hp.get id = st.hp.get id := by
  unfold St.alloc
  dsimp only
  rw [T.get_upd, if_neg (by omega)]
theorem alloc_self (st : St) (b : Blk) : (st.alloc b).hp.get st.nx = some b := by
  unfold St.alloc
  dsimp only
  rw [T.get_upd, if_pos rfl]

theorem new_ok (hI : Inv Y G o0 ro E nx m st) {k : Kn S} {us : List (U S)} {vs : List V} {es : Nat} (h : sNew nx m us k) (hr : RelL Y (Dat Y (ownOf o0 E m) st) E us vs) : ∃ b, blkOf vs es false = some b ∧ Done Y G o0 ro E m st k (some (.p st.nx 0)) (st.alloc b) := by
  unfold sNew at h
  cases ha : allU us with
  | false => rw [ha] at h; exact h.elim
  | true =>
    rw [ha] at h
    obtain ⟨b, hb⟩ := blkOf_ok vs es false (allU_ok ha hr)
    obtain ⟨q1, q2, q3, q4, q5, q6⟩ := blkOf_spec hb
    have hs := step_push hI (some st.nx) .pn (.cells us) (st' := st.alloc b) (fun id e => by cases e; exact Nat.le_refl _) (Nat.le_succ _) (alloc_hp st b) rfl
    have hE : (E ++ [(some st.nx, V.pn)])[nx]? = some (some st.nx, .pn) := by rw [← hI.len]; exact push_self
    refine ⟨b, hb, some (.p nx 0), nx + 1, _, [], [], _, inv_push hI (some st.nx) .pn (.cells us) hs (fun id e => by cases e; exact Nat.le_refl _) (alloc_hp st b) ?_, hs, ⟨st.nx, .pn, hE, rfl⟩, h⟩
    exact ⟨st.nx, .pn, b, vs, hE, hI.ro, Nat.lt_succ_self _, alloc_self st b, by rw [q1, hr.length], hs.rels hr, fun j _ => q5 j⟩

theorem buf_ok (hI : Inv Y G o0 ro E nx m st) {k : Kn S} {c : S.Cd} {xs : List (S.Den c)} {cap : Nat} {op : Bool} {b : Blk} (h : sBuf nx m c xs k) (h1 : b.es = Y.wid c ∧ b.mp = none) (h2 : b.sz = cap * Y.wid c) (h3 : xs.length ≤ cap) (h4 : (op = true → (b.op = true ∨ (Y.cvb && !(Y.opn c)) = true) ∧ (Y.opn c = true → cap = xs.length)) ∧ (Y.opn c = true → op = true)) (h5 : Cel Y c xs b.get (DatA Y (ownOf o0 E m) st)) :
    Done Y G o0 ro E m st k (some (.sl st.nx 0 xs.length cap op)) (st.alloc b) := by
  have hs := step_push hI (some st.nx) (.sl st.nx 0 xs.length cap op) (.buf c xs) (st' := st.alloc b) (fun id e => by cases e; exact Nat.le_refl _) (Nat.le_succ _) (alloc_hp st b) rfl
  have hE : (E ++ [(some st.nx, V.sl st.nx 0 xs.length cap op)])[nx]? = some (some st.nx, .sl st.nx 0 xs.length cap op) := by rw [← hI.len]; exact push_self
  refine ⟨some (.o nx), nx + 1, _, [], [], _, inv_push hI (some st.nx) (.sl st.nx 0 xs.length cap op) (.buf c xs) hs (fun id e => by cases e; exact Nat.le_refl _) (alloc_hp st b) ?_, hs, ⟨_, hE, rfl⟩, h⟩
  obtain ⟨vs, r1, r2⟩ := rows_of_cel (off := 0) (b := b) (DA := DatA Y (ownOf o0 E m) st) (by simpa only [Nat.zero_add] using h5)
  refine .inr ⟨st.nx, cap, op, b, hE, hI.ro, Nat.lt_succ_self _, alloc_self st b, h3, h1, h2, h4, vs, fun i x hx => by rw [← r1 i x hx, Nat.zero_add], fun i x hx j u v hu hv => ?_⟩
  exact hs.datA (r2 i x hx j u v hu hv)

/-- A new row of cells. -/
theorem row_ok2 (hI : Inv Y G o0 ro E nx m st) {k : Kn S} {c : S.Cd} {xs : List (S.Den c)} {b : Blk} (h : k (some (.o nx)) (nx + 1) (m.upd nx (some (.row c xs))) [] []) (h1 : b.op = false ∧ b.es = Y.wid c ∧ b.mp = none) (h5 : Cel Y c xs b.get (DatA Y (ownOf o0 E m) st)) :
    Done Y G o0 ro E m st k (some (.sl st.nx 0 xs.length xs.length false)) (st.alloc b) := by
  have hs := step_push hI (some st.nx) (.sl st.nx 0 xs.length xs.length false) (.row c xs) (st' := st.alloc b) (fun id e => by cases e; exact Nat.le_refl _) (Nat.le_succ _) (alloc_hp st b) rfl
  have hE : (E ++ [(some st.nx, V.sl st.nx 0 xs.length xs.length false)])[nx]? = some (some st.nx, .sl st.nx 0 xs.length xs.length false) := by rw [← hI.len]; exact push_self
  refine ⟨some (.o nx), nx + 1, _, [], [], _, inv_push hI (some st.nx) (.sl st.nx 0 xs.length xs.length false) (.row c xs) hs (fun id e => by cases e; exact Nat.le_refl _) (alloc_hp st b) ?_, hs, ⟨_, hE, rfl⟩, h⟩
  obtain ⟨vs, r1, r2⟩ := rows_of_cel (off := 0) (b := b) (DA := DatA Y (ownOf o0 E m) st) (by simpa only [Nat.zero_add] using h5)
  refine ⟨st.nx, b, hE, hI.ro, Nat.lt_succ_self _, alloc_self st b, h1, vs, fun i x hx => by rw [← r1 i x hx, Nat.zero_add], fun i x hx j u v hu hv => ?_⟩
  exact hs.datA (r2 i x hx j u v hu hv)

/-- A new block that no name names: data. -/
theorem data_new (hI : Inv Y G o0 ro E nx m st) {k : Kn S} {c : S.Cd} {xs : List (S.Den c)} {cap : Nat} {op : Bool} {b : Blk} (h : k (some (.l c xs)) nx m [] []) (h3 : xs.length ≤ cap) (h5 : Cel Y c xs b.get (DatA Y (ownOf o0 E m) st)) :
    Done Y G o0 ro E m st k (some (.sl st.nx 0 xs.length cap op)) (st.alloc b) := by
  have hs : Step o0 E m st E m (st.alloc b) [] [] := ⟨Nat.le_refl _, fun _ _ _ => rfl, Nat.le_succ _, fun id h _ => alloc_hp st b id h, fun _ h => .inl h, fun j _ h2 _ => h2, fun _ id h => alloc_hp st b id h⟩
  have inv : Inv Y G o0 ro E nx m (st.alloc b) := ⟨hI.len, Nat.le_trans hI.ro (Nat.le_succ _), hI.lt, fun r ct e => by
    have := Ent.keep hs (hI.ent r ct e) rfl (fun id _ _ hid => alloc_hp st b id hid)
    rwa [killCt_nil] at this, fun id ho => ⟨(hI.out id ho).1, Nat.lt_of_lt_of_le (hI.out id ho).2 (Nat.le_succ _)⟩, glob_keep hI hs, hI.inj, hI.dis⟩
  obtain ⟨vs, r1, r2⟩ := rows_of_cel (off := 0) (b := b) (DA := DatA Y (ownOf o0 E m) st) (by simpa only [Nat.zero_add] using h5)
  have hno : ¬ ownOf o0 E m st.nx := by
    rintro (q | ⟨r, ct, y, e1, e2⟩)
    · exact absurd (hI.out _ q).2 (Nat.lt_irrefl _)
    · exact absurd (ent_id hI e1 e2).2 (Nat.lt_irrefl _)
  exact ⟨some (.l c xs), nx, m, [], [], E, inv, hs, Dat.mk vs hno (Nat.lt_succ_self _) (alloc_self st b) r1 (fun i x hx j u v hu hv => hs.datA (r2 i x hx j u v hu hv)) h3, h⟩

/-- A buffer that is nil. -/
theorem nil_ok (hI : Inv Y G o0 ro E nx m st) {k : Kn S} {c : S.Cd} {v0 : V} (h0 : noRoom v0 = true) (h : sBuf nx m c [] k) : Done Y G o0 ro E m st k (some v0) st := by
  have hs := step_push hI none v0 (.buf c []) (st' := st) (fun id e => by cases e) (Nat.le_refl _) (fun _ _ => rfl) rfl
  have hE : (E ++ [((none : Option Nat), v0)])[nx]? = some (none, v0) := by rw [← hI.len]; exact push_self
  exact ⟨some (.o nx), nx + 1, _, [], [], _, inv_push hI none v0 (.buf c []) hs (fun id e => by cases e) (fun _ _ => rfl) (.inl ⟨v0, hE, rfl, h0⟩), hs, ⟨none, hE, noRoom_atom h0⟩, h⟩

theorem write_hp (st : St) (b : Blk) (id j : Nat) (h : j ≠ id) : (st.write id b).hp.get j = st.hp.get j := by
  rw [St.write_eq]
  dsimp only
  rw [T.get_upd, if_neg h]
theorem write_self (st : St) (b : Blk) (id : Nat) : (st.write id b).hp.get id = some b := by
  rw [St.write_eq]
  dsimp only
  rw [T.get_upd, if_pos rfl]
theorem write_nx (st : St) (b : Blk) (id : Nat) : (st.write id b).nx = st.nx := by rw [St.write_eq]
theorem write_ver (st : St) (b : Blk) (id j : Nat) (h : j ≤ st.ver) (h' : j ≤ id) : j ≤ (st.write id b).ver := by rw [St.write_eq]; exact low_ge h h'

theorem Tmap_id (m : T (Ct S)) (k : Nat) : m.get k = (m.get k).map (killCt []) := by cases m.get k <;> simp [killCt_nil]

/-- What inv_re says, where the names are as they were. -/
theorem inv_wr {st' : St} (h : Inv Y G o0 ro E nx m st) {r : Nat} {ct0 : Ct S} (ct : Ct S) (hr : m.get r = some ct0) (hs : Step o0 E m st E (m.upd r (some ct)) st' [] [r]) (hk : ∀ id, id < st.nx → (∀ y, E[r]? ≠ some (some id, y)) → st'.hp.get id = st.hp.get id)
    (hent : Ent Y ro (Dat Y (ownOf o0 E (m.upd r (some ct))) st') (DatA Y (ownOf o0 E (m.upd r (some ct))) st') E st' r ct) : Inv Y G o0 ro E nx (m.upd r (some ct)) st' := by
  have old : ∀ k c, k ≠ r → (m.upd r (some ct)).get k = some c → m.get k = some c := by
    intro k c q e
    rwa [T.get_upd, if_neg q] at e
  have any : ∀ k c, (m.upd r (some ct)).get k = some c → ∃ c0, m.get k = some c0 := by
    intro k c e
    by_cases q : k = r
    · subst q; exact ⟨_, hr⟩
    · exact ⟨c, old k c q e⟩
  refine ⟨h.len, Nat.le_trans h.ro hs.nx, ?_, ?_, fun id ho => ⟨(h.out id ho).1, Nat.lt_of_lt_of_le (h.out id ho).2 hs.nx⟩, glob_keep h hs, ?_, fun id hn ho => (hs.nam id hn).elim (fun q => h.dis id q ho) (fun q => absurd (h.out id ho).2 (Nat.not_lt.2 q))⟩
  · intro k c e
    obtain ⟨c0, e0⟩ := any k c e
    exact h.lt k c0 e0
  · intro k c e
    by_cases q : k = r
    · subst q; rw [T.get_upd, if_pos rfl] at e; cases e; exact hent
    · have e0 := old k c q e
      have := Ent.keep hs (h.ent k c e0) rfl (fun id y e1 hid => hk id hid fun y' e2 => q (h.inj k r c ct0 id y y' e0 hr e1 e2))
      rwa [killCt_nil] at this
  · intro k k' c c' id y y' e1 e2 e3 e4
    obtain ⟨c0, a0⟩ := any k c e1
    obtain ⟨c1, b0⟩ := any k' c' e2
    exact h.inj k k' c0 c1 id y y' a0 b0 e3 e4
theorem step_wr {st' : St} (h : Inv Y G o0 ro E nx m st) {r : Nat} {ct0 : Ct S} (ct : Ct S) (hr : m.get r = some ct0) {id : Nat} {y : V} (he : E[r]? = some (some id, y)) (hn : st.nx ≤ st'.nx) (hk : ∀ j, j < st.nx → j ≠ id → st'.hp.get j = st.hp.get j) (hv : ∀ j, j ≤ st.ver → j ≤ id → j ≤ st'.ver) :
    Step o0 E m st E (m.upd r (some ct)) st' [] [r] := by
  have hset : E.set r (some id, y) = E := by
    apply List.ext_getElem?
    intro k
    by_cases q : k = r
    · subst q; rw [List.getElem?_set_self (List.getElem?_eq_some_iff.1 he).1, he]
    · rw [List.getElem?_set_ne (Ne.symm q)]
  have := step_re (st' := st') (m0 := m) h ct hr [] (.inr rfl) (some id) y (fun id' e => by cases e; exact .inl ⟨y, he⟩) (fun _ => hset) (fun k c e => ⟨c, e⟩) hn
    (fun j hj hh => hk j hj fun e => by subst e; exact hh y he) (fun j h1 h2 h3 => hv j h2 (h3 id y he))
  rwa [hset] at this

theorem sStore_ok (hI : Inv Y G o0 ro E nx m st) {t : TypeId} {x v : U S} {xv vv : V} {k : Kn S} (h : sStore Y P nx m t x v k) (hx : RelV Y (Dat Y (ownOf o0 E m) st) E x xv) (hv : RelV Y (Dat Y (ownOf o0 E m) st) E v vv) :
    ∃ id off st', xv = .p id off ∧ vstore P ro st t id off vv = some st' ∧ Done Y G o0 ro E m st k none st' := by
  unfold sStore at h
  split at h
  · rename_i n hn
    cases hc : (solid v && (allU (cellsU v) && Nat.beq (cellsU v).length n)) with
    | false => rw [hc] at h; exact h.elim
    | true =>
      rw [hc] at h
      simp only [Bool.and_eq_true, Nat.beq_eq] at hc
      obtain ⟨hsol, hall, hlen⟩ := hc
      have hcel := RelV.cells hsol hv
      have hat := allU_ok hall hcel
      obtain ⟨ti, hti, htn⟩ := sizeB_info hn
      simp only [cond_true] at h
      split at h
      · rename_i r off
        split at h
        · rename_i us hr
          cases hb : Nat.ble (off + n) us.length with
          | false => rw [hb] at h; exact h.elim
          | true =>
            rw [hb] at h
            rw [Nat.ble_eq] at hb
            simp only [RelV] at hx
            obtain ⟨id, y, e1, rfl⟩ := hx
            obtain ⟨id', y', b, vs, q1, q2, q3, q4, q5, q6, q7⟩ := hI.ent r _ hr
            rw [e1] at q1
            cases q1
            obtain ⟨b', hp⟩ := Blk.put_ok vv.cells b off (by rw [hcel.length, q5]; omega) hat
            obtain ⟨p1, p2, p3, p4, p5, p6, p7⟩ := Blk.put_spec _ _ _ _ hp
            have hs := step_wr (st' := st.write id b') hI (.cells (setAtU us off (cellsU v))) hr e1 (by rw [write_nx]; exact Nat.le_refl _) (fun j _ hj => write_hp st b' id j hj) (fun j h1 h2 => write_ver st b' id j h1 h2)
            refine ⟨id, off, st.write id b', rfl, ?_, none, nx, _, [], [r], E, inv_wr hI _ hr hs (fun j _ hj => write_hp st b' id j fun e => by subst e; exact hj _ e1) ?_, hs, trivial, h⟩
            · unfold vstore
              have c1 : (Nat.ble ro id && Nat.beq vv.cells.length ti.size) = true := by rw [Bool.and_eq_true, Nat.ble_eq, Nat.beq_eq]; exact ⟨q2, by rw [hcel.length, hlen, htn]⟩
              simp only [q4, hti, c1, cond_true, hp]
            · refine ⟨id, y, b', Vm.setAt vs off vv.cells, e1, q2, by rw [write_nx]; exact q3, write_self st b' id, by rw [p1, q5, setAtU_len], hs.rels (RelL.setAt q6 hcel), fun j hj => ?_⟩
              rw [setAtU_len] at hj
              rw [p5 j]
              have sg : ∀ (l cs : List V) (o j : Nat), j < cs.length → o + l.length ≤ cs.length → (Vm.setAt cs o l)[j]? = if o ≤ j ∧ j < o + l.length then l[j - o]? else cs[j]? := by
                intro l
                induction l with
                | nil => intro cs o j _ _; rw [if_neg (by simp)]; rfl
                | cons a l ih =>
                  intro cs o j hj hl
                  simp only [List.length_cons] at hl
                  rw [Vm.setAt, ih _ _ _ (by simpa using hj) (by simp; omega)]
                  by_cases q : j = o
                  · subst q
                    rw [if_neg (by omega), if_pos (by simp), List.getElem?_set_self hj]
                    simp
                  · rw [List.getElem?_set_ne (by omega)]
                    by_cases q2 : o + 1 ≤ j ∧ j < o + 1 + l.length
                    · rw [if_pos q2, if_pos (by simp; omega), show j - o = (j - (o + 1)) + 1 from by omega]; simp
                    · rw [if_neg q2, if_neg (by simp; omega)]
              rw [sg _ _ _ _ (by rw [q6.length]; exact hj) (by rw [hcel.length, q6.length]; omega), q7 j hj]
        · exact h.elim
      · rename_i r w i off
        split at h
        · rename_i c xs hr
          cases hb : (Nat.beq w (Y.wid c) && Nat.ble (off + n) (Y.wid c)) with
          | false => rw [hb] at h; exact h.elim
          | true =>
            rw [hb] at h
            simp only [Bool.and_eq_true, Nat.beq_eq, Nat.ble_eq] at hb
            obtain ⟨rfl, hb⟩ := hb
            obtain ⟨hi, h⟩ := h
            obtain ⟨y0, e0, hk⟩ := Y.dec_ok _ _ _ h
            simp only [RelV] at hx
            obtain ⟨id, y, e1, rfl⟩ := hx
            rcases hI.ent r _ hr with ⟨v0, q1, q2, q0⟩ | ⟨id', cap, op, b, q1, q2, q3, q4, q5, q6, q7, q8, vs, q9, q10⟩
            · subst q2; simp at hi
            rw [e1] at q1
            cases q1
            have hxi : xs[i]? = some (xs.getD i (Y.dflt c)) := by rw [List.getD_eq_getElem?_getD, List.getElem?_eq_getElem hi]; rfl
            have hbound : i * Y.wid c + off + vv.cells.length ≤ b.sz := by
              rw [hcel.length, hlen, q7]
              have : (i + 1) * Y.wid c ≤ cap * Y.wid c := Nat.mul_le_mul_right _ (by omega)
              rw [Nat.succ_mul] at this
              omega
            obtain ⟨b', hp⟩ := Blk.put_ok vv.cells b (i * Y.wid c + off) hbound hat
            obtain ⟨p1, p2, p3, p4, p5, p6, p7⟩ := Blk.put_spec _ _ _ _ hp
            have hs := step_wr (st' := st.write id b') hI (.buf c (xs.set i y0)) hr e1 (by rw [write_nx]; exact Nat.le_refl _) (fun j _ hj => write_hp st b' id j hj) (fun j h1 h2 => write_ver st b' id j h1 h2)
            refine ⟨id, _, st.write id b', rfl, ?_, none, nx, _, [], [r], E, inv_wr hI _ hr hs (fun j _ hj => write_hp st b' id j fun e => by subst e; exact hj _ e1) ?_, hs, trivial, hk⟩
            · unfold vstore
              have c1 : (Nat.ble ro id && Nat.beq vv.cells.length ti.size) = true := by rw [Bool.and_eq_true, Nat.ble_eq, Nat.beq_eq]; exact ⟨q2, by rw [hcel.length, hlen, htn]⟩
              simp only [q4, hti, c1, cond_true, hp]
            · -- the elements, cell by cell
              have hold := cel_of_rows (off := 0) (b := b) (DA := DatA Y (ownOf o0 E m) st) (fun i x hx => by rw [Nat.zero_add]; exact q9 i x hx) q10
              have kp : ∀ {u : U S} {v : V}, DatA Y (ownOf o0 E m) st u v → DatA Y (ownOf o0 E (m.upd r (some (.buf c (xs.set i y0))))) (st.write id b') u v := fun hd => hs.datA hd
              have hnew : Cel Y c (xs.set i y0) (fun k => b'.get (0 + k)) (DatA Y (ownOf o0 E (m.upd r (some (.buf c (xs.set i y0))))) (st.write id b')) := by
                intro i' x' hx' j u hu
                have hj : j < Y.wid c := by rw [← Y.len c x']; exact (List.getElem?_eq_some_iff.1 hu).1
                simp only [Nat.zero_add]
                by_cases hii : i' = i
                · subst hii
                  rw [List.getElem?_set_self hi] at hx'
                  cases hx'
                  rw [← e0] at hu
                  rw [p5]
                  by_cases hin : off ≤ j ∧ j < off + vv.cells.length
                  · rw [if_pos (by omega), show i' * Y.wid c + j - (i' * Y.wid c + off) = j - off from by omega]
                    -- a new cell
                    have hset : ∀ (l cs : List (U S)) (o j : Nat), j < cs.length → o + l.length ≤ cs.length → (setAtU cs o l)[j]? = if o ≤ j ∧ j < o + l.length then l[j - o]? else cs[j]? := by
                      intro l
                      induction l with
                      | nil => intro cs o j _ _; rw [if_neg (by simp)]; rfl
                      | cons a l ih =>
                        intro cs o j hj hl
                        simp only [List.length_cons] at hl
                        rw [setAtU, ih _ _ _ (by simpa using hj) (by simp; omega)]
                        by_cases q : j = o
                        · subst q
                          rw [if_neg (by omega), if_pos (by simp), List.getElem?_set_self hj]
                          simp
                        · rw [List.getElem?_set_ne (by omega)]
                          by_cases q2 : o + 1 ≤ j ∧ j < o + 1 + l.length
                          · rw [if_pos q2, if_pos (by simp; omega), show j - o = (j - (o + 1)) + 1 from by omega]; simp
                          · rw [if_neg q2, if_neg (by simp; omega)]
                    rw [hset _ _ _ _ (by rw [Y.len]; exact hj) (by rw [nrml_len, Y.len, hlen]; exact hb), if_pos (by rw [nrml_len, ← hcel.length]; exact hin)] at hu
                    obtain ⟨w, e2, e3⟩ := (nrml_rel hcel).get hu
                    have hfl : u.flat = true := by
                      apply Y.flat c y0
                      rw [← e0]
                      rw [List.mem_iff_getElem?]
                      refine ⟨j, ?_⟩
                      rw [hset _ _ _ _ (by rw [Y.len]; exact hj) (by rw [nrml_len, Y.len, hlen]; exact hb), if_pos (by rw [nrml_len, ← hcel.length]; exact hin)]
                      exact hu
                    exact ⟨w, e2, kp (DatA.of_rel hfl e3)⟩
                  · rw [if_neg (by omega)]
                    have hset : ∀ (l cs : List (U S)) (o j : Nat), j < cs.length → o + l.length ≤ cs.length → ¬ (o ≤ j ∧ j < o + l.length) → (setAtU cs o l)[j]? = cs[j]? := by
                      intro l
                      induction l with
                      | nil => intro cs o j _ _ _; rfl
                      | cons a l ih =>
                        intro cs o j hj hl hne
                        simp only [List.length_cons] at hl hne
                        rw [setAtU, ih _ _ _ (by simpa using hj) (by simp; omega) (by omega), List.getElem?_set_ne (by omega)]
                    rw [hset _ _ _ _ (by rw [Y.len]; exact hj) (by rw [nrml_len, Y.len, hlen]; exact hb) (by rw [nrml_len, ← hcel.length]; exact hin)] at hu
                    obtain ⟨w, e2, e3⟩ := hold i' _ hxi j u hu
                    simp only [Nat.zero_add] at e2
                    exact ⟨w, e2, kp e3⟩
                · rw [List.getElem?_set_ne (Ne.symm hii)] at hx'
                  obtain ⟨w, e2, e3⟩ := hold i' x' hx' j u hu
                  simp only [Nat.zero_add] at e2
                  refine ⟨w, ?_, kp e3⟩
                  rw [p5, if_neg ?_, e2]
                  rw [hcel.length, hlen]
                  intro ⟨z1, z2⟩
                  rcases Nat.lt_or_gt_of_ne hii with z | z
                  · have : (i' + 1) * Y.wid c ≤ i * Y.wid c := Nat.mul_le_mul_right _ z
                    rw [Nat.succ_mul] at this; omega
                  · have : (i + 1) * Y.wid c ≤ i' * Y.wid c := Nat.mul_le_mul_right _ z
                    rw [Nat.succ_mul] at this; omega
              obtain ⟨vs', r1, r2⟩ := rows_of_cel hnew
              have e1' : E[r]? = some (some id, .sl id 0 (xs.set i y0).length cap op) := by rw [List.length_set]; exact e1
              exact .inr ⟨id, cap, op, b', e1', q2, by rw [write_nx]; exact q3, write_self st b' id, by rw [List.length_set]; exact q5, ⟨p2.trans q6.1, (Blk.put_mp _ _ _ _ hp).trans q6.2⟩, p1.trans q7, ⟨fun z => by rw [p3, List.length_set]; exact q8.1 z, q8.2⟩, vs', fun i x hx => by rw [← r1 i x hx, Nat.zero_add], r2⟩
        · exact h.elim
      · exact h.elim
  · exact h.elim
end
end Go.Sx
