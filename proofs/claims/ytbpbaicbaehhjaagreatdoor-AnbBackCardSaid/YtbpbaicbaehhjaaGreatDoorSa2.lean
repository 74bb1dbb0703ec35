/-
 Operations on memory: they are so. Nothing is claimed here.
-/
import Derived.Test.YtbpbaicbaehhjaaGreatDoorSa1
namespace Go.Sx
open Go.Vm
section
variable {S : Sg} {Y : Sy S} {P : Program} {G : Gl} {ro : Nat} {o0 : Nat → Prop}
def jhq (Y : Sy S) (D : DD S) (E : En) : Option (U S) → Option V → Prop
 | some u, some v => RelV Y D E u v
 | none, none => True
 | _, _ => False
def ZbM (Y : Sy S) (G : Gl) (o0 : Nat → Prop) (ro : Nat) (E : En) (m : T (Ct S)) (st : St) (k : Kn S) (res : Option V) (st' : St) : Prop :=
 ∃ u nx' m' ks wr E', Inv Y G o0 ro E' nx' m' st' ∧ Step o0 E m st E' m' st' ks wr ∧ jhq Y (Dat Y (jf o0 E' m') st') E' u res ∧ k u nx' m' ks wr
variable {E : En} {nx : Nat} {m : T (Ct S)} {st : St} {fr : T (U S)} {frV : T V}
theorem jL (hI : Inv Y G o0 ro E nx m st) {k : Kn S} {u : U S} {v : V} (hr : RelV Y (Dat Y (jf o0 E m) st) E u v) (hk : k (some u) nx m [] []) : ZbM Y G o0 ro E m st k (some v) st :=
 ⟨some u, nx, m, [], [], E, hI, Step.refl .., hr, hk⟩
theorem jaj (st : St) (b : Blk) (id : Nat) (h : id < st.nx) : (st.alloc b).hp.get id = st.hp.get id := by
 unfold St.alloc
 dsimp only
 rw [T.get_upd, if_neg (by omega)]
theorem jam (st : St) (b : Blk) : (st.alloc b).hp.get st.nx = some b := by
 unfold St.alloc
 dsimp only
 rw [T.get_upd, if_pos rfl]
theorem Zgn (hI : Inv Y G o0 ro E nx m st) {k : Kn S} {us : List (U S)} {vs : List V} {es : Nat} (h : zhn nx m us k) (hr : RelL Y (Dat Y (jf o0 E m) st) E us vs) : ∃ b, jaO vs es false = some b ∧ ZbM Y G o0 ro E m st k (some (.p st.nx 0)) (st.alloc b) := by
 unfold zhn at h
 cases ha : zgB us with
 | false => rw [ha] at h; exact h.elim
 | true =>
  rw [ha] at h
  obtain ⟨b, hb⟩ := jaX vs es false (zel ha hr)
  obtain ⟨q1, q2, q3, q4, q5, q6⟩ := ZB hb
  have hs := zbc hI (some st.nx) .pn (.cells us) (st' := st.alloc b) (fun id e => by cases e; exact Nat.le_refl _) (Nat.le_succ _) (jaj st b) rfl
  have hE : (E ++ [(some st.nx, V.pn)])[nx]? = some (some st.nx, .pn) := by rw [← hI.len]; exact push_self
  refine ⟨b, hb, some (.p nx 0), nx + 1, _, [], [], _, jbQ hI (some st.nx) .pn (.cells us) hs (fun id e => by cases e; exact Nat.le_refl _) (jaj st b) ?_, hs, ⟨st.nx, .pn, hE, rfl⟩, h⟩
  exact ⟨st.nx, .pn, b, vs, hE, hI.ro, Nat.lt_succ_self _, jam st b, by rw [q1, hr.length], hs.rels hr, fun j _ => q5 j⟩
theorem zeL (hI : Inv Y G o0 ro E nx m st) {k : Kn S} {c : S.Cd} {xs : List (S.Den c)} {cap : Nat} {op : Bool} {b : Blk} (h : jgW nx m c xs k) (h1 : b.es = Y.wid c) (h2 : b.sz = cap * Y.wid c) (h3 : xs.length ≤ cap) (h4 : (op = true → (b.op = true ∨ (Y.cvb && !(Y.opn c)) = true) ∧ cap = xs.length) ∧ (Y.opn c = true → op = true)) (h5 : Cel Y c xs b.get (DatA Y (jf o0 E m) st)) :
  ZbM Y G o0 ro E m st k (some (.sl st.nx 0 xs.length cap op)) (st.alloc b) := by
 have hs := zbc hI (some st.nx) (.sl st.nx 0 xs.length cap op) (.buf c xs) (st' := st.alloc b) (fun id e => by cases e; exact Nat.le_refl _) (Nat.le_succ _) (jaj st b) rfl
 have hE : (E ++ [(some st.nx, V.sl st.nx 0 xs.length cap op)])[nx]? = some (some st.nx, .sl st.nx 0 xs.length cap op) := by rw [← hI.len]; exact push_self
 refine ⟨some (.o nx), nx + 1, _, [], [], _, jbQ hI (some st.nx) (.sl st.nx 0 xs.length cap op) (.buf c xs) hs (fun id e => by cases e; exact Nat.le_refl _) (jaj st b) ?_, hs, ⟨_, hE, rfl⟩, h⟩
 obtain ⟨vs, r1, r2⟩ := JaA (off := 0) (b := b) (DA := DatA Y (jf o0 E m) st) (by simpa only [Nat.zero_add] using h5)
 refine .inr ⟨st.nx, cap, op, b, hE, hI.ro, Nat.lt_succ_self _, jam st b, h3, h1, h2, h4, vs, fun i x hx => by rw [← r1 i x hx, Nat.zero_add], fun i x hx j u v hu hv => ?_⟩
 exact hs.datA (r2 i x hx j u v hu hv)
theorem JgB (hI : Inv Y G o0 ro E nx m st) {k : Kn S} {c : S.Cd} {xs : List (S.Den c)} {b : Blk} (h : k (some (.o nx)) (nx + 1) (m.upd nx (some (.row c xs))) [] []) (h1 : b.op = false) (h5 : Cel Y c xs b.get (DatA Y (jf o0 E m) st)) :
  ZbM Y G o0 ro E m st k (some (.sl st.nx 0 xs.length xs.length false)) (st.alloc b) := by
 have hs := zbc hI (some st.nx) (.sl st.nx 0 xs.length xs.length false) (.row c xs) (st' := st.alloc b) (fun id e => by cases e; exact Nat.le_refl _) (Nat.le_succ _) (jaj st b) rfl
 have hE : (E ++ [(some st.nx, V.sl st.nx 0 xs.length xs.length false)])[nx]? = some (some st.nx, .sl st.nx 0 xs.length xs.length false) := by rw [← hI.len]; exact push_self
 refine ⟨some (.o nx), nx + 1, _, [], [], _, jbQ hI (some st.nx) (.sl st.nx 0 xs.length xs.length false) (.row c xs) hs (fun id e => by cases e; exact Nat.le_refl _) (jaj st b) ?_, hs, ⟨_, hE, rfl⟩, h⟩
 obtain ⟨vs, r1, r2⟩ := JaA (off := 0) (b := b) (DA := DatA Y (jf o0 E m) st) (by simpa only [Nat.zero_add] using h5)
 refine ⟨st.nx, b, hE, hI.ro, Nat.lt_succ_self _, jam st b, h1, vs, fun i x hx => by rw [← r1 i x hx, Nat.zero_add], fun i x hx j u v hu hv => ?_⟩
 exact hs.datA (r2 i x hx j u v hu hv)
theorem jeL (hI : Inv Y G o0 ro E nx m st) {k : Kn S} {c : S.Cd} {xs : List (S.Den c)} {cap : Nat} {op : Bool} {b : Blk} (h : k (some (.l c xs)) nx m [] []) (h3 : xs.length ≤ cap) (h5 : Cel Y c xs b.get (DatA Y (jf o0 E m) st)) :
  ZbM Y G o0 ro E m st k (some (.sl st.nx 0 xs.length cap op)) (st.alloc b) := by
 have hs : Step o0 E m st E m (st.alloc b) [] [] := ⟨Nat.le_refl _, fun _ _ _ => rfl, Nat.le_succ _, fun id h _ => jaj st b id h, fun _ h => .inl h, fun j _ h2 _ => h2⟩
 have inv : Inv Y G o0 ro E nx m (st.alloc b) := ⟨hI.len, Nat.le_trans hI.ro (Nat.le_succ _), hI.lt, fun r ct e => by
  have := Ent.keep hs (hI.ent r ct e) rfl (fun id _ _ hid => jaj st b id hid)
  rwa [JaR] at this, fun id ho => ⟨(hI.out id ho).1, Nat.lt_of_lt_of_le (hI.out id ho).2 (Nat.le_succ _)⟩, Jbb hI hs, hI.inj⟩
 obtain ⟨vs, r1, r2⟩ := JaA (off := 0) (b := b) (DA := DatA Y (jf o0 E m) st) (by simpa only [Nat.zero_add] using h5)
 have hno : ¬ jf o0 E m st.nx := by
  rintro (q | ⟨r, ct, y, e1, e2⟩)
  ·exact absurd (hI.out _ q).2 (Nat.lt_irrefl _)
  ·exact absurd (ZeK hI e1 e2).2 (Nat.lt_irrefl _)
 exact ⟨some (.l c xs), nx, m, [], [], E, inv, hs, Dat.mk vs hno (Nat.lt_succ_self _) (jam st b) r1 (fun i x hx j u v hu hv => hs.datA (r2 i x hx j u v hu hv)) h3, h⟩
theorem zg4 (hI : Inv Y G o0 ro E nx m st) {k : Kn S} {c : S.Cd} (h : jgW nx m c [] k) : ZbM Y G o0 ro E m st k (some .sn) st := by
 have hs := zbc hI none .sn (.buf c []) (st' := st) (fun id e => by cases e) (Nat.le_refl _) (fun _ _ => rfl) rfl
 have hE : (E ++ [((none : Option Nat), V.sn)])[nx]? = some (none, .sn) := by rw [← hI.len]; exact push_self
 exact ⟨some (.o nx), nx + 1, _, [], [], _, jbQ hI none .sn (.buf c []) hs (fun id e => by cases e) (fun _ _ => rfl) (.inl ⟨hE, rfl⟩), hs, ⟨none, hE, rfl⟩, h⟩
theorem zbR (st : St) (b : Blk) (id j : Nat) (h : j ≠ id) : (st.write id b).hp.get j = st.hp.get j := by
 rw [St.write_eq]
 dsimp only
 rw [T.get_upd, if_neg h]
theorem Jb5 (st : St) (b : Blk) (id : Nat) : (st.write id b).hp.get id = some b := by
 rw [St.write_eq]
 dsimp only
 rw [T.get_upd, if_pos rfl]
theorem zbq (st : St) (b : Blk) (id : Nat) : (st.write id b).nx = st.nx := by rw [St.write_eq]
theorem ZcH (st : St) (b : Blk) (id j : Nat) (h : j ≤ st.ver) (h' : j ≤ id) : j ≤ (st.write id b).ver := by rw [St.write_eq]; exact zeJ h h'
theorem Jgn {st' : St} (h : Inv Y G o0 ro E nx m st) {r : Nat} {ct0 : Ct S} (ct : Ct S) (hr : m.get r = some ct0) (hs : Step o0 E m st E (m.upd r (some ct)) st' [] [r]) (hk : ∀ id, id < st.nx → (∀ y, E[r]? ≠ some (some id, y)) → st'.hp.get id = st.hp.get id)
  (hent : Ent Y ro (Dat Y (jf o0 E (m.upd r (some ct))) st') (DatA Y (jf o0 E (m.upd r (some ct))) st') E st' r ct) : Inv Y G o0 ro E nx (m.upd r (some ct)) st' := by
 have old : ∀ k c, k ≠ r → (m.upd r (some ct)).get k = some c → m.get k = some c := by
  intro k c q e
  rwa [T.get_upd, if_neg q] at e
 have any : ∀ k c, (m.upd r (some ct)).get k = some c → ∃ c0, m.get k = some c0 := by
  intro k c e
  by_cases q : k = r
  ·subst q; exact ⟨_, hr⟩
  ·exact ⟨c, old k c q e⟩
 refine ⟨h.len, Nat.le_trans h.ro hs.nx, ?_, ?_, fun id ho => ⟨(h.out id ho).1, Nat.lt_of_lt_of_le (h.out id ho).2 hs.nx⟩, Jbb h hs, ?_⟩
 ·intro k c e
  obtain ⟨c0, e0⟩ := any k c e
  exact h.lt k c0 e0
 ·intro k c e
  by_cases q : k = r
  ·subst q; rw [T.get_upd, if_pos rfl] at e; cases e; exact hent
  ·have e0 := old k c q e
   have := Ent.keep hs (h.ent k c e0) rfl (fun id y e1 hid => hk id hid fun y' e2 => q (h.inj k r c ct0 id y y' e0 hr e1 e2))
   rwa [JaR] at this
 ·intro k k' c c' id y y' e1 e2 e3 e4
  obtain ⟨c0, a0⟩ := any k c e1
  obtain ⟨c1, b0⟩ := any k' c' e2
  exact h.inj k k' c0 c1 id y y' a0 b0 e3 e4
theorem Jfn {st' : St} (h : Inv Y G o0 ro E nx m st) {r : Nat} {ct0 : Ct S} (ct : Ct S) (hr : m.get r = some ct0) {id : Nat} {y : V} (he : E[r]? = some (some id, y)) (hn : st.nx ≤ st'.nx) (hk : ∀ j, j < st.nx → j ≠ id → st'.hp.get j = st.hp.get j) (hv : ∀ j, j ≤ st.ver → j ≤ id → j ≤ st'.ver) :
  Step o0 E m st E (m.upd r (some ct)) st' [] [r] := by
 have hset : E.set r (some id, y) = E := by
  apply List.ext_getElem?
  intro k
  by_cases q : k = r
  ·subst q; rw [List.getElem?_set_self (List.getElem?_eq_some_iff.1 he).1, he]
  ·rw [List.getElem?_set_ne (Ne.symm q)]
 have := Zek (st' := st') (m0 := m) h ct hr [] (.inr rfl) (some id) y (fun id' e => by cases e; exact .inl ⟨y, he⟩) (fun _ => hset) (fun k c e => ⟨c, e⟩) hn
  (fun j hj hh => hk j hj fun e => by subst e; exact hh y he) (fun j h1 h2 h3 => hv j h2 (h3 id y he))
 rwa [hset] at this
theorem zfo (hI : Inv Y G o0 ro E nx m st) {t : TypeId} {x v : U S} {xv vv : V} {k : Kn S} (h : zfn Y P nx m t x v k) (hx : RelV Y (Dat Y (jf o0 E m) st) E x xv) (hv : RelV Y (Dat Y (jf o0 E m) st) E v vv) :
  ∃ id off st', xv = .p id off ∧ jbN P ro st t id off vv = some st' ∧ ZbM Y G o0 ro E m st k none st' := by
 unfold zfn at h
 split at h
 ·rename_i n hn
  cases hc : (za8 v && (zgB (jY v) && Nat.beq (jY v).length n)) with
  | false => rw [hc] at h; exact h.elim
  | true =>
   rw [hc] at h
   simp only [Bool.and_eq_true, Nat.beq_eq] at hc
   obtain ⟨hsol, hall, hlen⟩ := hc
   have hcel := RelV.cells hsol hv
   have hat := zel hall hcel
   obtain ⟨ti, hti, htn⟩ := ZeX hn
   simp only [cond_true] at h
   split at h
   ·rename_i r off
    split at h
    ·rename_i us hr
     cases hb : Nat.ble (off + n) us.length with
     | false => rw [hb] at h; exact h.elim
     | true =>
      rw [hb] at h
      rw [Nat.ble_eq] at hb
      simp only [RelV] at hx
      obtain ⟨id, y, e1, rfl⟩ := hx
      obtain ⟨id', y', b, vs, q1, q2, q3, q4, q5, q6, q7⟩ := hI.ent r _ hr
      rw [e1] at q1
      cases q1
      obtain ⟨b', hp⟩ := Blk.put_ok vv.cells b off (by rw [hcel.length, q5]; omega) hat
      obtain ⟨p1, p2, p3, p4, p5, p6, p7⟩ := Blk.put_spec _ _ _ _ hp
      have hs := Jfn (st' := st.write id b') hI (.cells (zaR us off (jY v))) hr e1 (by rw [zbq]; exact Nat.le_refl _) (fun j _ hj => zbR st b' id j hj) (fun j h1 h2 => ZcH st b' id j h1 h2)
      refine ⟨id, off, st.write id b', rfl, ?_, none, nx, _, [], [r], E, Jgn hI _ hr hs (fun j _ hj => zbR st b' id j fun e => by subst e; exact hj _ e1) ?_, hs, trivial, h⟩
      ·unfold jbN
       have c1 : (Nat.ble ro id && Nat.beq vv.cells.length ti.size) = true := by rw [Bool.and_eq_true, Nat.ble_eq, Nat.beq_eq]; exact ⟨q2, by rw [hcel.length, hlen, htn]⟩
       simp only [q4, hti, c1, cond_true, hp]
      ·refine ⟨id, y, b', Vm.setAt vs off vv.cells, e1, q2, by rw [zbq]; exact q3, Jb5 st b' id, by rw [p1, q5, Jbp], hs.rels (RelL.setAt q6 hcel), fun j hj => ?_⟩
       rw [Jbp] at hj
       rw [p5 j]
       have sg : ∀ (l cs : List V) (o j : Nat), j < cs.length → o + l.length ≤ cs.length → (Vm.setAt cs o l)[j]? = if o ≤ j ∧ j < o + l.length then l[j - o]? else cs[j]? := by
        intro l
        induction l with
        | nil => intro cs o j _ _; rw [if_neg (by simp)]; rfl
        | cons a l ih =>
         intro cs o j hj hl
         simp only [List.length_cons] at hl
         rw [Vm.setAt, ih _ _ _ (by simpa using hj) (by simp; omega)]
         by_cases q : j = o
         ·subst q
          rw [if_neg (by omega), if_pos (by simp), List.getElem?_set_self hj]
          simp
         ·rw [List.getElem?_set_ne (by omega)]
          by_cases q2 : o + 1 ≤ j ∧ j < o + 1 + l.length
          ·rw [if_pos q2, if_pos (by simp; omega), show j - o = (j - (o + 1)) + 1 from by omega]; simp
          ·rw [if_neg q2, if_neg (by simp; omega)]
       rw [sg _ _ _ _ (by rw [q6.length]; exact hj) (by rw [hcel.length, q6.length]; omega), q7 j hj]
    ·exact h.elim
   ·rename_i r w i off
    split at h
    ·rename_i c xs hr
     cases hb : (Nat.beq w (Y.wid c) && Nat.ble (off + n) (Y.wid c)) with
     | false => rw [hb] at h; exact h.elim
     | true =>
      rw [hb] at h
      simp only [Bool.and_eq_true, Nat.beq_eq, Nat.ble_eq] at hb
      obtain ⟨rfl, hb⟩ := hb
      obtain ⟨hi, h⟩ := h
      obtain ⟨y0, e0, hk⟩ := Y.dec_ok _ _ _ h
      simp only [RelV] at hx
      obtain ⟨id, y, e1, rfl⟩ := hx
      rcases hI.ent r _ hr with ⟨q1, q2⟩ | ⟨id', cap, op, b, q1, q2, q3, q4, q5, q6, q7, q8, vs, q9, q10⟩
      ·subst q2; simp at hi
      rw [e1] at q1
      cases q1
      have hxi : xs[i]? = some (xs.getD i (Y.dflt c)) := by rw [List.getD_eq_getElem?_getD, List.getElem?_eq_getElem hi]; rfl
      have hbound : i * Y.wid c + off + vv.cells.length ≤ b.sz := by
       rw [hcel.length, hlen, q7]
       have : (i + 1) * Y.wid c ≤ cap * Y.wid c := Nat.mul_le_mul_right _ (by omega)
       rw [Nat.succ_mul] at this
       omega
      obtain ⟨b', hp⟩ := Blk.put_ok vv.cells b (i * Y.wid c + off) hbound hat
      obtain ⟨p1, p2, p3, p4, p5, p6, p7⟩ := Blk.put_spec _ _ _ _ hp
      have hs := Jfn (st' := st.write id b') hI (.buf c (xs.set i y0)) hr e1 (by rw [zbq]; exact Nat.le_refl _) (fun j _ hj => zbR st b' id j hj) (fun j h1 h2 => ZcH st b' id j h1 h2)
      refine ⟨id, _, st.write id b', rfl, ?_, none, nx, _, [], [r], E, Jgn hI _ hr hs (fun j _ hj => zbR st b' id j fun e => by subst e; exact hj _ e1) ?_, hs, trivial, hk⟩
      ·unfold jbN
       have c1 : (Nat.ble ro id && Nat.beq vv.cells.length ti.size) = true := by rw [Bool.and_eq_true, Nat.ble_eq, Nat.beq_eq]; exact ⟨q2, by rw [hcel.length, hlen, htn]⟩
       simp only [q4, hti, c1, cond_true, hp]
      ·-- the elements, cell by cell
       have hold := j5 (off := 0) (b := b) (DA := DatA Y (jf o0 E m) st) (fun i x hx => by rw [Nat.zero_add]; exact q9 i x hx) q10
       have kp : ∀ {u : U S} {v : V}, DatA Y (jf o0 E m) st u v → DatA Y (jf o0 E (m.upd r (some (.buf c (xs.set i y0))))) (st.write id b') u v := fun hd => hs.datA hd
       have hnew : Cel Y c (xs.set i y0) (fun k => b'.get (0 + k)) (DatA Y (jf o0 E (m.upd r (some (.buf c (xs.set i y0))))) (st.write id b')) := by
        intro i' x' hx' j u hu
        have hj : j < Y.wid c := by rw [← Y.len c x']; exact (List.getElem?_eq_some_iff.1 hu).1
        simp only [Nat.zero_add]
        by_cases hii : i' = i
        ·subst hii
         rw [List.getElem?_set_self hi] at hx'
         cases hx'
         rw [← e0] at hu
         rw [p5]
         by_cases hin : off ≤ j ∧ j < off + vv.cells.length
         ·rw [if_pos (by omega), show i' * Y.wid c + j - (i' * Y.wid c + off) = j - off from by omega]
          have hset : ∀ (l cs : List (U S)) (o j : Nat), j < cs.length → o + l.length ≤ cs.length → (zaR cs o l)[j]? = if o ≤ j ∧ j < o + l.length then l[j - o]? else cs[j]? := by
           intro l
           induction l with
           | nil => intro cs o j _ _; rw [if_neg (by simp)]; rfl
           | cons a l ih =>
            intro cs o j hj hl
            simp only [List.length_cons] at hl
            rw [zaR, ih _ _ _ (by simpa using hj) (by simp; omega)]
            by_cases q : j = o
            ·subst q
             rw [if_neg (by omega), if_pos (by simp), List.getElem?_set_self hj]
             simp
            ·rw [List.getElem?_set_ne (by omega)]
             by_cases q2 : o + 1 ≤ j ∧ j < o + 1 + l.length
             ·rw [if_pos q2, if_pos (by simp; omega), show j - o = (j - (o + 1)) + 1 from by omega]; simp
             ·rw [if_neg q2, if_neg (by simp; omega)]
          rw [hset _ _ _ _ (by rw [Y.len]; exact hj) (by rw [jaF, Y.len, hlen]; exact hb), if_pos (by rw [jaF, ← hcel.length]; exact hin)] at hu
          obtain ⟨w, e2, e3⟩ := (Jcw hcel).get hu
          have hfl : u.flat = true := by
           apply Y.flat c y0
           rw [← e0]
           rw [List.mem_iff_getElem?]
           refine ⟨j, ?_⟩
           rw [hset _ _ _ _ (by rw [Y.len]; exact hj) (by rw [jaF, Y.len, hlen]; exact hb), if_pos (by rw [jaF, ← hcel.length]; exact hin)]
           exact hu
          exact ⟨w, e2, kp (DatA.of_rel hfl e3)⟩
         ·rw [if_neg (by omega)]
          have hset : ∀ (l cs : List (U S)) (o j : Nat), j < cs.length → o + l.length ≤ cs.length → ¬ (o ≤ j ∧ j < o + l.length) → (zaR cs o l)[j]? = cs[j]? := by
           intro l
           induction l with
           | nil => intro cs o j _ _ _; rfl
           | cons a l ih =>
            intro cs o j hj hl hne
            simp only [List.length_cons] at hl hne
            rw [zaR, ih _ _ _ (by simpa using hj) (by simp; omega) (by omega), List.getElem?_set_ne (by omega)]
          rw [hset _ _ _ _ (by rw [Y.len]; exact hj) (by rw [jaF, Y.len, hlen]; exact hb) (by rw [jaF, ← hcel.length]; exact hin)] at hu
          obtain ⟨w, e2, e3⟩ := hold i' _ hxi j u hu
          simp only [Nat.zero_add] at e2
          exact ⟨w, e2, kp e3⟩
        ·rw [List.getElem?_set_ne (Ne.symm hii)] at hx'
         obtain ⟨w, e2, e3⟩ := hold i' x' hx' j u hu
         simp only [Nat.zero_add] at e2
         refine ⟨w, ?_, kp e3⟩
         rw [p5, if_neg ?_, e2]
         rw [hcel.length, hlen]
         intro ⟨z1, z2⟩
         rcases Nat.lt_or_gt_of_ne hii with z | z
         ·have : (i' + 1) * Y.wid c ≤ i * Y.wid c := Nat.mul_le_mul_right _ z
          rw [Nat.succ_mul] at this; omega
         ·have : (i + 1) * Y.wid c ≤ i' * Y.wid c := Nat.mul_le_mul_right _ z
          rw [Nat.succ_mul] at this; omega
       obtain ⟨vs', r1, r2⟩ := JaA hnew
       have e1' : E[r]? = some (some id, .sl id 0 (xs.set i y0).length cap op) := by rw [List.length_set]; exact e1
       exact .inr ⟨id, cap, op, b', e1', q2, by rw [zbq]; exact q3, Jb5 st b' id, by rw [List.length_set]; exact q5, p2.trans q6, p1.trans q7, ⟨fun z => by rw [p3, List.length_set]; exact q8.1 z, q8.2⟩, vs', fun i x hx => by rw [← r1 i x hx, Nat.zero_add], r2⟩
    ·exact h.elim
   ·exact h.elim
 ·exact h.elim
end
end Go.Sx
namespace Go.Sx
open Go.Vm
section
variable {S : Sg} {Y : Sy S} {P : Program} {G : Gl} {ro : Nat} {o0 : Nat → Prop} {E : En} {nx : Nat} {m : T (Ct S)} {st : St} {fr : T (U S)} {frV : T V}
theorem JdT {place : Nat → Option (Nat × Nat)} : ∀ {parts : List (Nat × U S)} {us us' : List (U S)}, Zc3 place us parts = some us' → us'.length = us.length
 | [], us, us', h => by simp only [Zc3, Option.some.injEq] at h; rw [h]
 | (i, u) :: parts, us, us', h => by
  simp only [Zc3] at h
  cases hp : place i with
  | none => simp [hp] at h
  | some q =>
   obtain ⟨off, size⟩ := q
   simp only [hp] at h
   (cases hq : (za8 u && (Nat.beq (jY u).length size && Nat.ble (off + (jY u).length) us.length)) with
    | false => simp [hq] at h
    | true => rw [hq] at h; rw [JdT h, Jbp])
theorem Jc3 (hI : Inv Y G o0 ro E nx m st) {t : TypeId} {len : Nat} {parts : List (Nat × U S)} {pv : List (Nat × V)} {k : Kn S} (h : zbD Y P nx m t len parts k) (hp : jgz Y (Dat Y (jf o0 E m) st) E parts pv) :
  ∃ v st', Jv P st t len pv = some (v, st') ∧ ZbM Y G o0 ro E m st k (some v) st' := by
 unfold zbD at h
 split at h
 ·rename_i e hu
  split at h
  ·rename_i n z c hn hz hcode
   cases hc : (Nat.ble (len * n) 16777216 && Nat.blt 0 n && Nat.beq (jY z).length n && za8 z && Nat.beq n (Y.wid c)) with
   | false => rw [hc] at h; exact h.elim
   | true =>
    rw [hc] at h
    simp only [Bool.and_eq_true] at hc
    obtain ⟨⟨⟨⟨c1, c2⟩, c3⟩, c4⟩, c5⟩ := hc
    obtain ⟨us, h1, h2⟩ := Jav h
    obtain ⟨w, e1, e2⟩ := Jcv (Y := Y) hz
    have e2 := RelV.cells c4 (e2 (Dat Y (jf o0 E m) st) E)
    obtain ⟨vs, h3, h4⟩ := zcw h1 (zcH e2 len) hp
    rw [Nat.beq_eq] at c5 c3
    subst c5
    have hl : us.length = len * Y.wid c := by rw [JdT h1, jcH, c3]
    obtain ⟨xs, g1, g2, g3⟩ := JeK h2 (by rw [jaF, hl])
    have h5 := Jcw h4
    have hcel : ∀ (i : Nat) x, xs[i]? = some x → ∀ (j : Nat) u, (Y.cells c x)[j]? = some u → ∃ v, vs[i * Y.wid c + j]? = some v ∧ DatA Y (jf o0 E m) st u v := by
     intro i x hx j u hu
     obtain ⟨v, q1, q2⟩ := h5.get (g3 i x hx j u hu)
     exact ⟨v, q1, DatA.of_rel (Y.flat c x u (List.mem_of_getElem? hu)) q2⟩
    have hat : ∀ v ∈ vs, v.atom = true := by
     intro v hv
     obtain ⟨j, hj⟩ := List.mem_iff_getElem?.1 hv
     have hjl : j < len * Y.wid c := by rw [← hl, ← h4.length]; exact (List.getElem?_eq_some_iff.1 hj).1
     have hw := Y.wpos c
     have q1 : j / Y.wid c < xs.length := by rw [g1]; exact Nat.div_lt_of_lt_mul (by rw [Nat.mul_comm]; exact hjl)
     have q2 : j % Y.wid c < Y.wid c := Nat.mod_lt _ hw
     have hx := List.getElem?_eq_getElem q1
     have hu : (Y.cells c xs[j / Y.wid c])[j % Y.wid c]? = some _ := List.getElem?_eq_getElem (by rw [Y.len]; exact q2)
     obtain ⟨v', e3, e4⟩ := hcel _ _ hx _ _ hu
     rw [Nat.div_add_mod', hj] at e3
     cases e3
     exact ZbQ (E := E) (JbQ (Y.flat _ _ _ (List.mem_of_getElem? hu))) e4.rel
    obtain ⟨b, hb⟩ := jaX vs (Y.wid c) false hat
    obtain ⟨p1, p2, p3, p4, p5, p6⟩ := ZB hb
    have hd : ZbM Y G o0 ro E m st k (some (.sl st.nx 0 xs.length xs.length false)) (st.alloc b) := by
     cases ho : Y.opn c with
     | true =>
      rw [ho, cond_true] at g2
      cases hsm : Nat.ble len 2 with
      | true => rw [hsm, cond_true] at g2; exact jeL hI g2 (Nat.le_refl _) (fun i x hx j u hu => by rw [p5]; exact hcel i x hx j u hu)
      | false => rw [hsm, cond_false] at g2; exact JgB hI g2 p3 (fun i x hx j u hu => by rw [p5]; exact hcel i x hx j u hu)
     | false =>
      rw [ho, cond_false] at g2
      exact zeL (b := b) (cap := xs.length) (op := false) hI g2 p2 (by rw [p1, h4.length, hl, g1]) (Nat.le_refl _) ⟨fun z => (by cases z), fun z => by rw [ho] at z; cases z⟩ (fun i x hx j u hu => by rw [p5]; exact hcel i x hx j u hu)
    rw [g1] at hd
    refine ⟨_, _, ?_, hd⟩
    unfold Jv
    have c3' : Nat.beq w.cells.length (Y.wid c) = true := by rw [Nat.beq_eq, e2.length, c3]
    simp only [hu, hn, e1, c1, c2, c3', Bool.and_self, cond_true, h3, hb, jh]
  ·exact h.elim
 ·exact h.elim
theorem jdr (hI : Inv Y G o0 ro E nx m st) {t : TypeId} {len cap : Int} {k : Kn S} (h : Zb5 Y P nx m t len cap k) : ∃ v st', Zaf P st t len cap = some (v, st') ∧ ZbM Y G o0 ro E m st k (some v) st' := by
 unfold Zb5 at h
 split at h
 ·rename_i e hu
  split at h
  ·rename_i ti z c hn hz hcode
   cases hc : (Nat.blt 0 ti.size && Nat.beq (jY z).length ti.size && za8 z && Nat.beq ti.size (Y.wid c) && !(Y.opn c)) with
   | false => rw [hc] at h; exact h.elim
   | true =>
    rw [hc] at h
    simp only [Bool.and_eq_true, Bool.not_eq_true'] at hc
    obtain ⟨⟨⟨⟨c1, c3⟩, c4⟩, c5⟩, ho⟩ := hc
    obtain ⟨⟨s1, s2, s3, s4⟩, h⟩ := h
    obtain ⟨x, g1, g2⟩ := Y.dec_ok _ _ _ h
    obtain ⟨w, e1, e2⟩ := Jcv (Y := Y) hz
    have e2 := RelV.cells c4 (e2 (Dat Y (jf o0 E m) st) E)
    have e3 := Jcw e2
    rw [g1] at e3
    rw [Nat.beq_eq] at c3 c5
    have hwl : w.cells.length = Y.wid c := by rw [e2.length, c3, c5]
    have hat : w.cells.all V.atom = true := by
     rw [List.all_eq_true]
     intro v hv
     obtain ⟨j, hj⟩ := List.mem_iff_getElem?.1 hv
     have hjl : j < Y.wid c := by rw [← hwl]; exact (List.getElem?_eq_some_iff.1 hj).1
     have hu : (Y.cells c x)[j]? = some _ := List.getElem?_eq_getElem (by rw [Y.len]; exact hjl)
     obtain ⟨v', q1, q2⟩ := e3.get hu
     rw [hj] at q1
     cases q1
     exact ZbQ (JbQ (Y.flat _ _ _ (List.mem_of_getElem? hu))) q2
    have hcap : len.toNat ≤ cap.toNat := by omega
    have hd := zeL (xs := List.replicate len.toNat x) (b := ⟨.e, w.cells, cap.toNat * ti.size, ti.size, false⟩) (cap := cap.toNat) (op := false) hI g2 c5 (by dsimp only; rw [c5]) (by simpa using hcap) ⟨fun z => (by cases z), fun z => by rw [ho] at z; cases z⟩ (fun i y hy j u hu => by
     have hi : i < len.toNat := by have := (List.getElem?_eq_some_iff.1 hy).1; simpa using this
     have : y = x := by rw [List.getElem?_replicate_of_lt hi] at hy; exact (Option.some.inj hy).symm
     subst this
     have hj : j < Y.wid c := by rw [← Y.len c y]; exact (List.getElem?_eq_some_iff.1 hu).1
     obtain ⟨v, q1, q2⟩ := e3.get hu
     refine ⟨v, ?_, DatA.of_rel (Y.flat c y u (List.mem_of_getElem? hu)) q2⟩
     unfold Blk.get
     dsimp only
     have hlt : i * Y.wid c + j < cap.toNat * ti.size := by
      rw [c5]
      have : (i + 1) * Y.wid c ≤ cap.toNat * Y.wid c := Nat.mul_le_mul_right _ (by omega)
      rw [Nat.succ_mul] at this
      omega
     have hb : Nat.blt (i * Y.wid c + j) (cap.toNat * ti.size) = true := by rw [Nat.blt_eq]; exact hlt
     rw [hb, cond_true, T.get_e]
     dsimp only
     rw [c5, Nat.mul_comm i, Nat.mul_add_mod, Nat.mod_eq_of_lt hj]
     exact q1)
    rw [List.length_replicate] at hd
    refine ⟨_, _, ?_, hd⟩
    unfold Zaf
    have hcond : (ile 0 len && ile len cap && ile ((ti.bytes : Int) * cap) 1099511627776 && ile cap 1099511627776 && Nat.blt 0 ti.size && Nat.beq w.cells.length ti.size && w.cells.all V.atom) = true := by
     have z1 : Nat.beq w.cells.length ti.size = true := by rw [Nat.beq_eq, hwl, c5]
     rw [hat, z1, c1]
     simp only [ile, Bool.and_true, Bool.and_eq_true, decide_eq_true_eq]
     exact ⟨⟨⟨s1, s2⟩, s3⟩, s4⟩
    simp only [hu, hn, e1, hcond, cond_true, jh]
  ·exact h.elim
 ·exact h.elim
theorem jel {c : S.Cd} {xs ys : List (S.Den c)} {get : Nat → Option V} {new : List V} {DA : U S → V → Prop} (h1 : Cel Y c xs get DA) (h2 : Cel Y c ys (fun k => new[k]?) DA) {get' : Nat → Option V} (hg : ∀ k, get' k = if xs.length * Y.wid c ≤ k ∧ k < xs.length * Y.wid c + new.length then new[k - xs.length * Y.wid c]? else get k) : Cel Y c (xs ++ ys) get' DA := by
 intro i x hx j u hu
 have hj : j < Y.wid c := by rw [← Y.len c x]; exact (List.getElem?_eq_some_iff.1 hu).1
 rcases Nat.lt_or_ge i xs.length with q | q
 ·rw [List.getElem?_append_left q] at hx
  obtain ⟨v, e1, e2⟩ := h1 i x hx j u hu
  refine ⟨v, ?_, e2⟩
  have : (i + 1) * Y.wid c ≤ xs.length * Y.wid c := Nat.mul_le_mul_right _ q
  rw [Nat.succ_mul] at this
  rw [hg, if_neg (by omega), e1]
 ·rw [List.getElem?_append_right q] at hx
  obtain ⟨v, e1, e2⟩ := h2 _ x hx j u hu
  dsimp only at e1
  have hlt := (List.getElem?_eq_some_iff.1 e1).1
  have e3 : i * Y.wid c = xs.length * Y.wid c + (i - xs.length) * Y.wid c := by rw [← Nat.add_mul]; congr 1; omega
  refine ⟨v, ?_, e2⟩
  rw [hg, if_pos (by rw [e3]; omega), show i * Y.wid c + j - xs.length * Y.wid c = (i - xs.length) * Y.wid c + j from by rw [e3]; omega, e1]
theorem zeY (hI : Inv Y G o0 ro E nx m st) {t : TypeId} {s x : U S} {sv xv : V} {k : Kn S} (h : Jek Y P nx m t s x k) (hs : RelV Y (Dat Y (jf o0 E m) st) E s sv) (hx : RelV Y (Dat Y (jf o0 E m) st) E x xv) :
  ∃ v st', zR P ro st t sv xv = some (v, st') ∧ ZbM Y G o0 ro E m st k (some v) st' := by
 unfold Jek at h
 split at h
 ·rename_i e hu
  split at h
  ·rename_i ti c hi hcode
   cases hc : (Nat.beq ti.size (Y.wid c) && Nat.blt 0 ti.bytes && Zai P e ti.size) with
   | false => rw [hc] at h; exact h.elim
   | true =>
    rw [hc] at h
    simp only [Bool.and_eq_true] at hc
    obtain ⟨⟨c1, c2⟩, c3⟩ := hc
    rw [Nat.beq_eq] at c1
    have hw := Y.wpos c
    have c0 : (Nat.blt 0 (Y.wid c) && Nat.blt 0 ti.bytes && Zai P e (Y.wid c)) = true := by rw [← c1, c2, c3]; simp; omega
    obtain ⟨ys, new, h2, l1, l2, l3, l4, l5⟩ := Zfn hI h hx
    have base : ∀ r, zR P ro st t sv xv = some r ↔ (match (generalizing := false) sv with
     | .sn => cond (Nat.ble (ys.length * ti.bytes) 1099511627776)
      (cond (Nat.beq ys.length 0) (some (V.sn, st)) (match jaO new (Y.wid c) true with
       | some b => jaz st.nx fun nx => jaz ys.length fun n => some (V.sl nx 0 n n true, St.alloc ⟨nx, st.hp, st.ver⟩ b)
       | none => none)) none
     | .sl id off len cap op => match st.hp.get id with
      | some b => cond (Nat.ble ((len + ys.length) * ti.bytes) 1099511627776)
       (cond (Nat.ble (len + ys.length) cap)
        (cond (Nat.ble ro id) (match b.put new (off + len * Y.wid c) with
         | some b => jaz (len + ys.length) fun m => some (V.sl id off m cap op, st.write id b)
         | none => none) none)
        (match ja7 b off len (Y.wid c) new with
        | some b' => cond op
         (cond (Nat.ble ro id && b.op && Nat.beq b.es (Y.wid c) && Nat.beq (off + cap * Y.wid c) b.sz)
          (jaz st.nx fun nx => jaz (len + ys.length) fun m => some (V.sl nx 0 m m true, St.alloc ⟨nx, (st.kill id).hp, (st.kill id).ver⟩ b')) none)
         (jaz st.nx fun nx => jaz (len + ys.length) fun m => some (V.sl nx 0 m m true, St.alloc ⟨nx, st.hp, st.ver⟩ b'))
        | none => none)) none
      | none => none
     | _ => none) = some r := by
     intro r
     unfold zR
     simp only [hu, hi, l1, c1, l2, c0, cond_true]
     exact Iff.rfl
    split at h2
    ·-- the first one
     simp only [RelV] at hs
     subst hs
     obtain ⟨b1, hk⟩ := h2
     have b1' : Nat.ble (ys.length * ti.bytes) 1099511627776 = true := by rw [Nat.ble_eq]; exact b1
     rcases Nat.eq_zero_or_pos ys.length with z | z
     ·have : ys = [] := List.length_eq_zero_iff.1 z
      subst this
      refine ⟨.sn, st, (base _).2 ?_, zg4 hI hk⟩
      have b0 : Nat.ble (0 * ti.bytes) 1099511627776 = true := b1'
      simp only [List.length_nil, b0, cond_true]
      rfl
     ·obtain ⟨b, hb⟩ := jaX new (Y.wid c) true l5
      obtain ⟨p1, p2, p3, p4, p5, p6⟩ := ZB hb
      have hd := zeL (b := b) (cap := ys.length) (op := true) hI hk p2 (by rw [p1, l3]) (Nat.le_refl _) ⟨fun _ => ⟨.inl p3, rfl⟩, fun _ => rfl⟩ (fun i x hx j u hu => by rw [p5]; exact l4 i x hx j u hu)
      refine ⟨_, _, (base _).2 ?_, hd⟩
      have z' : Nat.beq ys.length 0 = false := by rw [Bool.eq_false_iff]; intro q; rw [Nat.beq_eq] at q; omega
      simp only [b1', cond_true, z', cond_false, hb, jh]
    ·rename_i r
     split at h2
     ·rename_i c' xs hr
      cases hcv : (Y.cvb && !(Y.opn c')) with
      | true => rw [hcv] at h2; exact h2.elim
      | false =>
      rw [hcv, cond_false] at h2
      obtain ⟨rfl, h3⟩ := Y.cast_ok _ _ _ _ h2
      obtain ⟨b1, hk⟩ := h3
      simp only [RelV] at hs
      obtain ⟨y, e1, _⟩ := hs
      have hrl := (List.getElem?_eq_some_iff.1 e1).1
      have DAk : ∀ {E' : En} {m' : T (Ct S)} {st' : St} {ks wr : List Nat}, Step o0 E m st E' m' st' ks wr → ∀ {u : U S} {v : V}, DatA Y (jf o0 E m) st u v → DatA Y (jf o0 E' m') st' u v := fun hs _ _ hd => hs.datA hd
      have hm0 : ∀ k c, (Zeg (ZaR [r]) m).get k = some c → ∃ c', m.get k = some c' := by
       intro k c e
       rw [JbP] at e
       cases q : m.get k with
       | none => rw [q] at e; cases e
       | some c' => exact ⟨c', rfl⟩
      have fin : ∀ (id : Nat) (cap : Nat) (op : Bool) (b' : Blk) (st' : St), (∀ id', some id = some id' → (∃ y, E[r]? = some (some id', y)) ∨ st.nx ≤ id') → ro ≤ id → id < st'.nx → st.nx ≤ st'.nx → (∀ j, j < st.nx → (∀ y, E[r]? ≠ some (some j, y)) → st'.hp.get j = st.hp.get j) →
        (∀ j, j ≤ st.nx → j ≤ st.ver → (∀ id y, E[r]? = some (some id, y) → j ≤ id) → j ≤ st'.ver) → st'.hp.get id = some b' → b'.es = Y.wid c' → b'.sz = cap * Y.wid c' → (xs ++ ys).length ≤ cap → ((op = true → (b'.op = true ∨ (Y.cvb && !(Y.opn c')) = true) ∧ cap = (xs ++ ys).length) ∧ (Y.opn c' = true → op = true)) → Cel Y c' (xs ++ ys) b'.get (DatA Y (jf o0 E m) st) →
        ZbM Y G o0 ro E m st k (some (.sl id 0 (xs ++ ys).length cap op)) st' := by
       intro id cap op b' st' f1 f2 f3 f4 f5 f6 f7 f8 f9 f10 f11 f12
       have hst := Zek (st' := st') (m0 := Zeg (ZaR [r]) m) hI (.buf c' (xs ++ ys)) hr [r] (.inl rfl) (some id) (.sl id 0 (xs ++ ys).length cap op) f1 (fun q => by cases q) hm0 f4 f5 f6
       have hE : (E.set r (some id, V.sl id 0 (xs ++ ys).length cap op))[r]? = some (some id, .sl id 0 (xs ++ ys).length cap op) := List.getElem?_set_self hrl
       obtain ⟨vs, r1, r2⟩ := JaA (off := 0) (b := b') (DA := DatA Y (jf o0 E m) st) (by simpa only [Nat.zero_add] using f12)
       exact ⟨some (.o r), nx, _, [r], [r], _, jgn hI (.buf c' (xs ++ ys)) hr [r] (some id) _ f1 hst f5 (.inr ⟨id, cap, op, b', hE, f2, f3, f7, f10, f8, f9, f11, vs, fun i x hx => by rw [← r1 i x hx, Nat.zero_add], fun i x hx j u v hu hv => DAk hst (r2 i x hx j u v hu hv)⟩), hst, ⟨_, hE, rfl⟩, hk⟩
      rcases hI.ent r _ hr with ⟨q1, q2⟩ | ⟨id, cap, op, b, q1, q2, q3, q4, q5, q6, q7, q8, vs, q9, q10⟩
      ·-- nil before
       rw [e1] at q1
       cases q1
       subst q2
       simp only [List.length_nil, Nat.zero_add] at b1
       have b1' : Nat.ble (ys.length * ti.bytes) 1099511627776 = true := by rw [Nat.ble_eq]; exact b1
       rcases Nat.eq_zero_or_pos ys.length with z | z
       ·have : ys = [] := List.length_eq_zero_iff.1 z
        subst this
        have hst := Zek (st' := st) (m0 := Zeg (ZaR [r]) m) hI (.buf c' []) hr [r] (.inl rfl) none .sn (fun _ q => by cases q) (fun q => by cases q) hm0 (Nat.le_refl _) (fun _ _ _ => rfl) (fun _ _ q _ => q)
        have hE : (E.set r ((none : Option Nat), V.sn))[r]? = some (none, .sn) := List.getElem?_set_self hrl
        have b0 : Nat.ble (0 * ti.bytes) 1099511627776 = true := b1'
        exact ⟨.sn, st, (base _).2 (by simp only [List.length_nil, b0, cond_true]; rfl), some (.o r), nx, _, [r], [r], _, jgn hI (.buf c' []) hr [r] none .sn (fun _ q => by cases q) hst (fun _ _ _ => rfl) (.inl ⟨hE, rfl⟩), hst, ⟨_, hE, rfl⟩, hk⟩
       ·obtain ⟨b, hb⟩ := jaX new (Y.wid c') true l5
        obtain ⟨p1, p2, p3, p4, p5, p6⟩ := ZB hb
        have hd := fin st.nx ys.length true b (st.alloc b) (fun id' e => .inr (by cases e; exact Nat.le_refl _)) hI.ro (Nat.lt_succ_self _) (Nat.le_succ _) (fun j hj _ => jaj st b j hj) (fun _ _ q _ => q) (jam st b) p2 (by rw [p1, l3]) (by simp) ⟨fun _ => ⟨.inl p3, by simp⟩, fun _ => rfl⟩ (fun i x hx j u hu => by rw [p5]; exact l4 i x (by simpa using hx) j u hu)
        refine ⟨_, _, (base _).2 ?_, hd⟩
        have z' : Nat.beq ys.length 0 = false := by rw [Bool.eq_false_iff]; intro q; rw [Nat.beq_eq] at q; omega
        simp only [b1', cond_true, z', cond_false, hb, jh, List.nil_append]
      ·rw [e1] at q1
       cases q1
       have hold := j5 (off := 0) (b := b) (DA := DatA Y (jf o0 E m) st) (fun i x hx => by rw [Nat.zero_add]; exact q9 i x hx) q10
       simp only [Nat.zero_add] at hold
       have b1' : Nat.ble ((xs.length + ys.length) * ti.bytes) 1099511627776 = true := by rw [Nat.ble_eq]; exact b1
       have roT : Nat.ble ro id = true := by rw [Nat.ble_eq]; exact q2
       have le1 : xs.length * Y.wid c' ≤ cap * Y.wid c' := Nat.mul_le_mul_right _ q5
       by_cases hcap : xs.length + ys.length ≤ cap
       ·have le2 : (xs.length + ys.length) * Y.wid c' ≤ cap * Y.wid c' := Nat.mul_le_mul_right _ hcap
        obtain ⟨b', hp⟩ := Blk.put_ok new b (xs.length * Y.wid c') (by rw [q7, l3, ← Nat.add_mul]; exact le2) l5
        obtain ⟨p1, p2, p3, p4, p5, p6, p7⟩ := Blk.put_spec _ _ _ _ hp
        have hd := fin id cap op b' (st.write id b') (fun id' e => .inl (by cases e; exact ⟨_, e1⟩)) q2 (by rw [zbq]; exact q3) (by rw [zbq]; exact Nat.le_refl _) (fun j hj hh => zbR st b' id j (fun z => by subst z; exact hh _ e1)) (fun j _ h2 h3 => ZcH st b' id j h2 (h3 id _ e1)) (Jb5 st b' id) (p2.trans q6) (p1.trans q7) (by rw [List.length_append]; exact hcap)
         ⟨fun z => by rw [p3, List.length_append]; have := q8.1 z; exact ⟨this.1, by omega⟩, q8.2⟩ (jel hold l4 (fun k => p5 k))
        refine ⟨_, _, (base _).2 ?_, hd⟩
        have c4 : Nat.ble (xs.length + ys.length) cap = true := by rw [Nat.ble_eq]; exact hcap
        simp only [q4, b1', c4, cond_true, roT, Nat.zero_add, hp, jh, List.length_append]
       ·have c4 : Nat.ble (xs.length + ys.length) cap = false := by rw [Bool.eq_false_iff]; intro q; rw [Nat.ble_eq] at q; exact hcap q
        have grown : ∃ b', ja7 b 0 xs.length (Y.wid c') new = some b' ∧ b'.es = Y.wid c' ∧ b'.op = true ∧ b'.sz = (xs.length + ys.length) * Y.wid c' ∧ Cel Y c' (xs ++ ys) b'.get (DatA Y (jf o0 E m) st) := by
         unfold ja7
         cases hq : (b.op && Nat.beq 0 0 && Nat.beq (xs.length * Y.wid c') b.sz && Nat.beq b.es (Y.wid c')) with
         | true =>
          simp only [Bool.and_eq_true, Nat.beq_eq] at hq
          simp only [cond_true]
          unfold Blk.grow
          have hq2 := hq.1.2
          obtain ⟨b', hb'⟩ := Blk.put_ok new { b with sz := b.sz + new.length, op := true } b.sz (by dsimp only; omega) l5
          obtain ⟨p1, p2, p3, p4, p5, p6, p7⟩ := Blk.put_spec _ _ _ _ hb'
          refine ⟨b', hb', p2.trans q6, p3, by rw [p1]; dsimp only; rw [← hq2, l3, ← Nat.add_mul], fun i x hx j u hu => ?_⟩
          refine jel (get := fun k => if k < b.sz then b.get k else none) (get' := fun k => if k < b.sz + new.length then b'.get k else none) ?_ l4 ?_ i x hx j u hu |>.elim fun v hv => ⟨v, ?_, hv.2⟩
          ·intro i x hx j u hu
           obtain ⟨v, z1, z2⟩ := hold i x hx j u hu
           exact ⟨v, by dsimp only; rw [if_pos (Blk.get_lt z1)]; exact z1, z2⟩
          ·intro k
           rw [hq2]
           by_cases z1 : k < b.sz + new.length
           ·rw [if_pos z1, p5 k]
            by_cases z2 : b.sz ≤ k
            ·rw [if_pos ⟨z2, z1⟩, if_pos ⟨z2, z1⟩]
            ·rw [if_neg (by omega), if_neg (by omega), if_pos (by omega)]
             unfold Blk.get
             dsimp only
             have a1 : Nat.blt k (b.sz + new.length) = true := by rw [Nat.blt_eq]; exact z1
             have a2 : Nat.blt k b.sz = true := by rw [Nat.blt_eq]; omega
             rw [a1, a2]
           ·rw [if_neg z1, if_neg (by omega), if_neg (by omega)]
          ·have := hv.1
           dsimp only at this
           split at this
           ·exact this
           ·cases this
         | false =>
          have hw0 := hw
          have key : ∀ k, k < xs.length * Y.wid c' → ∃ v, b.get k = some v ∧ v.atom = true := by
           intro k hk
           have h1 : k / Y.wid c' < xs.length := Nat.div_lt_of_lt_mul (by rw [Nat.mul_comm]; exact hk)
           have h2 : k % Y.wid c' < Y.wid c' := Nat.mod_lt _ hw0
           have hx := List.getElem?_eq_getElem h1
           have hu : (Y.cells c' xs[k / Y.wid c'])[k % Y.wid c']? = some _ := List.getElem?_eq_getElem (by rw [Y.len]; exact h2)
           obtain ⟨v, z1, z2⟩ := hold _ _ hx _ _ hu
           rw [Nat.div_add_mod'] at z1
           exact ⟨v, z1, ZbQ (E := E) (JbQ (Y.flat _ _ _ (List.mem_of_getElem? hu))) z2.rel⟩
          let old : List V := (List.range (xs.length * Y.wid c')).map fun k => (b.get k).getD (.b false)
          have hol : old.length = xs.length * Y.wid c' := by simp [old]
          have hog : ∀ k, k < xs.length * Y.wid c' → old[k]? = b.get k := by
           intro k hk
           obtain ⟨v, z1, _⟩ := key k hk
           simp only [old]
           rw [List.getElem?_map, List.getElem?_range hk, Option.map_some, z1, Option.getD_some]
          have hrow : b.row (xs.length * Y.wid c') 0 = some old := by
           have := Blk.row_ok (b := b) old 0 (fun j hj => by rw [Nat.zero_add, hog j (by rw [← hol]; exact hj)])
           rwa [hol] at this
          have hoa : ∀ v ∈ old ++ new, v.atom = true := by
           intro v hv
           rcases List.mem_append.1 hv with z | z
           ·obtain ⟨j, hj⟩ := List.mem_iff_getElem?.1 z
            have hjl : j < xs.length * Y.wid c' := by rw [← hol]; exact (List.getElem?_eq_some_iff.1 hj).1
            rw [hog j hjl] at hj
            obtain ⟨v', z1, z2⟩ := key j hjl
            rw [hj] at z1
            cases z1
            exact z2
           ·exact l5 v z
          obtain ⟨b', hb'⟩ := jaX (old ++ new) (Y.wid c') true hoa
          obtain ⟨p1, p2, p3, p4, p5, p6⟩ := ZB hb'
          refine ⟨b', by simp only [cond_false, hrow, hb'], p2, p3, by rw [p1, List.length_append, hol, l3, ← Nat.add_mul], jel (get := fun k => old[k]?) ?_ l4 (fun k => ?_)⟩
          ·intro i x hx j u hu
           obtain ⟨v, z1, z2⟩ := hold i x hx j u hu
           have hj : j < Y.wid c' := by rw [← Y.len c' x]; exact (List.getElem?_eq_some_iff.1 hu).1
           have : (i + 1) * Y.wid c' ≤ xs.length * Y.wid c' := Nat.mul_le_mul_right _ (List.getElem?_eq_some_iff.1 hx).1
           rw [Nat.succ_mul] at this
           exact ⟨v, by dsimp only; rw [hog _ (by omega)]; exact z1, z2⟩
          ·rw [p5]
           by_cases z : xs.length * Y.wid c' ≤ k
           ·rw [List.getElem?_append_right (by rw [hol]; exact z), hol]
            by_cases z2 : k < xs.length * Y.wid c' + new.length
            ·rw [if_pos ⟨z, z2⟩]
            ·rw [if_neg (by omega), List.getElem?_eq_none (by omega), List.getElem?_eq_none (by rw [hol]; exact z)]
           ·rw [if_neg (by omega), List.getElem?_append_left (by rw [hol]; omega)]
        obtain ⟨b', g1, g2, g3, g4, g5⟩ := grown
        have ver2 : ∀ st' : St, (∀ j, j ≤ st.ver → j ≤ id → j ≤ st'.ver) → (∀ j, j ≤ st.nx → j ≤ st.ver → (∀ id y, E[r]? = some (some id, y) → j ≤ id) → j ≤ st'.ver) := fun st' hh j _ h2 h3 => hh j h2 (h3 id _ e1)
        cases op with
        | true =>
         obtain ⟨o1, o2⟩ := q8.1 rfl
         have o1 : b.op = true := o1.resolve_right (by rw [hcv]; decide)
         have hd := fin st.nx (xs ++ ys).length true b' (St.alloc ⟨st.nx, (st.kill id).hp, (st.kill id).ver⟩ b') (fun id' e => .inr (by cases e; exact Nat.le_refl _)) hI.ro (Nat.lt_succ_self _) (Nat.le_succ _)
          (fun j hj hh => by
           show (St.alloc ⟨st.nx, (st.kill id).hp, (st.kill id).ver⟩ b').hp.get j = _
           rw [jaj ⟨st.nx, (st.kill id).hp, (st.kill id).ver⟩ b' j hj, St.kill_eq]
           dsimp only
           rw [T.get_upd, if_neg (fun z => by subst z; exact hh _ e1)])
          (ver2 _ (fun j h1 h2 => by show j ≤ (st.kill id).ver; rw [St.kill_eq]; exact zeJ h1 h2)) (jam ⟨st.nx, (st.kill id).hp, (st.kill id).ver⟩ b') g2 (by rw [g4, List.length_append]) (Nat.le_refl _) ⟨fun _ => ⟨.inl g3, rfl⟩, fun _ => rfl⟩ g5
         refine ⟨_, _, (base _).2 ?_, hd⟩
         have c5 : (Nat.ble ro id && b.op && Nat.beq b.es (Y.wid c') && Nat.beq (0 + cap * Y.wid c') b.sz) = true := by rw [roT, o1, q6, q7]; simp
         simp only [q4, b1', c4, cond_true, cond_false, g1, c5, jh, List.length_append]
        | false =>
         have hd := fin st.nx (xs ++ ys).length true b' (st.alloc b') (fun id' e => .inr (by cases e; exact Nat.le_refl _)) hI.ro (Nat.lt_succ_self _) (Nat.le_succ _) (fun j hj _ => jaj st b' j hj) (fun _ _ q _ => q) (jam st b') g2 (by rw [g4, List.length_append]) (Nat.le_refl _) ⟨fun _ => ⟨.inl g3, rfl⟩, fun _ => rfl⟩ g5
         refine ⟨_, _, (base _).2 ?_, hd⟩
         simp only [q4, b1', c4, cond_true, cond_false, g1, jh, List.length_append]
     ·exact h2.elim
    ·exact h2.elim
  ·exact h.elim
 ·exact h.elim
theorem jbD {α β : Type} {f : α → List (U S)} {g : β → List (U S)} {xs : List α} {ys : List β} (h : xs.map f = ys.map g) : xs.length = ys.length ∧ ∀ (i : Nat) x, xs[i]? = some x → ∃ y, ys[i]? = some y ∧ f x = g y := by
 refine ⟨by have := congrArg List.length h; simpa using this, fun i x hx => ?_⟩
 have := congrArg (·[i]?) h
 simp only [List.getElem?_map, hx, Option.map_some] at this
 cases hy : ys[i]? with
 | none => rw [hy] at this; cases this
 | some y => rw [hy] at this; exact ⟨y, rfl, Option.some.inj this⟩
theorem Zel {own : Nat → Prop} {c : S.Cd} {xs : List (S.Den c)} {bs : List UInt8} {b : Blk} {off : Nat} (hw : Y.wid c = 1) (hm : xs.map (Y.cells c) = bs.map (fun y => [.i .u8 (y.toNat : Int)])) (hc : Cel Y c xs (fun k => b.get (off + k)) (DatA Y own st)) : Jeg b xs.length off = some (V.str bs) := by
 obtain ⟨hl, hg⟩ := jbD hm
 have cell : ∀ j, j < bs.length → b.get (off + j) = (cB bs)[j]? := by
  intro j hj
  have hx := List.getElem?_eq_getElem (l := xs) (i := j) (by omega)
  obtain ⟨y, e1, e2⟩ := hg j _ hx
  obtain ⟨v, e3, e4⟩ := hc j _ hx 0 (.i .u8 (y.toNat : Int)) (by rw [e2]; rfl)
  dsimp only at e3
  rw [hw, Nat.mul_one, Nat.add_zero] at e3
  cases e4
  rw [e3, Zfi, e1]
  rfl
 have := Blk.row_ok (b := b) (cB bs) off (fun j hj => cell j (by rwa [ZaA] at hj))
 rw [ZaA] at this
 rw [hl]
 exact JeH this (zdg bs)
theorem Jel (hI : Inv Y G o0 ro E nx m st) {s d : TypeId} {x : U S} {xv : V} {k : Kn S} (h : zdr Y P nx m s d x k) (hx : RelV Y (Dat Y (jf o0 E m) st) E x xv) :
  ∃ v st', zu P st s d xv = some (v, st') ∧ ZbM Y G o0 ro E m st k (some v) st' := by
 unfold zdr at h
 split at h
 ·rename_i hs hd
  simp only [RelV] at hx
  subst hx
  exact ⟨_, st, by unfold zu; simp only [hs, hd], jL hI (u := .i _ _) rfl (jaR h)⟩
 ·rename_i hs hd
  simp only [RelV] at hx
  subst hx
  exact ⟨_, st, by unfold zu V.str; simp only [hs, hd], jL hI (u := .s _) rfl h⟩
 ·rename_i e l hs hd
  split at h
  ·rename_i c he hcode
   simp only [RelV] at hx
   subst hx
   obtain ⟨h1, h⟩ := h
   obtain ⟨xs, hw, hm, hk⟩ := Y.ofB_ok _ _ _ h
   obtain ⟨hl, hg⟩ := jbD hm
   obtain ⟨b, hb⟩ := jaX (cB l) 1 false (Zb4 l)
   obtain ⟨p1, p2, p3, p4, p5, p6⟩ := ZB hb
   have hcl : Cel Y c xs b.get (DatA Y (jf o0 E m) st) := (fun i x hx j u hu => by
    obtain ⟨y, e1, e2⟩ := hg i x hx
    rw [e2] at hu
    cases j with
    | zero =>
     simp only [List.getElem?_cons_zero, Option.some.injEq] at hu
     subst hu
     exact ⟨_, by rw [hw, Nat.mul_one, Nat.add_zero, p5, Zfi, e1]; rfl, .i _ _⟩
    | succ j => simp at hu)
   have hd2 : ZbM Y G o0 ro E m st k (some (.sl st.nx 0 xs.length xs.length true)) (st.alloc b) := by
    cases hcv : (Y.cvb && !(Y.opn c)) with
    | false =>
     rw [hcv, cond_false] at hk
     exact jeL (b := b) (cap := xs.length) (op := true) hI hk (Nat.le_refl _) hcl
    | true =>
     rw [hcv, cond_true] at hk
     exact zeL (b := b) (cap := xs.length) (op := true) hI hk (p2.trans hw.symm) (by rw [p1, ZaA, hw, Nat.mul_one, hl]) (Nat.le_refl _) ⟨fun _ => ⟨.inr hcv, rfl⟩, fun _ => rfl⟩ hcl
   rw [hl] at hd2
   refine ⟨_, _, ?_, hd2⟩
   have c1 : Nat.ble l.length 1099511627776 = true := by rw [Nat.ble_eq]; exact h1
   unfold zu V.str
   simp only [hs, hd, he, c1, cond_true, jcG, hb, jh]
  ·exact h.elim
 ·rename_i e hs hd
  split at h
  ·rename_i he
   simp only [RelV] at hx
   subst hx
   exact ⟨.s 0 0, st, by unfold zu; simp only [hs, hd, he], jL hI (u := .s []) rfl h⟩
  ·exact h.elim
 ·rename_i e c xs hs hd
  split at h
  ·rename_i he
   obtain ⟨bs, hw, hm, hk⟩ := Y.byt_ok _ _ _ h
   simp only [RelV] at hx
   cases hx with
   | nil =>
    obtain ⟨hl, _⟩ := jbD hm
    have : bs = [] := List.length_eq_zero_iff.1 hl.symm
    subst this
    exact ⟨.s 0 0, st, by unfold zu; simp only [hs, hd, he], jL hI (u := .s []) rfl hk⟩
   | ne =>
    obtain ⟨hl, _⟩ := jbD hm
    have : bs = [] := List.length_eq_zero_iff.1 hl.symm
    subst this
    exact ⟨.s 0 0, st, by unfold zu; simp only [hs, hd, he], jL hI (u := .s []) rfl hk⟩
   | ze =>
    obtain ⟨hl, _⟩ := jbD hm
    have : bs = [] := List.length_eq_zero_iff.1 hl.symm
    subst this
    exact ⟨.s 0 0, st, by unfold zu; simp only [hs, hd, he], jL hI (u := .s []) rfl hk⟩
   | mk vs h1 h2 h3 h4 h5 h6 =>
    exact ⟨V.str bs, st, by unfold zu; simp only [hs, hd, he, h3, Zel hw hm (j5 h4 h5)], jL hI (u := .s bs) rfl hk⟩
  ·exact h.elim
 ·rename_i e r hs hd
  split at h
  ·rename_i c xs he hr
   obtain ⟨bs, hw, hm, hk⟩ := Y.byt_ok _ _ _ h
   simp only [RelV] at hx
   obtain ⟨y, e1, _⟩ := hx
   rcases hI.ent r _ hr with ⟨q1, q2⟩ | ⟨id, cap, op, b, q1, q2, q3, q4, q5, q6, q7, q8, vs, q9, q10⟩
   ·rw [e1] at q1
    cases q1
    subst q2
    obtain ⟨hl, _⟩ := jbD hm
    have : bs = [] := List.length_eq_zero_iff.1 hl.symm
    subst this
    exact ⟨.s 0 0, st, by unfold zu; simp only [hs, hd, he], jL hI (u := .s []) rfl hk⟩
   ·rw [e1] at q1
    cases q1
    exact ⟨V.str bs, st, by unfold zu; simp only [hs, hd, he, q4, Zel hw hm (j5 (fun i x hx => by rw [Nat.zero_add]; exact q9 i x hx) q10)], jL hI (u := .s bs) rfl hk⟩
  ·exact h.elim
 ·rename_i e r w i hs hd
  split at h
  ·rename_i c xs he hr
   cases hwc : Nat.beq w (Y.wid c) with
   | false => rw [hwc] at h; exact h.elim
   | true =>
    rw [hwc, cond_true] at h
    rw [Nat.beq_eq] at hwc
    subst hwc
    obtain ⟨bs, hw, hm, hk⟩ := Y.byt_ok _ _ _ h
    obtain ⟨hl, _⟩ := jbD hm
    simp only [RelV] at hx
    obtain ⟨x, y, e1, hv⟩ := hx
    have none : xs.drop i = [] → bs = [] := fun q => List.length_eq_zero_iff.1 (by rw [← hl, q]; rfl)
    rcases hI.ent r _ hr with ⟨q1, q2⟩ | ⟨id, cap, op, b, q1, q2, q3, q4, q5, q6, q7, q8, vs, q9, q10⟩
    ·rw [e1] at q1
     cases q1
     subst q2
     have := none (by simp)
     subst this
     obtain ⟨_, rfl⟩ | ⟨_, _, _, _, q, _⟩ := hv
     ·exact ⟨.s 0 0, st, by unfold zu; simp only [hs, hd, he], jL hI (u := .s []) rfl hk⟩
     ·cases q
    ·rw [e1] at q1
     cases q1
     obtain ⟨q, _⟩ | ⟨_, _, _, _, q, hi, hv⟩ := hv
     ·cases q
     cases q
     have hlen : (xs.drop i).length = xs.length - i := List.length_drop
     obtain ⟨o, cap', op', ho, rfl⟩ | ⟨hi2, o, o2, rfl⟩ := hv
     ·have hc : Cel Y c (xs.drop i) (fun k => b.get (o + k)) (DatA Y (jf o0 E m) st) := by
       by_cases hlt : i < xs.length
       ·rw [ho hlt]
        refine j5 (vs := fun j => vs (i + j)) (fun j x hx => ?_) (fun j x hx => ?_)
        ·rw [← Nat.add_mul]
         exact q9 (i + j) x (by rw [List.getElem?_drop] at hx; exact hx)
        ·exact q10 (i + j) x (by rw [List.getElem?_drop] at hx; exact hx)
       ·intro j x hx
        rw [List.getElem?_eq_none (by omega)] at hx
        cases hx
      have ht := Zel hw hm hc
      rw [hlen] at ht
      exact ⟨V.str bs, st, by unfold zu; simp only [hs, hd, he, q4, ht], jL hI (u := .s bs) rfl hk⟩
     ·have := none (List.length_eq_zero_iff.1 (by omega))
      subst this
      exact ⟨.s 0 0, st, by unfold zu; simp only [hs, hd, he], jL hI (u := .s []) rfl hk⟩
  ·exact h.elim
 ·exact h.elim
theorem jfo (hI : Inv Y G o0 ro E nx m st) {s d : TypeId} {x : U S} {xv : V} {k : Kn S} (h : jfn Y P nx m s d x k) (hx : RelV Y (Dat Y (jf o0 E m) st) E x xv) :
  ∃ v st', zbz P ro st s d xv = some (v, st') ∧ ZbM Y G o0 ro E m st k (some v) st' := by
 unfold jfn at h
 split at h
 ·rename_i e e2 r hs hd
  split at h
  ·rename_i c xs he hr
   cases hq : decide (s = d) with
   | false => rw [hq] at h; exact h.elim
   | true =>
    rw [hq, cond_true] at h
    have hx0 := hx
    simp only [RelV] at hx
    obtain ⟨y, e1, _⟩ := hx
    obtain ⟨id, b, q1, q2, q3, q4, q5, q6⟩ := hI.ent r _ hr
    rw [e1] at q1
    cases q1
    have c1 : (decide (s = d) && !b.op && Nat.ble ro id) = true := by
     rw [hq, q5, show Nat.ble ro id = true from by rw [Nat.ble_eq]; exact q2]
     rfl
    exact ⟨_, st, by unfold zbz; simp only [hs, hd, he, q4, c1, cond_true], jL hI hx0 h⟩
  ·exact h.elim
 ·obtain ⟨v, st', h7, h8⟩ := Jel hI h hx
  exact ⟨v, st', zdR h7, h8⟩
theorem Zhq (hI : Inv Y G o0 ro E nx m st) {o : Op} {k : Kn S} (h : sE Y P fr nx m o k) (hf : RelF Y (Dat Y (jf o0 E m) st) E fr frV) : ∃ res st', (∀ call, vop P ro call frV st o = some (res, st')) ∧ ZbM Y G o0 ro E m st k res st' := by
 unfold sE at h
 split at h
 ·obtain ⟨u, v, h1, h2, h3⟩ := Jr h hf
  obtain ⟨w, z, h4, h5, h6⟩ := Jr h3 hf
  obtain ⟨id, off, st', rfl, h7, h8⟩ := zfo hI h6 h2 h5
  exact ⟨none, st', fun call => by simp only [vop, h1, h4, h7], h8⟩
 ·split at h
  ·rename_i z n hz hn
   cases hs : za8 z with
   | false => rw [hs] at h; exact h.elim
   | true =>
    rw [hs] at h
    obtain ⟨w, e1, e2⟩ := Jcv (Y := Y) hz
    obtain ⟨b, h1, h2⟩ := Zgn (es := n) hI h (RelV.cells hs (e2 (Dat Y (jf o0 E m) st) E))
    exact ⟨_, _, fun call => by simp only [vop, e1, hn, Jby, h1, jh], h2⟩
  ·exact h.elim
 ·split at h
  ·rename_i n hn
   obtain ⟨u, v, h1, h2, h3⟩ := Jr h hf
   cases hs : za8 u with
   | false => rw [hs] at h3; exact h3.elim
   | true =>
    rw [hs] at h3
    obtain ⟨b, h4, h5⟩ := Zgn (es := n) hI h3 (RelV.cells hs h2)
    exact ⟨_, _, fun call => by simp only [vop, h1, hn, Jby, h4, jh], h5⟩
  ·exact h.elim
 ·obtain ⟨us, vs, h1, h2, h3⟩ := ZcG hf h
  obtain ⟨v, st', h4, h5⟩ := Jc3 hI h3 h2
  exact ⟨some v, st', fun call => by simp only [vop, h1, h4], h5⟩
 ·obtain ⟨u, v, h1, h2, h3⟩ := Jr h hf
  obtain ⟨w, z, h4, h5, h6⟩ := Jr h3 hf
  split at h6
  ·simp only [RelV] at h2 h5
   subst h2 h5
   obtain ⟨v, st', h7, h8⟩ := jdr hI h6
   exact ⟨some v, st', fun call => by simp only [vop, h1, h4, h7], h8⟩
  ·exact h6.elim
 ·obtain ⟨u, v, h1, h2, h3⟩ := Jr h hf
  obtain ⟨v, st', h7, h8⟩ := jfo hI h3 h2
  exact ⟨some v, st', fun call => by simp only [vop, h1, h7], h8⟩
 ·rename_i c
  obtain ⟨callee, args, ts⟩ := c
  dsimp only at h
  split at h
  ·rename_i s x t u hc ha ht
   split at h
   ·exact h.elim
   ·rename_i d hni hu
    obtain ⟨su, sv, h1, h2, h3⟩ := Jr h hf
    obtain ⟨xu, xv, h4, h5, h6⟩ := Jr h3 hf
    obtain ⟨v, st', h7, h8⟩ := zeY hI h6 h2 h5
    refine ⟨some v, st', fun call => ?_, h8⟩
    simp only [vop, ha, ht, jaq, h1, h4, ju, hu]
    cases d <;> first | exact absurd rfl (hni _) | simp only [h7]
   ·exact h.elim
  ·exact h.elim
 ·exact h.elim
end
end Go.Sx
namespace Go.Sx
open Go.Vm
structure Z (S : Sg) where
 fr : T (U S)
 nx : Nat
 m : T (Ct S)
 ks : List Nat
abbrev ji (S : Sg) := FuncId → List (U S) → Nat → T (Ct S) → Kn S → Prop
abbrev Z5 (S : Sg) := Code → Z S → (Ex → Z S → Prop) → Prop
def jf0 : Nat → Nat → List Bool
 | 0, _ => []
 | f + 1, i => match i with
  | 0 => []
  | k + 1 => Nat.beq (k % 2) 0 :: jf0 f (k / 2)
def zgC {α : Type} : List Bool → T α → Option α → (T α → Prop) → Prop
 | [], .e, v, k => k (.n .e v .e)
 | [], .n l _ r, v, k => k (.n l v r)
 | true :: p, .e, v, k => zgC p .e v fun l => k (.n l none .e)
 | true :: p, .n l x r, v, k => zgC p l v fun l => k (.n l x r)
 | false :: p, .e, v, k => zgC p .e v fun r => k (.n .e none r)
 | false :: p, .n l x r, v, k => zgC p r v fun r => k (.n l x r)
theorem jg4 {α : Type} (v : Option α) (r x : T α) : T.mkL v r x = .n x v r := by cases x <;> rfl
theorem Zg4 {α : Type} (v : Option α) (l x : T α) : T.mkR l v x = .n l v x := by cases x <;> rfl
theorem Zfo {α : Type} (v : Option α) : ∀ (f : Nat) (t : T α) (i : Nat) (k : T α → Prop), i < f → zgC (jf0 f i) t v k = k (T.go v f t i)
 | 0, _, _, _, h => absurd h (Nat.not_lt_zero _)
 | f + 1, t, i, k, h => by
  cases i with
  | zero => cases t <;> rfl
  | succ j =>
   have hj : j / 2 < f := by omega
   simp only [jf0, T.go]
   cases hb : Nat.beq (j % 2) 0 <;> cases t <;> simp only [zgC, cond_true, cond_false, jg4, Zg4] <;> rw [Zfo v f _ _ _ hj]
def jgC {α : Type} (t : T α) (i : Nat) (v : Option α) (k : T α → Prop) : Prop := zgC (jf0 (i + 1) i) t v k
theorem zem {α : Type} (t : T α) (i : Nat) (v : Option α) (k : T α → Prop) : jgC t i v k = k (t.upd i v) := Zfo v (i + 1) t i k (Nat.lt_succ_self i)
def jbR {α : Type} : T α → (T α → Prop) → Prop
 | .e, k => k .e
 | .n l v r, k => jbR l fun l => jbR r fun r => k (.n l v r)
theorem zaB {α : Type} : ∀ (t : T α) (k : T α → Prop), jbR t k = k t
 | .e, k => rfl
 | .n l v r, k => by rw [jbR, zaB l, zaB r]
section
variable {S : Sg} (Y : Sy S) (P : Program) (G : Gl)
def zJ (z : Z S) (k : Z S → Prop) : Prop := jbR z.fr fun fr => jbR z.m fun m => k ⟨fr, z.nx, m, z.ks⟩
theorem JcH (z : Z S) (k : Z S → Prop) : zJ z k = k z := by unfold zJ; rw [zaB, zaB]
def Zf0 (ks : List Nat) (fr : T (U S)) (k : T (U S) → Prop) : Prop := match ks with
 | [] => k fr
 | n :: r => jbR (Zeg (kill (n :: r)) fr) k
def jeY (ks : List Nat) (fr : T (U S)) : T (U S) := match ks with
 | [] => fr
 | k :: r => Zeg (kill (k :: r)) fr
def zdU : U S → Bool
 | .b _ | .kb _ | .i _ _ | .s _ | .pn | .sn | .fz | .nz => true
 | _ => false
def Zdr : List (U S) → Bool
 | [] => true
 | u :: us => zdU u && Zdr us
def zcI : U S → Bool
 | .a us | .t us => Zdr us
 | u => zdU u
def sOp (C : ji S) (fr : T (U S)) (nx : Nat) (m : T (Ct S)) (o : Op) (k : Kn S) : Prop := match o with
 | .store t x v => sE Y P fr nx m (.store t x v) k
 | .alloc t => sE Y P fr nx m (.alloc t) k
 | .box t x => sE Y P fr nx m (.box t x) k
 | .buildSlice t l ps => sE Y P fr nx m (.buildSlice t l ps) k
 | .makeSlice t l c => sE Y P fr nx m (.makeSlice t l c) k
 | .convert s d x => sE Y P fr nx m (.convert s d x) k
 | .call c => match c.callee with
  | .value f => ZaX fr f fun w => match w with
   | .f fn caps => zek fr c.args.toList fun us => C fn (us ++ caps) nx m k
   | _ => False
  | .builtin .append => sE Y P fr nx m (.call c) k
  | _ => sQ Y P G fr m (.call c) fun u => k (some u) nx m [] []
 | o => sQ Y P G fr m o fun u => k (some u) nx m [] []
def zgo (k : U S → Prop) : Kn S := fun u _ _ ks wr => match u, ks, wr with
 | some u, [], [] => cond (zcI u) (k u) False
 | _, _, _ => False
def Jhq (C : ji S) (fr : T (U S)) (nx : Nat) (m : T (Ct S)) (o : Op) (k : U S → Prop) : Prop := match o with
 | .call c => match c.callee with
  | .value f => ZaX fr f fun w => match w with
   | .f fn caps => zek fr c.args.toList fun us => C fn (us ++ caps) nx m (zgo k)
   | _ => False
  | _ => sQ Y P G fr m (.call c) k
 | o => sQ Y P G fr m o k
def zfd (nt : Nat) (fr : T (U S)) (dst : Option Nat) (v : Option (U S)) (k : T (U S) → Prop) : Prop := match dst with
 | none => k fr
 | some d => cond (Nat.blt d nt) (match v with
  | some u => jgC fr d (some u) k
  | none => jgC fr d (some (.t [])) k) False
def jdU (ops : Array Oper) (g : Option (Nat × Bool)) (fr : T (U S)) (run skip : T (U S) → Prop) : Prop := match g with
 | none => run fr
 | some (j, want) => match (ops[j]?).bind (·.dst) with
  | none => skip fr
  | some d => match fr.get d with
   | some (.kb x) => cond (x == want) (run fr) (skip fr)
   | some (.b x) => (x = want → jgC fr d (some (.kb want)) run) ∧ (x = !want → jgC fr d (some (.kb (!want))) skip)
   | some (.t _) => skip fr
   | _ => False
def ZgW (C : ji S) (nt : Nat) (ops : Array Oper) : List Oper → Z S → (Z S → Prop) → Prop
 | [], z, K => K z
 | o :: r, z, K => jdU ops o.guard z.fr
  (fun fr => sOp Y P G C fr z.nx z.m o.op fun u nx' m' ks _ => jbR m' fun m' => Zf0 ks fr fun fr => zfd nt fr o.dst u fun fr' => ZgW C nt ops r ⟨fr', nx', m', ks ++ z.ks⟩ K)
  (fun fr => zfd nt fr o.dst none fun fr' => ZgW C nt ops r ⟨fr', z.nx, z.m, z.ks⟩ K)
def jem (C : ji S) (nt : Nat) (ops : Array Oper) (nx : Nat) (m : T (Ct S)) : List Oper → T (U S) → (T (U S) → Prop) → Prop
 | [], fr, K => K fr
 | o :: r, fr, K => jdU ops o.guard fr
  (fun fr => Jhq Y P G C fr nx m o.op fun u => zfd nt fr o.dst (some u) fun fr' => jem C nt ops nx m r fr' K)
  (fun fr => zfd nt fr o.dst none fun fr' => jem C nt ops nx m r fr' K)
structure SE (S : Sg) where
 x : Nat
 t : TypeId
 a : U S
 u : U S
def ZbR (ops : Array Oper) (i : Nat) : List (SE S) → List (SE S)
 | [] => []
 | e :: r => match Region.waitsT .any ops i e.x with
  | true => ZbR ops i r
  | false => e :: ZbR ops i r
def Zem (ks : List Nat) (es : List (SE S)) : List (SE S) := match ks with
 | [] => es
 | k :: r => es.map fun e => ⟨e.x, e.t, kill (k :: r) e.a, kill (k :: r) e.u⟩
def Jg4 (m : T (Ct S)) : U S → Bool
 | .b _ | .kb _ | .i _ _ | .s _ | .pn | .sn | .fz | .nz | .p _ _ | .g _ _ => true
 | .o r => match m.get r with
  | some (.buf _ _) => true
  | _ => false
 | _ => false
def jhn (m : T (Ct S)) : List (U S) → Bool
 | [] => true
 | u :: us => Jg4 m u && jhn m us
def zhr (m : T (Ct S)) : U S → Bool
 | .a us => jhn m us
 | u => Jg4 m u
def Jf0 (m : T (Ct S)) : List (SE S) → Prop → Prop
 | [], p => p
 | e :: r, p => JeX Y P G m e.t e.a fun u => u = e.u ∧ cond (zhr m u) (Jf0 m r p) False
def zf1 (C : ji S) (nt : Nat) (ops : Array Oper) : List (Nat × Oper) → List (SE S) → Z S → (Z S → Prop) → Prop
 | [], _, z, K => K z
 | (i, o) :: r, es, z, K => jdU ops o.guard z.fr
  (fun fr => match jaW o.op with
   | 0 => sQ Y P G fr z.m o.op fun u => zfd nt fr o.dst (some u) fun fr' => zf1 C nt ops r es ⟨fr', z.nx, z.m, z.ks⟩ K
   | 1 => match o.op with
    | .load t x => ZaX fr x fun a => JeX Y P G z.m t a fun u => zfd nt fr o.dst (some u) fun fr' => zf1 C nt ops r (⟨i, t, a, u⟩ :: es) ⟨fr', z.nx, z.m, z.ks⟩ K
    | _ => False
   | _ => sOp Y P G C fr z.nx z.m o.op fun u nx' m' ks wr => jbR m' fun m' => Zf0 ks fr fun fr => match wr with
    | [] => zfd nt fr o.dst u fun fr' => zf1 C nt ops r (Zem ks (ZbR ops i es)) ⟨fr', nx', m', ks ++ z.ks⟩ K
    | _ :: _ => Jf0 Y P G m' (Zem ks (ZbR ops i es)) (zfd nt fr o.dst u fun fr' => zf1 C nt ops r (Zem ks (ZbR ops i es)) ⟨fr', nx', m', ks ++ z.ks⟩ K))
  (fun fr => zfd nt fr o.dst none fun fr' => zf1 C nt ops r es ⟨fr', z.nx, z.m, z.ks⟩ K)
def sC (C : ji S) (L : Z5 S) (nt : Nat) : Code → Z S → (Ex → Z S → Prop) → Prop
 | .skip, z, K => K .nrm z
 | .label _, z, K => K .nrm z
 | .exit i, z, K => K (.exit i) z
 | .goto i, z, K => K (.goto i) z
 | .ret, z, K => K .ret z
 | .region _ ops draw, z, K => match draw with
  | false => ZgW Y P G C nt ops ops.toList z (K .nrm)
  | true => cond (Zeh P ops) (jem Y P G C nt ops z.nx z.m ops.toList z.fr fun fr => K .nrm ⟨fr, z.nx, z.m, z.ks⟩)
   (cond (jeh ops) (jem Y P G C nt ops z.nx z.m (ops.toList.take (ops.size - 1)) z.fr fun fr => ZgW Y P G C nt ops (ops.toList.drop (ops.size - 1)) ⟨fr, z.nx, z.m, z.ks⟩ (K .nrm))
   (match jcj P ops with
    | some l => zf1 Y P G C nt ops l [] z (K .nrm)
    | none => cond (jfW ops) (jem Y P G C nt ops z.nx z.m ops.toList z.fr fun fr => K .nrm ⟨fr, z.nx, z.m, z.ks⟩) False))
 | .seq a b, z, K => sC C L nt a z fun e z' => match e with
  | .nrm => sC C L nt b z' K
  | .exit i => K (.exit i) z'
  | .goto i => K (.goto i) z'
  | .ret => K .ret z'
 | .cond c a b, z, K => match c with
  | .tmp t => match z.fr.get t with
   | some (.kb true) => sC C L nt a z K
   | some (.kb false) => sC C L nt b z K
   | some (.b x) => (x = true → jgC z.fr t (some (.kb true)) fun fr => sC C L nt a ⟨fr, z.nx, z.m, z.ks⟩ K) ∧ (x = false → jgC z.fr t (some (.kb false)) fun fr => sC C L nt b ⟨fr, z.nx, z.m, z.ks⟩ K)
   | _ => False
  | _ => False
 | .block i b, z, K => sC C L nt b z fun e z' => match e with
  | .nrm => K .nrm z'
  | .exit j => cond (Nat.beq j i) (K .nrm z') (K (.exit j) z')
  | .goto i => K (.goto i) z'
  | .ret => K .ret z'
 | .loop b, z, K => L b z K
 | .scope b, z, K => sC C L nt b z fun e z' => match e with
  | .nrm => K .nrm z'
  | .exit j => K (.exit j) z'
  | .goto _ => False
  | .ret => K .ret z'
 | _, _, _ => False
def JR : Code → List Code
 | .seq a b => JR a ++ JR b
 | .cond _ a b => JR a ++ JR b
 | .block _ b => JR b
 | .scope b => JR b
 | .loop b => [b]
 | _ => []
variable {Y P G}
variable {o0 : Nat → Prop} {ro nt : Nat} {ov : Ov}
theorem zcx (ks : List Nat) (fr : T (U S)) (k : T (U S) → Prop) : Zf0 ks fr k = k (jeY ks fr) := by
 cases ks with
 | nil => rfl
 | cons n r => simp only [Zf0, jeY, zaB]
structure Bs (S : Sg) where
 E : En
 m : T (Ct S)
 st : St
def Zat (Y : Sy S) (G : Gl) (o0 : Nat → Prop) (ro : Nat) (B : Bs S) (z : Z S) (frV : T V) (st : St) : Prop :=
 ∃ E, Inv Y G o0 ro E z.nx z.m st ∧ Step o0 B.E B.m B.st E z.m st z.ks [0] ∧ RelF Y (Dat Y (jf o0 E z.m) st) E z.fr frV
def Zj (Y : Sy S) (P : Program) (G : Gl) (ov : Ov) (o0 : Nat → Prop) (ro : Nat) (C : ji S) : Prop :=
 ∀ f us nx m k, C f us nx m k → ∀ E st vs, Inv Y G o0 ro E nx m st → RelL Y (Dat Y (jf o0 E m) st) E us vs → ∃ v st', (∃ M, ∀ n, M ≤ n → evF P ov ro n f vs st = some (v, st')) ∧ ZbM Y G o0 ro E m st k (some v) st'
def Sem (Y : Sy S) (P : Program) (G : Gl) (ov : Ov) (o0 : Nat → Prop) (ro nt : Nat) (st0 : Bs S) (c : Code) (z : Z S) (K : Ex → Z S → Prop) : Prop :=
 ∀ frV st, Zat Y G o0 ro st0 z frV st → ∃ e frV' st', (∃ M, ∀ n, M ≤ n → evC P ov ro n nt c frV st = some (e, frV', st')) ∧ ∃ z', Zat Y G o0 ro st0 z' frV' st' ∧ K e z'
theorem Step.anyW {E E' : En} {m m' : T (Ct S)} {st st' : St} {ks wr : List Nat} (h : Step o0 E m st E' m' st' ks wr) : Step o0 E m st E' m' st' ks [0] := ⟨h.len, h.same, h.nx, h.keep, h.nam, fun j h1 h2 hw => h.ver j h1 h2 (.inr (hw.elim (fun q => by cases q) fun q => q))⟩
theorem jcI {E E' : En} {m m' : T (Ct S)} {st st' : St} {ks wr : List Nat} {fr : T (U S)} {frV : T V} (hs : Step o0 E m st E' m' st' ks wr) (hf : RelF Y (Dat Y (jf o0 E m) st) E fr frV) : RelF Y (Dat Y (jf o0 E' m') st') E' (jeY ks fr) frV := by
 intro t u hu
 cases ks with
 | nil =>
  obtain ⟨v, h1, h2⟩ := hf t u hu
  exact ⟨v, h1, hs.rel h2⟩
 | cons k r =>
  simp only [jeY] at hu
  rw [JbP] at hu
  cases hg : fr.get t with
  | none => rw [hg] at hu; cases hu
  | some u0 =>
   rw [hg] at hu
   cases hu
   obtain ⟨v, h1, h2⟩ := hf t u0 hg
   exact ⟨v, h1, hs.relK h2⟩
theorem Jdr {D : DD S} {E : En} {fr : T (U S)} {frV : T V} (hf : RelF Y D E fr frV) {d : Nat} {u : U S} {v : V} (h : RelV Y D E u v) : RelF Y D E (fr.upd d (some u)) (frV.upd d (some v)) := by
 intro t w hw
 rw [T.get_upd] at hw
 by_cases e : t = d
 ·subst e
  rw [if_pos rfl] at hw
  cases hw
  exact ⟨v, T.get_same, h⟩
 ·rw [if_neg e] at hw
  obtain ⟨x, h1, h2⟩ := hf t w hw
  exact ⟨x, by rw [T.get_upd, if_neg e]; exact h1, h2⟩
theorem zaA {D : DD S} {E : En} {fr : T (U S)} {frV : T V} (hf : RelF Y D E fr frV) {d : Nat} {u : U S} {v : V} (hv : frV.get d = some v) (h : RelV Y D E u v) : RelF Y D E (fr.upd d (some u)) frV := by
 intro t w hw
 rw [T.get_upd] at hw
 by_cases e : t = d
 ·subst e
  rw [if_pos rfl] at hw
  cases hw
  exact ⟨v, hv, h⟩
 ·rw [if_neg e] at hw
  exact hf t w hw
theorem jbc {D : DD S} {E : En} {fr : T (U S)} {frV : T V} {dst : Option Nat} {u : Option (U S)} {v : Option V} {k : T (U S) → Prop} (h : zfd nt fr dst u k) (hf : RelF Y D E fr frV) (hr : jhq Y D E u v) : ∃ fr' frV', zax nt frV dst v = some frV' ∧ RelF Y D E fr' frV' ∧ k fr' := by
 unfold zfd at h
 simp only [zem] at h
 cases dst with
 | none => exact ⟨fr, frV, rfl, hf, h⟩
 | some d =>
  dsimp only at h
  cases hd : Nat.blt d nt with
  | false => rw [hd] at h; exact h.elim
  | true =>
   rw [hd] at h
   cases u with
   | none =>
    cases v with
    | some v => exact hr.elim
    | none => exact ⟨_, _, by simp only [zax, hd, cond_true], Jdr hf (u := .t []) (v := .t []) ⟨[], rfl, rfl⟩, h⟩
   | some u =>
    cases v with
    | none => exact hr.elim
    | some v => exact ⟨_, _, by simp only [zax, hd, cond_true, V.force_eq], Jdr hf hr, h⟩
theorem ZcI {D : DD S} {E : En} {fr : T (U S)} {frV : T V} {ops : Array Oper} {o : Oper} {run skip : T (U S) → Prop} (h : jdU ops o.guard fr run skip) (hf : RelF Y D E fr frV) : ∃ fr', RelF Y D E fr' frV ∧ ((zm ops frV o = some true ∧ run fr') ∨ (zm ops frV o = some false ∧ skip fr')) := by
 unfold jdU at h
 simp only [zem] at h
 unfold zm
 cases hg : o.guard with
 | none => rw [hg] at h; exact ⟨fr, hf, .inl ⟨rfl, h⟩⟩
 | some g =>
  obtain ⟨j, want⟩ := g
  rw [hg] at h
  dsimp only at h ⊢
  cases hd : (ops[j]?).bind (·.dst) with
  | none => rw [hd] at h; exact ⟨fr, hf, .inr ⟨rfl, h⟩⟩
  | some d =>
   rw [hd] at h
   dsimp only at h ⊢
   split at h
   ·rename_i x hx
    obtain ⟨v, h1, h2⟩ := hf d _ hx
    simp only [RelV] at h2
    subst h2
    rw [h1]
    dsimp only
    cases hq : (x == want) with
    | true => rw [hq] at h; exact ⟨fr, hf, .inl ⟨rfl, h⟩⟩
    | false => rw [hq] at h; exact ⟨fr, hf, .inr ⟨rfl, h⟩⟩
   ·rename_i x hx
    obtain ⟨v, h1, h2⟩ := hf d _ hx
    simp only [RelV] at h2
    subst h2
    rw [h1]
    dsimp only
    by_cases e : x = want
    ·subst e
     exact ⟨_, zaA hf h1 (u := .kb x) rfl, .inl ⟨by simp, h.1 rfl⟩⟩
    ·have e' : x = !want := by cases x <;> cases want <;> first | rfl | exact absurd rfl e
     refine ⟨_, zaA hf h1 (u := .kb (!want)) (by simp only [RelV]; rw [e']), .inr ⟨?_, h.2 e'⟩⟩
     have : (x == want) = false := by cases x <;> cases want <;> first | rfl | exact absurd rfl e
     rw [this]
   ·rename_i us hx
    obtain ⟨v, h1, h2⟩ := hf d _ hx
    simp only [RelV] at h2
    obtain ⟨vs, rfl, _⟩ := h2
    rw [h1]
    exact ⟨fr, hf, .inr ⟨rfl, h⟩⟩
   ·exact h.elim
theorem jgo {C : ji S} (hC : Zj Y P G ov o0 ro C) {E : En} {nx : Nat} {m : T (Ct S)} {st : St} {fr : T (U S)} {frV : T V} (hI : Inv Y G o0 ro E nx m st) {o : Op} {k : Kn S} (h : sOp Y P G C fr nx m o k) (hf : RelF Y (Dat Y (jf o0 E m) st) E fr frV) :
  ∃ res st', (∃ M, ∀ n, M ≤ n → vop P ro (evF P ov ro n) frV st o = some (res, st')) ∧ ZbM Y G o0 ro E m st k res st' := by
 have eff : ∀ o, sE Y P fr nx m o k → ∃ res st', (∃ M, ∀ n, M ≤ n → vop P ro (evF P ov ro n) frV st o = some (res, st')) ∧ ZbM Y G o0 ro E m st k res st' := fun o h =>
  let ⟨res, st', h1, h2⟩ := Zhq hI h hf
  ⟨res, st', ⟨0, fun n _ => h1 _⟩, h2⟩
 have quiet : ∀ o, (sQ Y P G fr m o fun u => k (some u) nx m [] []) → ∃ res st', (∃ M, ∀ n, M ≤ n → vop P ro (evF P ov ro n) frV st o = some (res, st')) ∧ ZbM Y G o0 ro E m st k res st' := fun o h =>
  let ⟨u, v, h1, h2, h3⟩ := ZgA (ro := ro) hI h hf
  ⟨some v, st, ⟨0, fun n _ => h1.2 _ st.ver⟩, jL hI h2 h3⟩
 unfold sOp at h
 split at h
 ·exact eff _ h
 ·exact eff _ h
 ·exact eff _ h
 ·exact eff _ h
 ·exact eff _ h
 ·exact eff _ h
 ·rename_i c
  obtain ⟨callee, args, ts⟩ := c
  dsimp only at h
  split at h
  ·obtain ⟨w, wv, h1, h2, h3⟩ := Jr h hf
   split at h3
   ·simp only [RelV] at h2
    obtain ⟨cv, rfl, h2⟩ := h2
    obtain ⟨us, vs, h4, h5, h6⟩ := jbp hf h3
    obtain ⟨v, st', ⟨M, h7⟩, h8⟩ := hC _ _ _ _ _ h6 E st (vs ++ cv) hI (h5.append h2)
    exact ⟨some v, st', ⟨M, fun n hn => by simp only [vop, h4, h1, List.nil_append, h7 n hn]⟩, h8⟩
   ·exact h3.elim
  ·exact eff _ h
  ·exact quiet _ h
 ·exact quiet _ h
theorem zds {C : ji S} (hC : Zj Y P G ov o0 ro C) {st0 : Bs S} {ops : Array Oper} : ∀ (l : List Oper) {z : Z S} {K : Z S → Prop} {frV : T V} {st : St}, ZgW Y P G C nt ops l z K → Zat Y G o0 ro st0 z frV st →
  ∃ frV' st', (∃ M, ∀ n, M ≤ n → JbA P ro nt (evF P ov ro n) ops l frV st = some (frV', st')) ∧ ∃ z', Zat Y G o0 ro st0 z' frV' st' ∧ K z'
 | [], z, K, frV, st, h, hz => ⟨frV, st, ⟨0, fun _ _ => rfl⟩, z, hz, h⟩
 | o :: r, z, K, frV, st, h, hz => by
  obtain ⟨E, hI, hS, hf⟩ := hz
  simp only [ZgW, zaB, zcx] at h
  obtain ⟨fr', hf', ⟨hw, h⟩ | ⟨hw, h⟩⟩ := ZcI h hf
  ·obtain ⟨res, st', ⟨M, h1⟩, u, nx', m', ks, wr, E', hI', hS', hr, hk⟩ := jgo hC hI h hf'
   obtain ⟨fr2, frV2, h2, h3, h4⟩ := jbc hk (jcI hS' hf') hr
   obtain ⟨frV3, st3, ⟨M2, h5⟩, h6⟩ := zds hC r h4 ⟨E', hI', (hS.trans hS').anyW, h3⟩
   exact ⟨frV3, st3, ⟨max M M2, fun n hn => by simp only [JbA, hw, h1 n (by omega), h2, h5 n (by omega)]⟩, h6⟩
  ·obtain ⟨fr2, frV2, h2, h3, h4⟩ := jbc (v := none) h hf' trivial
   obtain ⟨frV3, st3, ⟨M2, h5⟩, h6⟩ := zds hC r h4 ⟨E, hI, hS, h3⟩
   exact ⟨frV3, st3, ⟨M2, fun n hn => by simp only [JbA, hw, h2, h5 n hn]⟩, h6⟩
theorem ZdU {D : DD S} {E E' : En} {D' : DD S} {u : U S} {v : V} (hp : zdU u = true) (h : RelV Y D E u v) : v.plain = true ∧ RelV Y D' E' u v := by
 cases u <;> simp only [zdU, Bool.false_eq_true] at hp <;> simp only [RelV] at h ⊢ <;> (subst h; exact ⟨rfl, rfl⟩)
theorem zb6 {D : DD S} {E E' : En} {D' : DD S} : ∀ {us : List (U S)} {vs : List V}, Zdr us = true → RelL Y D E us vs → vs.all V.plain = true ∧ RelL Y D' E' us vs
 | [], vs, _, h => by simp only [RelL] at h ⊢; subst h; exact ⟨rfl, rfl⟩
 | u :: us, vs, hp, h => by
  simp only [RelL] at h ⊢
  obtain ⟨v, r, rfl, h1, h2⟩ := h
  simp only [Zdr, Bool.and_eq_true] at hp
  obtain ⟨a1, a2⟩ := ZdU (D' := D') (E' := E') hp.1 h1
  obtain ⟨b1, b2⟩ := zb6 (D' := D') (E' := E') hp.2 h2
  exact ⟨by simp [a1, b1], v, r, rfl, a2, b2⟩
theorem Zdg {D : DD S} {E E' : En} {D' : DD S} {u : U S} {v : V} (hp : zcI u = true) (h : RelV Y D E u v) : v.plainT = true ∧ RelV Y D' E' u v := by
 have one : zdU u = true → v.plainT = true ∧ RelV Y D' E' u v := fun hp => by
  obtain ⟨a1, a2⟩ := ZdU (D' := D') (E' := E') hp h
  exact ⟨by cases v <;> simp_all [V.plain, V.plainT], a2⟩
 cases u with
 | a us =>
  simp only [RelV] at h ⊢
  obtain ⟨vs, rfl, h⟩ := h
  obtain ⟨a1, a2⟩ := zb6 (D' := D') (E' := E') hp h
  exact ⟨a1, vs, rfl, a2⟩
 | t us =>
  simp only [RelV] at h ⊢
  obtain ⟨vs, rfl, h⟩ := h
  obtain ⟨a1, a2⟩ := zb6 (D' := D') (E' := E') hp h
  exact ⟨a1, vs, rfl, a2⟩
 | _ => exact one hp
theorem ZgC {C : ji S} (hC : Zj Y P G ov o0 ro C) {E : En} {nx : Nat} {m : T (Ct S)} {st : St} {fr : T (U S)} {frV : T V} (hI : Inv Y G o0 ro E nx m st) {op : Op} {k : U S → Prop} (h : Jhq Y P G C fr nx m op k) (hf : RelF Y (Dat Y (jf o0 E m) st) E fr frV) :
  ∃ u v st', jJ op = true ∧ (∃ M, ∀ n, M ≤ n → vop P ro (evF P ov ro n) frV ⟨st.nx, st.hp, st.nx⟩ op = some (some v, st')) ∧ (Nat.ble st.nx st'.ver && (Nat.beq st'.nx st.nx || zbN (some v))) = true ∧ RelV Y (Dat Y (jf o0 E m) st) E u v ∧ k u := by
 have quiet : ∀ op, sQ Y P G fr m op k → ∃ u v st', jJ op = true ∧ (∃ M, ∀ n, M ≤ n → vop P ro (evF P ov ro n) frV ⟨st.nx, st.hp, st.nx⟩ op = some (some v, st')) ∧ (Nat.ble st.nx st'.ver && (Nat.beq st'.nx st.nx || zbN (some v))) = true ∧ RelV Y (Dat Y (jf o0 E m) st) E u v ∧ k u := fun op h =>
  let ⟨u, v, h1, h2, h3⟩ := ZgA (ro := ro) hI h hf
  ⟨u, v, ⟨st.nx, st.hp, st.nx⟩, h1.1, ⟨0, fun n _ => h1.2 _ st.nx⟩, by simp, h2, h3⟩
 unfold Jhq at h
 split at h
 ·rename_i c
  obtain ⟨callee, args, ts⟩ := c
  dsimp only at h
  split at h
  ·obtain ⟨w, wv, h1, h2, h3⟩ := Jr h hf
   split at h3
   ·simp only [RelV] at h2
    obtain ⟨cv, rfl, h2⟩ := h2
    obtain ⟨us, vs, h4, h5, h6⟩ := jbp hf h3
    have st2 : Step o0 E m st E m ⟨st.nx, st.hp, st.nx⟩ [] [] := ⟨Nat.le_refl _, fun _ _ _ => rfl, Nat.le_refl _, fun _ _ _ => rfl, fun _ h => .inl h, fun _ h _ _ => h⟩
    have hI2 : Inv Y G o0 ro E nx m ⟨st.nx, st.hp, st.nx⟩ := ⟨hI.len, hI.ro, hI.lt, fun r ct hr => by
     have := Ent.keep st2 (hI.ent r ct hr) rfl (fun _ _ _ _ => rfl)
     rwa [JaR] at this, hI.out, hI.glob, hI.inj⟩
    obtain ⟨v, st', ⟨M, h7⟩, u, nx', m', ks, wr, E', hI', hS', hr, hk⟩ := hC _ _ _ _ _ h6 E ⟨st.nx, st.hp, st.nx⟩ (vs ++ cv) hI2 (st2.rels (h5.append h2))
    unfold zgo at hk
    split at hk
    ·rename_i u
     cases hp : zcI u with
     | false => rw [hp] at hk; exact hk.elim
     | true =>
      rw [hp] at hk
      obtain ⟨p1, p2⟩ := Zdg (D' := Dat Y (jf o0 E m) st) (E' := E) hp hr
      refine ⟨u, v, st', rfl, ⟨M, fun n hn => by simp only [vop, h4, h1, List.nil_append, h7 n hn]⟩, ?_, p2, hk⟩
      have : st.nx ≤ st'.ver := hS'.ver st.nx (Nat.le_refl _) (Nat.le_refl _) (.inl rfl)
      rw [Bool.and_eq_true, Nat.ble_eq]
      exact ⟨this, by simp only [zbN, p1, Bool.or_true]⟩
    ·exact hk.elim
   ·exact h3.elim
  ·exact quiet _ h
 ·exact quiet _ h
theorem JbR {C : ji S} (hC : Zj Y P G ov o0 ro C) {E : En} {nx : Nat} {m : T (Ct S)} {st : St} (hI : Inv Y G o0 ro E nx m st) {ops : Array Oper} : ∀ (l : List Oper) {fr : T (U S)} {K : T (U S) → Prop} {frV : T V}, jem Y P G C nt ops nx m l fr K → RelF Y (Dat Y (jf o0 E m) st) E fr frV →
  ∃ frV', (∃ M, ∀ n, M ≤ n → JZ P ro nt (evF P ov ro n) ops l frV st = some frV') ∧ ∃ fr', RelF Y (Dat Y (jf o0 E m) st) E fr' frV' ∧ K fr'
 | [], fr, K, frV, h, hf => ⟨frV, ⟨0, fun _ _ => rfl⟩, fr, hf, h⟩
 | o :: r, fr, K, frV, h, hf => by
  simp only [jem] at h
  obtain ⟨fr', hf', ⟨hw, h⟩ | ⟨hw, h⟩⟩ := ZcI h hf
  ·have key := ZgC hC hI h hf'
   obtain ⟨u, v, st', k1, ⟨M, k2⟩, k3, k4, k5⟩ := key
   obtain ⟨fr2, frV2, h2, h3, h4⟩ := jbc (v := some v) k5 hf' k4
   obtain ⟨frV3, ⟨M2, h5⟩, h6⟩ := JbR hC hI r h4 h3
   exact ⟨frV3, ⟨max M M2, fun n hn => by simp only [JZ, hw, k1, k2 n (by omega), k3, cond_true, h2, h5 n (by omega)]⟩, h6⟩
  ·obtain ⟨fr2, frV2, h2, h3, h4⟩ := jbc (v := none) h hf' trivial
   obtain ⟨frV3, ⟨M2, h5⟩, h6⟩ := JbR hC hI r h4 h3
   exact ⟨frV3, ⟨M2, fun n hn => by simp only [JZ, hw, h2, h5 n hn]⟩, h6⟩
theorem Dat.reVer {own : Nat → Prop} {st : St} {n : Nat} {c : S.Cd} {xs : List (S.Den c)} {v : V} (h : Dat Y own st c xs v) : Dat Y own ⟨st.nx, st.hp, n⟩ c xs v := Dat.keep (st := st) (st' := ⟨st.nx, st.hp, n⟩) (Nat.le_refl st.nx) (fun _ _ _ => rfl) (fun _ _ h => h) h
theorem DatA.reVer {own : Nat → Prop} {st : St} {n : Nat} {u : U S} {v : V} (h : DatA Y own st u v) : DatA Y own ⟨st.nx, st.hp, n⟩ u v := DatA.keep (st := st) (st' := ⟨st.nx, st.hp, n⟩) (Nat.le_refl st.nx) (fun _ _ _ => rfl) (fun _ _ h => h) h
theorem RelV.reVer {own : Nat → Prop} {st : St} {n : Nat} {E : En} {u : U S} {v : V} (h : RelV Y (Dat Y own st) E u v) : RelV Y (Dat Y own ⟨st.nx, st.hp, n⟩) E u v := RelV.mono (fun _ _ h => h) (fun _ _ _ => Dat.reVer) u v h
theorem RelL.reVer {own : Nat → Prop} {st : St} {n : Nat} {E : En} {u : List (U S)} {v : List V} (h : RelL Y (Dat Y own st) E u v) : RelL Y (Dat Y own ⟨st.nx, st.hp, n⟩) E u v := RelL.mono (fun _ _ h => h) (fun _ _ _ => Dat.reVer) u v h
theorem RelF.reVer {own : Nat → Prop} {st : St} {n : Nat} {E : En} {fr : T (U S)} {frV : T V} (h : RelF Y (Dat Y own st) E fr frV) : RelF Y (Dat Y own ⟨st.nx, st.hp, n⟩) E fr frV := fun t u hu => by
 obtain ⟨v, h1, h2⟩ := h t u hu
 exact ⟨v, h1, h2.reVer⟩
theorem Inv.reVer {E : En} {nx : Nat} {m : T (Ct S)} {st : St} (hI : Inv Y G o0 ro E nx m st) (n : Nat) : Inv Y G o0 ro E nx m ⟨st.nx, st.hp, n⟩ := by
 refine ⟨hI.len, hI.ro, hI.lt, fun r ct hr => ?_, hI.out, hI.glob, hI.inj⟩
 have h := hI.ent r ct hr
 cases ct with
 | cells us =>
  obtain ⟨id, hd, b, vs, e1, e2, e3, e4, e5, e6, e7⟩ := h
  exact ⟨id, hd, b, vs, e1, e2, e3, e4, e5, e6.reVer, e7⟩
 | buf c xs =>
  rcases h with h | ⟨id, cap, op, b, q1, q2, q3, q4, q5, q6, q7, q8, vs, q9, q10⟩
  ·exact .inl h
  ·exact .inr ⟨id, cap, op, b, q1, q2, q3, q4, q5, q6, q7, q8, vs, q9, fun i x hx j u v hu hv => (q10 i x hx j u v hu hv).reVer⟩
 | row c xs =>
  obtain ⟨id, b, q1, q2, q3, q4, q5, vs, q9, q10⟩ := h
  exact ⟨id, b, q1, q2, q3, q4, q5, vs, q9, fun i x hx j u v hu hv => (q10 i x hx j u v hu hv).reVer⟩
theorem JdU {st : St} {n : Nat} : ∀ es : List Vm.Ent, jbw P ⟨st.nx, st.hp, n⟩ es = jbw P st es
 | [] => rfl
 | e :: r => by
  simp only [jbw, JdU r]
  rfl
theorem JcI {b : Builtin} (hb : b = .len ∨ b = .min ∨ b = .max) {ts : List TypeId} {vs : List V} {st st' : St} {v : V} (h : ju P ro b ts vs st = some (v, st')) (st2 : St) : ju P ro b ts vs st2 = some (v, st2) := by
 rcases hb with rfl | rfl | rfl
 ·rcases ts with _ | ⟨t, _ | ⟨t2, tr⟩⟩ <;> rcases vs with _ | ⟨x, _ | ⟨y, r⟩⟩ <;> simp only [ju, reduceCtorEq] at h ⊢
  cases hv : Zal P t x with
  | none => simp [hv] at h
  | some w => simp only [hv, Option.some.injEq, Prod.mk.injEq] at h ⊢; exact ⟨h.1, trivial⟩
 ·rcases vs with _ | ⟨x, r⟩ <;> simp only [ju, reduceCtorEq] at h ⊢
  cases hv : JbN true x r with
  | none => simp [hv] at h
  | some w => simp only [hv, Option.some.injEq, Prod.mk.injEq] at h ⊢; exact ⟨h.1, trivial⟩
 ·rcases vs with _ | ⟨x, r⟩ <;> simp only [ju, reduceCtorEq] at h ⊢
  cases hv : JbN false x r with
  | none => simp [hv] at h
  | some w => simp only [hv, Option.some.injEq, Prod.mk.injEq] at h ⊢; exact ⟨h.1, trivial⟩
theorem ZeY {call : ZaO} {frV : T V} {op : Op} (hc : jaW op = 0) {st : St} {v : V} (h : ∀ ver, vop P ro call frV ⟨st.nx, st.hp, ver⟩ op = some (some v, ⟨st.nx, st.hp, ver⟩)) (st2 : St) : vop P ro call frV st2 op = some (some v, st2) := by
 replace h := h 0
 have key : ∀ (o : Option V) (s1 : St), (match o with | some v => some (some v, s1) | none => none) = some (some v, s1) → o = some v := by
  intro o s1 h
  cases o with
  | none => cases h
  | some u => simpa using h
 cases op <;> simp only [jaW, jJ, cond_true, cond_false, reduceCtorEq, Nat.succ_ne_zero] at hc <;> simp only [vop] at h ⊢
 case call c =>
  obtain ⟨callee, args, ts⟩ := c
  cases callee <;> simp only [Nat.succ_ne_zero, reduceCtorEq] at hc
  rename_i b
  cases ha : jaq frV args.toList with
  | none => simp [ha] at h
  | some vs =>
   simp only [ha] at h ⊢
   have hb : b = .len ∨ b = .min ∨ b = .max := by cases b <;> simp_all
   cases hv : ju P ro b ts.toList vs ⟨st.nx, st.hp, 0⟩ with
   | none => simp [hv] at h
   | some w =>
    obtain ⟨w, s1⟩ := w
    simp only [hv, Option.some.injEq, Prod.mk.injEq] at h
    obtain ⟨rfl, rfl⟩ := h
    simp only [JcI hb hv st2]
 all_goals ((repeat' split at h) <;> simp_all)
def EsRel (Y : Sy S) (D : DD S) (E : En) : List (SE S) → List Vm.Ent → Prop
 | [], es => es = []
 | s :: r, es => ∃ e es', es = e :: es' ∧ (e.x = s.x ∧ e.t = s.t ∧ RelV Y D E s.a (.p e.id e.off) ∧ RelV Y D E s.u e.v) ∧ EsRel Y D E r es'
theorem EsRel.mono {D D' : DD S} {E E' : En} (f : ∀ u v, RelV Y D E u v → RelV Y D' E' u v) : ∀ {ses : List (SE S)} {es : List Vm.Ent}, EsRel Y D E ses es → EsRel Y D' E' ses es
 | [], es, h => h
 | s :: r, es, h => by
  obtain ⟨e, es', h1, ⟨h2, h3, h4, h5⟩, h6⟩ := h
  exact ⟨e, es', h1, ⟨h2, h3, f _ _ h4, f _ _ h5⟩, EsRel.mono f h6⟩
theorem EsRel.kills {D D' : DD S} {E E' : En} {ks : List Nat} (f : ∀ u v, RelV Y D E u v → RelV Y D' E' (kill ks u) v) (f0 : ks = [] → ∀ u v, RelV Y D E u v → RelV Y D' E' u v) {ses : List (SE S)} {es : List Vm.Ent} (h : EsRel Y D E ses es) : EsRel Y D' E' (Zem ks ses) es := by
 unfold Zem
 cases ks with
 | nil => exact h.mono (f0 rfl)
 | cons k ks =>
  have go : ∀ {ses : List (SE S)} {es : List Vm.Ent}, EsRel Y D E ses es → EsRel Y D' E' (ses.map fun e => ⟨e.x, e.t, kill (k :: ks) e.a, kill (k :: ks) e.u⟩) es := by
   intro ses
   induction ses with
   | nil => intro es h; exact h
   | cons s r ih =>
    intro es h
    obtain ⟨e, es', h1, ⟨h2, h3, h4, h5⟩, h6⟩ := h
    exact ⟨e, es', h1, ⟨h2, h3, f _ _ h4, f _ _ h5⟩, ih h6⟩
  exact go h
theorem EsRel.alive {D : DD S} {E : En} {ops : Array Oper} {i : Nat} : ∀ {ses : List (SE S)} {es : List Vm.Ent}, EsRel Y D E ses es → EsRel Y D E (ZbR ops i ses) (zab ops i es)
 | [], es, h => by simp only [EsRel] at h; subst h; rfl
 | s :: r, es, h => by
  obtain ⟨e, es', rfl, ⟨h2, h3, h4, h5⟩, h6⟩ := h
  simp only [ZbR, zab, h2]
  cases Region.waitsT .any ops i s.x with
  | true => exact h6.alive
  | false => exact ⟨e, _, rfl, ⟨h2, h3, h4, h5⟩, h6.alive⟩
theorem Jfo {E : En} {nx : Nat} {m : T (Ct S)} {st : St} (hI : Inv Y G o0 ro E nx m st) {D D' : DD S} {u : U S} {v w : V} (hd : Jg4 m u = true) (h : RelV Y D E u v) (h' : RelV Y D' E u w) : Zcn v w = true := by
 have refl : ∀ v : V, (v = .sn ∨ ∃ a b c d e, v = .sl a b c d e) → Zcn v v = true := by
  rintro v (rfl | ⟨a, b, c, d, e, rfl⟩)
  ·rfl
  ·cases e <;> simp [Zcn]
 cases u <;> simp only [Jg4, Bool.false_eq_true] at hd <;> simp only [RelV] at h h'
 case b x => subst h h'; cases x <;> rfl
 case kb x => subst h h'; cases x <;> rfl
 case i k n => subst h h'; simp [Zcn]
 case s l => subst h h'; simp [V.str, Zcn]
 case pn => subst h h'; rfl
 case sn => subst h h'; rfl
 case fz => subst h h'; rfl
 case nz => subst h h'; rfl
 case p r off =>
  obtain ⟨id, y, e1, rfl⟩ := h
  obtain ⟨id', y', e1', rfl⟩ := h'
  rw [e1] at e1'
  cases e1'
  simp [Zcn]
 case g g off =>
  obtain ⟨_, rfl⟩ := h
  obtain ⟨_, rfl⟩ := h'
  simp [Zcn]
 case o r =>
  obtain ⟨y, e1, _⟩ := h
  obtain ⟨y', e1', _⟩ := h'
  rw [e1] at e1'
  cases e1'
  split at hd
  ·rename_i c xs hr
   rcases hI.ent r _ hr with ⟨q1, _⟩ | ⟨id, cap, op, b, q1, _⟩
   ·rw [e1] at q1; cases q1; exact refl _ (.inl rfl)
   ·rw [e1] at q1; cases q1; exact refl _ (.inr ⟨_, _, _, _, _, rfl⟩)
  ·cases hd
theorem zfp {E : En} {nx : Nat} {m : T (Ct S)} {st : St} (hI : Inv Y G o0 ro E nx m st) {D D' : DD S} : ∀ {us : List (U S)} {vs ws : List V}, jhn m us = true → RelL Y D E us vs → RelL Y D' E us ws → jc3 vs ws = true
 | [], vs, ws, _, h, h' => by simp only [RelL] at h h'; subst h h'; rfl
 | u :: us, vs, ws, hd, h, h' => by
  simp only [RelL] at h h'
  simp only [jhn, Bool.and_eq_true] at hd
  obtain ⟨v, r, rfl, h1, h2⟩ := h
  obtain ⟨v', r', rfl, h1', h2'⟩ := h'
  simp only [jc3, Bool.and_eq_true]
  exact ⟨Jfo hI hd.1 h1 h1', zfp hI hd.2 h2 h2'⟩
theorem JgC {E : En} {nx : Nat} {m : T (Ct S)} {st : St} (hI : Inv Y G o0 ro E nx m st) {D D' : DD S} {u : U S} {v w : V} (hd : zhr m u = true) (h : RelV Y D E u v) (h' : RelV Y D' E u w) : zdn v w = true := by
 have one : Jg4 m u = true → zdn v w = true := fun hd => by
  have := Jfo hI hd h h'
  unfold zdn
  split
  ·simp [Zcn] at this
  ·exact this
 cases u with
 | a us =>
  simp only [RelV] at h h'
  obtain ⟨vs, rfl, h⟩ := h
  obtain ⟨ws, rfl, h'⟩ := h'
  exact zfp hI hd h h'
 | _ => exact one hd
theorem ZeL {E : En} {nx : Nat} {m : T (Ct S)} {st : St} (hI : Inv Y G o0 ro E nx m st) : ∀ {ses : List (SE S)} {es : List Vm.Ent} {p : Prop}, Jf0 Y P G m ses p → EsRel Y (Dat Y (jf o0 E m) st) E ses es → jbw P st es = true ∧ p
 | [], es, p, h, hr => by simp only [EsRel] at hr; subst hr; exact ⟨rfl, h⟩
 | s :: r, es, p, h, hr => by
  obtain ⟨e, es', rfl, ⟨h2, h3, h4, h5⟩, h6⟩ := hr
  simp only [Jf0] at h
  obtain ⟨id, off, u, w, k1, k2, k3, rfl, k4⟩ := Zcw hI h h4
  cases k1
  cases hd : zhr m s.u with
  | false => rw [hd] at k4; exact k4.elim
  | true =>
   rw [hd] at k4
   obtain ⟨k5, k6⟩ := ZeL hI k4 h6
   refine ⟨?_, k6⟩
   simp only [jbw]
   rw [h3, k2]
   simp only [JgC hI hd k3 h5, cond_true, k5]
theorem zcJ {C : ji S} (hC : Zj Y P G ov o0 ro C) {st0 : Bs S} {ops : Array Oper} : ∀ (l : List (Nat × Oper)) {ses : List (SE S)} {es : List Vm.Ent} {z : Z S} {K : Z S → Prop} {frV : T V} {st : St} {E : En}, zf1 Y P G C nt ops l ses z K →
  Inv Y G o0 ro E z.nx z.m st → Step o0 st0.E st0.m st0.st E z.m st z.ks [0] → RelF Y (Dat Y (jf o0 E z.m) st) E z.fr frV → EsRel Y (Dat Y (jf o0 E z.m) st) E ses es →
  ∃ frV' st', (∃ M, ∀ n, M ≤ n → zbO P ro nt (evF P ov ro n) ops l es frV st = some (frV', st')) ∧ ∃ z', Zat Y G o0 ro st0 z' frV' st' ∧ K z'
 | [], ses, es, z, K, frV, st, E, h, hI, hS, hf, he => ⟨frV, st, ⟨0, fun _ _ => rfl⟩, z, ⟨E, hI, hS, hf⟩, h⟩
 | (i, o) :: r, ses, es, z, K, frV, st, E, h, hI, hS, hf, he => by
  simp only [zf1, zaB, zcx] at h
  obtain ⟨fr', hf', ⟨hw, h⟩ | ⟨hw, h⟩⟩ := ZcI h hf
  ·split at h
   ·rename_i hc
    obtain ⟨u, v, h1, h2, h3⟩ := ZgA (ro := ro) hI h hf'
    obtain ⟨fr2, frV2, k1, k2, k3⟩ := jbc (v := some v) h3 hf' h2
    obtain ⟨frV3, st3, ⟨M2, h5⟩, h6⟩ := zcJ hC r k3 hI hS k2 he
    refine ⟨frV3, st3, ⟨M2, fun n hn => ?_⟩, h6⟩
    unfold zbO
    simp only [hw, hc, ZeY hc (h1.2 _) ⟨st.nx, .e, 0⟩, k1]
    exact h5 n hn
   ·rename_i hc
    split at h
    ·rename_i t x hop
     obtain ⟨a, av, h1, h2, h3⟩ := Jr h hf'
     obtain ⟨id, off, u, w, rfl, h4, h5, h6⟩ := Zcw hI h3 h2
     obtain ⟨fr2, frV2, k1, k2, k3⟩ := jbc (v := some w) h6 hf' h5
     obtain ⟨frV3, st3, ⟨M2, h7⟩, h8⟩ := zcJ (es := ⟨i, t, id, off, w⟩ :: es) hC r k3 hI hS k2 ⟨_, _, rfl, ⟨rfl, rfl, h2, h5⟩, he⟩
     refine ⟨frV3, st3, ⟨M2, fun n hn => ?_⟩, h8⟩
     unfold zbO
     simp only [hw, hc]
     rw [hop]
     simp only [h1, h4, k1]
     exact h7 n hn
    ·exact h.elim
   ·rename_i hc0 hc1
    have hI1 := hI.reVer st.nx
    obtain ⟨res, st1, ⟨M, h1⟩, u, nx', m', ks, wr, E', hI', hS', hr, hk⟩ := jgo hC hI1 h (RelF.reVer hf')
    have hSx : Step o0 E z.m st E' m' ⟨st1.nx, st1.hp, low st.ver st1.ver⟩ ks wr := ⟨hS'.len, hS'.same, hS'.nx, hS'.keep, hS'.nam, fun j j1 j2 j3 => by
     have := hS'.ver j j1 j1 j3
     show j ≤ low st.ver st1.ver
     unfold low
     cases Nat.ble st.ver st1.ver <;> simp only [cond_true, cond_false] <;> assumption⟩
    have hI2 := hI'.reVer (low st.ver st1.ver)
    have hf2 : RelF Y (Dat Y (jf o0 E' m') ⟨st1.nx, st1.hp, low st.ver st1.ver⟩) E' (jeY ks fr') frV := jcI hSx hf'
    have he2 : EsRel Y (Dat Y (jf o0 E' m') ⟨st1.nx, st1.hp, low st.ver st1.ver⟩) E' (Zem ks (ZbR ops i ses)) (zab ops i es) :=
     he.alive.kills (fun u v h => hSx.relK h) (fun q u v h => by subst q; exact hSx.rel h)
    have fin : (Nat.ble st.nx st1.ver || jbw P st1 (zab ops i es)) = true → (zfd nt (jeY ks fr') o.dst u fun fr' => zf1 Y P G C nt ops r (Zem ks (ZbR ops i ses)) ⟨fr', nx', m', ks ++ z.ks⟩ K) →
      ∃ frV' st', (∃ M, ∀ n, M ≤ n → zbO P ro nt (evF P ov ro n) ops ((i, o) :: r) es frV st = some (frV', st')) ∧ ∃ z', Zat Y G o0 ro st0 z' frV' st' ∧ K z' := by
     intro hkeep hk
     have hr2 : jhq Y (Dat Y (jf o0 E' m') ⟨st1.nx, st1.hp, low st.ver st1.ver⟩) E' u res := by
      cases u <;> cases res <;> first | exact hr | exact RelV.reVer hr
     obtain ⟨fr2, frV2, k1, k2, k3⟩ := jbc hk hf2 hr2
     obtain ⟨frV3, st3, ⟨M2, h5⟩, h6⟩ := zcJ hC r k3 hI2 (hS.trans hSx).anyW k2 he2
     obtain ⟨n0, hn0⟩ : ∃ n, jaW o.op = n + 2 := by
      cases hq : jaW o.op with
      | zero => exact absurd hq hc0
      | succ q => cases q with
       | zero => exact absurd hq hc1
       | succ q => exact ⟨q, rfl⟩
     refine ⟨frV3, st3, ⟨max M M2, fun n hn => ?_⟩, h6⟩
     unfold zbO
     simp only [hw, hn0, h1 n (by omega), hkeep, k1, jh]
     exact h5 n (by omega)
    split at hk
    ·refine fin ?_ hk
     have : st.nx ≤ st1.ver := hS'.ver st.nx (Nat.le_refl _) (Nat.le_refl _) (.inl rfl)
     rw [Bool.or_eq_true, Nat.ble_eq]
     exact .inl this
    ·obtain ⟨k1, k2⟩ := ZeL hI2 hk he2
     refine fin ?_ k2
     rw [Bool.or_eq_true]
     exact .inr (by rw [← JdU]; exact k1)
  ·obtain ⟨fr2, frV2, h2, h3, h4⟩ := jbc (v := none) h hf' trivial
   obtain ⟨frV3, st3, ⟨M2, h5⟩, h6⟩ := zcJ hC r h4 hI hS h3 he
   exact ⟨frV3, st3, ⟨M2, fun n hn => by unfold zbO; simp only [hw, h2]; exact h5 n hn⟩, h6⟩
theorem zc4 {C : ji S} (hC : Zj Y P G ov o0 ro C) {L : Z5 S} {st0 : Bs S} : ∀ (c : Code), (∀ b ∈ JR c, ∀ z K, L b z K → Sem Y P G ov o0 ro nt st0 (.loop b) z K) → ∀ (z : Z S) (K : Ex → Z S → Prop), sC Y P G C L nt c z K → Sem Y P G ov o0 ro nt st0 c z K
 | .skip, _, z, K, h => fun frV st hz => ⟨.nrm, frV, st, ⟨1, fun n hn => by obtain ⟨k, rfl⟩ := Nat.exists_eq_succ_of_ne_zero (Nat.pos_iff_ne_zero.1 hn); rfl⟩, z, hz, h⟩
 | .label _, _, z, K, h => fun frV st hz => ⟨.nrm, frV, st, ⟨1, fun n hn => by obtain ⟨k, rfl⟩ := Nat.exists_eq_succ_of_ne_zero (Nat.pos_iff_ne_zero.1 hn); rfl⟩, z, hz, h⟩
 | .exit i, _, z, K, h => fun frV st hz => ⟨.exit i, frV, st, ⟨1, fun n hn => by obtain ⟨k, rfl⟩ := Nat.exists_eq_succ_of_ne_zero (Nat.pos_iff_ne_zero.1 hn); rfl⟩, z, hz, h⟩
 | .goto i, _, z, K, h => fun frV st hz => ⟨.goto i, frV, st, ⟨1, fun n hn => by obtain ⟨k, rfl⟩ := Nat.exists_eq_succ_of_ne_zero (Nat.pos_iff_ne_zero.1 hn); rfl⟩, z, hz, h⟩
 | .ret, _, z, K, h => fun frV st hz => ⟨.ret, frV, st, ⟨1, fun n hn => by obtain ⟨k, rfl⟩ := Nat.exists_eq_succ_of_ne_zero (Nat.pos_iff_ne_zero.1 hn); rfl⟩, z, hz, h⟩
 | .region id ops draw, _, z, K, h => fun frV st hz => by
  cases draw with
  | false =>
   obtain ⟨frV', st', ⟨M, h1⟩, z', hz', hk⟩ := zds hC ops.toList h hz
   exact ⟨.nrm, frV', st', ⟨M + 1, fun n hn => by
    obtain ⟨k, rfl⟩ := Nat.exists_eq_succ_of_ne_zero (show n ≠ 0 by omega)
    have := h1 k (by omega)
    simp only [evC]
    rw [show ZH P ov (evC P ov ro k) = evF P ov ro k from rfl, this]⟩, z', hz', hk⟩
  | true =>
   simp only [sC] at h
   cases hB : Zeh P ops with
   | false =>
    rw [hB] at h
    cases hT : jeh ops with
    | false =>
     rw [hT] at h
     simp only [cond_false] at h
     cases hpl : jcj P ops with
     | some l =>
      rw [hpl] at h
      obtain ⟨E, hI, hS, hf⟩ := hz
      obtain ⟨frV', st', ⟨M, h1⟩, z', hz', hk⟩ := zcJ (es := []) hC l h hI hS hf rfl
      exact ⟨.nrm, frV', st', ⟨M + 1, fun n hn => by
       obtain ⟨k, rfl⟩ := Nat.exists_eq_succ_of_ne_zero (show n ≠ 0 by omega)
       have := h1 k (by omega)
       simp only [evC, hB, hT, hpl]
       rw [show ZH P ov (evC P ov ro k) = evF P ov ro k from rfl, this]⟩, z', hz', hk⟩
     | none =>
      rw [hpl] at h
      cases hL : jfW ops with
      | false => rw [hL] at h; exact h.elim
      | true =>
       rw [hL] at h
       obtain ⟨E, hI, hS, hf⟩ := hz
       obtain ⟨frV', ⟨M, h1⟩, fr', hf', hk⟩ := JbR hC hI ops.toList h hf
       exact ⟨.nrm, frV', st, ⟨M + 1, fun n hn => by
        obtain ⟨k, rfl⟩ := Nat.exists_eq_succ_of_ne_zero (show n ≠ 0 by omega)
        have := h1 k (by omega)
        simp only [evC, hB, hT, hpl, hL]
        rw [show ZH P ov (evC P ov ro k) = evF P ov ro k from rfl, this]⟩, ⟨fr', z.nx, z.m, z.ks⟩, ⟨E, hI, hS, hf'⟩, hk⟩
    | true =>
     rw [hT] at h
     simp only [cond_true, cond_false] at h
     obtain ⟨E, hI, hS, hf⟩ := hz
     obtain ⟨frV', ⟨M, h1⟩, fr', hf', hk⟩ := JbR hC hI (ops.toList.take (ops.size - 1)) h hf
     obtain ⟨frV2, st2, ⟨M2, h2⟩, z2, hz2, hk2⟩ := zds hC (ops.toList.drop (ops.size - 1)) hk ⟨E, hI, hS, hf'⟩
     exact ⟨.nrm, frV2, st2, ⟨max M M2 + 1, fun n hn => by
      obtain ⟨k, rfl⟩ := Nat.exists_eq_succ_of_ne_zero (show n ≠ 0 by omega)
      have q1 := h1 k (by omega)
      have q2 := h2 k (by omega)
      simp only [evC, hB, hT]
      rw [show ZH P ov (evC P ov ro k) = evF P ov ro k from rfl, q1]
      simp only
      rw [q2]⟩, z2, hz2, hk2⟩
   | true =>
    rw [hB] at h
    obtain ⟨E, hI, hS, hf⟩ := hz
    obtain ⟨frV', ⟨M, h1⟩, fr', hf', hk⟩ := JbR hC hI ops.toList h hf
    exact ⟨.nrm, frV', st, ⟨M + 1, fun n hn => by
     obtain ⟨k, rfl⟩ := Nat.exists_eq_succ_of_ne_zero (show n ≠ 0 by omega)
     have := h1 k (by omega)
     simp only [evC, hB]
     rw [show ZH P ov (evC P ov ro k) = evF P ov ro k from rfl, this]⟩, ⟨fr', z.nx, z.m, z.ks⟩, ⟨E, hI, hS, hf'⟩, hk⟩
 | .seq a b, hL, z, K, h => fun frV st hz => by
  have hLa : ∀ c ∈ JR a, ∀ z K, L c z K → Sem Y P G ov o0 ro nt st0 (.loop c) z K := fun c hc => hL c (by simp only [JR]; exact List.mem_append_left _ hc)
  have hLb : ∀ c ∈ JR b, ∀ z K, L c z K → Sem Y P G ov o0 ro nt st0 (.loop c) z K := fun c hc => hL c (by simp only [JR]; exact List.mem_append_right _ hc)
  obtain ⟨e, frV1, st1, ⟨M, h1⟩, z1, hz1, hk⟩ := zc4 hC a hLa z _ h frV st hz
  cases e with
  | nrm =>
   obtain ⟨e2, frV2, st2, ⟨M2, h2⟩, h3⟩ := zc4 hC b hLb z1 K hk frV1 st1 hz1
   exact ⟨e2, frV2, st2, ⟨max M M2 + 1, fun n hn => by
    obtain ⟨k, rfl⟩ := Nat.exists_eq_succ_of_ne_zero (show n ≠ 0 by omega)
    simp only [evC, h1 k (by omega), h2 k (by omega)]⟩, h3⟩
  | exit i => exact ⟨.exit i, frV1, st1, ⟨M + 1, fun n hn => by
    obtain ⟨k, rfl⟩ := Nat.exists_eq_succ_of_ne_zero (show n ≠ 0 by omega)
    simp only [evC, h1 k (by omega)]⟩, z1, hz1, hk⟩
  | goto i => exact ⟨.goto i, frV1, st1, ⟨M + 1, fun n hn => by
    obtain ⟨k, rfl⟩ := Nat.exists_eq_succ_of_ne_zero (show n ≠ 0 by omega)
    simp only [evC, h1 k (by omega)]⟩, z1, hz1, hk⟩
  | ret => exact ⟨.ret, frV1, st1, ⟨M + 1, fun n hn => by
    obtain ⟨k, rfl⟩ := Nat.exists_eq_succ_of_ne_zero (show n ≠ 0 by omega)
    simp only [evC, h1 k (by omega)]⟩, z1, hz1, hk⟩
 | .cond c a b, hL, z, K, h => fun frV st hz => by
  have hLa : ∀ c ∈ JR a, ∀ z K, L c z K → Sem Y P G ov o0 ro nt st0 (.loop c) z K := fun x hc => hL x (by simp only [JR]; exact List.mem_append_left _ hc)
  have hLb : ∀ c ∈ JR b, ∀ z K, L c z K → Sem Y P G ov o0 ro nt st0 (.loop c) z K := fun x hc => hL x (by simp only [JR]; exact List.mem_append_right _ hc)
  obtain ⟨E, hI, hS, hf⟩ := hz
  simp only [sC, zem] at h
  split at h
  ·rename_i t
   have fin : ∀ (x : Bool) (z1 : Z S), frV.get t = some (.b x) → Zat Y G o0 ro st0 z1 frV st → (x = true → sC Y P G C L nt a z1 K) → (x = false → sC Y P G C L nt b z1 K) → ∃ e frV' st', (∃ M, ∀ n, M ≤ n → evC P ov ro n nt (.cond (.tmp t) a b) frV st = some (e, frV', st')) ∧ ∃ z', Zat Y G o0 ro st0 z' frV' st' ∧ K e z' := by
    intro x z1 hx hz1 ha hb
    cases x with
    | true =>
     obtain ⟨e, frV2, st2, ⟨M, h2⟩, h3⟩ := zc4 hC a hLa z1 K (ha rfl) frV st hz1
     exact ⟨e, frV2, st2, ⟨M + 1, fun n hn => by
      obtain ⟨k, rfl⟩ := Nat.exists_eq_succ_of_ne_zero (show n ≠ 0 by omega)
      simp only [evC, Zx, hx, h2 k (by omega)]⟩, h3⟩
    | false =>
     obtain ⟨e, frV2, st2, ⟨M, h2⟩, h3⟩ := zc4 hC b hLb z1 K (hb rfl) frV st hz1
     exact ⟨e, frV2, st2, ⟨M + 1, fun n hn => by
      obtain ⟨k, rfl⟩ := Nat.exists_eq_succ_of_ne_zero (show n ≠ 0 by omega)
      simp only [evC, Zx, hx, h2 k (by omega)]⟩, h3⟩
   split at h
   ·rename_i hx
    obtain ⟨v, h1, h2⟩ := hf t _ hx
    simp only [RelV] at h2
    subst h2
    exact fin true z h1 ⟨E, hI, hS, hf⟩ (fun _ => h) (fun q => by cases q)
   ·rename_i hx
    obtain ⟨v, h1, h2⟩ := hf t _ hx
    simp only [RelV] at h2
    subst h2
    exact fin false z h1 ⟨E, hI, hS, hf⟩ (fun q => by cases q) (fun _ => h)
   ·rename_i x hx
    obtain ⟨v, h1, h2⟩ := hf t _ hx
    simp only [RelV] at h2
    subst h2
    cases x with
    | true => exact fin true ⟨z.fr.upd t (some (.kb true)), z.nx, z.m, z.ks⟩ h1 ⟨E, hI, hS, zaA hf h1 rfl⟩ (fun _ => h.1 rfl) (fun q => by cases q)
    | false => exact fin false ⟨z.fr.upd t (some (.kb false)), z.nx, z.m, z.ks⟩ h1 ⟨E, hI, hS, zaA hf h1 rfl⟩ (fun q => by cases q) (fun _ => h.2 rfl)
   ·exact h.elim
  ·exact h.elim
 | .block i b, hL, z, K, h => fun frV st hz => by
  obtain ⟨e, frV1, st1, ⟨M, h1⟩, z1, hz1, hk⟩ := zc4 hC b hL z _ h frV st hz
  cases e with
  | exit j =>
   dsimp only at hk
   cases hj : Nat.beq j i with
   | true =>
    rw [hj] at hk
    exact ⟨.nrm, frV1, st1, ⟨M + 1, fun n hn => by
     obtain ⟨k, rfl⟩ := Nat.exists_eq_succ_of_ne_zero (show n ≠ 0 by omega)
     simp only [evC, h1 k (by omega), hj, cond_true]⟩, z1, hz1, hk⟩
   | false =>
    rw [hj] at hk
    exact ⟨.exit j, frV1, st1, ⟨M + 1, fun n hn => by
     obtain ⟨k, rfl⟩ := Nat.exists_eq_succ_of_ne_zero (show n ≠ 0 by omega)
     simp only [evC, h1 k (by omega), hj, cond_false]⟩, z1, hz1, hk⟩
  | nrm => exact ⟨.nrm, frV1, st1, ⟨M + 1, fun n hn => by
    obtain ⟨k, rfl⟩ := Nat.exists_eq_succ_of_ne_zero (show n ≠ 0 by omega)
    simp only [evC, h1 k (by omega)]⟩, z1, hz1, hk⟩
  | goto i => exact ⟨.goto i, frV1, st1, ⟨M + 1, fun n hn => by
    obtain ⟨k, rfl⟩ := Nat.exists_eq_succ_of_ne_zero (show n ≠ 0 by omega)
    simp only [evC, h1 k (by omega)]⟩, z1, hz1, hk⟩
  | ret => exact ⟨.ret, frV1, st1, ⟨M + 1, fun n hn => by
    obtain ⟨k, rfl⟩ := Nat.exists_eq_succ_of_ne_zero (show n ≠ 0 by omega)
    simp only [evC, h1 k (by omega)]⟩, z1, hz1, hk⟩
 | .loop b, hL, z, K, h => hL b (by simp [JR]) z K h
 | .scope b, hL, z, K, h => fun frV st hz => by
  obtain ⟨e, frV1, st1, ⟨M, h1⟩, z1, hz1, hk⟩ := zc4 hC b hL z _ h frV st hz
  have sc : ∀ n, M + 2 ≤ n → ∃ k, n = k + 2 ∧ M ≤ k := fun n hn => ⟨n - 2, by omega, by omega⟩
  cases e with
  | goto i => exact hk.elim
  | nrm => exact ⟨.nrm, frV1, st1, ⟨M + 2, fun n hn => by
    obtain ⟨k, rfl, hk⟩ := sc n hn
    rw [show evC P ov ro (k + 2) nt (.scope b) frV st = jae (evC P ov ro (k + 1) nt) b (k + 1) b frV st from rfl]
    simp only [jae, h1 (k + 1) (by omega)]⟩, z1, hz1, hk⟩
  | exit j => exact ⟨.exit j, frV1, st1, ⟨M + 2, fun n hn => by
    obtain ⟨k, rfl, hk⟩ := sc n hn
    rw [show evC P ov ro (k + 2) nt (.scope b) frV st = jae (evC P ov ro (k + 1) nt) b (k + 1) b frV st from rfl]
    simp only [jae, h1 (k + 1) (by omega)]⟩, z1, hz1, hk⟩
  | ret => exact ⟨.ret, frV1, st1, ⟨M + 2, fun n hn => by
    obtain ⟨k, rfl, hk⟩ := sc n hn
    rw [show evC P ov ro (k + 2) nt (.scope b) frV st = jae (evC P ov ro (k + 1) nt) b (k + 1) b frV st from rfl]
    simp only [jae, h1 (k + 1) (by omega)]⟩, z1, hz1, hk⟩
 | .rangeFunc _ _ _ _, _, _, _, h => by simp [sC] at h
 | .refuse _, _, _, _, h => by simp [sC] at h
end
end Go.Sx
namespace Go.Sx
open Go.Vm
section
variable {S : Sg}
mutual
def JgW (n : Nat) : U S → Bool
 | .p r _ => Nat.blt r n
 | .o r => Nat.blt r n
 | .pe r _ _ _ => Nat.blt r n
 | .v r _ _ => Nat.blt r n
 | .vh r _ => Nat.blt r n
 | .f _ caps => zgD n caps
 | .a cs => zgD n cs
 | .t vs => zgD n vs
 | _ => true
def zgD (n : Nat) : List (U S) → Bool
 | [] => true
 | u :: us => JgW n u && zgD n us
end
def Zgo {α : Type} (p : α → Bool) : T α → Bool
 | .e => true
 | .n l v r => (match v with | some x => p x | none => true) && (Zgo p l && Zgo p r)
theorem jcx {α : Type} {p : α → Bool} : ∀ {t : T α} {i : Nat} {x : α}, Zgo p t = true → t.get i = some x → p x = true
 | .e, i, x, _, h => by rw [T.get_e] at h; cases h
 | .n l v r, i, x, ha, h => by
  simp only [Zgo, Bool.and_eq_true] at ha
  rw [T.get_n] at h
  cases i with
  | zero => dsimp only at h; subst h; exact ha.1
  | succ k =>
   dsimp only at h
   cases hk : Nat.beq (k % 2) 0 with
   | true => rw [hk] at h; exact jcx ha.2.1 h
   | false => rw [hk] at h; exact jcx ha.2.2 h
def zg5 (n : Nat) : Ct S → Bool
 | .cells us => zgD n us
 | .buf _ _ => true
 | .row _ _ => true
theorem jbq {E : En} {n r : Nat} (h : Nat.blt r n = true) : (E.take n)[r]? = E[r]? := by
 rw [Nat.blt_eq] at h
 rw [List.getElem?_take, if_pos h]
mutual
theorem RelV.low {Y : Sy S} {D : DD S} {E : En} {n : Nat} : (u : U S) → (v : V) → JgW n u = true → RelV Y D E u v → RelV Y D (E.take n) u v
 | .b x, v, _, h => h
 | .kb x, v, _, h => h
 | .i k n, v, _, h => h
 | .s l, v, _, h => h
 | .pn, v, _, h => h
 | .sn, v, _, h => h
 | .fz, v, _, h => h
 | .nz, v, _, h => h
 | .dead, v, _, h => trivial
 | .g g off, v, _, h => h
 | .l c xs, v, _, h => h
 | .pd c xs i off, v, _, h => h
 | .p r off, v, hl, h => by
  obtain ⟨id, x, h1, h2⟩ := h
  exact ⟨id, x, (jbq hl).trans h1, h2⟩
 | .o r, v, hl, h => by
  obtain ⟨x, h1, h2⟩ := h
  exact ⟨x, (jbq hl).trans h1, h2⟩
 | .pe r w i off, v, hl, h => by
  obtain ⟨id, x, h1, h2⟩ := h
  exact ⟨id, x, (jbq hl).trans h1, h2⟩
 | .v r w i, v, hl, h => by
  obtain ⟨id, x, h1, h2⟩ := h
  exact ⟨id, x, (jbq hl).trans h1, h2⟩
 | .vh r j, v, hl, h => by
  obtain ⟨id, x, h1, h2⟩ := h
  exact ⟨id, x, (jbq hl).trans h1, h2⟩
 | .f fn caps, v, hl, h => by
  obtain ⟨vs, h1, h2⟩ := h
  exact ⟨vs, h1, RelL.low caps vs hl h2⟩
 | .a cs, v, hl, h => by
  obtain ⟨vs, h1, h2⟩ := h
  exact ⟨vs, h1, RelL.low cs vs hl h2⟩
 | .t us, v, hl, h => by
  obtain ⟨vs, h1, h2⟩ := h
  exact ⟨vs, h1, RelL.low us vs hl h2⟩
theorem RelL.low {Y : Sy S} {D : DD S} {E : En} {n : Nat} : (us : List (U S)) → (vs : List V) → zgD n us = true → RelL Y D E us vs → RelL Y D (E.take n) us vs
 | [], _, _, h => h
 | u :: us, vs, hl, h => by
  obtain ⟨v, r, h1, h2, h3⟩ := h
  simp only [zgD, Bool.and_eq_true] at hl
  exact ⟨v, r, h1, RelV.low u v hl.1 h2, RelL.low us r hl.2 h3⟩
end
structure VC (Y : Sy S) (X : Type) where
 enc : X → U S
 dec : U S → (X → Prop) → Prop
 ok : ∀ {own : Nat → Prop} {st : St} {E : En} {u : U S} {k : X → Prop} {v : V}, dec u k → RelV Y (Dat Y own st) E u v → ∃ x, k x ∧ RelV Y (Dat Y own st) E (enc x) v
structure LC (Y : Sy S) (X : Type) where
 enc : X → List (U S)
 dec : List (U S) → (X → Prop) → Prop
 ok : ∀ {own : Nat → Prop} {st : St} {E : En} {us : List (U S)} {k : X → Prop} {vs : List V}, dec us k → RelL Y (Dat Y own st) E us vs → ∃ x, k x ∧ RelL Y (Dat Y own st) E (enc x) vs
variable {Y : Sy S}
def Jgo (kd : IntKind) (u : U S) (k : Int → Prop) : Prop := match u with
 | .i kd' n => cond (decide (kd' = kd)) (k n) False
 | _ => False
def jP (Y : Sy S) (kd : IntKind) : VC Y Int where
 enc n := .i kd n
 dec := Jgo kd
 ok := by
  intro own st E u k v h hr
  unfold Jgo at h
  split at h
  ·rename_i kd' n
   cases hk : decide (kd' = kd) with
   | false => rw [hk] at h; exact h.elim
   | true => rw [hk] at h; obtain rfl := of_decide_eq_true hk; exact ⟨n, h, hr⟩
  ·exact h.elim
def jfp (u : U S) (k : Bool → Prop) : Prop := match u with
 | .b x => k x
 | .kb x => k x
 | _ => False
def jb6 (Y : Sy S) : VC Y Bool where
 enc x := .b x
 dec := jfp
 ok := by
  intro own st E u k v h hr
  unfold jfp at h
  split at h
  ·exact ⟨_, h, hr⟩
  ·exact ⟨_, h, hr⟩
  ·exact h.elim
def zgp (u : U S) (k : List UInt8 → Prop) : Prop := match u with
 | .s l => k l
 | _ => False
def jax (Y : Sy S) : VC Y (List UInt8) where
 enc l := .s l
 dec := zgp
 ok := by
  intro own st E u k v h hr
  unfold zgp at h
  split at h
  ·exact ⟨_, h, hr⟩
  ·exact h.elim
def Zfp (Y : Sy S) (c : S.Cd) (u : U S) (k : List (S.Den c) → Prop) : Prop := match u with
 | .l c' xs => Y.cast c' c xs k
 | .sn => k []
 | _ => False
def jf1 (Y : Sy S) (c : S.Cd) : VC Y (List (S.Den c)) where
 enc xs := .l c xs
 dec := Zfp Y c
 ok := by
  intro own st E u k v h hr
  unfold Zfp at h
  split at h
  ·obtain ⟨rfl, h⟩ := Y.cast_ok _ _ _ _ h; exact ⟨_, h, hr⟩
  ·simp only [RelV] at hr; subst hr; exact ⟨[], h, .nil c⟩
  ·exact h.elim
def Zf1 : U S → U S → Bool
 | .p r off, .p r' off' => Nat.beq r r' && Nat.beq off off'
 | .o r, .o r' => Nat.beq r r'
 | .g r off, .g r' off' => Nat.beq r r' && Nat.beq off off'
 | .pn, .pn => true
 | .sn, .sn => true
 | .fz, .fz => true
 | .nz, .nz => true
 | _, _ => false
theorem Jf1 {u w : U S} (h : Zf1 u w = true) : u = w := by
 unfold Zf1 at h
 split at h <;> simp_all
def Ja7 (Y : Sy S) (u0 : U S) : VC Y Unit where
 enc _ := u0
 dec u k := cond (Zf1 u u0) (k ()) False
 ok := by
  intro own st E u k v h hr
  cases hq : Zf1 u u0 with
  | false => rw [hq] at h; exact h.elim
  | true => rw [hq] at h; rw [← Jf1 hq]; exact ⟨(), h, hr⟩
def jc4 (Y : Sy S) : LC Y Unit where
 enc _ := []
 dec us k := match us with
  | [] => k ()
  | _ => False
 ok := by
  intro own st E us k vs h hr
  cases us with
  | nil => exact ⟨(), h, hr⟩
  | cons u us => exact h.elim
def zs {A B : Type} (v : VC Y A) (r : LC Y B) : LC Y (A × B) where
 enc x := v.enc x.1 :: r.enc x.2
 dec us k := match us with
  | u :: us => v.dec u fun a => r.dec us fun b => k (a, b)
  | [] => False
 ok := by
  intro own st E us k vs h hr
  cases us with
  | nil => exact h.elim
  | cons u us =>
   simp only [RelL] at hr
   obtain ⟨w, ws, rfl, h1, h2⟩ := hr
   obtain ⟨a, h3, h4⟩ := v.ok h h1
   obtain ⟨b, h5, h6⟩ := r.ok h3 h2
   exact ⟨(a, b), h5, w, ws, rfl, h4, h6⟩
def jg5 {A : Type} (f : FuncId) (r : LC Y A) (u : U S) (k : A → Prop) : Prop := match u with
 | .f f' us => cond (Nat.beq f' f) (r.dec us k) False
 | _ => False
def vFn {A : Type} (f : FuncId) (r : LC Y A) : VC Y A where
 enc x := .f f (r.enc x)
 dec := jg5 f r
 ok := by
  intro own st E u k v h hr
  unfold jg5 at h
  split at h
  ·rename_i f' us
   cases hq : Nat.beq f' f with
   | false => rw [hq] at h; exact h.elim
   | true =>
    rw [hq] at h
    rw [Nat.beq_eq] at hq
    subst hq
    simp only [RelV] at hr
    obtain ⟨vs, rfl, hr⟩ := hr
    obtain ⟨x, h1, h2⟩ := r.ok h hr
    exact ⟨x, h1, vs, rfl, h2⟩
  ·exact h.elim
structure FC (Y : Sy S) (X : Type) where
 enc : X → T (U S)
 dec : T (U S) → (X → Prop) → Prop
 ok : ∀ {own : Nat → Prop} {st : St} {E : En} {fr : T (U S)} {k : X → Prop} {frV : T V}, dec fr k → RelF Y (Dat Y own st) E fr frV → ∃ x, k x ∧ RelF Y (Dat Y own st) E (enc x) frV
def jab (Y : Sy S) : FC Y Unit where
 enc _ := .e
 dec _ k := k ()
 ok := fun h _ => ⟨(), h, fun t u hu => by rw [T.get_e] at hu; cases hu⟩
def Zf {A B : Type} (t : Nat) (v : VC Y A) (r : FC Y B) : FC Y (A × B) where
 enc x := (r.enc x.2).upd t (some (v.enc x.1))
 dec fr k := onO (fr.get t) fun u => v.dec u fun a => r.dec fr fun b => k (a, b)
 ok := by
  intro own st E fr k frV h hr
  obtain ⟨u, h1, h2⟩ := Jav h
  obtain ⟨w, h3, h4⟩ := hr t u h1
  obtain ⟨a, h5, h6⟩ := v.ok h2 h4
  obtain ⟨b, h7, h8⟩ := r.ok h5 hr
  exact ⟨(a, b), h7, zaA h8 h3 h6⟩
structure HC (Y : Sy S) (X : Type) where
 enc : X → T (Ct S)
 dec : Nat → T (Ct S) → (X → Prop) → Prop
 ok : ∀ {own : Nat → Prop} {ro : Nat} {st : St} {E : En} {n : Nat} {m : T (Ct S)} {k : X → Prop}, dec n m k → (∀ r ct, m.get r = some ct → Ent Y ro (Dat Y own st) (DatA Y own st) E st r ct) →
  ∃ x, k x ∧ ∀ r ct, (enc x).get r = some ct → r < n ∧ (∃ ct0, m.get r = some ct0) ∧ Ent Y ro (Dat Y own st) (DatA Y own st) E st r ct
def Zab (Y : Sy S) : HC Y Unit where
 enc _ := .e
 dec _ _ k := k ()
 ok := fun h _ => ⟨(), h, fun r ct e => by rw [T.get_e] at e; cases e⟩
def JeL {A : Type} (v : LC Y A) (o : Option (Ct S)) (k : A → Prop) : Prop := match o with
 | some (.cells us) => v.dec us k
 | _ => False
def jgp (Y : Sy S) (c : S.Cd) (o : Option (Ct S)) (k : List (S.Den c) → Prop) : Prop := match o with
 | some (.buf c' xs) => Y.cast c' c xs k
 | _ => False
def jag {A B : Type} (q : Nat) (v : LC Y A) (r : HC Y B) : HC Y (A × B) where
 enc x := (r.enc x.2).upd q (some (.cells (v.enc x.1)))
 dec n m k := cond (Nat.blt q n) (JeL v (m.get q) fun a => r.dec n m fun b => k (a, b)) False
 ok := by
  intro own ro st E n m k h hE
  cases hq : Nat.blt q n with
  | false => rw [hq] at h; exact h.elim
  | true =>
   rw [hq] at h
   simp only [cond_true] at h
   unfold JeL at h
   split at h
   ·rename_i us hm
    obtain ⟨id, y, b, vs, h1, h2, h3, h4, h5, h6, h7⟩ := hE q _ hm
    obtain ⟨a, g1, g2⟩ := v.ok h h6
    obtain ⟨b', g3, g4⟩ := r.ok g1 hE
    refine ⟨(a, b'), g3, fun r' ct e => ?_⟩
    rw [T.get_upd] at e
    by_cases z : r' = q
    ·subst z
     rw [if_pos rfl] at e
     cases e
     have hl : us.length = (v.enc a).length := by rw [← h6.length, g2.length]
     exact ⟨Nat.blt_eq.mp hq, ⟨_, hm⟩, id, y, b, vs, h1, h2, h3, h4, h5.trans hl, g2, fun j hj => h7 j (by rw [hl]; exact hj)⟩
    ·rw [if_neg z] at e
     exact g4 r' ct e
   ·exact h.elim
def Zco {B : Type} (q : Nat) (c : S.Cd) (r : HC Y B) : HC Y (List (S.Den c) × B) where
 enc x := (r.enc x.2).upd q (some (.buf c x.1))
 dec n m k := cond (Nat.blt q n) (jgp Y c (m.get q) fun a => r.dec n m fun b => k (a, b)) False
 ok := by
  intro own ro st E n m k h hE
  cases hq : Nat.blt q n with
  | false => rw [hq] at h; exact h.elim
  | true =>
   rw [hq] at h
   simp only [cond_true] at h
   unfold jgp at h
   split at h
   ·rename_i c' xs hm
    obtain ⟨rfl, h⟩ := Y.cast_ok _ _ _ _ h
    obtain ⟨b', g3, g4⟩ := r.ok h hE
    refine ⟨(xs, b'), g3, fun r' ct e => ?_⟩
    rw [T.get_upd] at e
    by_cases z : r' = q
    ·subst z
     rw [if_pos rfl] at e
     cases e
     exact ⟨Nat.blt_eq.mp hq, ⟨_, hm⟩, hE r' _ hm⟩
    ·rw [if_neg z] at e
     exact g4 r' ct e
   ·exact h.elim
inductive Fix (S : Sg) where
 | slot (t r : Nat) (c : S.Cd)
 | cell (q j r : Nat) (c : S.Cd)
def zgX : Option (U S) → Bool
 | some .sn => true
 | _ => false
def Zhn (z : Z S) : Fix S → Z S
 | .slot t r c => cond (zgX (z.fr.get t) && Nat.beq z.nx r) ⟨z.fr.upd t (some (.o z.nx)), z.nx + 1, z.m.upd z.nx (some (.buf c [])), z.ks⟩ z
 | .cell q j r c => match z.m.get q with
  | some (.cells us) => cond (zgX us[j]? && Nat.beq z.nx r) ⟨z.fr, z.nx + 1, (z.m.upd q (some (.cells (us.set j (.o z.nx))))).upd z.nx (some (.buf c [])), z.ks⟩ z
  | _ => z
def Jem (z : Z S) : List (Fix S) → Z S
 | [] => z
 | f :: r => Jem (Zhn z f) r
variable {G : Gl} {o0 : Nat → Prop} {ro : Nat} {B : Bs S}
theorem zeM {z : Z S} {frV : T V} {st : St} (h : Zat Y G o0 ro B z frV st) (c : S.Cd) : ∃ E, Inv Y G o0 ro E (z.nx + 1) (z.m.upd z.nx (some (.buf c []))) st ∧ Step o0 B.E B.m B.st E (z.m.upd z.nx (some (.buf c []))) st z.ks [0] ∧ RelF Y (Dat Y (jf o0 E (z.m.upd z.nx (some (.buf c [])))) st) E z.fr frV ∧ E[z.nx]? = some (none, .sn) := by
 obtain ⟨E, hI, hS, hf⟩ := h
 have hs := zbc hI none .sn (.buf c []) (st' := st) (fun id e => by cases e) (Nat.le_refl _) (fun _ _ => rfl) rfl
 have hE : (E ++ [((none : Option Nat), V.sn)])[z.nx]? = some (none, .sn) := by rw [← hI.len]; exact push_self
 have := (hS.trans hs).anyW
 rw [List.nil_append] at this
 exact ⟨_, jbQ hI none .sn (.buf c []) hs (fun id e => by cases e) (fun _ _ => rfl) (.inl ⟨hE, rfl⟩), this, jcI (ks := []) hs hf, hE⟩
theorem jgD {z : Z S} {frV : T V} {st : St} (h : Zat Y G o0 ro B z frV st) (f : Fix S) : Zat Y G o0 ro B (Zhn z f) frV st := by
 cases f with
 | slot t r c =>
  simp only [Zhn]
  cases hq : (zgX (z.fr.get t) && Nat.beq z.nx r) with
  | false => exact h
  | true =>
   rw [Bool.and_eq_true] at hq
   have hz : z.fr.get t = some .sn := by
    have h1 := hq.1
    unfold zgX at h1
    split at h1
    ·assumption
    ·cases h1
   obtain ⟨E, h1, h2, h3, h4⟩ := zeM h c
   obtain ⟨v, h5, h6⟩ := h3 t _ hz
   simp only [RelV] at h6
   subst h6
   exact ⟨E, h1, h2, zaA h3 h5 (u := .o z.nx) ⟨none, h4, rfl⟩⟩
 | cell q j r c =>
  simp only [Zhn]
  split
  ·rename_i us hm
   cases hq : (zgX us[j]? && Nat.beq z.nx r) with
   | false => exact h
   | true =>
    rw [Bool.and_eq_true] at hq
    have hz : us[j]? = some .sn := by
     have h1 := hq.1
     unfold zgX at h1
     split at h1
     ·assumption
     ·cases h1
    obtain ⟨E, h1, h2, h3, h4⟩ := zeM h c
    have hlt : q < z.nx := by obtain ⟨E0, hI0, _⟩ := h; exact hI0.lt q _ hm
    have hm' : (z.m.upd z.nx (some (.buf c []))).get q = some (.cells us) := by rw [T.get_upd, if_neg (by omega)]; exact hm
    have nam : ∀ id, Zbw E ((z.m.upd q (some (.cells (us.set j (.o z.nx))))).upd z.nx (some (.buf c []))) id ↔ Zbw E (z.m.upd z.nx (some (.buf c []))) id := by
     intro id
     constructor
     ·rintro ⟨k, ct, y, e1, e2⟩
      rw [T.get_upd] at e1
      by_cases a : k = z.nx
      ·exact ⟨k, .buf c [], y, by rw [T.get_upd, if_pos a], e2⟩
      ·rw [if_neg a, T.get_upd] at e1
       by_cases b : k = q
       ·exact ⟨k, .cells us, y, by rw [b]; exact hm', e2⟩
       ·rw [if_neg b] at e1; exact ⟨k, ct, y, by rw [T.get_upd, if_neg a]; exact e1, e2⟩
     ·rintro ⟨k, ct, y, e1, e2⟩
      rw [T.get_upd] at e1
      by_cases a : k = z.nx
      ·exact ⟨k, .buf c [], y, by rw [T.get_upd, if_pos a], e2⟩
      ·rw [if_neg a] at e1
       by_cases b : k = q
       ·exact ⟨k, .cells (us.set j (.o z.nx)), y, by rw [T.get_upd, if_neg a, T.get_upd, if_pos b], e2⟩
       ·exact ⟨k, ct, y, by rw [T.get_upd, if_neg a, T.get_upd, if_neg b]; exact e1, e2⟩
    have own : ∀ id, jf o0 E ((z.m.upd q (some (.cells (us.set j (.o z.nx))))).upd z.nx (some (.buf c []))) id → jf o0 E (z.m.upd z.nx (some (.buf c []))) id := fun id ho => ho.imp (fun q => q) (nam id).1
    have hd : ∀ c' xs v, Dat Y (jf o0 E (z.m.upd z.nx (some (.buf c [])))) st c' xs v → Dat Y (jf o0 E ((z.m.upd q (some (.cells (us.set j (.o z.nx))))).upd z.nx (some (.buf c [])))) st c' xs v := fun c' xs v hd => Dat.keep (Nat.le_refl _) (fun _ _ _ => rfl) (fun id _ ho => own id ho) hd
    have hda : ∀ u v, DatA Y (jf o0 E (z.m.upd z.nx (some (.buf c [])))) st u v → DatA Y (jf o0 E ((z.m.upd q (some (.cells (us.set j (.o z.nx))))).upd z.nx (some (.buf c [])))) st u v := fun u v hd => DatA.keep (Nat.le_refl _) (fun _ _ _ => rfl) (fun id _ ho => own id ho) hd
    have any : ∀ k ct, ((z.m.upd q (some (.cells (us.set j (.o z.nx))))).upd z.nx (some (.buf c []))).get k = some ct → ∃ ct0, (z.m.upd z.nx (some (.buf c []))).get k = some ct0 ∧ (k ≠ q → ct0 = ct) ∧ (k = q → ct = .cells (us.set j (.o z.nx))) := by
     intro k ct e
     rw [T.get_upd] at e
     by_cases a : k = z.nx
     ·rw [if_pos a] at e; exact ⟨.buf c [], by rw [T.get_upd, if_pos a], fun _ => Option.some.inj e, fun b => by omega⟩
     ·rw [if_neg a, T.get_upd] at e
      by_cases b : k = q
      ·rw [if_pos b] at e; exact ⟨.cells us, by rw [b]; exact hm', fun q' => absurd b q', fun _ => (Option.some.inj e).symm⟩
      ·rw [if_neg b] at e; exact ⟨ct, by rw [T.get_upd, if_neg a]; exact e, fun _ => rfl, fun q' => absurd q' b⟩
    refine ⟨E, ⟨h1.len, h1.ro, ?_, ?_, h1.out, h1.glob, ?_⟩, ⟨h2.len, h2.same, h2.nx, h2.keep, fun id hn => h2.nam id ((nam id).1 hn), h2.ver⟩, fun t u hu => ?_⟩
    ·intro k ct e
     obtain ⟨ct0, e0, _⟩ := any k ct e
     exact h1.lt k ct0 e0
    ·intro k ct e
     obtain ⟨ct0, e0, e1, e2⟩ := any k ct e
     by_cases b : k = q
     ·obtain rfl := e2 b
      subst b
      rw [hm'] at e0
      cases e0
      obtain ⟨id, y, b, vs, q1, q2, q3, q4, q5, q6, q7⟩ := h1.ent k _ hm'
      refine ⟨id, y, b, vs, q1, q2, q3, q4, by rw [List.length_set]; exact q5, ?_, fun i hi => q7 i (by rwa [List.length_set] at hi)⟩
      have q6' : RelL Y _ E us vs := q6
      refine RelL.of_get (by rw [List.length_set]; exact q6'.length) fun i u v hu hv => ?_
      by_cases c1 : i = j
      ·subst c1
       have hi := (List.getElem?_eq_some_iff.1 hz).1
       rw [List.getElem?_set_self hi] at hu
       cases hu
       obtain ⟨w, z1, z2⟩ := q6'.get hz
       rw [hv] at z1
       cases z1
       simp only [RelV] at z2
       subst z2
       exact ⟨none, h4, rfl⟩
      ·rw [List.getElem?_set_ne (Ne.symm c1)] at hu
       obtain ⟨w, z1, z2⟩ := q6'.get hu
       rw [hv] at z1
       cases z1
       exact RelV.mono (fun _ _ e => e) hd u v z2
     ·obtain rfl := e1 b
      have he := h1.ent k ct0 e0
      cases ct0 with
      | cells us' =>
       obtain ⟨id, y, b, vs, q1, q2, q3, q4, q5, q6, q7⟩ := he
       exact ⟨id, y, b, vs, q1, q2, q3, q4, q5, RelL.mono (fun _ _ e => e) hd us' vs q6, q7⟩
      | buf c' xs =>
       rcases he with he | ⟨id, cap, op, b, q1, q2, q3, q4, q5, q6, q7, q8, vs, q9, q10⟩
       ·exact .inl he
       ·exact .inr ⟨id, cap, op, b, q1, q2, q3, q4, q5, q6, q7, q8, vs, q9, fun i x hx j u v hu hv => hda u v (q10 i x hx j u v hu hv)⟩
      | row c' xs =>
       obtain ⟨id, b, q1, q2, q3, q4, q5, vs, q9, q10⟩ := he
       exact ⟨id, b, q1, q2, q3, q4, q5, vs, q9, fun i x hx j u v hu hv => hda u v (q10 i x hx j u v hu hv)⟩
    ·intro k k' ct ct' id y y' e1 e2 e3 e4
     obtain ⟨a0, a1, _⟩ := any k ct e1
     obtain ⟨b0, b1, _⟩ := any k' ct' e2
     exact h1.inj k k' a0 b0 id y y' a1 b1 e3 e4
    ·obtain ⟨v, z1, z2⟩ := h3 t u hu
     exact ⟨v, z1, RelV.mono (fun _ _ e => e) hd u v z2⟩
  ·exact h
theorem jeM {frV : T V} {st : St} : ∀ (l : List (Fix S)) {z : Z S}, Zat Y G o0 ro B z frV st → Zat Y G o0 ro B (Jem z l) frV st
 | [], _, h => h
 | f :: r, _, h => jeM r (jgD h f)
def Zg5 : List Nat → List Nat → Bool
 | [], _ => true
 | k :: r, ks => mem ks k && Zg5 r ks
theorem Jfp : ∀ {a ks : List Nat}, Zg5 a ks = true → ∀ r, mem ks r = false → mem a r = false
 | [], _, _, _, _ => rfl
 | k :: a, ks, h, r, hr => by
  simp only [Zg5, Bool.and_eq_true] at h
  simp only [mem]
  cases e : Nat.beq k r with
  | true => rw [Nat.beq_eq] at e; subst e; rw [h.1] at hr; cases hr
  | false => exact Jfp h.2 r hr
structure LS (Y : Sy S) (A H : Type) where
 fx : List (Fix S)
 fc : FC Y A
 hc : HC Y H
 nx : Nat
 ks : List Nat
def LS.put {A H : Type} (l : LS Y A H) (x : A × H) : Z S := ⟨l.fc.enc x.1, l.nx, l.hc.enc x.2, l.ks⟩
def LS.get {A H : Type} (l : LS Y A H) (z : Z S) (k : A × H → Prop) : Prop :=
 cond (Nat.ble l.nx (Jem z l.fx).nx && Zg5 (Jem z l.fx).ks l.ks) (l.fc.dec (Jem z l.fx).fr fun a => l.hc.dec l.nx (Jem z l.fx).m fun h => cond (Zgo (JgW l.nx) (l.fc.enc a) && Zgo (zg5 l.nx) (l.hc.enc h)) (k (a, h)) False) False
theorem LS.ok {A H : Type} (l : LS Y A H) (hB : B.E.length ≤ l.nx) {z : Z S} {k : A × H → Prop} {frV : T V} {st : St} (h : l.get z k) (hz : Zat Y G o0 ro B z frV st) : ∃ x, k x ∧ Zat Y G o0 ro B (l.put x) frV st := by
 obtain ⟨E, hI, hS, hf⟩ := jeM l.fx hz
 unfold LS.get at h
 generalize hz1 : Jem z l.fx = z1 at h hI hS hf
 cases hc : (Nat.ble l.nx z1.nx && Zg5 z1.ks l.ks) with
 | false => rw [hc] at h; exact h.elim
 | true =>
  rw [hc] at h
  rw [Bool.and_eq_true, Nat.ble_eq] at hc
  obtain ⟨a, h1, h2⟩ := l.fc.ok h hf
  obtain ⟨b, h3, h4⟩ := l.hc.ok h1 hI.ent
  cases hl : (Zgo (JgW l.nx) (l.fc.enc a) && Zgo (zg5 l.nx) (l.hc.enc b)) with
  | false => rw [hl] at h3; exact h3.elim
  | true =>
   rw [hl] at h3
   rw [Bool.and_eq_true] at hl
   have tk : ∀ r, r < l.nx → (E.take l.nx)[r]? = E[r]? := fun r hr => jbq (by rw [Nat.blt_eq]; exact hr)
   have nam : ∀ id, Zbw (E.take l.nx) (l.hc.enc b) id → Zbw E z1.m id := by
    rintro id ⟨r, ct, y, e1, e2⟩
    obtain ⟨q1, ⟨ct0, q2⟩, _⟩ := h4 r ct e1
    rw [tk r q1] at e2
    exact ⟨r, ct0, y, q2, e2⟩
   have own : ∀ id, jf o0 (E.take l.nx) (l.hc.enc b) id → jf o0 E z1.m id := fun id ho => ho.imp (fun q => q) (nam id)
   have hd : ∀ c xs v, Dat Y (jf o0 E z1.m) st c xs v → Dat Y (jf o0 (E.take l.nx) (l.hc.enc b)) st c xs v := fun c xs v hd => Dat.keep (Nat.le_refl _) (fun _ _ _ => rfl) (fun id _ ho => own id ho) hd
   have hda : ∀ u v, DatA Y (jf o0 E z1.m) st u v → DatA Y (jf o0 (E.take l.nx) (l.hc.enc b)) st u v := fun u v hd => DatA.keep (Nat.le_refl _) (fun _ _ _ => rfl) (fun id _ ho => own id ho) hd
   have hlen : (E.take l.nx).length = l.nx := by rw [List.length_take, hI.len]; omega
   refine ⟨(a, b), h3, E.take l.nx, ⟨hlen, hI.ro, fun r ct e => (h4 r ct e).1, fun r ct e => ?_, hI.out, hI.glob, fun r r' ct ct' id y y' e1 e2 e3 e4 => ?_⟩, ⟨by show _ ≤ (E.take l.nx).length; rw [hlen]; exact hB, fun r hr hm => ?_, hS.nx, hS.keep, fun id hn => hS.nam id (nam id hn), hS.ver⟩, fun t u hu => ?_⟩
   ·obtain ⟨q1, _, he⟩ := h4 r ct e
    have hlow := jcx hl.2 e
    cases ct with
    | cells us =>
     obtain ⟨id, y, b, vs, g1, g2, g3, g4, g5, g6, g7⟩ := he
     exact ⟨id, y, b, vs, (tk r q1).trans g1, g2, g3, g4, g5, RelL.mono (fun _ _ e => e) hd us vs (RelL.low us vs hlow g6), g7⟩
    | buf c xs =>
     rcases he with ⟨g1, g2⟩ | ⟨id, cap, op, b, g1, g2, g3, g4, g5, g6, g7, g8, vs, g9, g10⟩
     ·exact .inl ⟨(tk r q1).trans g1, g2⟩
     ·exact .inr ⟨id, cap, op, b, (tk r q1).trans g1, g2, g3, g4, g5, g6, g7, g8, vs, g9, fun i x hx j u v hu hv => hda u v (g10 i x hx j u v hu hv)⟩
    | row c xs =>
     obtain ⟨id, b, g1, g2, g3, g4, g5, vs, g9, g10⟩ := he
     exact ⟨id, b, (tk r q1).trans g1, g2, g3, g4, g5, vs, g9, fun i x hx j u v hu hv => hda u v (g10 i x hx j u v hu hv)⟩
   ·obtain ⟨q1, ⟨c0, q2⟩, _⟩ := h4 r ct e1
    obtain ⟨p1, ⟨d0, p2⟩, _⟩ := h4 r' ct' e2
    rw [tk r q1] at e3
    rw [tk r' p1] at e4
    exact hI.inj r r' c0 d0 id y y' q2 p2 e3 e4
   ·rw [tk r (Nat.lt_of_lt_of_le hr hB)]
    exact hS.same r hr (Jfp hc.2 r hm)
   ·obtain ⟨v, e1, e2⟩ := h2 t u hu
    exact ⟨v, e1, RelV.mono (fun _ _ e => e) hd u v (RelV.low u v (jcx hl.1 hu) e2)⟩
variable {P : Program} {ov : Ov} {nt : Nat}
theorem zf2 {A H : Type} (l : LS Y A H) (hB : B.E.length ≤ l.nx) {b : Code} {K : Ex → Z S → Prop} {F : Nat → A × H → Prop} (h0 : ∀ x, F 0 x → False)
  (hs : ∀ n x, F (n + 1) x → Sem Y P G ov o0 ro nt B b (l.put x) (fun e z => match e with | .nrm => l.get z (fun x' => F n x') | .exit i => K (.exit i) z | .goto i => K (.goto i) z | .ret => K .ret z))
  {z : Z S} (h : l.get z (fun x => ∃ n, F n x)) : Sem Y P G ov o0 ro nt B (.loop b) z K := by
 intro frV st hz
 obtain ⟨x, ⟨n, hF⟩, hz1⟩ := l.ok hB h hz
 have key : ∀ (n : Nat) (x : A × H) (frV : T V) (st : St), F n x → Zat Y G o0 ro B (l.put x) frV st → ∃ e frV' st', (∃ M R, ∀ n, M ≤ n → ∀ r, R ≤ r → Zav (evC P ov ro n nt b) r frV st = some (e, frV', st')) ∧ ∃ z', Zat Y G o0 ro B z' frV' st' ∧ K e z' := by
  intro n
  induction n with
  | zero => intro x frV st h; exact (h0 x h).elim
  | succ n ih =>
   intro x frV st h hz
   obtain ⟨e, frV1, st1, ⟨M, h1⟩, z1, hz1, hk⟩ := hs n x h frV st hz
   cases e with
   | nrm =>
    obtain ⟨x', h2, h3⟩ := l.ok hB hk hz1
    obtain ⟨e2, frV2, st2, ⟨M2, R2, h4⟩, h5⟩ := ih x' frV1 st1 h2 h3
    refine ⟨e2, frV2, st2, ⟨max M M2, R2 + 1, fun k hk r hr => ?_⟩, h5⟩
    obtain ⟨r', rfl⟩ := Nat.exists_eq_succ_of_ne_zero (show r ≠ 0 by omega)
    simp only [Zav, h1 k (by omega)]
    exact h4 k (by omega) r' (by omega)
   | exit i => exact ⟨_, frV1, st1, ⟨M, 1, fun k hk r hr => by
     obtain ⟨r', rfl⟩ := Nat.exists_eq_succ_of_ne_zero (show r ≠ 0 by omega)
     simp only [Zav, h1 k (by omega)]⟩, z1, hz1, hk⟩
   | goto i => exact ⟨_, frV1, st1, ⟨M, 1, fun k hk r hr => by
     obtain ⟨r', rfl⟩ := Nat.exists_eq_succ_of_ne_zero (show r ≠ 0 by omega)
     simp only [Zav, h1 k (by omega)]⟩, z1, hz1, hk⟩
   | ret => exact ⟨_, frV1, st1, ⟨M, 1, fun k hk r hr => by
     obtain ⟨r', rfl⟩ := Nat.exists_eq_succ_of_ne_zero (show r ≠ 0 by omega)
     simp only [Zav, h1 k (by omega)]⟩, z1, hz1, hk⟩
 obtain ⟨e, frV', st', ⟨M, R, h1⟩, h2⟩ := key n x frV st hF hz1
 refine ⟨e, frV', st', ⟨M + R + 1, fun n hn => ?_⟩, h2⟩
 obtain ⟨k, rfl⟩ := Nat.exists_eq_succ_of_ne_zero (show n ≠ 0 by omega)
 simp only [evC]
 exact h1 k (by omega) k (by omega)
def rnd {A H : Type} (l : LS Y A H) (cz : (Ex → Z S → Prop) → Ex → Z S → Prop) (F : A × H → Prop) (K : Ex → Z S → Prop) (e : Ex) (z : Z S) : Prop := match e with
 | .nrm => l.get z F
 | .exit i => cz K (.exit i) z
 | .goto i => cz K (.goto i) z
 | .ret => cz K .ret z
theorem zfq {A H : Type} (l : LS Y A H) (hB : B.E.length ≤ l.nx) {b : Code} (cz : (Ex → Z S → Prop) → Ex → Z S → Prop) (hcz : ∀ K e z frV st, cz K e z → Zat Y G o0 ro B z frV st → ∃ z', Zat Y G o0 ro B z' frV st ∧ K e z')
  {F : Nat → A × H → (Ex → Z S → Prop) → Prop} (h0 : ∀ x K, F 0 x K → False)
  (hs : ∀ n x K, F (n + 1) x K → Sem Y P G ov o0 ro nt B b (l.put x) (rnd l cz (fun x' => F n x' K) K))
  {z : Z S} {K : Ex → Z S → Prop} (h : l.get z (fun x => ∃ n, F n x K)) : Sem Y P G ov o0 ro nt B (.loop b) z K := by
 have := zf2 (K := fun e z => cz K e z) l hB (F := fun n x => F n x K) (fun x => h0 x K) (fun n x hF frV st hz => by
  obtain ⟨e, frV', st', h1, z', h2, h3⟩ := hs n x K hF frV st hz
  exact ⟨e, frV', st', h1, z', h2, by cases e <;> exact h3⟩) h
 intro frV st hz
 obtain ⟨e, frV', st', h1, z', h2, h3⟩ := this frV st hz
 obtain ⟨z2, h4, h5⟩ := hcz K e z' frV' st' h3 h2
 exact ⟨e, frV', st', h1, z2, h4, h5⟩
def czT {A1 H1 A2 H2 : Type} (i0 : Nat) (le : LS Y A1 H1) (lr : LS Y A2 H2) (K : Ex → Z S → Prop) (e : Ex) (z : Z S) : Prop := match e with
 | .exit i => cond (Nat.beq i i0) (le.get z fun y => K (.exit i) (le.put y)) False
 | .ret => lr.get z fun y => K .ret (lr.put y)
 | _ => False
theorem Zag {A1 H1 A2 H2 : Type} (i0 : Nat) (le : LS Y A1 H1) (lr : LS Y A2 H2) (h1 : B.E.length ≤ le.nx) (h2 : B.E.length ≤ lr.nx) (K : Ex → Z S → Prop) (e : Ex) (z : Z S) (frV : T V) (st : St) (h : czT i0 le lr K e z) (hz : Zat Y G o0 ro B z frV st) : ∃ z', Zat Y G o0 ro B z' frV st ∧ K e z' := by
 cases e with
 | exit i =>
  simp only [czT] at h
  cases hq : Nat.beq i i0 with
  | false => rw [hq] at h; exact h.elim
  | true => rw [hq, cond_true] at h; obtain ⟨x, q1, q2⟩ := le.ok h1 h hz; exact ⟨_, q2, q1⟩
 | ret =>
  simp only [czT] at h
  obtain ⟨x, q1, q2⟩ := lr.ok h2 h hz
  exact ⟨_, q2, q1⟩
 | nrm => exact h.elim
 | goto i => exact h.elim
def Jck : Code → Option Nat
 | .region i _ _ => some i
 | .seq a b => match Jck a with
  | some i => some i
  | none => Jck b
 | .cond _ a b => match Jck a with
  | some i => some i
  | none => Jck b
 | .block _ b => Jck b
 | .loop b => Jck b
 | .scope b => Jck b
 | _ => none
def Zc4 : List (Nat × (Z S → (Ex → Z S → Prop) → Prop)) → Z5 S
 | [], _, _, _ => False
 | (i, h) :: r, b, z, K => match Jck b with
  | some j => cond (Nat.beq j i) (h z K) (Zc4 r b z K)
  | none => False
def Zb (c : Code) (i : Nat) : Code := (JR c).getD i .skip
def jfq (Y : Sy S) (P : Program) (G : Gl) (ov : Ov) (ro : Nat) (L : Z5 S) (bn nt : Nat) (l : List Code) : Prop := ∀ (o0 : Nat → Prop) (B : Bs S), B.E.length ≤ bn → ∀ b ∈ l, ∀ z K, L b z K → Sem Y P G ov o0 ro nt B (.loop b) z K
theorem Zd {L : Z5 S} {bn : Nat} : jfq Y P G ov ro L bn nt [] := fun _ _ _ b hb => by cases hb
theorem zS {L : Z5 S} {bn : Nat} {b : Code} {r : List Code} (h : ∀ (o0 : Nat → Prop) (B : Bs S), B.E.length ≤ bn → ∀ z K, L b z K → Sem Y P G ov o0 ro nt B (.loop b) z K) (hr : jfq Y P G ov ro L bn nt r) : jfq Y P G ov ro L bn nt (b :: r) := by
 intro o0 B hB b' hb
 rcases List.mem_cons.1 hb with rfl | hb
 ·exact h o0 B hB
 ·exact hr o0 B hB b' hb
end
end Go.Sx
namespace Go.Sx
open Go.Vm
section
variable {S : Sg} (Y : Sy S) (P : Program) (G : Gl)
def frU : List (U S) → Nat → T (U S) → T (U S)
 | [], _, fr => fr
 | u :: r, i, fr => frU r (i + 1) (fr.upd i (some u))
def jhG (fr : T (U S)) (m : T (Ct S)) (r : ResultVar) (k : U S → Prop) : Prop := match r with
 | .tmp t => onO (fr.get t) k
 | .cell a t => onO (fr.get a) fun u => JeX Y P G m t u k
def Jc4 (fr : T (U S)) (m : T (Ct S)) : List ResultVar → (List (U S) → Prop) → Prop
 | [], k => k []
 | r :: rs, k => jhG Y P G fr m r fun u => Jc4 fr m rs fun us => k (u :: us)
def jfd : List (U S) → U S
 | [u] => u
 | us => .t us
mutual
def zen (m : T (Ct S)) : U S → (U S → Prop) → Prop
 | .b x, k => k (.b x)
 | .kb x, k => k (.b x)
 | .i kd n, k => k (.i kd n)
 | .s l, k => k (.s l)
 | .pn, k => k .pn
 | .sn, k => k .sn
 | .fz, k => k .fz
 | .l c xs, k => k (.l c xs)
 | .o r, k => match m.get r with
  | some (.buf c xs) => k (.l c xs)
  | _ => False
 | .a us, k => Zgp m us fun us => k (.a us)
 | .t us, k => Zgp m us fun us => k (.t us)
 | _, _ => False
def Zgp (m : T (Ct S)) : List (U S) → (List (U S) → Prop) → Prop
 | [], k => k []
 | u :: us, k => zen m u fun u => Zgp m us fun us => k (u :: us)
end
def zfV : List (Option S.Cd) → List (U S) → List (U S)
 | some c :: cs, .sn :: us => .l c [] :: zfV cs us
 | _ :: cs, u :: us => u :: zfV cs us
 | [], us => us
 | _ :: _, [] => []
def fin (rc : List (Option S.Cd)) (res : List ResultVar) (k : U S → Prop) (e : Ex) (z : Z S) : Prop := match e with
 | .nrm => Jc4 Y P G z.fr z.m res fun us => Zgp z.m us fun us => k (jfd (zfV rc us))
 | .ret => Jc4 Y P G z.fr z.m res fun us => Zgp z.m us fun us => k (jfd (zfV rc us))
 | _ => False
def fnT (C : ji S) (L : Z5 S) (nt : Nat) (c : Code) (rc : List (Option S.Cd)) (res : List ResultVar) (us : List (U S)) (k : U S → Prop) : Prop :=
 cond (Nat.ble us.length nt) (sC Y P G C L nt c ⟨frU us 0 .e, 0, .e, []⟩ (fin Y P G rc res k)) False
def ZhG (res : List ResultVar) (k : Kn S) (e : Ex) (z : Z S) : Prop := match e with
 | .nrm => Jc4 Y P G z.fr z.m res fun us => k (some (jfd us)) z.nx z.m z.ks [0]
 | .ret => Jc4 Y P G z.fr z.m res fun us => k (some (jfd us)) z.nx z.m z.ks [0]
 | _ => False
def inl (C : ji S) (L : Z5 S) (bn nt : Nat) (c : Code) (res : List ResultVar) : List (U S) → Nat → T (Ct S) → Kn S → Prop := fun us nx m k =>
 cond (Nat.ble us.length nt && Nat.ble nx bn) (sC Y P G C L nt c ⟨frU us 0 .e, nx, m, []⟩ (ZhG Y P G res k)) False
def nb1 : U S → U S
 | .kb x => .b x
 | u => u
def nb : U S → U S
 | .a cs => .a (cs.map nb1)
 | u => u
def jen (m : T (Ct S)) : List (U S) → (List (U S) → Bool → Prop) → Prop
 | [], k => k [] false
 | u :: us, k => match u with
  | .o r => match m.get r with
   | some (.buf c xs) => jen m us fun us' _ => k (.l c xs :: us') true
   | _ => False
  | .vh r j => match m.get r with
   | some (.buf c xs) => jen m us fun us' _ => k (.l c (xs.take j) :: us') true
   | _ => False
  | .kb x => jen m us fun us' b => k (.b x :: us') b
  | u => cond (JgW 0 u) (jen m us fun us' b => k (nb u :: us') b) False
def con (pc : List (Option S.Cd)) (pt : List (U S) → (U S → Prop) → Prop) : List (U S) → Nat → T (Ct S) → Kn S → Prop := fun us nx m k =>
 jen m us fun us' b => pt (zfV pc us') fun u => match b with
  | false => k (some u) nx m [] []
  | true => cond (zcI u) (k (some u) nx m [] []) False
def tab : List (FuncId × (List (U S) → Nat → T (Ct S) → Kn S → Prop)) → ji S
 | [], _, _, _, _, _ => False
 | (g, p) :: r, f, us, nx, m, k => cond (Nat.beq f g) (p us nx m k) (tab r f us nx m k)
variable (ov : Ov) (ro : Nat)
def GOK (G : Gl) (ro : Nat) (st : St) : Prop := ∀ g k l, G g = some (k, l) → g < ro ∧ ∃ b, st.hp.get g = some b ∧ ∀ j, j < l.length → b.get j = some (.i k (l.getD j 0))
structure Ext (st st' : St) : Prop where
 nx : st.nx ≤ st'.nx
 keep : ∀ id, id < st.nx → st'.hp.get id = st.hp.get id
 ver : ∀ j, j ≤ st.nx → j ≤ st.ver → j ≤ st'.ver
def FnOK (f : FuncId) (pt : List (U S) → (U S → Prop) → Prop) : Prop :=
 ∀ (o0 : Nat → Prop) us k, pt us k → ∀ st vs, ro ≤ st.nx → GOK G ro st → (∀ id, o0 id → ro ≤ id ∧ id < st.nx) → RelL Y (Dat Y o0 st) [] us vs →
  ∃ v st', (∃ M, ∀ n, M ≤ n → evF P ov ro n f vs st = some (v, st')) ∧ ∃ u, RelV Y (Dat Y o0 st') [] u v ∧ Ext st st' ∧ k u
def jeW (f : FuncId) (p : List (U S) → Nat → T (Ct S) → Kn S → Prop) : Prop :=
 ∀ (o0 : Nat → Prop) us nx m k, p us nx m k → ∀ E st vs, Inv Y G o0 ro E nx m st → RelL Y (Dat Y (jf o0 E m) st) E us vs → ∃ v st', (∃ M, ∀ n, M ≤ n → evF P ov ro n f vs st = some (v, st')) ∧ ZbM Y G o0 ro E m st k (some v) st'
def Zcx (L : Z5 S) (bn nt : Nat) (c : Code) : Prop := ∀ (o0 : Nat → Prop) (B : Bs S), B.E.length ≤ bn → ∀ b ∈ JR c, ∀ z K, L b z K → Sem Y P G ov o0 ro nt B (.loop b) z K
variable {Y P G ov ro}
theorem Jc (o0 : Nat → Prop) : Zj Y P G ov o0 ro (tab []) := fun _ _ _ _ _ h => h.elim
theorem ja {g : FuncId} {p : List (U S) → Nat → T (Ct S) → Kn S → Prop} {r : List (FuncId × (List (U S) → Nat → T (Ct S) → Kn S → Prop))} (hp : jeW Y P G ov ro g p) (hr : ∀ o0, Zj Y P G ov o0 ro (tab r)) (o0 : Nat → Prop) : Zj Y P G ov o0 ro (tab ((g, p) :: r)) := by
 intro f us nx m k h E st vs hI hv
 simp only [tab] at h
 cases hq : Nat.beq f g with
 | true => rw [hq] at h; rw [Nat.beq_eq] at hq; subst hq; exact hp o0 us nx m k h E st vs hI hv
 | false => rw [hq] at h; exact hr o0 f us nx m k h E st vs hI hv
theorem jds {D : DD S} {E : En} : ∀ {us : List (U S)} {vs : List V} {i : Nat} {fr : T (U S)} {frV : T V}, RelL Y D E us vs → RelF Y D E fr frV → RelF Y D E (frU us i fr) (jV vs i frV)
 | [], vs, i, fr, frV, h, hf => by simp only [RelL] at h; subst h; exact hf
 | u :: us, vs, i, fr, frV, h, hf => by
  simp only [RelL] at h
  obtain ⟨v, r, rfl, h1, h2⟩ := h
  simp only [frU, jV, V.force_eq]
  exact jds h2 (Jdr hf h1)
theorem ZgD {o0 : Nat → Prop} {E : En} {nx : Nat} {m : T (Ct S)} {st : St} (hI : Inv Y G o0 ro E nx m st) {fr : T (U S)} {frV : T V} (hf : RelF Y (Dat Y (jf o0 E m) st) E fr frV) {r : ResultVar} {k : U S → Prop} (h : jhG Y P G fr m r k) :
  ∃ u v, Jai P frV st r = some v ∧ RelV Y (Dat Y (jf o0 E m) st) E u v ∧ k u := by
 cases r with
 | tmp t =>
  obtain ⟨u, h1, h2⟩ := Jav h
  obtain ⟨v, h3, h4⟩ := hf t u h1
  exact ⟨u, v, h3, h4, h2⟩
 | cell a t =>
  obtain ⟨u, h1, h2⟩ := Jav h
  obtain ⟨v, h3, h4⟩ := hf a u h1
  obtain ⟨id, off, w, y, rfl, h5, h6, h7⟩ := Zcw hI h2 h4
  exact ⟨w, y, by simp only [Jai, h3]; exact h5, h6, h7⟩
theorem Jcx {o0 : Nat → Prop} {E : En} {nx : Nat} {m : T (Ct S)} {st : St} (hI : Inv Y G o0 ro E nx m st) {fr : T (U S)} {frV : T V} (hf : RelF Y (Dat Y (jf o0 E m) st) E fr frV) : ∀ {rs : List ResultVar} {k : List (U S) → Prop}, Jc4 Y P G fr m rs k →
  ∃ us vs, jr P frV st rs = some vs ∧ RelL Y (Dat Y (jf o0 E m) st) E us vs ∧ k us
 | [], k, h => ⟨[], [], rfl, rfl, h⟩
 | r :: rs, k, h => by
  obtain ⟨u, v, h1, h2, h3⟩ := ZgD hI hf h
  obtain ⟨us, vs, h4, h5, h6⟩ := Jcx hI hf h3
  exact ⟨u :: us, v :: vs, by simp only [jr, h1, h4], ⟨v, vs, rfl, h2, h5⟩, h6⟩
theorem Zds {D : DD S} {E : En} {us : List (U S)} {vs : List V} (h : RelL Y D E us vs) : RelV Y D E (jfd us) (JaO vs) := by
 cases us with
 | nil => simp only [RelL] at h; subst h; exact ⟨[], rfl, rfl⟩
 | cons u us =>
  have h' := h
  simp only [RelL] at h
  obtain ⟨v, r, rfl, h1, h2⟩ := h
  cases us with
  | nil => simp only [RelL] at h2; subst h2; exact h1
  | cons w us =>
   have h3 := h2
   simp only [RelL] at h2
   obtain ⟨x, r', rfl, h4, h5⟩ := h2
   exact ⟨_, rfl, h'⟩
theorem ZeM {o0 own : Nat → Prop} {E : En} {nx : Nat} {m : T (Ct S)} {st : St} (hI : Inv Y G o0 ro E nx m st) {r : Nat} {c : S.Cd} {xs : List (S.Den c)} {v : V} (hr : m.get r = some (.buf c xs)) (hv : RelV Y (Dat Y (jf o0 E m) st) E (.o r) v) (h1 : ∀ id, own id → jf o0 E m id) (h2 : ∀ id y, E[r]? = some (some id, y) → ¬ own id) :
  Dat Y own st c xs v := by
 simp only [RelV] at hv
 obtain ⟨x, e1, _⟩ := hv
 rcases hI.ent r _ hr with ⟨q1, q2⟩ | ⟨id, cap, op, b, q1, q2, q3, q4, q5, q6, q7, q8, vs, q9, q10⟩
 ·rw [e1] at q1; cases q1; subst q2; exact .nil c
 ·have e1' := e1
  rw [e1] at q1
  cases q1
  exact .mk vs (h2 id _ e1') q3 q4 (fun i x hx => by rw [Nat.zero_add]; exact q9 i x hx) (fun i x hx j u v hu hv => DatA.keep (Nat.le_refl _) (fun _ _ _ => rfl) (fun id _ ho => h1 id ho) (q10 i x hx j u v hu hv)) q5
theorem Zfq {o0 : Nat → Prop} {E : En} {nx : Nat} {m : T (Ct S)} {st : St} (hI : Inv Y G o0 ro E nx m st) {r j : Nat} {c : S.Cd} {xs : List (S.Den c)} {v : V} (hr : m.get r = some (.buf c xs)) (hv : RelV Y (Dat Y (jf o0 E m) st) E (.vh r j) v) :
  Dat Y (fun _ => False) st c (xs.take j) v := by
 simp only [RelV] at hv
 obtain ⟨x, y, e1, hv⟩ := hv
 rcases hI.ent r _ hr with ⟨q1, q2⟩ | ⟨id, cap, op, b, q1, q2, q3, q4, q5, q6, q7, q8, vs, q9, q10⟩
 ·rw [e1] at q1
  cases q1
  subst q2
  obtain ⟨_, rfl, rfl⟩ | ⟨_, _, _, _, q, _⟩ := hv
  ·exact .nil c
  ·cases q
 ·rw [e1] at q1
  cases q1
  obtain ⟨q, _⟩ | ⟨_, _, _, _, q, hj, rfl⟩ := hv
  ·cases q
  cases q
  have hl : (xs.take j).length = j := by rw [List.length_take]; omega
  have hg : ∀ (i : Nat) x, (xs.take j)[i]? = some x → xs[i]? = some x := fun i x hx => by
   rw [List.getElem?_take] at hx
   split at hx
   ·exact hx
   ·cases hx
  have := Dat.mk (Y := Y) (own := fun _ => False) (st := st) (c := c) (xs := xs.take j) (off := 0) (cap := cap) (op := op) (b := b) vs (fun q => q) q3 q4 (fun i x hx => by rw [Nat.zero_add]; exact q9 i x (hg i x hx)) (fun i x hx j u v hu hv => DatA.keep (Nat.le_refl _) (fun _ _ _ => rfl) (fun id _ ho => ho.elim) (q10 i x (hg i x hx) j u v hu hv)) (by omega)
  rw [hl] at this
  exact this
section
variable {o0 : Nat → Prop} {E : En} {nx : Nat} {m : T (Ct S)} {st : St}
mutual
theorem JgD (hI : Inv Y G o0 ro E nx m st) (hn : ∀ id, Zbw E m id → ¬ o0 id) : (u : U S) → (v : V) → (k : U S → Prop) → zen m u k → RelV Y (Dat Y (jf o0 E m) st) E u v → ∃ w, RelV Y (Dat Y o0 st) [] w v ∧ k w
 | .b x, v, k, h, hr => ⟨.b x, hr, h⟩
 | .kb x, v, k, h, hr => ⟨.b x, hr, h⟩
 | .i kd n, v, k, h, hr => ⟨.i kd n, hr, h⟩
 | .s l, v, k, h, hr => ⟨.s l, hr, h⟩
 | .pn, v, k, h, hr => ⟨.pn, hr, h⟩
 | .sn, v, k, h, hr => ⟨.sn, hr, h⟩
 | .fz, v, k, h, hr => ⟨.fz, hr, h⟩
 | .l c xs, v, k, h, hr => ⟨.l c xs, Dat.keep (Nat.le_refl _) (fun _ _ _ => rfl) (fun id _ ho => .inl ho) hr, h⟩
 | .o r, v, k, h, hr => by
  simp only [zen] at h
  split at h
  ·rename_i c xs hm
   exact ⟨.l c xs, ZeM hI hm hr (fun id ho => .inl ho) (fun id y e => hn id ⟨r, _, y, hm, e⟩), h⟩
  ·exact h.elim
 | .a us, v, k, h, hr => by
  obtain ⟨vs, rfl, hr⟩ := hr
  obtain ⟨ws, h1, h2⟩ := Jds hI hn us vs _ h hr
  exact ⟨.a ws, ⟨vs, rfl, h1⟩, h2⟩
 | .t us, v, k, h, hr => by
  obtain ⟨vs, rfl, hr⟩ := hr
  obtain ⟨ws, h1, h2⟩ := Jds hI hn us vs _ h hr
  exact ⟨.t ws, ⟨vs, rfl, h1⟩, h2⟩
 | .nz, v, k, h, hr => by simp [zen] at h
 | .dead, v, k, h, hr => by simp [zen] at h
 | .p _ _, v, k, h, hr => by simp [zen] at h
 | .g _ _, v, k, h, hr => by simp [zen] at h
 | .pe _ _ _ _, v, k, h, hr => by simp [zen] at h
 | .pd _ _ _ _, v, k, h, hr => by simp [zen] at h
 | .f _ _, v, k, h, hr => by simp [zen] at h
theorem Jds (hI : Inv Y G o0 ro E nx m st) (hn : ∀ id, Zbw E m id → ¬ o0 id) : (us : List (U S)) → (vs : List V) → (k : List (U S) → Prop) → Zgp m us k → RelL Y (Dat Y (jf o0 E m) st) E us vs → ∃ ws, RelL Y (Dat Y o0 st) [] ws vs ∧ k ws
 | [], vs, k, h, hr => ⟨[], hr, h⟩
 | u :: us, vs, k, h, hr => by
  obtain ⟨v, r, rfl, h1, h2⟩ := hr
  simp only [Zgp] at h
  obtain ⟨w, h3, h4⟩ := JgD hI hn u v _ h h1
  obtain ⟨ws, h5, h6⟩ := Jds hI hn us r _ h4 h2
  exact ⟨w :: ws, ⟨v, r, rfl, h3, h5⟩, h6⟩
end
end
theorem Zen {f : FuncId} {fn : Func} {c : Code} {nt : Nat} {res : List ResultVar} {vs : List V} {st : St} {e : Ex} {frV' : T V} {st' : St} {ws : List V} (hov : ov f vs st = none) (hf : P.funcs[f]? = some fn) (hb : fn.body = some c) (hnt : fn.ntmps = nt) (hres : fn.results.toList = res) (hl : vs.length ≤ nt)
  (he : e = .nrm ∨ e = .ret) (h : ∃ M, ∀ n, M ≤ n → evC P ov ro n nt c (jV vs 0 .e) st = some (e, frV', st')) (hr : jr P frV' st' res = some ws) : ∃ M, ∀ n, M ≤ n → evF P ov ro n f vs st = some (JaO ws, st') := by
 obtain ⟨M, h⟩ := h
 subst hnt hres
 refine ⟨M, fun n hn => ?_⟩
 have hl' : Nat.ble vs.length fn.ntmps = true := by rw [Nat.ble_eq]; exact hl
 unfold evF ZH
 rcases he with rfl | rfl <;> simp only [hov, hf, hb, hl', cond_true, h n hn, hr]
theorem zcy {own : Nat → Prop} {st : St} {E : En} : ∀ {rc : List (Option S.Cd)} {us : List (U S)} {vs : List V}, RelL Y (Dat Y own st) E us vs → RelL Y (Dat Y own st) E (zfV rc us) vs
 | [], us, vs, h => by cases us <;> exact h
 | o :: rc, [], vs, h => by cases o <;> exact h
 | o :: rc, u :: us, vs, h => by
  obtain ⟨v, r, rfl, h1, h2⟩ := h
  have h3 := zcy (rc := rc) h2
  cases o with
  | none => exact ⟨v, r, rfl, h1, h3⟩
  | some c =>
   cases u with
   | sn =>
    simp only [RelV] at h1
    subst h1
    exact ⟨.sn, r, rfl, .nil _, h3⟩
   | _ => exact ⟨v, r, rfl, h1, h3⟩
theorem zt {rc : List (Option S.Cd)} {f : FuncId} {fn : Func} {c : Code} {nt : Nat} {res : List ResultVar} {C : ji S} {L : Z5 S} (hov : ∀ vs st, ov f vs st = none) (hf : P.funcs[f]? = some fn) (hb : fn.body = some c) (hnt : fn.ntmps = nt) (hres : fn.results.toList = res)
  (hC : ∀ o0, Zj Y P G ov o0 ro C) (hL : Zcx Y P G ov ro L 0 nt c) : FnOK Y P G ov ro f (fnT Y P G C L nt c rc res) := by
 intro o0 us k h st vs h1 h2 h3 h4
 unfold fnT at h
 cases hl : Nat.ble us.length nt with
 | false => rw [hl] at h; exact h.elim
 | true =>
  rw [hl] at h
  rw [Nat.ble_eq] at hl
  have hown : ∀ id, jf o0 [] (T.e : T (Ct S)) id → o0 id := fun id ho => ho.elim (fun q => q) (fun ⟨r, ct, y, e, _⟩ => by rw [T.get_e] at e; cases e)
  have hI : Inv Y G o0 ro [] 0 (T.e : T (Ct S)) st := ⟨rfl, h1, fun r ct e => (by rw [T.get_e] at e; cases e), fun r ct e => (by rw [T.get_e] at e; cases e), h3, h2, fun r r' ct ct' id y y' e => (by rw [T.get_e] at e; cases e)⟩
  have hz : Zat Y G o0 ro ⟨[], .e, st⟩ (⟨frU us 0 .e, 0, .e, []⟩ : Z S) (jV vs 0 .e) st :=
   ⟨[], hI, (Step.refl o0 [] _ st).anyW, jds (RelL.mono (fun _ _ e => e) (fun c xs v hd => Dat.keep (Nat.le_refl _) (fun _ _ _ => rfl) (fun id _ ho => hown id ho) hd) us vs h4) (fun t u hu => by rw [T.get_e] at hu; cases hu)⟩
  obtain ⟨e, frV', st', hev, z', ⟨E, hI', hS', hf'⟩, hk⟩ := zc4 (hC o0) c (hL o0 ⟨[], .e, st⟩ (Nat.le_refl _)) _ _ h _ st hz
  have hnam : ∀ id, Zbw E z'.m id → ¬ o0 id := fun id hn ho => by
   rcases hS'.nam id hn with ⟨r, ct, y, e, _⟩ | q
   ·rw [T.get_e] at e; cases e
   ·have := (h3 id ho).2; exact absurd this (Nat.not_lt.2 q)
  have fin' : (Jc4 Y P G z'.fr z'.m res fun us => Zgp z'.m us fun us => k (jfd (zfV rc us))) → (e = .nrm ∨ e = .ret) → ∃ v st', (∃ M, ∀ n, M ≤ n → evF P ov ro n f vs st = some (v, st')) ∧ ∃ u, RelV Y (Dat Y o0 st') [] u v ∧ Ext st st' ∧ k u := by
   intro hk he
   obtain ⟨us', ws, g1, g2, g3⟩ := Jcx hI' hf' hk
   obtain ⟨xs, g4, g5⟩ := Jds hI' hnam us' ws _ g3 g2
   exact ⟨JaO ws, st', Zen (hov vs _) hf hb hnt hres (by rw [h4.length]; exact hl) he hev g1, jfd (zfV rc xs), Zds (zcy g4), ⟨hS'.nx, fun id hid => hS'.keep id hid (fun ⟨r, ct, y, e, _⟩ => by rw [T.get_e] at e; cases e), fun j j1 j2 => hS'.ver j j1 j2 (.inr fun id ⟨r, ct, y, e, _⟩ => (by rw [T.get_e] at e; cases e))⟩, g5⟩
  unfold fin at hk
  cases e with
  | nrm => exact fin' hk (.inl rfl)
  | ret => exact fin' hk (.inr rfl)
  | exit i => exact hk.elim
  | goto i => exact hk.elim
theorem jcJ {f : FuncId} {fn : Func} {c : Code} {nt bn : Nat} {res : List ResultVar} {C : ji S} {L : Z5 S} (hov : ∀ vs st, ov f vs st = none) (hf : P.funcs[f]? = some fn) (hb : fn.body = some c) (hnt : fn.ntmps = nt) (hres : fn.results.toList = res)
  (hC : ∀ o0, Zj Y P G ov o0 ro C) (hL : Zcx Y P G ov ro L bn nt c) : jeW Y P G ov ro f (inl Y P G C L bn nt c res) := by
 intro o0 us nx m k h E st vs hI hr
 unfold inl at h
 cases hl : (Nat.ble us.length nt && Nat.ble nx bn) with
 | false => rw [hl] at h; exact h.elim
 | true =>
  rw [hl] at h
  rw [Bool.and_eq_true, Nat.ble_eq, Nat.ble_eq] at hl
  have hz : Zat Y G o0 ro ⟨E, m, st⟩ (⟨frU us 0 .e, nx, m, []⟩ : Z S) (jV vs 0 .e) st :=
   ⟨E, hI, (Step.refl o0 E m st).anyW, jds hr (fun t u hu => by rw [T.get_e] at hu; cases hu)⟩
  obtain ⟨e, frV', st', hev, z', ⟨E', hI', hS', hf'⟩, hk⟩ := zc4 (hC o0) c (hL o0 ⟨E, m, st⟩ (by rw [hI.len]; exact hl.2)) _ _ h _ st hz
  have fin' : (Jc4 Y P G z'.fr z'.m res fun us => k (some (jfd us)) z'.nx z'.m z'.ks [0]) → (e = .nrm ∨ e = .ret) → ∃ v st', (∃ M, ∀ n, M ≤ n → evF P ov ro n f vs st = some (v, st')) ∧ ZbM Y G o0 ro E m st k (some v) st' := by
   intro hk he
   obtain ⟨us', ws, g1, g2, g3⟩ := Jcx hI' hf' hk
   exact ⟨JaO ws, st', Zen (hov vs _) hf hb hnt hres (by rw [hr.length]; exact hl.1) he hev g1, some (jfd us'), z'.nx, z'.m, z'.ks, [0], E', hI', hS', Zds g2, g3⟩
  unfold ZhG at hk
  cases e with
  | nrm => exact fin' hk (.inl rfl)
  | ret => exact fin' hk (.inr rfl)
  | exit i => exact hk.elim
  | goto i => exact hk.elim
theorem zgE {D : DD S} {E : En} {u : U S} {v : V} (h : RelV Y D E u v) : RelV Y D E (nb1 u) v := by
 cases u <;> first | exact h | (simp only [nb1, RelV] at h ⊢; exact h)
theorem JeM {D : DD S} {E : En} : ∀ {us : List (U S)} {vs : List V}, RelL Y D E us vs → RelL Y D E (us.map nb1) vs
 | [], _, h => h
 | u :: us, _, h => by
  obtain ⟨v, r, rfl, h1, h2⟩ := h
  exact ⟨v, r, rfl, zgE h1, JeM h2⟩
theorem Jgp {D : DD S} {E : En} {u : U S} {v : V} (h : RelV Y D E u v) : RelV Y D E (nb u) v := by
 cases u <;> first
  | exact h
  | (simp only [nb, RelV] at h ⊢; obtain ⟨vs, e, h2⟩ := h; exact ⟨vs, e, JeM h2⟩)
theorem zbS {o0 : Nat → Prop} {E : En} {nx : Nat} {m : T (Ct S)} {st : St} (hI : Inv Y G o0 ro E nx m st) : ∀ {us : List (U S)} {vs : List V} {k : List (U S) → Bool → Prop}, jen m us k → RelL Y (Dat Y (jf o0 E m) st) E us vs →
  ∃ us' b, k us' b ∧ RelL Y (Dat Y (fun _ => False) st) [] us' vs ∧ (b = false → RelL Y (Dat Y (jf o0 E m) st) [] us' vs)
 | [], vs, k, h, hr => ⟨[], false, h, hr, fun _ => hr⟩
 | u :: us, vs, k, h, hr => by
  obtain ⟨v, r, rfl, h1, h2⟩ := hr
  simp only [jen] at h
  split at h
  ·rename_i r0
   split at h
   ·rename_i c xs hm
    obtain ⟨us', b, g1, g2, _⟩ := zbS hI h h2
    exact ⟨.l c xs :: us', true, g1, ⟨v, r, rfl, ZeM hI hm h1 (fun _ q => q.elim) (fun _ _ _ q => q), g2⟩, fun q => by cases q⟩
   ·exact h.elim
  ·rename_i r0 j
   split at h
   ·rename_i c xs hm
    obtain ⟨us', b, g1, g2, _⟩ := zbS hI h h2
    exact ⟨.l c (xs.take j) :: us', true, g1, ⟨v, r, rfl, Zfq hI hm h1, g2⟩, fun q => by cases q⟩
   ·exact h.elim
  ·rename_i x
   obtain ⟨us', b, g1, g2, g3⟩ := zbS hI h h2
   exact ⟨.b x :: us', b, g1, ⟨v, r, rfl, h1, g2⟩, fun q => ⟨v, r, rfl, h1, g3 q⟩⟩
  ·cases hq : JgW 0 u with
   | false => rw [hq] at h; exact h.elim
   | true =>
    rw [hq] at h
    obtain ⟨us', b, g1, g2, g3⟩ := zbS hI h h2
    have hlow := RelV.low (n := 0) u v hq h1
    rw [List.take_zero] at hlow
    exact ⟨nb u :: us', b, g1, ⟨v, r, rfl, Jgp (RelV.mono (fun _ _ e => e) (fun c xs v hd => Dat.keep (Nat.le_refl _) (fun _ _ _ => rfl) (fun _ _ q => q.elim) hd) u v hlow), g2⟩, fun q => ⟨v, r, rfl, Jgp hlow, g3 q⟩⟩
theorem zc {pc : List (Option S.Cd)} {f : FuncId} {pt : List (U S) → (U S → Prop) → Prop} (hp : FnOK Y P G ov ro f pt) : jeW Y P G ov ro f (con pc pt) := by
 intro o0 us nx m k h E st vs hI hr
 obtain ⟨us', b, g1, g2, g3⟩ := zbS hI h hr
 have stp : ∀ {st' : St}, Ext st st' → Step o0 E m st E m st' [] [] := fun hx => ⟨Nat.le_refl _, fun _ _ _ => rfl, hx.nx, fun id hid _ => hx.keep id hid, fun _ h => .inl h, fun j h1 h2 _ => hx.ver j h1 h2⟩
 have inv : ∀ {st' : St}, Ext st st' → Inv Y G o0 ro E nx m st' := fun {st'} hx => ⟨hI.len, Nat.le_trans hI.ro hx.nx, hI.lt, fun r ct e => by
  have := Ent.keep (stp hx) (hI.ent r ct e) rfl (fun id _ _ hid => hx.keep id hid)
  rwa [JaR] at this, fun id ho => ⟨(hI.out id ho).1, Nat.lt_of_lt_of_le (hI.out id ho).2 hx.nx⟩, Jbb hI (stp hx), hI.inj⟩
 cases b with
 | false =>
  obtain ⟨v, st', hev, u, q1, q2, q3⟩ := hp (jf o0 E m) (zfV pc us') _ g1 st vs hI.ro hI.glob (fun id ho => ho.elim (hI.out id) (fun ⟨r, ct, y, e1, e2⟩ => ZeK hI e1 e2)) (zcy (g3 rfl))
  exact ⟨v, st', hev, some u, nx, m, [], [], E, inv q2, stp q2, RelV.mono (fun r x e => by simp at e) (fun _ _ _ hd => hd) u v q1, q3⟩
 | true =>
  obtain ⟨v, st', hev, u, q1, q2, q3⟩ := hp (fun _ => False) (zfV pc us') _ g1 st vs hI.ro hI.glob (fun _ q => q.elim) (zcy g2)
  cases hpl : zcI u with
  | false => dsimp only at q3; rw [hpl] at q3; exact q3.elim
  | true =>
   dsimp only at q3
   rw [hpl] at q3
   exact ⟨v, st', hev, some u, nx, m, [], [], E, inv q2, stp q2, (Zdg hpl q1).2, q3⟩
theorem zi {L : Z5 S} {bn nt : Nat} {c : Code} {l : List Code} (hl : JR c = l) (h : jfq Y P G ov ro L bn nt l) : Zcx Y P G ov ro L bn nt c := by
 subst hl
 exact h
theorem jS {A H : Type} {L : Z5 S} {C : ji S} {bn nt : Nat} {b : Code} (hC : ∀ o0, Zj Y P G ov o0 ro C) (hin : jfq Y P G ov ro L bn nt (JR b)) (l : LS Y A H) (hl : bn ≤ l.nx) (cz : (Ex → Z S → Prop) → Ex → Z S → Prop)
  (hcz : ∀ (o0 : Nat → Prop) (B : Bs S), B.E.length ≤ bn → ∀ K e z frV st, cz K e z → Zat Y G o0 ro B z frV st → ∃ z', Zat Y G o0 ro B z' frV st ∧ K e z') {F : Nat → A × H → (Ex → Z S → Prop) → Prop} (h0 : ∀ x K, F 0 x K → False)
  (hs : ∀ n x K, zJ (l.put x) (fun z => sC Y P G C L nt b z (rnd l cz (fun x' => F n x' K) K)) = F (n + 1) x K)
  (hL : ∀ z K, L b z K = l.get z (fun x => ∃ n, F n x K)) : ∀ (o0 : Nat → Prop) (B : Bs S), B.E.length ≤ bn → ∀ z K, L b z K → Sem Y P G ov o0 ro nt B (.loop b) z K :=
 fun o0 B hB _ _ h => zfq l (Nat.le_trans hB hl) cz (hcz o0 B hB) h0 (fun n x K hF => zc4 (hC o0) b (hin o0 B hB) _ _ (by have := (hs n x K).mpr hF; rwa [JcH] at this)) ((hL _ _).mp h)
theorem FnOK.weak {f : FuncId} {pt pt' : List (U S) → (U S → Prop) → Prop} (hp : FnOK Y P G ov ro f pt) (h : ∀ us k, pt' us k → pt us k) : FnOK Y P G ov ro f pt' := fun o0 us k hk => hp o0 us k (h us k hk)
end
end Go.Sx
namespace Go.Sx
open Go.Vm
section
variable {S : Sg} (Y : Sy S) (P : Program) (G : Gl) (ov : Ov) (ro : Nat)
def ZgY {A2 H2 : Type} {Y : Sy S} (le : LS Y A2 H2) (K : A2 × H2 → Prop) (e : Ex) (z : Z S) : Prop := match e with
 | .nrm => le.get z K
 | .ret => le.get z K
 | _ => False
def ShOK {A H A2 H2 : Type} (nt : Nat) (c : Code) (l : LS Y A H) (le : LS Y A2 H2) (Af : A × H → (A2 × H2 → Prop) → Prop) : Prop :=
 ∀ (o0 : Nat → Prop) (B : Bs S), B.E.length ≤ l.nx → ∀ x K, Af x K → Sem Y P G ov o0 ro nt B c (l.put x) (ZgY le K)
def shp {A H A2 H2 : Type} (nt : Nat) (l : LS Y A H) (le : LS Y A2 H2) (res : List ResultVar) (Af : A × H → (A2 × H2 → Prop) → Prop) : List (U S) → Nat → T (Ct S) → Kn S → Prop := fun us nx m k =>
 cond (Nat.ble us.length nt && Nat.ble nx l.nx) (l.get ⟨frU us 0 .e, nx, m, []⟩ fun x => Af x fun y => zJ (le.put y) fun z => Jc4 Y P G z.fr z.m res fun us => k (some (jfd us)) z.nx z.m z.ks [0]) False
variable {Y P G ov ro}
theorem Jf6 {A H A2 H2 : Type} {nt : Nat} {c : Code} {l : LS Y A H} {le : LS Y A2 H2} {C : ji S} {L : Z5 S} {F : A × H → (A2 × H2 → Prop) → Prop} (hC : ∀ o0, Zj Y P G ov o0 ro C) (hL : Zcx Y P G ov ro L l.nx nt c)
  (h : ∀ x K, zJ (l.put x) (fun z => sC Y P G C L nt c z (ZgY le K)) = F x K) : ShOK Y P G ov ro nt c l le F :=
 fun o0 B hB x K hF => zc4 (hC o0) c (hL o0 B hB) _ _ (by have := (h x K).mpr hF; rwa [JcH] at this)
theorem ShOK.weak {A H A2 H2 : Type} {nt : Nat} {c : Code} {l : LS Y A H} {le : LS Y A2 H2} {F F2 : A × H → (A2 × H2 → Prop) → Prop} (h : ShOK Y P G ov ro nt c l le F) (hw : ∀ x K, F2 x K → F x K) : ShOK Y P G ov ro nt c l le F2 :=
 fun o0 B hB x K hF => h o0 B hB x K (hw x K hF)
theorem Zdj {A H A2 H2 : Type} {f : FuncId} {fn : Func} {c : Code} {nt : Nat} {res : List ResultVar} {l : LS Y A H} {le : LS Y A2 H2} {Af : A × H → (A2 × H2 → Prop) → Prop} (hov : ∀ vs st, ov f vs st = none) (hf : P.funcs[f]? = some fn) (hb : fn.body = some c) (hnt : fn.ntmps = nt) (hres : fn.results.toList = res)
  (hle : l.nx ≤ le.nx) (h : ShOK Y P G ov ro nt c l le Af) : jeW Y P G ov ro f (shp Y P G nt l le res Af) := by
 intro o0 us nx m k hk E st vs hI hr
 unfold shp at hk
 cases hl : (Nat.ble us.length nt && Nat.ble nx l.nx) with
 | false => rw [hl] at hk; exact hk.elim
 | true =>
  rw [hl, cond_true] at hk
  rw [Bool.and_eq_true, Nat.ble_eq, Nat.ble_eq] at hl
  have hz : Zat Y G o0 ro ⟨E, m, st⟩ (⟨frU us 0 .e, nx, m, []⟩ : Z S) (jV vs 0 .e) st :=
   ⟨E, hI, (Step.refl o0 E m st).anyW, jds hr (fun t u hu => by rw [T.get_e] at hu; cases hu)⟩
  have hB : E.length ≤ l.nx := by rw [hI.len]; exact hl.2
  obtain ⟨x, h1, h2⟩ := l.ok (B := ⟨E, m, st⟩) hB hk hz
  obtain ⟨e, frV', st', hev, z', hz', hfin⟩ := h o0 ⟨E, m, st⟩ hB x _ h1 _ st h2
  have fin' : le.get z' (fun y => zJ (le.put y) fun z => Jc4 Y P G z.fr z.m res fun us => k (some (jfd us)) z.nx z.m z.ks [0]) → (e = .nrm ∨ e = .ret) → ∃ v st', (∃ M, ∀ n, M ≤ n → evF P ov ro n f vs st = some (v, st')) ∧ ZbM Y G o0 ro E m st k (some v) st' := by
   intro hg he
   obtain ⟨y, q1, E', hI', hS', hf'⟩ := le.ok (B := ⟨E, m, st⟩) (Nat.le_trans hB hle) hg hz'
   rw [JcH] at q1
   obtain ⟨us', ws, g1, g2, g3⟩ := Jcx hI' hf' q1
   exact ⟨JaO ws, st', Zen (hov vs _) hf hb hnt hres (by rw [hr.length]; exact hl.1) he hev g1, some (jfd us'), (le.put y).nx, (le.put y).m, (le.put y).ks, [0], E', hI', hS', Zds g2, g3⟩
  cases e with
  | nrm => exact fin' hfin (.inl rfl)
  | ret => exact fin' hfin (.inr rfl)
  | exit i => exact hfin.elim
  | goto i => exact hfin.elim
end
end Go.Sx
namespace Go.Sx
open Go.Vm
section
variable {S : Sg}
mutual
theorem RelV.swap {Y Y' : Sy S} {D D' : DD S} {E : En} (hw : ∀ c, Y'.wid c = Y.wid c) (hD : ∀ c xs v, D c xs v → D' c xs v) :
  (u : U S) → (v : V) → RelV Y D E u v → RelV Y' D' E u v
 | .b x, v, h => h
 | .kb x, v, h => h
 | .i k n, v, h => h
 | .s l, v, h => h
 | .pn, v, h => h
 | .sn, v, h => h
 | .fz, v, h => h
 | .nz, v, h => h
 | .dead, v, h => trivial
 | .g g off, v, h => h
 | .l c xs, v, h => hD c xs v h
 | .pd c xs i off, v, h => by
  obtain ⟨h0, id, o, cap, op, h1, h2⟩ := h
  exact ⟨h0, id, o, cap, op, hD _ _ _ h1, by rw [hw]; exact h2⟩
 | .p r off, v, h => by
  obtain ⟨id, x, h1, h2⟩ := h
  exact ⟨id, x, h1, h2⟩
 | .o r, v, h => by
  obtain ⟨x, h1, h2⟩ := h
  exact ⟨x, h1, h2⟩
 | .pe r w i off, v, h => by
  obtain ⟨id, x, h1, h2⟩ := h
  exact ⟨id, x, h1, h2⟩
 | .v r w i, v, h => by
  obtain ⟨id, x, h1, h2⟩ := h
  exact ⟨id, x, h1, h2⟩
 | .vh r j, v, h => by
  obtain ⟨id, x, h1, h2⟩ := h
  exact ⟨id, x, h1, h2⟩
 | .f fn caps, v, h => by
  obtain ⟨vs, h1, h2⟩ := h
  exact ⟨vs, h1, RelL.swap hw hD caps vs h2⟩
 | .a cs, v, h => by
  obtain ⟨vs, h1, h2⟩ := h
  exact ⟨vs, h1, RelL.swap hw hD cs vs h2⟩
 | .t us, v, h => by
  obtain ⟨vs, h1, h2⟩ := h
  exact ⟨vs, h1, RelL.swap hw hD us vs h2⟩
theorem RelL.swap {Y Y' : Sy S} {D D' : DD S} {E : En} (hw : ∀ c, Y'.wid c = Y.wid c) (hD : ∀ c xs v, D c xs v → D' c xs v) :
  (us : List (U S)) → (vs : List V) → RelL Y D E us vs → RelL Y' D' E us vs
 | [], _, h => h
 | u :: us, vs, h => by
  obtain ⟨v, r, h1, h2, h3⟩ := h
  exact ⟨v, r, h1, RelV.swap hw hD u v h2, RelL.swap hw hD us r h3⟩
end
mutual
theorem Dat.swap {Y Y' : Sy S} (hw : ∀ c, Y'.wid c = Y.wid c) (hc : ∀ c, Y'.cells c = Y.cells c) {own : Nat → Prop} {st : St} {c : S.Cd} {xs : List (S.Den c)} {v : V} :
  Dat Y own st c xs v → Dat Y' own st c xs v
 | .nil c => .nil c
 | .ne c id o o2 => .ne c id o o2
 | .ze c a => .ze c a
 | .mk vs h1 h2 h3 h4 h5 h6 => .mk vs h1 h2 h3 (fun i x hx => by rw [hw]; exact h4 i x hx) (fun i x hx j u v hu hv => DatA.swap hw hc (h5 i x hx j u v (by rw [← hc]; exact hu) hv)) h6
theorem DatA.swap {Y Y' : Sy S} (hw : ∀ c, Y'.wid c = Y.wid c) (hc : ∀ c, Y'.cells c = Y.cells c) {own : Nat → Prop} {st : St} {u : U S} {v : V} :
  DatA Y own st u v → DatA Y' own st u v
 | .b x => .b x
 | .i k n => .i k n
 | .s l => .s l
 | .sn => .sn
 | .l h => .l (Dat.swap hw hc h)
end
theorem FnOK.swap {Y Y' : Sy S} {P : Program} {G : Gl} {ov : Ov} {ro : Nat} {f : FuncId} {pt : List (U S) → (U S → Prop) → Prop} (hw : ∀ c, Y'.wid c = Y.wid c) (hc : ∀ c, Y'.cells c = Y.cells c) (h : FnOK Y P G ov ro f pt) : FnOK Y' P G ov ro f pt := by
 intro o0 us k hk st vs h1 h2 h3 hr
 obtain ⟨v, st', hM, u, hu, he, hk⟩ := h o0 us k hk st vs h1 h2 h3 (RelL.swap (Y := Y') (Y' := Y) (D := Dat Y' o0 st) (D' := Dat Y o0 st) (fun c => (hw c).symm) (fun _ _ _ q => Dat.swap (Y := Y') (Y' := Y) (fun c => (hw c).symm) (fun c => (hc c).symm) q) us vs hr)
 exact ⟨v, st', hM, u, RelV.swap (Y := Y) (Y' := Y') (D := Dat Y o0 st') (D' := Dat Y' o0 st') hw (fun _ _ _ q => Dat.swap (Y := Y) (Y' := Y') hw hc q) u v hu, he, hk⟩
def Sy.cv (Y : Sy S) : Sy S := { Y with cvb := true }
theorem FnOK.cv {Y : Sy S} {P : Program} {G : Gl} {ov : Ov} {ro : Nat} {f : FuncId} {pt : List (U S) → (U S → Prop) → Prop} (h : FnOK Y P G ov ro f pt) : FnOK Y.cv P G ov ro f pt := FnOK.swap (Y := Y) (Y' := Y.cv) (fun _ => rfl) (fun _ => rfl) h
end
end Go.Sx
