/-
  Elements in memory, cell by cell; what append, literals and conversions do. Definitions and plain lemmas. Nothing is claimed here.
-/
import Derived.Test.YtnfddmjbfkfnhaaGreatDoorSf
namespace Go.Sx
open Go.Vm

section
variable {S : Sg}
/-- Buffers in a value become data; which ones. -/
def frzL (m : T (Ct S)) : List (U S) → (List (U S) → List Nat → Prop) → Prop
  | [], k => k [] []
  | u :: us, k => match u with
    | .o r => match m.get r with
      | some (.buf c xs) => frzL m us fun us' ks => k (.l c xs :: us') (r :: ks)
      | _ => frzL m us fun us' ks => k (.o r :: us') ks
    | u => frzL m us fun us' ks => k (u :: us') ks
def frzU (m : T (Ct S)) (u : U S) (k : U S → List Nat → Prop) : Prop := match u with
  | .a us => frzL m us fun us' ks => k (.a us') ks
  | .o r => match m.get r with
    | some (.buf c xs) => k (.l c xs) [r]
    | _ => k (.o r) []
  | u => k u []
def frzP (m : T (Ct S)) : List (Nat × U S) → (List (Nat × U S) → List Nat → Prop) → Prop
  | [], k => k [] []
  | (i, u) :: us, k => frzU m u fun u' ks => frzP m us fun us' ks' => k ((i, u') :: us') (ks ++ ks')
def updN : List Nat → T (Ct S) → T (Ct S)
  | [], m => m
  | r :: ks, m => (updN ks m).upd r none
/-- These names name nothing any more. -/
def dropN (ks : List Nat) (m : T (Ct S)) : T (Ct S) := match ks with
  | [] => m
  | r :: ks => updN (r :: ks) (Tmap (killCt (r :: ks)) m)

end

section
variable {S : Sg} (Y : Sy S) (P : Program)

def atomU : U S → Bool
  | .a _ | .t _ | .dead | .v _ _ _ | .vh _ _ | .vc _ _ _ => false
  | _ => true
def allU (us : List (U S)) : Bool := match us with
  | [] => true
  | u :: us => atomU u && allU us
def nrm : U S → U S
  | .kb x => .b x
  | .e0 c => .l c []
  | u => u
def nrms : List (U S) → List (U S)
  | [] => []
  | u :: us => nrm u :: nrms us

/-- Nil, where a slice of these is wanted. -/
def rnil : List (Option S.Cd) → List (U S) → List (U S)
  | some c :: cs, .sn :: us => .l c [] :: rnil cs us
  | _ :: cs, u :: us => u :: rnil cs us
  | [], us => us
  | _ :: _, [] => []

def nrml (lk : List (Option S.Cd)) (us : List (U S)) : List (U S) := rnil lk (nrms us)
/-- Row by row. -/
def nrmr (lk : List (Option S.Cd)) (n : Nat) : Nat → List (U S) → List (U S)
  | 0, us => nrms us
  | j + 1, us => nrml lk (us.take n) ++ nrmr lk n j (us.drop n)

/-- The elements of what is appended. -/
def sElems (m : T (Ct S)) (c : S.Cd) (x : U S) (k : List (S.Den c) → Prop) : Prop := match x with
  | .s l => Y.ofB c l k
  | .sn => k []
  | .e0 _ => k []
  | .l c' ys => Y.cast c' c ys k
  | .o r => match m.get r with
    | some (.buf c' ys) => Y.cast c' c ys k
    | some (.row c' ys) => Y.cast c' c ys k
    | _ => False
  | _ => False
/-- Rows of cells are elements. -/
def sRows (c : S.Cd) (n : Nat) (us : List (U S)) (k : List (S.Den c) → Prop) : Nat → Prop
  | 0 => k []
  | j + 1 => Y.dec c (us.take n) fun x => sRows c n (us.drop n) (fun xs => k (x :: xs)) j

def repeatU (z : List (U S)) : Nat → List (U S)
  | 0 => []
  | n + 1 => z ++ repeatU z n

/-- What an operation on memory comes to: its value, how many names, what they hold, which names are given anew, which are written. -/
abbrev Kn (S : Sg) := Option (U S) → Nat → T (Ct S) → List Nat → List Nat → Prop

def sNew (nx : Nat) (m : T (Ct S)) (us : List (U S)) (k : Kn S) : Prop := cond (allU us) (k (some (.p nx 0)) (nx + 1) (m.upd nx (some (.cells us))) [] []) False
def sBuf (nx : Nat) (m : T (Ct S)) (c : S.Cd) (xs : List (S.Den c)) (k : Kn S) : Prop := k (some (.o nx)) (nx + 1) (m.upd nx (some (.buf c xs))) [] []

def sStore (nx : Nat) (m : T (Ct S)) (t : TypeId) (x v : U S) (k : Kn S) : Prop := match sizeB P t with
  | some n => cond (solid v && (allU (cellsU v) && Nat.beq (cellsU v).length n)) (match x with
    | .p r off => match m.get r with
      | some (.cells us) => cond (Nat.ble (off + n) us.length) (k none nx (m.upd r (some (.cells (setAtU us off (cellsU v))))) [] [r]) False
      | _ => False
    | .pe r w i off => match m.get r with
      | some (.buf c xs) => cond (Nat.beq w (Y.wid c) && Nat.ble (off + n) (Y.wid c)) (i < xs.length ∧ Y.dec c (setAtU (Y.cells c (xs.getD i (Y.dflt c))) off (nrml ((Y.lk c).drop off) (cellsU v))) fun y => k none nx (m.upd r (some (.buf c (xs.set i y)))) [] [r]) False
      | _ => False
    | _ => False) False
  | none => False

def sBuildSlice (nx : Nat) (m : T (Ct S)) (t : TypeId) (len : Nat) (parts : List (Nat × U S)) (k : Kn S) : Prop := match P.underlying t with
  | some (.slice e) => match sizeB P e, zeroU (S := S) P e, Y.code e with
    | some n, some z, some c => cond (Nat.ble (len * n) 16777216 && Nat.blt 0 n && Nat.beq (cellsU z).length n && solid z && Nat.beq n (Y.wid c))
      (onO (sFill (fun i => some (i * n, n)) (repeatU (cellsU z) len) parts) fun us => sRows Y c n (nrmr (Y.lk c) n len us) (fun xs => cond (Y.opn c) (cond (Nat.ble len 2) (k (some (.l c xs)) nx m [] []) (k (some (.o nx)) (nx + 1) (m.upd nx (some (.row c xs))) [] [])) (sBuf nx m c xs k)) len) False
    | _, _, _ => False
  | _ => False

def sMakeSlice (nx : Nat) (m : T (Ct S)) (t : TypeId) (len cap : Int) (k : Kn S) : Prop := match P.underlying t with
  | some (.slice e) => match P.info? e, zeroU (S := S) P e, Y.code e with
    | some ti, some z, some c => cond (Nat.blt 0 ti.size && Nat.beq (cellsU z).length ti.size && solid z && Nat.beq ti.size (Y.wid c) && !(Y.opn c))
      ((0 ≤ len ∧ len ≤ cap ∧ (ti.bytes : Int) * cap ≤ 1099511627776 ∧ cap ≤ 1099511627776) ∧ Y.dec c (nrml (Y.lk c) (cellsU z)) fun x => sBuf nx m c (List.replicate len.toNat x) k) False
    | _, _, _ => False
  | _ => False

def sAppend (nx : Nat) (m : T (Ct S)) (t : TypeId) (s x : U S) (k : Kn S) : Prop := match P.underlying t with
  | some (.slice e) => match P.info? e, Y.code e with
    | some ti, some c => cond (Nat.beq ti.size (Y.wid c) && Nat.blt 0 ti.bytes && zeroFits P e ti.size) (sElems Y m c x fun ys => match s with
      | .sn => ys.length * ti.bytes ≤ 1099511627776 ∧ sBuf nx m c ys k
      | .e0 _ => ys.length * ti.bytes ≤ 1099511627776 ∧ sBuf nx m c ys k
      | .o r => match m.get r with
        | some (.buf c' xs) => cond (Y.cvb && !(Y.opn c')) False (Y.cast c' c xs fun xs => (xs.length + ys.length) * ti.bytes ≤ 1099511627776 ∧ k (some (.o r)) nx ((Tmap (killCt [r]) m).upd r (some (.buf c (xs ++ ys)))) [r] [r])
        | _ => False
      | _ => False) False
    | _, _ => False
  | _ => False

def sConvert (nx : Nat) (m : T (Ct S)) (src dst : TypeId) (x : U S) (k : Kn S) : Prop := match P.underlying src, P.underlying dst, x with
  | some _, some (.int kd), .i _ n => sArith kd n fun u => k (some u) nx m [] []
  | some _, some .string, .s l => k (some (.s l)) nx m [] []
  | some _, some (.slice e), .s l => match P.underlying e, Y.code e with
    | some (.int .u8), some c => l.length ≤ 1099511627776 ∧ Y.ofB c l fun xs => cond (Y.cvb && !(Y.opn c)) (sBuf nx m c xs k) (k (some (.l c xs)) nx m [] [])
    | _, _ => False
  | some (.slice e), some .string, .sn => match P.underlying e with
    | some (.int .u8) => k (some (.s [])) nx m [] []
    | _ => False
  | some (.slice e), some .string, .l c xs => match P.underlying e with
    | some (.int .u8) => Y.byt c xs fun bs => k (some (.s bs)) nx m [] []
    | _ => False
  | some (.slice e), some .string, .o r => match P.underlying e, m.get r with
    | some (.int .u8), some (.buf c xs) => Y.byt c xs fun bs => k (some (.s bs)) nx m [] []
    | _, _ => False
  | some (.slice e), some .string, .v r w i => match P.underlying e, m.get r with
    | some (.int .u8), some (.buf c xs) => cond (Nat.beq w (Y.wid c)) (Y.byt c (xs.drop i) fun bs => k (some (.s bs)) nx m [] []) False
    | _, _ => False
  | _, _, _ => False

/-- The bytes of a text that is known, as a slice. -/
def sConv2 (nx : Nat) (m : T (Ct S)) (src dst : TypeId) (x : U S) (k : Kn S) : Prop := match P.underlying src, P.underlying dst, x with
  | some (.slice e), some (.slice _), .o r => match P.underlying e, m.get r with
    | some (.int .u8), some (.row c _) => cond (decide (src = dst) && Nat.beq (Y.wid c) 1) (k (some (.o r)) nx m [] []) False
    | _, _ => False
  | _, _, x => sConvert Y P nx m src dst x k
/-- A named buffer is cut at its end, and goes on so. -/
def sCut (nx : Nat) (m : T (Ct S)) (t : TypeId) (r : Nat) (a : Int) (k : Kn S) : Prop := match P.underlying t with
  | some (.slice e) => match sizeB P e, m.get r with
    | some n, some (.buf c xs) => cond (Nat.beq n (Y.wid c) && !(Y.opn c)) ((0 ≤ a ∧ a ≤ (xs.length : Int)) ∧ k (some (.o r)) nx ((Tmap (killCt [r]) m).upd r (some (.buf c (xs.take a.toNat)))) [r] [r]) False
    | _, _ => False
  | _ => False
/-- An operation on memory. -/
def sE (fr : T (U S)) (nx : Nat) (m : T (Ct S)) (o : Op) (k : Kn S) : Prop := match o with
  | .store t x v => sOpd fr x fun x => sOpd fr v fun v => match x with
    | .pe r w i off => frzU m v fun v ks => sStore Y P nx (dropN ks m) t (kill ks (.pe r w i off)) v fun u nx m ks2 wr => k u nx m (ks2 ++ ks) wr
    | x => sStore Y P nx m t x v k
  | .alloc t => match zeroU (S := S) P t, sizeB P t with
    | some z, some _ => cond (solid z) (sNew nx m (cellsU z) k) False
    | _, _ => False
  | .box t x => match sizeB P t with
    | some _ => sOpd fr x fun z => cond (solid z) (sNew nx m (cellsU z) k) False
    | none => False
  | .buildSlice t len ps => sParts fr ps.toList fun us => frzP m us fun us ks => sBuildSlice Y P nx (dropN ks m) t len us fun u nx m ks2 wr => k u nx m (ks2 ++ ks) wr
  | .makeSlice t l c => sOpd fr l fun l => sOpd fr c fun c => match l, c with
    | .i _ l, .i _ c => sMakeSlice Y P nx m t l c k
    | _, _ => False
  | .convert s d x => sOpd fr x fun x => sConv2 Y P nx m s d x k
  | .call c => match c.callee, c.args.toList, c.argTypes.toList with
    | .builtin .append, [s, x], [t, u] => match P.underlying u with
      | some (.int _) => False
      | some _ => sOpd fr s fun s => sOpd fr x fun x => sAppend Y P nx m t s x k
      | none => False
    | _, _, _ => False
  | _ => False
end

section
variable {S : Sg} {Y : Sy S} {P : Program} {own : Nat → Prop} {st : St} {E : En} {o0 : Nat → Prop}

/-- Elements, cell by cell. -/
def Cel (Y : Sy S) (c : S.Cd) (xs : List (S.Den c)) (get : Nat → Option V) (DA : U S → V → Prop) : Prop :=
  ∀ (i : Nat) x, xs[i]? = some x → ∀ (j : Nat) u, (Y.cells c x)[j]? = some u → ∃ v, get (i * Y.wid c + j) = some v ∧ DA u v

theorem cel_of_rows {c : S.Cd} {xs : List (S.Den c)} {b : Blk} {off : Nat} {vs : Nat → List V} {DA : U S → V → Prop} (h : ∀ (i : Nat) x, xs[i]? = some x → b.row (Y.wid c) (off + i * Y.wid c) = some (vs i)) (h' : ∀ (i : Nat) x, xs[i]? = some x → ∀ (j : Nat) u v, (Y.cells c x)[j]? = some u → (vs i)[j]? = some v → DA u v) :
    Cel Y c xs (fun k => b.get (off + k)) DA := by
  intro i x hx j u hu
  obtain ⟨s1, s2⟩ := Blk.row_spec _ _ _ (h i x hx)
  have hj : j < (vs i).length := by rw [s1, ← Y.len c x]; exact (List.getElem?_eq_some_iff.1 hu).1
  have e := List.getElem?_eq_getElem hj
  exact ⟨_, by dsimp only; rw [← Nat.add_assoc]; exact s2 j _ e, h' i x hx j u _ hu e⟩

theorem rows_of_cel {c : S.Cd} {xs : List (S.Den c)} {b : Blk} {off : Nat} {DA : U S → V → Prop} (h : Cel Y c xs (fun k => b.get (off + k)) DA) :
    ∃ vs : Nat → List V, (∀ (i : Nat) x, xs[i]? = some x → b.row (Y.wid c) (off + i * Y.wid c) = some (vs i)) ∧ ∀ (i : Nat) x, xs[i]? = some x → ∀ (j : Nat) u v, (Y.cells c x)[j]? = some u → (vs i)[j]? = some v → DA u v := by
  refine ⟨fun i => (List.range (Y.wid c)).map fun j => (b.get (off + (i * Y.wid c + j))).getD (.b false), fun i x hx => ?_, fun i x hx j u v hu hv => ?_⟩
  · have := Blk.row_ok (b := b) ((List.range (Y.wid c)).map fun j => (b.get (off + (i * Y.wid c + j))).getD (.b false)) (off + i * Y.wid c) (fun j hj => by
      have hj' : j < Y.wid c := by simpa using hj
      have hu : (Y.cells c x)[j]? = some ((Y.cells c x)[j]'(by rw [Y.len]; exact hj')) := List.getElem?_eq_getElem _
      obtain ⟨v, e1, _⟩ := h i x hx j _ hu
      dsimp only at e1
      rw [List.getElem?_map, List.getElem?_range hj', Option.map_some, Nat.add_assoc, e1, Option.getD_some])
    simpa using this
  · have hj' : j < Y.wid c := by rw [← Y.len c x]; exact (List.getElem?_eq_some_iff.1 hu).1
    obtain ⟨w, e1, e2⟩ := h i x hx j u hu
    dsimp only at hv e1
    rw [List.getElem?_map, List.getElem?_range hj', Option.map_some, e1, Option.getD_some] at hv
    cases hv
    exact e2

theorem nrm_rel {u : U S} {v : V} (h : RelV Y (Dat Y own st) E u v) : RelV Y (Dat Y own st) E (nrm u) v := by cases u <;> first | exact h | exact noRoom_dat h
theorem nrms_rel : ∀ {us : List (U S)} {vs : List V}, RelL Y (Dat Y own st) E us vs → RelL Y (Dat Y own st) E (nrms us) vs
  | [], _, h => h
  | u :: us, vs, h => by
    simp only [RelL] at h
    obtain ⟨v, r, rfl, h1, h2⟩ := h
    exact ⟨v, r, rfl, nrm_rel h1, nrms_rel h2⟩
theorem nrms_len : ∀ us : List (U S), (nrms us).length = us.length
  | [] => rfl
  | u :: us => by simp [nrms, nrms_len us]

theorem rnil_rel {own : Nat → Prop} {st : St} {E : En} : ∀ {rc : List (Option S.Cd)} {us : List (U S)} {vs : List V}, RelL Y (Dat Y own st) E us vs → RelL Y (Dat Y own st) E (rnil rc us) vs
  | [], us, vs, h => by cases us <;> exact h
  | o :: rc, [], vs, h => by cases o <;> exact h
  | o :: rc, u :: us, vs, h => by
    obtain ⟨v, r, rfl, h1, h2⟩ := h
    have h3 := rnil_rel (rc := rc) h2
    cases o with
    | none => exact ⟨v, r, rfl, h1, h3⟩
    | some c =>
      cases u with
      | sn =>
        simp only [RelV] at h1
        subst h1
        exact ⟨.sn, r, rfl, .nil _, h3⟩
      | _ => exact ⟨v, r, rfl, h1, h3⟩

theorem rnil_len : ∀ (lk : List (Option S.Cd)) (us : List (U S)), (rnil lk us).length = us.length
  | [], us => by cases us <;> rfl
  | o :: lk, [] => by cases o <;> rfl
  | o :: lk, u :: us => by
    cases o with
    | none => simp [rnil, rnil_len lk us]
    | some c => cases u <;> simp [rnil, rnil_len lk us]
theorem nrml_len (lk : List (Option S.Cd)) (us : List (U S)) : (nrml lk us).length = us.length := by rw [nrml, rnil_len, nrms_len]
theorem nrml_rel {lk : List (Option S.Cd)} {us : List (U S)} {vs : List V} (h : RelL Y (Dat Y own st) E us vs) : RelL Y (Dat Y own st) E (nrml lk us) vs := rnil_rel (nrms_rel h)
theorem nrmr_len (lk : List (Option S.Cd)) (n : Nat) : ∀ (j : Nat) (us : List (U S)), (nrmr lk n j us).length = us.length
  | 0, us => nrms_len us
  | j + 1, us => by rw [nrmr, List.length_append, nrml_len, nrmr_len lk n j, ← List.length_append, List.take_append_drop]
theorem nrmr_rel {lk : List (Option S.Cd)} {n : Nat} : ∀ {j : Nat} {us : List (U S)} {vs : List V}, RelL Y (Dat Y own st) E us vs → RelL Y (Dat Y own st) E (nrmr lk n j us) vs
  | 0, us, vs, h => nrms_rel h
  | j + 1, us, vs, h => by
    have := (nrml_rel (lk := lk) (h.take n)).append (nrmr_rel (lk := lk) (n := n) (j := j) (h.drop n))
    rw [List.take_append_drop] at this
    exact this

theorem atomU_ok {u : U S} {v : V} (ha : atomU u = true) (h : RelV Y (Dat Y own st) E u v) : v.atom = true := by
  cases u with
  | dead => cases ha
  | a _ => cases ha
  | t _ => cases ha
  | v _ _ _ => cases ha
  | vh _ _ => cases ha
  | o r => simp only [RelV] at h; obtain ⟨_, _, q⟩ := h; exact q
  | l c xs => simp only [RelV] at h; cases h <;> rfl
  | e0 c => simp only [RelV] at h; cases v <;> first | rfl | (simp only [noRoom, Bool.false_eq_true] at h)
  | _ =>
    simp only [RelV] at h
    first
    | (subst h; rfl)
    | (obtain ⟨_, _, _, rfl⟩ := h; rfl)
    | (obtain ⟨_, rfl⟩ := h; rfl)
    | (obtain ⟨_, rfl, _⟩ := h; rfl)
    | (obtain ⟨_, _, _, _, _, _, rfl⟩ := h; rfl)
theorem allU_ok : ∀ {us : List (U S)} {vs : List V}, allU us = true → RelL Y (Dat Y own st) E us vs → ∀ v ∈ vs, v.atom = true
  | [], vs, _, h => by simp only [RelL] at h; subst h; simp
  | u :: us, vs, ha, h => by
    simp only [RelL] at h
    obtain ⟨v, r, rfl, h1, h2⟩ := h
    simp only [allU, Bool.and_eq_true] at ha
    intro w hw
    rcases List.mem_cons.1 hw with rfl | hw
    · exact atomU_ok ha.1 h1
    · exact allU_ok ha.2 h2 w hw
theorem flat_atom {u : U S} (h : u.flat = true) : atomU u = true := by cases u <;> first | rfl | cases h

theorem repeatU_rel {D : DD S} {us : List (U S)} {vs : List V} (h : RelL Y D E us vs) : ∀ n, RelL Y D E (repeatU us n) (repeatL vs n)
  | 0 => rfl
  | n + 1 => h.append (repeatU_rel h n)
theorem repeatU_len (us : List (U S)) : ∀ n, (repeatU us n).length = n * us.length
  | 0 => by simp [repeatU]
  | n + 1 => by simp [repeatU, repeatU_len us n, Nat.succ_mul]; omega

/-- Rows of cells that are elements. -/
theorem sRows_ok {c : S.Cd} : ∀ {j : Nat} {us : List (U S)} {k : List (S.Den c) → Prop}, sRows Y c (Y.wid c) us k j → us.length = j * Y.wid c → ∃ xs, xs.length = j ∧ k xs ∧ ∀ (i : Nat) x, xs[i]? = some x → ∀ (q : Nat) u, (Y.cells c x)[q]? = some u → us[i * Y.wid c + q]? = some u
  | 0, us, k, h, hl => ⟨[], rfl, h, fun i x hx => by simp at hx⟩
  | j + 1, us, k, h, hl => by
    simp only [sRows] at h
    obtain ⟨x, e1, h2⟩ := Y.dec_ok _ _ _ h
    obtain ⟨xs, e2, h3, h4⟩ := sRows_ok h2 (by rw [List.length_drop, hl, Nat.succ_mul]; omega)
    refine ⟨x :: xs, by simp [e2], h3, fun i y hy q u hu => ?_⟩
    cases i with
    | zero =>
      simp only [List.getElem?_cons_zero, Option.some.injEq] at hy
      subst hy
      rw [← e1] at hu
      rw [List.getElem?_take] at hu
      split at hu
      · rw [Nat.zero_mul, Nat.zero_add]; exact hu
      · cases hu
    | succ i =>
      simp only [List.getElem?_cons_succ] at hy
      have := h4 i y hy q u hu
      rw [List.getElem?_drop] at this
      rw [Nat.succ_mul, ← this]
      congr 1
      omega

/-- What is appended: its elements. -/
theorem sElems_ok {G : Gl} {ro nx : Nat} {m : T (Ct S)} (hI : Inv Y G o0 ro E nx m st) {c : S.Cd} {x : U S} {v : V} {k : List (S.Den c) → Prop} (h : sElems Y m c x k) (hx : RelV Y (Dat Y (ownOf o0 E m) st) E x v) :
    ∃ ys new, k ys ∧ vlen v = some ys.length ∧ vfirst st (Y.wid c) ys.length v = some new ∧ new.length = ys.length * Y.wid c ∧ Cel Y c ys (fun k => new[k]?) (DatA Y (ownOf o0 E m) st) ∧ ∀ v ∈ new, v.atom = true := by
  -- elements of a block
  have blk : ∀ (ys : List (S.Den c)) (id off cap : Nat) (op : Bool) (b : Blk), st.hp.get id = some b → Cel Y c ys (fun k => b.get (off + k)) (DatA Y (ownOf o0 E m) st) → ∃ new, vlen (.sl id off ys.length cap op) = some ys.length ∧ vfirst st (Y.wid c) ys.length (.sl id off ys.length cap op) = some new ∧ new.length = ys.length * Y.wid c ∧ Cel Y c ys (fun k => new[k]?) (DatA Y (ownOf o0 E m) st) ∧ ∀ v ∈ new, v.atom = true := by
    intro ys id off cap op b hb hc
    have hw := Y.wpos c
    have cell : ∀ k, k < ys.length * Y.wid c → ∃ v, b.get (off + k) = some v ∧ v.atom = true := by
      intro k hk
      have h1 : k / Y.wid c < ys.length := Nat.div_lt_of_lt_mul (by rw [Nat.mul_comm]; exact hk)
      have h2 : k % Y.wid c < Y.wid c := Nat.mod_lt _ hw
      have hx := List.getElem?_eq_getElem h1
      have hu : (Y.cells c ys[k / Y.wid c])[k % Y.wid c]? = some _ := List.getElem?_eq_getElem (by rw [Y.len]; exact h2)
      obtain ⟨v, e1, e2⟩ := hc _ _ hx _ _ hu
      dsimp only at e1
      rw [Nat.div_add_mod' ] at e1
      exact ⟨v, e1, atomU_ok (E := E) (flat_atom (Y.flat _ _ _ (List.mem_of_getElem? hu))) e2.rel⟩
    refine ⟨(List.range (ys.length * Y.wid c)).map fun k => (b.get (off + k)).getD (.b false), rfl, ?_, by simp, ?_, ?_⟩
    · have := Blk.row_ok (b := b) ((List.range (ys.length * Y.wid c)).map fun k => (b.get (off + k)).getD (.b false)) off (fun j hj => by
        have hj' : j < ys.length * Y.wid c := by simpa using hj
        obtain ⟨v, e1, _⟩ := cell j hj'
        rw [List.getElem?_map, List.getElem?_range hj', Option.map_some, e1, Option.getD_some])
      simp only [vfirst, hb]
      simpa using this
    · intro i y hy j u hu
      obtain ⟨v, e1, e2⟩ := hc i y hy j u hu
      have h1 := (List.getElem?_eq_some_iff.1 hy).1
      have h2 : j < Y.wid c := by rw [← Y.len c y]; exact (List.getElem?_eq_some_iff.1 hu).1
      have hlt : i * Y.wid c + j < ys.length * Y.wid c := by
        have : (i + 1) * Y.wid c ≤ ys.length * Y.wid c := Nat.mul_le_mul_right _ h1
        rw [Nat.succ_mul] at this
        omega
      refine ⟨v, ?_, e2⟩
      dsimp only at e1 ⊢
      rw [List.getElem?_map, List.getElem?_range hlt, Option.map_some, e1, Option.getD_some]
    · intro v hv
      obtain ⟨k, hk, rfl⟩ := List.mem_map.1 hv
      obtain ⟨w, e1, e2⟩ := cell k (by simpa using hk)
      rw [e1]; exact e2
  have none_ : ∀ v : V, noRoom v = true → k [] → ∃ ys new, k ys ∧ vlen v = some ys.length ∧ vfirst st (Y.wid c) ys.length v = some new ∧ new.length = ys.length * Y.wid c ∧ Cel Y c ys (fun k => new[k]?) (DatA Y (ownOf o0 E m) st) ∧ ∀ v ∈ new, v.atom = true := by
    intro v hv hk
    refine ⟨[], [], hk, ?_, ?_, by simp, fun i x hx => by simp at hx, by simp⟩ <;> (cases v <;> first | rfl | (simp only [noRoom, Bool.false_eq_true] at hv))
  unfold sElems at h
  split at h
  · rename_i l
    simp only [RelV] at hx
    subst hx
    obtain ⟨xs, hw, e1, hk⟩ := Y.ofB_ok _ _ _ h
    have hl : xs.length = l.length := by have := congrArg List.length e1; simpa using this
    -- bytes have one cell each
    have key : ∀ (i : Nat) x, xs[i]? = some x → ∃ y, l[i]? = some y ∧ Y.cells c x = [.i .u8 (y.toNat : Int)] := by
      intro i x hx
      have := congrArg (·[i]?) e1
      simp only [List.getElem?_map, hx, Option.map_some] at this
      cases hy : l[i]? with
      | none => rw [hy] at this; cases this
      | some y => rw [hy] at this; exact ⟨y, rfl, Option.some.inj this⟩
    refine ⟨xs, cB l, hk, by rw [hl]; rfl, by rw [hw, hl]; exact first_str st l, by rw [cB_len, hl, hw, Nat.mul_one], fun i x hx j u hu => ?_, cB_atom l⟩
    obtain ⟨y, e2, e3⟩ := key i x hx
    rw [e3] at hu
    cases j with
    | zero =>
      simp only [List.getElem?_cons_zero, Option.some.injEq] at hu
      subst hu
      exact ⟨_, by dsimp only; rw [hw, Nat.mul_one, Nat.add_zero, cB_get, e2]; rfl, .i _ _⟩
    | succ j => simp at hu
  · simp only [RelV] at hx
    subst hx
    exact none_ _ rfl h
  · exact none_ v hx h
  · rename_i c' ys
    obtain ⟨rfl, hk⟩ := Y.cast_ok _ _ _ _ h
    simp only [RelV] at hx
    cases hx with
    | nil => exact none_ _ rfl hk
    | ze => exact ⟨[], [], hk, rfl, rfl, by simp, fun i x hx => by simp at hx, by simp⟩
    | ny => exact ⟨[], [], hk, rfl, rfl, by simp, fun i x hx => by simp at hx, by simp⟩
    | ne => exact ⟨[], [], hk, rfl, rfl, by simp, fun i x hx => by simp at hx, by simp⟩
    | mk vs h1 h2 h3 h4 h5 h6 =>
      obtain ⟨new, q⟩ := blk ys _ _ _ _ _ h3 (cel_of_rows h4 h5)
      exact ⟨ys, new, hk, q⟩
  · rename_i r
    split at h
    · rename_i c' ys hr
      obtain ⟨rfl, hk⟩ := Y.cast_ok _ _ _ _ h
      simp only [RelV] at hx
      obtain ⟨y, e1, _⟩ := hx
      rcases hI.ent r _ hr with ⟨v0, q1, q2, q0⟩ | ⟨id, cap, op, b, q1, q2, q3, q4, q5, q6, q7, q8, vs, q9, q10⟩
      · rw [e1] at q1
        cases q1
        subst q2
        exact none_ _ q0 hk
      · rw [e1] at q1
        cases q1
        obtain ⟨new, q⟩ := blk ys id 0 cap op b q4 (cel_of_rows (fun i x hx => by rw [Nat.zero_add]; exact q9 i x hx) q10)
        exact ⟨ys, new, hk, q⟩
    · rename_i c' ys hr
      obtain ⟨rfl, hk⟩ := Y.cast_ok _ _ _ _ h
      simp only [RelV] at hx
      obtain ⟨y, e1, _⟩ := hx
      obtain ⟨id, b, q1, q2, q3, q4, q5, vs, q9, q10⟩ := hI.ent r _ hr
      rw [e1] at q1
      cases q1
      obtain ⟨new, q⟩ := blk ys id 0 ys.length false b q4 (cel_of_rows (fun i x hx => by rw [Nat.zero_add]; exact q9 i x hx) q10)
      exact ⟨ys, new, hk, q⟩
    · exact h.elim
  · exact h.elim
end
end Go.Sx
