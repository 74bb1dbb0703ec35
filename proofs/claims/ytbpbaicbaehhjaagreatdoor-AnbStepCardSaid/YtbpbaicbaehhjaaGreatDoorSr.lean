/-
  What is known of a function under some kinds holds under kinds of the same cells. Nothing is claimed here.
-/
import Derived.Test.YtbpbaicbaehhjaaGreatDoorSm
namespace Go.Sx
open Go.Vm

section
variable {S : Sg}
mutual
theorem RelV.swap {Y Y' : Sy S} {D D' : DD S} {E : En} (hw : ∀ c, Y'.wid c = Y.wid c) (hD : ∀ c xs v, D c xs v → D' c xs v) :
    (u : U S) → (v : V) → RelV Y D E u v → RelV Y' D' E u v
  | .b x, v, h => h
  | .kb x, v, h => h
  | .i k n, v, h => h
  | .s l, v, h => h
  | .pn, v, h => h
  | .sn, v, h => h
  | .fz, v, h => h
  | .nz, v, h => h
  | .dead, v, h => trivial
  | .g g off, v, h => h
  | .l c xs, v, h => hD c xs v h
  | .pd c xs i off, v, h => by
    obtain ⟨h0, id, o, cap, op, h1, h2⟩ := h
    exact ⟨h0, id, o, cap, op, hD _ _ _ h1, by rw [hw]; exact h2⟩
  | .p r off, v, h => by
    obtain ⟨id, x, h1, h2⟩ := h
    exact ⟨id, x, h1, h2⟩
  | .o r, v, h => by
    obtain ⟨x, h1, h2⟩ := h
    exact ⟨x, h1, h2⟩
  | .pe r w i off, v, h => by
    obtain ⟨id, x, h1, h2⟩ := h
    exact ⟨id, x, h1, h2⟩
  | .v r w i, v, h => by
    obtain ⟨id, x, h1, h2⟩ := h
    exact ⟨id, x, h1, h2⟩
  | .vh r j, v, h => by
    obtain ⟨id, x, h1, h2⟩ := h
    exact ⟨id, x, h1, h2⟩
  | .f fn caps, v, h => by
    obtain ⟨vs, h1, h2⟩ := h
    exact ⟨vs, h1, RelL.swap hw hD caps vs h2⟩
  | .a cs, v, h => by
    obtain ⟨vs, h1, h2⟩ := h
    exact ⟨vs, h1, RelL.swap hw hD cs vs h2⟩
  | .t us, v, h => by
    obtain ⟨vs, h1, h2⟩ := h
    exact ⟨vs, h1, RelL.swap hw hD us vs h2⟩
theorem RelL.swap {Y Y' : Sy S} {D D' : DD S} {E : En} (hw : ∀ c, Y'.wid c = Y.wid c) (hD : ∀ c xs v, D c xs v → D' c xs v) :
    (us : List (U S)) → (vs : List V) → RelL Y D E us vs → RelL Y' D' E us vs
  | [], _, h => h
  | u :: us, vs, h => by
    obtain ⟨v, r, h1, h2, h3⟩ := h
    exact ⟨v, r, h1, RelV.swap hw hD u v h2, RelL.swap hw hD us r h3⟩
end

mutual
theorem Dat.swap {Y Y' : Sy S} (hw : ∀ c, Y'.wid c = Y.wid c) (hc : ∀ c, Y'.cells c = Y.cells c) {own : Nat → Prop} {st : St} {c : S.Cd} {xs : List (S.Den c)} {v : V} :
    Dat Y own st c xs v → Dat Y' own st c xs v
  | .nil c => .nil c
  | .ne c id o o2 => .ne c id o o2
  | .ze c a => .ze c a
  | .mk vs h1 h2 h3 h4 h5 h6 => .mk vs h1 h2 h3 (fun i x hx => by rw [hw]; exact h4 i x hx) (fun i x hx j u v hu hv => DatA.swap hw hc (h5 i x hx j u v (by rw [← hc]; exact hu) hv)) h6
theorem DatA.swap {Y Y' : Sy S} (hw : ∀ c, Y'.wid c = Y.wid c) (hc : ∀ c, Y'.cells c = Y.cells c) {own : Nat → Prop} {st : St} {u : U S} {v : V} :
    DatA Y own st u v → DatA Y' own st u v
  | .b x => .b x
  | .i k n => .i k n
  | .s l => .s l
  | .sn => .sn
  | .l h => .l (Dat.swap hw hc h)
end

/-- The same kinds and cells: what is known of a function carries over. -/
theorem FnOK.swap {Y Y' : Sy S} {P : Program} {G : Gl} {ov : Ov} {ro : Nat} {f : FuncId} {pt : List (U S) → (U S → Prop) → Prop} (hw : ∀ c, Y'.wid c = Y.wid c) (hc : ∀ c, Y'.cells c = Y.cells c) (h : FnOK Y P G ov ro f pt) : FnOK Y' P G ov ro f pt := by
  intro o0 us k hk st vs h1 h2 h3 hr
  obtain ⟨v, st', hM, u, hu, he, hk⟩ := h o0 us k hk st vs h1 h2 h3 (RelL.swap (Y := Y') (Y' := Y) (D := Dat Y' o0 st) (D' := Dat Y o0 st) (fun c => (hw c).symm) (fun _ _ _ q => Dat.swap (Y := Y') (Y' := Y) (fun c => (hw c).symm) (fun c => (hc c).symm) q) us vs hr)
  exact ⟨v, st', hM, u, RelV.swap (Y := Y) (Y' := Y') (D := Dat Y o0 st') (D' := Dat Y' o0 st') hw (fun _ _ _ q => Dat.swap (Y := Y) (Y' := Y') hw hc q) u v hu, he, hk⟩
/-- The same kinds; the bytes of a text are a buffer that is written. -/
def Sy.cv (Y : Sy S) : Sy S := { Y with cvb := true }
theorem FnOK.cv {Y : Sy S} {P : Program} {G : Gl} {ov : Ov} {ro : Nat} {f : FuncId} {pt : List (U S) → (U S → Prop) → Prop} (h : FnOK Y P G ov ro f pt) : FnOK Y.cv P G ov ro f pt := FnOK.swap (Y := Y) (Y' := Y.cv) (fun _ => rfl) (fun _ => rfl) h
theorem FnOK.ofCv {Y : Sy S} {P : Program} {G : Gl} {ov : Ov} {ro : Nat} {f : FuncId} {pt : List (U S) → (U S → Prop) → Prop} (h : FnOK Y.cv P G ov ro f pt) : FnOK Y P G ov ro f pt := FnOK.swap (Y := Y.cv) (Y' := Y) (fun _ => rfl) (fun _ => rfl) h
end
end Go.Sx
