/-
  What is known of a function under some kinds holds under kinds of the same cells. Nothing is claimed here.
-/
import Derived.Test.YtajmjilckaifoaaGreatDoorJa4
import Derived.Test.YtajmjilckaifoaaGreatDoorTa
import Derived.Test.YtajmjilckaifoaaGreatDoorOb
namespace Go.Sx
open Go.Vm

section
variable {S : Sg}
mutual
theorem RelV.swap {Y Y' : Sy S} {D D' : DD S} {E : En} (hw : ∀ c, Y'.wid c = Y.wid c) (hD : ∀ c xs v, D c xs v → D' c xs v) :
    (u : U S) → (v : V) → RelV Y D E u v → RelV Y' D' E u v
  | .b x, v, h => h
  | .kb x, v, h => h
  | .i k n, v, h => h
  | .s l, v, h => h
  | .pn, v, h => h
  | .sn, v, h => h
  | .fz, v, h => h
  | .nz, v, h => h
  | .dead, v, h => trivial
  | .e0 c, v, h => h
  | .g g off, v, h => h
  | .l c xs, v, h => hD c xs v h
  | .pd c xs i off, v, h => by
    obtain ⟨h0, id, o, cap, op, h1, h2⟩ := h
    exact ⟨h0, id, o, cap, op, hD _ _ _ h1, by rw [hw]; exact h2⟩
  | .p r off, v, h => by
    obtain ⟨id, x, h1, h2⟩ := h
    exact ⟨id, x, h1, h2⟩
  | .o r, v, h => by
    obtain ⟨x, h1, h2⟩ := h
    exact ⟨x, h1, h2⟩
  | .pe r w i off, v, h => by
    obtain ⟨id, x, h1, h2⟩ := h
    exact ⟨id, x, h1, h2⟩
  | .v r w i, v, h => by
    obtain ⟨id, x, h1, h2⟩ := h
    exact ⟨id, x, h1, h2⟩
  | .vh r j, v, h => by
    obtain ⟨id, x, h1, h2⟩ := h
    exact ⟨id, x, h1, h2⟩
  | .vc c r n, v, h => by
    obtain ⟨id, x, h1, h2⟩ := h
    exact ⟨id, x, h1, h2⟩
  | .f fn caps, v, h => by
    obtain ⟨vs, h1, h2⟩ := h
    exact ⟨vs, h1, RelL.swap hw hD caps vs h2⟩
  | .a cs, v, h => by
    obtain ⟨vs, h1, h2⟩ := h
    exact ⟨vs, h1, RelL.swap hw hD cs vs h2⟩
  | .t us, v, h => by
    obtain ⟨vs, h1, h2⟩ := h
    exact ⟨vs, h1, RelL.swap hw hD us vs h2⟩
theorem RelL.swap {Y Y' : Sy S} {D D' : DD S} {E : En} (hw : ∀ c, Y'.wid c = Y.wid c) (hD : ∀ c xs v, D c xs v → D' c xs v) :
    (us : List (U S)) → (vs : List V) → RelL Y D E us vs → RelL Y' D' E us vs
  | [], _, h => h
  | u :: us, vs, h => by
    obtain ⟨v, r, h1, h2, h3⟩ := h
    exact ⟨v, r, h1, RelV.swap hw hD u v h2, RelL.swap hw hD us r h3⟩
end

mutual
theorem Dat.swap {Y Y' : Sy S} (hw : ∀ c, Y'.wid c = Y.wid c) (hc : ∀ c, Y'.cells c = Y.cells c) {own : Nat → Prop} {st : St} {c : S.Cd} {xs : List (S.Den c)} {v : V} :
    Dat Y own st c xs v → Dat Y' own st c xs v
  | .nil c => .nil c
  | .ne c id o o2 => .ne c id o o2
  | .ze c a => .ze c a
  | .ny c id o o2 => .ny c id o o2
  | .mk vs h1 h2 h3 h4 h5 h6 => .mk vs h1 h2 h3 (fun i x hx => by rw [hw]; exact h4 i x hx) (fun i x hx j u v hu hv => DatA.swap hw hc (h5 i x hx j u v (by rw [← hc]; exact hu) hv)) h6
theorem DatA.swap {Y Y' : Sy S} (hw : ∀ c, Y'.wid c = Y.wid c) (hc : ∀ c, Y'.cells c = Y.cells c) {own : Nat → Prop} {st : St} {u : U S} {v : V} :
    DatA Y own st u v → DatA Y' own st u v
  | .b x => .b x
  | .i k n => .i k n
  | .s l => .s l
  | .sn => .sn
  | .l h => .l (Dat.swap hw hc h)
end

/-- The same kinds and cells: what is known of a function carries over. -/
theorem FnOK.swap {Y Y' : Sy S} {P : Program} {G : Gl} {ov : Ov} {ro : Nat} {f : FuncId} {pt : List (U S) → (U S → Prop) → Prop} (hw : ∀ c, Y'.wid c = Y.wid c) (hc : ∀ c, Y'.cells c = Y.cells c) (h : FnOK Y P G ov ro f pt) : FnOK Y' P G ov ro f pt := by
  intro o0 us k hk st vs h1 h2 h3 hr
  obtain ⟨v, st', hM, u, hu, he, hk⟩ := h o0 us k hk st vs h1 h2 h3 (RelL.swap (Y := Y') (Y' := Y) (D := Dat Y' o0 st) (D' := Dat Y o0 st) (fun c => (hw c).symm) (fun _ _ _ q => Dat.swap (Y := Y') (Y' := Y) (fun c => (hw c).symm) (fun c => (hc c).symm) q) us vs hr)
  exact ⟨v, st', hM, u, RelV.swap (Y := Y) (Y' := Y') (D := Dat Y o0 st') (D' := Dat Y' o0 st') hw (fun _ _ _ q => Dat.swap (Y := Y) (Y' := Y') hw hc q) u v hu, he, hk⟩
/-- The same kinds; the bytes of a text are a buffer that is written. -/
def Sy.cv (Y : Sy S) : Sy S := { Y with cvb := true }
theorem FnOK.cv {Y : Sy S} {P : Program} {G : Gl} {ov : Ov} {ro : Nat} {f : FuncId} {pt : List (U S) → (U S → Prop) → Prop} (h : FnOK Y P G ov ro f pt) : FnOK Y.cv P G ov ro f pt := FnOK.swap (Y := Y) (Y' := Y.cv) (fun _ => rfl) (fun _ => rfl) h
theorem FnOK.ofCv {Y : Sy S} {P : Program} {G : Gl} {ov : Ov} {ro : Nat} {f : FuncId} {pt : List (U S) → (U S → Prop) → Prop} (h : FnOK Y.cv P G ov ro f pt) : FnOK Y P G ov ro f pt := FnOK.swap (Y := Y.cv) (Y' := Y) (fun _ => rfl) (fun _ => rfl) h
/-- The same kinds; sums that do not fit go round. -/
def Sy.wr (Y : Sy S) : Sy S := { Y with wrp := true }
theorem FnOK.wr {Y : Sy S} {P : Program} {G : Gl} {ov : Ov} {ro : Nat} {f : FuncId} {pt : List (U S) → (U S → Prop) → Prop} (h : FnOK Y P G ov ro f pt) : FnOK Y.wr P G ov ro f pt := FnOK.swap (Y := Y) (Y' := Y.wr) (fun _ => rfl) (fun _ => rfl) h
theorem FnOK.ofWr {Y : Sy S} {P : Program} {G : Gl} {ov : Ov} {ro : Nat} {f : FuncId} {pt : List (U S) → (U S → Prop) → Prop} (h : FnOK Y.wr P G ov ro f pt) : FnOK Y P G ov ro f pt := FnOK.swap (Y := Y.wr) (Y' := Y) (fun _ => rfl) (fun _ => rfl) h
end
end Go.Sx
namespace Go.Proofs.YtajmjilckaifoaaGreatDoor
open Go.Vm Go.Sx Go.RowKit
variable {ro : Nat}

def GT : Gl := fun _ => none
def ovD (ro : Nat) : Ov := ovA ro
def noT (_ : List W) (_ : W → Prop) : Prop := False
theorem noT_ok {ro : Nat} (f : FuncId) : FnOK sy Tryz.prog GT (ovD ro) ro f noT := fun _ _ _ h => h.elim

abbrev T_input_lowerByte := Int → (Int → Prop) → Prop
def q_input_lowerByte (A : T_input_lowerByte) (us : List W) (k : W → Prop) : Prop := match us with
  | [.i .u8 a0] => A a0 (fun r0 => k (.i .u8 r0))
  | _ => False
theorem q_input_lowerByte_weak {A A2 : T_input_lowerByte} (h : FnOK sy Tryz.prog GT (ovD ro) ro 149 (q_input_lowerByte A)) (hA : ∀ a0 K, A2 a0 K → A a0 K) : FnOK sy Tryz.prog GT (ovD ro) ro 149 (q_input_lowerByte A2) := h.weak (by
  intro us k h
  unfold q_input_lowerByte at h ⊢
  split at h
  · exact hA _ _ h
  · exact h.elim)

def F_input_lowerByte (a0 : Int) (K : Int → Prop) : Prop :=
  (((decide ((65 : Int) ≤ a0)) = true → (((decide (a0 ≤ (90 : Int))) = true → K (IntKind.u8.wrap (a0 + (32 : Int)))) ∧ ((decide (a0 ≤ (90 : Int))) = false → K a0))) ∧ ((decide ((65 : Int) ≤ a0)) = false → K a0))

def C_input_lowerByte : CallT sg := tab []
theorem Cok_input_lowerByte (o0 : Nat → Prop) : CalOK sy Tryz.prog GT (ovD ro) o0 ro (C_input_lowerByte) := tab_nil o0

theorem raw_input_lowerByte (a0 : Int) (k : W → Prop) : fnT sy Tryz.prog GT (C_input_lowerByte) noL Tryz.f149.ntmps (bodyOf Tryz.f149) [none] Tryz.f149.results.toList [.i .u8 a0] k = F_input_lowerByte a0 (fun r0 => k (.i .u8 r0)) := by kernel_rfl

theorem ok_input_lowerByte : FnOK sy Tryz.prog GT (ovD ro) ro 149 (q_input_lowerByte (F_input_lowerByte)) := (fn_ok (rc := [none]) (f := 149) (fn := Tryz.f149) (c := bodyOf Tryz.f149) (nt := Tryz.f149.ntmps) (res := Tryz.f149.results.toList) (C := C_input_lowerByte) (L := noL) (fun _ _ => rfl) Tryz.func149 (by kernel_rfl) rfl rfl (Cok_input_lowerByte) (lp_of (l := []) (by kernel_rfl) lp_nil)).weak (by
  intro us k h
  unfold q_input_lowerByte at h
  split at h
  · rw [raw_input_lowerByte]; exact h
  · exact h.elim)

abbrev T_vitrineref01_Small := Int → (Int → Prop) → Prop
def q_vitrineref01_Small (A : T_vitrineref01_Small) (us : List W) (k : W → Prop) : Prop := match us with
  | [.i .u8 a0] => A a0 (fun r0 => k (.i .u8 r0))
  | _ => False
theorem q_vitrineref01_Small_weak {A A2 : T_vitrineref01_Small} (h : FnOK sy Tryz.prog GT (ovD ro) ro 144 (q_vitrineref01_Small A)) (hA : ∀ a0 K, A2 a0 K → A a0 K) : FnOK sy Tryz.prog GT (ovD ro) ro 144 (q_vitrineref01_Small A2) := h.weak (by
  intro us k h
  unfold q_vitrineref01_Small at h ⊢
  split at h
  · exact hA _ _ h
  · exact h.elim)

def F_vitrineref01_Small (a0 : Int) (K : Int → Prop) : Prop :=
  (((decide ((65 : Int) ≤ a0)) = true → (((decide (a0 ≤ (90 : Int))) = true → K (IntKind.u8.wrap ((IntKind.u8.wrap (a0 - (65 : Int))) + (97 : Int)))) ∧ ((decide (a0 ≤ (90 : Int))) = false → K a0))) ∧ ((decide ((65 : Int) ≤ a0)) = false → K a0))

def C_vitrineref01_Small : CallT sg := tab []
theorem Cok_vitrineref01_Small (o0 : Nat → Prop) : CalOK sy Tryz.prog GT (ovD ro) o0 ro (C_vitrineref01_Small) := tab_nil o0

theorem raw_vitrineref01_Small (a0 : Int) (k : W → Prop) : fnT sy Tryz.prog GT (C_vitrineref01_Small) noL Tryz.f144.ntmps (bodyOf Tryz.f144) [none] Tryz.f144.results.toList [.i .u8 a0] k = F_vitrineref01_Small a0 (fun r0 => k (.i .u8 r0)) := by kernel_rfl

theorem ok_vitrineref01_Small : FnOK sy Tryz.prog GT (ovD ro) ro 144 (q_vitrineref01_Small (F_vitrineref01_Small)) := (fn_ok (rc := [none]) (f := 144) (fn := Tryz.f144) (c := bodyOf Tryz.f144) (nt := Tryz.f144.ntmps) (res := Tryz.f144.results.toList) (C := C_vitrineref01_Small) (L := noL) (fun _ _ => rfl) Tryz.func144 (by kernel_rfl) rfl rfl (Cok_vitrineref01_Small) (lp_of (l := []) (by kernel_rfl) lp_nil)).weak (by
  intro us k h
  unfold q_vitrineref01_Small at h
  split at h
  · rw [raw_vitrineref01_Small]; exact h
  · exact h.elim)

/-- The bytes of a text are a buffer here. -/
def syc : Sy sg := sy.cv

abbrev T_input_Lower := List UInt8 → (List UInt8 → Prop) → Prop
def q_input_Lower (A : T_input_Lower) (us : List W) (k : W → Prop) : Prop := match us with
  | [.s a0] => A a0 (fun r0 => k (.s r0))
  | _ => False
theorem q_input_Lower_weak {A A2 : T_input_Lower} (h : FnOK syc Tryz.prog GT (ovD ro) ro 152 (q_input_Lower A)) (hA : ∀ a0 K, A2 a0 K → A a0 K) : FnOK syc Tryz.prog GT (ovD ro) ro 152 (q_input_Lower A2) := h.weak (by
  intro us k h
  unfold q_input_Lower at h ⊢
  split at h
  · exact hA _ _ h
  · exact h.elim)

def F_input_Lower_l3 (A149 : T_input_lowerByte) : Nat → Int → Int → List UInt8 → (List UInt8 → Prop) → Prop
  | 0, _, _, _, _ => False
  | n + 1, x9, x10, b0, Ke => (((decide (x10 < x9)) = true → ((0 ≤ x10 ∧ x10 < (b0.length : Int)) ∧ (x10.toNat < b0.length ∧ (A149 (UInt8.toNat (b0.getD x10.toNat (dfltD Cd.u8)) : Int) (fun y1 => ((0 ≤ x10 ∧ x10 < (b0.length : Int)) ∧ (x10.toNat < b0.length ∧ ((0 ≤ y1 ∧ y1 ≤ 255) ∧ (I64 (x10 + (1 : Int)) ∧ F_input_Lower_l3 A149 n x9 (x10 + (1 : Int)) (b0.set x10.toNat (UInt8.ofNat y1.toNat)) Ke))))))))) ∧ ((decide (x10 < x9)) = false → Ke b0))

def F_input_Lower (A149 : T_input_lowerByte) (a0 : List UInt8) (K : List UInt8 → Prop) : Prop :=
  (a0.length ≤ 1099511627776 ∧ (∃ m, F_input_Lower_l3 A149 m (a0.length : Int) (0 : Int) a0 (fun y1 => K y1)))

def C_input_Lower (A149 : T_input_lowerByte) : CallT sg := tab [(149, con syc [none] (q_input_lowerByte A149))]
theorem Cok_input_Lower (A149 : T_input_lowerByte) (h149 : FnOK syc Tryz.prog GT (ovD ro) ro 149 (q_input_lowerByte A149)) (o0 : Nat → Prop) : CalOK syc Tryz.prog GT (ovD ro) o0 ro (C_input_Lower A149) := (tab_cons (con_ok h149) tab_nil) o0

abbrev Ya_input_Lower_3 : Type := (Unit × Unit × Int × Int × Unit)
abbrev Yb_input_Lower_3 : Type := (List (sg.Den Cd.u8) × Unit)
def ls_input_Lower_3 : LS syc Ya_input_Lower_3 Yb_input_Lower_3 := ⟨[], fCons 3 (vLit syc (.o 0)) (fCons 8 (vLit syc (.o 0)) (fCons 9 (vInt syc .i64) (fCons 10 (vInt syc .i64) (fNil syc)))), hBuf 0 Cd.u8 (hNil syc), 1, []⟩
def le_input_Lower_3 : LS syc (Unit × Unit) (List (sg.Den Cd.u8) × Unit) := ⟨[], fCons 3 (vLit syc (.o 0)) (fNil syc), hBuf 0 Cd.u8 (hNil syc), 1, []⟩
def lr_input_Lower_3 : LS syc Unit Unit := ⟨[], fNil syc, hNil syc, 0, []⟩
def FF_input_Lower_3 (A149 : T_input_lowerByte) (n : Nat) (x : Ya_input_Lower_3 × Yb_input_Lower_3) (K : Ex → Z sg → Prop) : Prop := F_input_Lower_l3 A149 n x.1.2.2.1 x.1.2.2.2.1 x.2.1 (fun y0 => K (.exit 0) (le_input_Lower_3.put (((), ()), (y0, ()))))
def h_input_Lower_3 (A149 : T_input_lowerByte) (z : Z sg) (K : Ex → Z sg → Prop) : Prop := ls_input_Lower_3.get z (fun x => ∃ n, FF_input_Lower_3 A149 n x K)
def L_input_Lower (A149 : T_input_lowerByte) : LoopT sg := tabL [(3, h_input_Lower_3 A149)]
theorem hs_input_Lower_3 (A149 : T_input_lowerByte) (n : Nat) (x : Ya_input_Lower_3 × Yb_input_Lower_3) (K : Ex → Z sg → Prop) : forceZ (ls_input_Lower_3.put x) (fun z => sC syc Tryz.prog GT (C_input_Lower A149) (L_input_Lower A149) Tryz.f152.ntmps (nthLoop (bodyOf Tryz.f152) 0) z (rnd ls_input_Lower_3 (czT 0 le_input_Lower_3 lr_input_Lower_3) (fun x => FF_input_Lower_3 A149 n x K) K)) = FF_input_Lower_3 A149 (n + 1) x K := by kernel_rfl
theorem hl_input_Lower_3 (A149 : T_input_lowerByte) (z : Z sg) (K : Ex → Z sg → Prop) : (L_input_Lower A149) (nthLoop (bodyOf Tryz.f152) 0) z K = ls_input_Lower_3.get z (fun x => ∃ n, FF_input_Lower_3 A149 n x K) := by kernel_rfl
theorem lo_input_Lower_3 (A149 : T_input_lowerByte) (h149 : FnOK syc Tryz.prog GT (ovD ro) ro 149 (q_input_lowerByte A149)) : ∀ (o0 : Nat → Prop) (B : Bs sg), B.E.length ≤ 0 → ∀ z K, (L_input_Lower A149) (nthLoop (bodyOf Tryz.f152) 0) z K → Sx.Sem syc Tryz.prog GT (ovD ro) o0 ro Tryz.f152.ntmps B (.loop (nthLoop (bodyOf Tryz.f152) 0)) z K :=
  loop_ok (Cok_input_Lower A149 h149) (lp_of (l := []) (by kernel_rfl) lp_nil) ls_input_Lower_3 (by decide) (czT 0 le_input_Lower_3 lr_input_Lower_3) (fun _ _ hB => czT_ok 0 le_input_Lower_3 lr_input_Lower_3 (Nat.le_trans hB (by decide)) (Nat.le_trans hB (by decide))) (fun _ _ h => h) (hs_input_Lower_3 A149) (hl_input_Lower_3 A149)
theorem Lp_input_Lower (A149 : T_input_lowerByte) (h149 : FnOK syc Tryz.prog GT (ovD ro) ro 149 (q_input_lowerByte A149)) : LpOK syc Tryz.prog GT (ovD ro) ro (L_input_Lower A149) 0 Tryz.f152.ntmps (bodyOf Tryz.f152) := lp_of (l := [(nthLoop (bodyOf Tryz.f152) 0)]) (by kernel_rfl) (lp_cons (lo_input_Lower_3 A149 h149) lp_nil)


theorem raw_input_Lower (A149 : T_input_lowerByte) (a0 : List UInt8) (k : W → Prop) : fnT syc Tryz.prog GT (C_input_Lower A149) (L_input_Lower A149) Tryz.f152.ntmps (bodyOf Tryz.f152) [none] Tryz.f152.results.toList [.s a0] k = F_input_Lower A149 a0 (fun r0 => k (.s r0)) := by kernel_rfl

theorem ok_input_Lower (A149 : T_input_lowerByte) (h149 : FnOK syc Tryz.prog GT (ovD ro) ro 149 (q_input_lowerByte A149)) : FnOK syc Tryz.prog GT (ovD ro) ro 152 (q_input_Lower (F_input_Lower A149)) := (fn_ok (rc := [none]) (f := 152) (fn := Tryz.f152) (c := bodyOf Tryz.f152) (nt := Tryz.f152.ntmps) (res := Tryz.f152.results.toList) (C := C_input_Lower A149) (L := (L_input_Lower A149)) (fun _ _ => rfl) Tryz.func152 (by kernel_rfl) rfl rfl (Cok_input_Lower A149 h149) (Lp_input_Lower A149 h149)).weak (by
  intro us k h
  unfold q_input_Lower at h
  split at h
  · rw [raw_input_Lower]; exact h
  · exact h.elim)

abbrev T_vitrineref01_Lower := List UInt8 → (List UInt8 → Prop) → Prop
def q_vitrineref01_Lower (A : T_vitrineref01_Lower) (us : List W) (k : W → Prop) : Prop := match us with
  | [.s a0] => A a0 (fun r0 => k (.s r0))
  | _ => False
theorem q_vitrineref01_Lower_weak {A A2 : T_vitrineref01_Lower} (h : FnOK syc Tryz.prog GT (ovD ro) ro 98 (q_vitrineref01_Lower A)) (hA : ∀ a0 K, A2 a0 K → A a0 K) : FnOK syc Tryz.prog GT (ovD ro) ro 98 (q_vitrineref01_Lower A2) := h.weak (by
  intro us k h
  unfold q_vitrineref01_Lower at h ⊢
  split at h
  · exact hA _ _ h
  · exact h.elim)

def F_vitrineref01_Lower_l3 (A144 : T_vitrineref01_Small) : Nat → Int → List UInt8 → (List UInt8 → Prop) → Prop
  | 0, _, _, _ => False
  | n + 1, x4, b0, Ke => (((decide (x4 < (b0.length : Int))) = true → ((0 ≤ x4 ∧ x4 < (b0.length : Int)) ∧ (x4.toNat < b0.length ∧ (A144 (UInt8.toNat (b0.getD x4.toNat (dfltD Cd.u8)) : Int) (fun y1 => ((0 ≤ x4 ∧ x4 < (b0.length : Int)) ∧ (x4.toNat < b0.length ∧ ((0 ≤ y1 ∧ y1 ≤ 255) ∧ (I64 (x4 + (1 : Int)) ∧ F_vitrineref01_Lower_l3 A144 n (x4 + (1 : Int)) (b0.set x4.toNat (UInt8.ofNat y1.toNat)) Ke))))))))) ∧ ((decide (x4 < (b0.length : Int))) = false → Ke b0))

def F_vitrineref01_Lower (A144 : T_vitrineref01_Small) (a0 : List UInt8) (K : List UInt8 → Prop) : Prop :=
  (a0.length ≤ 1099511627776 ∧ (∃ m, F_vitrineref01_Lower_l3 A144 m (0 : Int) a0 (fun y1 => K y1)))

def C_vitrineref01_Lower (A144 : T_vitrineref01_Small) : CallT sg := tab [(144, con syc [none] (q_vitrineref01_Small A144))]
theorem Cok_vitrineref01_Lower (A144 : T_vitrineref01_Small) (h144 : FnOK syc Tryz.prog GT (ovD ro) ro 144 (q_vitrineref01_Small A144)) (o0 : Nat → Prop) : CalOK syc Tryz.prog GT (ovD ro) o0 ro (C_vitrineref01_Lower A144) := (tab_cons (con_ok h144) tab_nil) o0

abbrev Ya_vitrineref01_Lower_3 : Type := (Unit × Int × Unit)
abbrev Yb_vitrineref01_Lower_3 : Type := (List (sg.Den Cd.u8) × Unit)
def ls_vitrineref01_Lower_3 : LS syc Ya_vitrineref01_Lower_3 Yb_vitrineref01_Lower_3 := ⟨[], fCons 3 (vLit syc (.o 0)) (fCons 4 (vInt syc .i64) (fNil syc)), hBuf 0 Cd.u8 (hNil syc), 1, []⟩
def le_vitrineref01_Lower_3 : LS syc (Unit × Unit) (List (sg.Den Cd.u8) × Unit) := ⟨[], fCons 3 (vLit syc (.o 0)) (fNil syc), hBuf 0 Cd.u8 (hNil syc), 1, []⟩
def lr_vitrineref01_Lower_3 : LS syc Unit Unit := ⟨[], fNil syc, hNil syc, 0, []⟩
def FF_vitrineref01_Lower_3 (A144 : T_vitrineref01_Small) (n : Nat) (x : Ya_vitrineref01_Lower_3 × Yb_vitrineref01_Lower_3) (K : Ex → Z sg → Prop) : Prop := F_vitrineref01_Lower_l3 A144 n x.1.2.1 x.2.1 (fun y0 => K (.exit 0) (le_vitrineref01_Lower_3.put (((), ()), (y0, ()))))
def h_vitrineref01_Lower_3 (A144 : T_vitrineref01_Small) (z : Z sg) (K : Ex → Z sg → Prop) : Prop := ls_vitrineref01_Lower_3.get z (fun x => ∃ n, FF_vitrineref01_Lower_3 A144 n x K)
def L_vitrineref01_Lower (A144 : T_vitrineref01_Small) : LoopT sg := tabL [(3, h_vitrineref01_Lower_3 A144)]
theorem hs_vitrineref01_Lower_3 (A144 : T_vitrineref01_Small) (n : Nat) (x : Ya_vitrineref01_Lower_3 × Yb_vitrineref01_Lower_3) (K : Ex → Z sg → Prop) : forceZ (ls_vitrineref01_Lower_3.put x) (fun z => sC syc Tryz.prog GT (C_vitrineref01_Lower A144) (L_vitrineref01_Lower A144) Tryz.f98.ntmps (nthLoop (bodyOf Tryz.f98) 0) z (rnd ls_vitrineref01_Lower_3 (czT 0 le_vitrineref01_Lower_3 lr_vitrineref01_Lower_3) (fun x => FF_vitrineref01_Lower_3 A144 n x K) K)) = FF_vitrineref01_Lower_3 A144 (n + 1) x K := by kernel_rfl
theorem hl_vitrineref01_Lower_3 (A144 : T_vitrineref01_Small) (z : Z sg) (K : Ex → Z sg → Prop) : (L_vitrineref01_Lower A144) (nthLoop (bodyOf Tryz.f98) 0) z K = ls_vitrineref01_Lower_3.get z (fun x => ∃ n, FF_vitrineref01_Lower_3 A144 n x K) := by kernel_rfl
theorem lo_vitrineref01_Lower_3 (A144 : T_vitrineref01_Small) (h144 : FnOK syc Tryz.prog GT (ovD ro) ro 144 (q_vitrineref01_Small A144)) : ∀ (o0 : Nat → Prop) (B : Bs sg), B.E.length ≤ 0 → ∀ z K, (L_vitrineref01_Lower A144) (nthLoop (bodyOf Tryz.f98) 0) z K → Sx.Sem syc Tryz.prog GT (ovD ro) o0 ro Tryz.f98.ntmps B (.loop (nthLoop (bodyOf Tryz.f98) 0)) z K :=
  loop_ok (Cok_vitrineref01_Lower A144 h144) (lp_of (l := []) (by kernel_rfl) lp_nil) ls_vitrineref01_Lower_3 (by decide) (czT 0 le_vitrineref01_Lower_3 lr_vitrineref01_Lower_3) (fun _ _ hB => czT_ok 0 le_vitrineref01_Lower_3 lr_vitrineref01_Lower_3 (Nat.le_trans hB (by decide)) (Nat.le_trans hB (by decide))) (fun _ _ h => h) (hs_vitrineref01_Lower_3 A144) (hl_vitrineref01_Lower_3 A144)
theorem Lp_vitrineref01_Lower (A144 : T_vitrineref01_Small) (h144 : FnOK syc Tryz.prog GT (ovD ro) ro 144 (q_vitrineref01_Small A144)) : LpOK syc Tryz.prog GT (ovD ro) ro (L_vitrineref01_Lower A144) 0 Tryz.f98.ntmps (bodyOf Tryz.f98) := lp_of (l := [(nthLoop (bodyOf Tryz.f98) 0)]) (by kernel_rfl) (lp_cons (lo_vitrineref01_Lower_3 A144 h144) lp_nil)


theorem raw_vitrineref01_Lower (A144 : T_vitrineref01_Small) (a0 : List UInt8) (k : W → Prop) : fnT syc Tryz.prog GT (C_vitrineref01_Lower A144) (L_vitrineref01_Lower A144) Tryz.f98.ntmps (bodyOf Tryz.f98) [none] Tryz.f98.results.toList [.s a0] k = F_vitrineref01_Lower A144 a0 (fun r0 => k (.s r0)) := by kernel_rfl

theorem ok_vitrineref01_Lower (A144 : T_vitrineref01_Small) (h144 : FnOK syc Tryz.prog GT (ovD ro) ro 144 (q_vitrineref01_Small A144)) : FnOK syc Tryz.prog GT (ovD ro) ro 98 (q_vitrineref01_Lower (F_vitrineref01_Lower A144)) := (fn_ok (rc := [none]) (f := 98) (fn := Tryz.f98) (c := bodyOf Tryz.f98) (nt := Tryz.f98.ntmps) (res := Tryz.f98.results.toList) (C := C_vitrineref01_Lower A144) (L := (L_vitrineref01_Lower A144)) (fun _ _ => rfl) Tryz.func98 (by kernel_rfl) rfl rfl (Cok_vitrineref01_Lower A144 h144) (Lp_vitrineref01_Lower A144 h144)).weak (by
  intro us k h
  unfold q_vitrineref01_Lower at h
  split at h
  · rw [raw_vitrineref01_Lower]; exact h
  · exact h.elim)

end Go.Proofs.YtajmjilckaifoaaGreatDoor
namespace Go.Sx
open Go.Vm

section
variable {S : Sg} (Y : Sy S) (P : Program) (G : Gl) (ov : Ov) (ro : Nat)

def fin2 {A2 H2 : Type} {Y : Sy S} (le : LS Y A2 H2) (K : A2 × H2 → Prop) (e : Ex) (z : Z S) : Prop := match e with
  | .nrm => le.get z K
  | .ret => le.get z K
  | _ => False
/-- What a body does, from a state that is told by data, is told by a transformer. -/
def ShOK {A H A2 H2 : Type} (nt : Nat) (c : Code) (l : LS Y A H) (le : LS Y A2 H2) (Af : A × H → (A2 × H2 → Prop) → Prop) : Prop :=
  ∀ (o0 : Nat → Prop) (B : Bs S), B.E.length ≤ l.nx → ∀ x K, Af x K → Sem Y P G ov o0 ro nt B c (l.put x) (fin2 le K)
def shp {A H A2 H2 : Type} (nt : Nat) (l : LS Y A H) (le : LS Y A2 H2) (res : List ResultVar) (Af : A × H → (A2 × H2 → Prop) → Prop) : List (U S) → Nat → T (Ct S) → Kn S → Prop := fun us nx m k =>
  cond (Nat.ble us.length nt && Nat.ble nx l.nx) (l.get ⟨frU us 0 .e, nx, m, []⟩ fun x => Af x fun y => forceZ (le.put y) fun z => sResL Y P G z.fr z.m res fun us => k (some (oneU us)) z.nx z.m z.ks [0]) False
variable {Y P G ov ro}

theorem sh_of {A H A2 H2 : Type} {nt : Nat} {c : Code} {l : LS Y A H} {le : LS Y A2 H2} {C : CallT S} {L : LoopT S} {F : A × H → (A2 × H2 → Prop) → Prop} (hC : ∀ o0, CalOK Y P G ov o0 ro C) (hL : LpOK Y P G ov ro L l.nx nt c)
    (h : ∀ x K, forceZ (l.put x) (fun z => sC Y P G C L nt c z (fin2 le K)) = F x K) : ShOK Y P G ov ro nt c l le F :=
  fun o0 B hB x K hF => sC_ok (hC o0) c (hL o0 B hB) _ _ (by have := (h x K).mpr hF; rwa [forceZ_eq] at this)
theorem ShOK.weak {A H A2 H2 : Type} {nt : Nat} {c : Code} {l : LS Y A H} {le : LS Y A2 H2} {F F2 : A × H → (A2 × H2 → Prop) → Prop} (h : ShOK Y P G ov ro nt c l le F) (hw : ∀ x K, F2 x K → F x K) : ShOK Y P G ov ro nt c l le F2 :=
  fun o0 B hB x K hF => h o0 B hB x K (hw x K hF)

theorem shp_ok {A H A2 H2 : Type} {f : FuncId} {fn : Func} {c : Code} {nt : Nat} {res : List ResultVar} {l : LS Y A H} {le : LS Y A2 H2} {Af : A × H → (A2 × H2 → Prop) → Prop} (hov : ∀ vs st, ov f vs st = none) (hf : P.funcs[f]? = some fn) (hb : fn.body = some c) (hnt : fn.ntmps = nt) (hres : fn.results.toList = res)
    (hle : l.nx ≤ le.nx) (h : ShOK Y P G ov ro nt c l le Af) : EntOK Y P G ov ro f (shp Y P G nt l le res Af) := by
  intro o0 us nx m k hk E st vs hI hr
  unfold shp at hk
  cases hl : (Nat.ble us.length nt && Nat.ble nx l.nx) with
  | false => rw [hl] at hk; exact hk.elim
  | true =>
    rw [hl, cond_true] at hk
    rw [Bool.and_eq_true, Nat.ble_eq, Nat.ble_eq] at hl
    have hz : Zat Y G o0 ro ⟨E, m, st⟩ (⟨frU us 0 .e, nx, m, []⟩ : Z S) (frameOf vs 0 .e) st :=
      ⟨E, hI, (Step.refl o0 E m st).anyW, frU_rel hr (fun t u hu => by rw [T.get_e] at hu; cases hu)⟩
    have hB : E.length ≤ l.nx := by rw [hI.len]; exact hl.2
    obtain ⟨x, h1, h2⟩ := l.ok (B := ⟨E, m, st⟩) hB hk hz
    obtain ⟨e, frV', st', hev, z', hz', hfin⟩ := h o0 ⟨E, m, st⟩ hB x _ h1 _ st h2
    have fin' : le.get z' (fun y => forceZ (le.put y) fun z => sResL Y P G z.fr z.m res fun us => k (some (oneU us)) z.nx z.m z.ks [0]) → (e = .nrm ∨ e = .ret) → ∃ v st', (∃ M, ∀ n, M ≤ n → evF P ov ro n f vs st = some (v, st')) ∧ Done Y G o0 ro E m st k (some v) st' := by
      intro hg he
      obtain ⟨y, q1, E', hI', hS', hf'⟩ := le.ok (B := ⟨E, m, st⟩) (Nat.le_trans hB hle) hg hz'
      rw [forceZ_eq] at q1
      obtain ⟨us', ws, g1, g2, g3⟩ := sResL_ok hI' hf' q1
      exact ⟨oneOf ws, st', call_of (hov vs _) hf hb hnt hres (by rw [hr.length]; exact hl.1) he hev g1, some (oneU us'), (le.put y).nx, (le.put y).m, (le.put y).ks, [0], E', hI', hS', oneU_rel g2, g3⟩
    cases e with
    | nrm => exact fin' hfin (.inl rfl)
    | ret => exact fin' hfin (.inr rfl)
    | exit i => exact hfin.elim
    | goto i => exact hfin.elim
end
end Go.Sx
namespace Go.Proofs.YtajmjilckaifoaaGreatDoor
open Go.Vm Go.Sx Go.RowKit
variable {ro : Nat}

/-- Sums go round here. -/
def syw : Sy sg := sy.wr

abbrev T_r4_Closer := Int → (Int → Prop) → Prop
def q_r4_Closer (A : T_r4_Closer) (us : List W) (k : W → Prop) : Prop := match us with
  | [.i .u8 a0] => A a0 (fun r0 => k (.i .u8 r0))
  | _ => False
theorem q_r4_Closer_weak {A A2 : T_r4_Closer} (h : FnOK syw Tryz.prog GT (ovD ro) ro 148 (q_r4_Closer A)) (hA : ∀ a0 K, A2 a0 K → A a0 K) : FnOK syw Tryz.prog GT (ovD ro) ro 148 (q_r4_Closer A2) := h.weak (by
  intro us k h
  unfold q_r4_Closer at h ⊢
  split at h
  · exact hA _ _ h
  · exact h.elim)

def F_r4_Closer (a0 : Int) (K : Int → Prop) : Prop :=
  (((decide (a0 = (19 : Int))) = true → K (20 : Int)) ∧ ((decide (a0 = (19 : Int))) = false → (((decide (a0 = (21 : Int))) = true → K (22 : Int)) ∧ ((decide (a0 = (21 : Int))) = false → (((decide (a0 = (2 : Int))) = true → K (22 : Int)) ∧ ((decide (a0 = (2 : Int))) = false → (((decide (a0 = (23 : Int))) = true → K (24 : Int)) ∧ ((decide (a0 = (23 : Int))) = false → K (0 : Int)))))))))

def C_r4_Closer : CallT sg := tab []
theorem Cok_r4_Closer (o0 : Nat → Prop) : CalOK syw Tryz.prog GT (ovD ro) o0 ro (C_r4_Closer) := tab_nil o0

theorem raw_r4_Closer (a0 : Int) (k : W → Prop) : fnT syw Tryz.prog GT (C_r4_Closer) noL Tryz.f148.ntmps (bodyOf Tryz.f148) [none] Tryz.f148.results.toList [.i .u8 a0] k = F_r4_Closer a0 (fun r0 => k (.i .u8 r0)) := by kernel_rfl

theorem ok_r4_Closer : FnOK syw Tryz.prog GT (ovD ro) ro 148 (q_r4_Closer (F_r4_Closer)) := (fn_ok (rc := [none]) (f := 148) (fn := Tryz.f148) (c := bodyOf Tryz.f148) (nt := Tryz.f148.ntmps) (res := Tryz.f148.results.toList) (C := C_r4_Closer) (L := noL) (fun _ _ => rfl) Tryz.func148 (by kernel_rfl) rfl rfl (Cok_r4_Closer) (lp_of (l := []) (by kernel_rfl) lp_nil)).weak (by
  intro us k h
  unfold q_r4_Closer at h
  split at h
  · rw [raw_r4_Closer]; exact h
  · exact h.elim)

abbrev T_r4_Size := List Val → Int → (Int → Prop) → Prop
def q_r4_Size (A : T_r4_Size) (us : List W) (k : W → Prop) : Prop := match us with
  | [.l Cd.val a0, .i .i64 a1] => A a0 a1 (fun r0 => k (.i .i64 r0))
  | _ => False
theorem q_r4_Size_weak {A A2 : T_r4_Size} (h : FnOK syw Tryz.prog GT (ovD ro) ro 121 (q_r4_Size A)) (hA : ∀ a0 a1 K, A2 a0 a1 K → A a0 a1 K) : FnOK syw Tryz.prog GT (ovD ro) ro 121 (q_r4_Size A2) := h.weak (by
  intro us k h
  unfold q_r4_Size at h ⊢
  split at h
  · exact hA _ _ _ h
  · exact h.elim)

def F_r4_Size_l3 (A121 : T_r4_Size) : Nat → List Val → Int → Int → Int → (Int → Prop) → Prop
  | 0, _, _, _, _, _ => False
  | n + 1, x0, x1, x5, x6, Ke => (((decide (x6 < (x0.length : Int))) = true → (((decide (x5 ≤ x1)) = true → ((0 ≤ x6 ∧ x6 < (x0.length : Int)) ∧ ((0 ≤ x6 ∧ x6 < (x0.length : Int)) ∧ ((0 ≤ x6 ∧ x6 < (x0.length : Int)) ∧ (A121 ((x0.getD x6.toNat (dfltD Cd.val)).list) (IntKind.i64.wrap (x1 - x5)) (fun y1 => F_r4_Size_l3 A121 n x0 x1 (IntKind.i64.wrap (x5 + (IntKind.i64.wrap ((IntKind.i64.wrap ((IntKind.i64.wrap ((1 : Int) + (((x0.getD x6.toNat (dfltD Cd.val)).tok.text).length : Int))) + (((x0.getD x6.toNat (dfltD Cd.val)).tok.unit).length : Int))) + y1)))) (IntKind.i64.wrap (x6 + (1 : Int))) Ke)))))) ∧ ((decide (x5 ≤ x1)) = false → Ke x5))) ∧ ((decide (x6 < (x0.length : Int))) = false → Ke x5))

def F_r4_Size (A121 : T_r4_Size) (a0 : List Val) (a1 : Int) (K : Int → Prop) : Prop :=
  (∃ m, F_r4_Size_l3 A121 m a0 a1 (0 : Int) (0 : Int) (fun y1 => K y1))

def C_r4_Size (A121 : T_r4_Size) : CallT sg := tab [(121, con syw [some Cd.val, none] (q_r4_Size A121))]
theorem Cok_r4_Size (A121 : T_r4_Size) (h121 : FnOK syw Tryz.prog GT (ovD ro) ro 121 (q_r4_Size A121)) (o0 : Nat → Prop) : CalOK syw Tryz.prog GT (ovD ro) o0 ro (C_r4_Size A121) := (tab_cons (con_ok h121) tab_nil) o0

abbrev Ya_r4_Size_3 : Type := ((List (sg.Den Cd.val)) × Int × Int × Int × Unit)
abbrev Yb_r4_Size_3 : Type := Unit
def ls_r4_Size_3 : LS syw Ya_r4_Size_3 Yb_r4_Size_3 := ⟨[], fCons 0 (vData syw Cd.val) (fCons 1 (vInt syw .i64) (fCons 5 (vInt syw .i64) (fCons 6 (vInt syw .i64) (fNil syw)))), hNil syw, 0, []⟩
def le_r4_Size_3 : LS syw (Int × Unit) Unit := ⟨[], fCons 5 (vInt syw .i64) (fNil syw), hNil syw, 0, []⟩
def lr_r4_Size_3 : LS syw Unit Unit := ⟨[], fNil syw, hNil syw, 0, []⟩
def FF_r4_Size_3 (A121 : T_r4_Size) (n : Nat) (x : Ya_r4_Size_3 × Yb_r4_Size_3) (K : Ex → Z sg → Prop) : Prop := F_r4_Size_l3 A121 n x.1.1 x.1.2.1 x.1.2.2.1 x.1.2.2.2.1 (fun y0 => K (.exit 0) (le_r4_Size_3.put ((y0, ()), ())))
def h_r4_Size_3 (A121 : T_r4_Size) (z : Z sg) (K : Ex → Z sg → Prop) : Prop := ls_r4_Size_3.get z (fun x => ∃ n, FF_r4_Size_3 A121 n x K)
def L_r4_Size (A121 : T_r4_Size) : LoopT sg := tabL [(3, h_r4_Size_3 A121)]
theorem hs_r4_Size_3 (A121 : T_r4_Size) (n : Nat) (x : Ya_r4_Size_3 × Yb_r4_Size_3) (K : Ex → Z sg → Prop) : forceZ (ls_r4_Size_3.put x) (fun z => sC syw Tryz.prog GT (C_r4_Size A121) (L_r4_Size A121) Tryz.f121.ntmps (nthLoop (bodyOf Tryz.f121) 0) z (rnd ls_r4_Size_3 (czT 0 le_r4_Size_3 lr_r4_Size_3) (fun x => FF_r4_Size_3 A121 n x K) K)) = FF_r4_Size_3 A121 (n + 1) x K := by kernel_rfl
theorem hl_r4_Size_3 (A121 : T_r4_Size) (z : Z sg) (K : Ex → Z sg → Prop) : (L_r4_Size A121) (nthLoop (bodyOf Tryz.f121) 0) z K = ls_r4_Size_3.get z (fun x => ∃ n, FF_r4_Size_3 A121 n x K) := by kernel_rfl
theorem lo_r4_Size_3 (A121 : T_r4_Size) (h121 : FnOK syw Tryz.prog GT (ovD ro) ro 121 (q_r4_Size A121)) : ∀ (o0 : Nat → Prop) (B : Bs sg), B.E.length ≤ 0 → ∀ z K, (L_r4_Size A121) (nthLoop (bodyOf Tryz.f121) 0) z K → Sx.Sem syw Tryz.prog GT (ovD ro) o0 ro Tryz.f121.ntmps B (.loop (nthLoop (bodyOf Tryz.f121) 0)) z K :=
  loop_ok (Cok_r4_Size A121 h121) (lp_of (l := []) (by kernel_rfl) lp_nil) ls_r4_Size_3 (by decide) (czT 0 le_r4_Size_3 lr_r4_Size_3) (fun _ _ hB => czT_ok 0 le_r4_Size_3 lr_r4_Size_3 (Nat.le_trans hB (by decide)) (Nat.le_trans hB (by decide))) (fun _ _ h => h) (hs_r4_Size_3 A121) (hl_r4_Size_3 A121)
theorem Lp_r4_Size (A121 : T_r4_Size) (h121 : FnOK syw Tryz.prog GT (ovD ro) ro 121 (q_r4_Size A121)) : LpOK syw Tryz.prog GT (ovD ro) ro (L_r4_Size A121) 0 Tryz.f121.ntmps (bodyOf Tryz.f121) := lp_of (l := [(nthLoop (bodyOf Tryz.f121) 0)]) (by kernel_rfl) (lp_cons (lo_r4_Size_3 A121 h121) lp_nil)


theorem raw_r4_Size (A121 : T_r4_Size) (a0 : List Val) (a1 : Int) (k : W → Prop) : fnT syw Tryz.prog GT (C_r4_Size A121) (L_r4_Size A121) Tryz.f121.ntmps (bodyOf Tryz.f121) [none] Tryz.f121.results.toList [.l Cd.val a0, .i .i64 a1] k = F_r4_Size A121 a0 a1 (fun r0 => k (.i .i64 r0)) := by kernel_rfl

theorem ok_r4_Size (A121 : T_r4_Size) (h121 : FnOK syw Tryz.prog GT (ovD ro) ro 121 (q_r4_Size A121)) : FnOK syw Tryz.prog GT (ovD ro) ro 121 (q_r4_Size (F_r4_Size A121)) := (fn_ok (rc := [none]) (f := 121) (fn := Tryz.f121) (c := bodyOf Tryz.f121) (nt := Tryz.f121.ntmps) (res := Tryz.f121.results.toList) (C := C_r4_Size A121) (L := (L_r4_Size A121)) (fun _ _ => rfl) Tryz.func121 (by kernel_rfl) rfl rfl (Cok_r4_Size A121 h121) (Lp_r4_Size A121 h121)).weak (by
  intro us k h
  unfold q_r4_Size at h
  split at h
  · skip
    rename_i a0 a1
    rw [raw_r4_Size A121 a0 a1 k]
    exact h
  · exact h.elim)

abbrev T_r4_Deep := List Val → (Int → Prop) → Prop
def q_r4_Deep (A : T_r4_Deep) (us : List W) (k : W → Prop) : Prop := match us with
  | [.l Cd.val a0] => A a0 (fun r0 => k (.i .i64 r0))
  | _ => False
theorem q_r4_Deep_weak {A A2 : T_r4_Deep} (h : FnOK syw Tryz.prog GT (ovD ro) ro 122 (q_r4_Deep A)) (hA : ∀ a0 K, A2 a0 K → A a0 K) : FnOK syw Tryz.prog GT (ovD ro) ro 122 (q_r4_Deep A2) := h.weak (by
  intro us k h
  unfold q_r4_Deep at h ⊢
  split at h
  · exact hA _ _ h
  · exact h.elim)

def F_r4_Deep_l3 (A148 : T_r4_Closer) (A122 : T_r4_Deep) : Nat → List Val → Int → Int → (Int → Prop) → Prop
  | 0, _, _, _, _ => False
  | n + 1, x0, x3, x4, Ke => (((decide (x4 < (x0.length : Int))) = true → ((0 ≤ x4 ∧ x4 < (x0.length : Int)) ∧ (A148 ((x0.getD x4.toNat (dfltD Cd.val)).tok.kind) (fun y1 => (((decide (y1 ≠ (0 : Int))) = true → ((0 ≤ x4 ∧ x4 < (x0.length : Int)) ∧ (A122 ((x0.getD x4.toNat (dfltD Cd.val)).list) (fun y2 => F_r4_Deep_l3 A148 A122 n x0 (if x3 < (IntKind.i64.wrap ((1 : Int) + y2)) then (IntKind.i64.wrap ((1 : Int) + y2)) else x3) (IntKind.i64.wrap (x4 + (1 : Int))) Ke)))) ∧ ((decide (y1 ≠ (0 : Int))) = false → F_r4_Deep_l3 A148 A122 n x0 x3 (IntKind.i64.wrap (x4 + (1 : Int))) Ke)))))) ∧ ((decide (x4 < (x0.length : Int))) = false → Ke x3))

def F_r4_Deep (A148 : T_r4_Closer) (A122 : T_r4_Deep) (a0 : List Val) (K : Int → Prop) : Prop :=
  (∃ m, F_r4_Deep_l3 A148 A122 m a0 (0 : Int) (0 : Int) (fun y1 => K y1))

def C_r4_Deep (A148 : T_r4_Closer) (A122 : T_r4_Deep) : CallT sg := tab [(148, con syw [none] (q_r4_Closer A148)), (122, con syw [some Cd.val] (q_r4_Deep A122))]
theorem Cok_r4_Deep (A148 : T_r4_Closer) (A122 : T_r4_Deep) (h148 : FnOK syw Tryz.prog GT (ovD ro) ro 148 (q_r4_Closer A148)) (h122 : FnOK syw Tryz.prog GT (ovD ro) ro 122 (q_r4_Deep A122)) (o0 : Nat → Prop) : CalOK syw Tryz.prog GT (ovD ro) o0 ro (C_r4_Deep A148 A122) := (tab_cons (con_ok h148) (tab_cons (con_ok h122) tab_nil)) o0

abbrev Ya_r4_Deep_3 : Type := ((List (sg.Den Cd.val)) × Int × Int × Unit)
abbrev Yb_r4_Deep_3 : Type := Unit
def ls_r4_Deep_3 : LS syw Ya_r4_Deep_3 Yb_r4_Deep_3 := ⟨[], fCons 0 (vData syw Cd.val) (fCons 3 (vInt syw .i64) (fCons 4 (vInt syw .i64) (fNil syw))), hNil syw, 0, []⟩
def le_r4_Deep_3 : LS syw (Int × Unit) Unit := ⟨[], fCons 3 (vInt syw .i64) (fNil syw), hNil syw, 0, []⟩
def lr_r4_Deep_3 : LS syw Unit Unit := ⟨[], fNil syw, hNil syw, 0, []⟩
def FF_r4_Deep_3 (A148 : T_r4_Closer) (A122 : T_r4_Deep) (n : Nat) (x : Ya_r4_Deep_3 × Yb_r4_Deep_3) (K : Ex → Z sg → Prop) : Prop := F_r4_Deep_l3 A148 A122 n x.1.1 x.1.2.1 x.1.2.2.1 (fun y0 => K (.exit 0) (le_r4_Deep_3.put ((y0, ()), ())))
def h_r4_Deep_3 (A148 : T_r4_Closer) (A122 : T_r4_Deep) (z : Z sg) (K : Ex → Z sg → Prop) : Prop := ls_r4_Deep_3.get z (fun x => ∃ n, FF_r4_Deep_3 A148 A122 n x K)
def L_r4_Deep (A148 : T_r4_Closer) (A122 : T_r4_Deep) : LoopT sg := tabL [(3, h_r4_Deep_3 A148 A122)]
theorem hs_r4_Deep_3 (A148 : T_r4_Closer) (A122 : T_r4_Deep) (n : Nat) (x : Ya_r4_Deep_3 × Yb_r4_Deep_3) (K : Ex → Z sg → Prop) : forceZ (ls_r4_Deep_3.put x) (fun z => sC syw Tryz.prog GT (C_r4_Deep A148 A122) (L_r4_Deep A148 A122) Tryz.f122.ntmps (nthLoop (bodyOf Tryz.f122) 0) z (rnd ls_r4_Deep_3 (czT 0 le_r4_Deep_3 lr_r4_Deep_3) (fun x => FF_r4_Deep_3 A148 A122 n x K) K)) = FF_r4_Deep_3 A148 A122 (n + 1) x K := by kernel_rfl
theorem hl_r4_Deep_3 (A148 : T_r4_Closer) (A122 : T_r4_Deep) (z : Z sg) (K : Ex → Z sg → Prop) : (L_r4_Deep A148 A122) (nthLoop (bodyOf Tryz.f122) 0) z K = ls_r4_Deep_3.get z (fun x => ∃ n, FF_r4_Deep_3 A148 A122 n x K) := by kernel_rfl
theorem lo_r4_Deep_3 (A148 : T_r4_Closer) (A122 : T_r4_Deep) (h148 : FnOK syw Tryz.prog GT (ovD ro) ro 148 (q_r4_Closer A148)) (h122 : FnOK syw Tryz.prog GT (ovD ro) ro 122 (q_r4_Deep A122)) : ∀ (o0 : Nat → Prop) (B : Bs sg), B.E.length ≤ 0 → ∀ z K, (L_r4_Deep A148 A122) (nthLoop (bodyOf Tryz.f122) 0) z K → Sx.Sem syw Tryz.prog GT (ovD ro) o0 ro Tryz.f122.ntmps B (.loop (nthLoop (bodyOf Tryz.f122) 0)) z K :=
  loop_ok (Cok_r4_Deep A148 A122 h148 h122) (lp_of (l := []) (by kernel_rfl) lp_nil) ls_r4_Deep_3 (by decide) (czT 0 le_r4_Deep_3 lr_r4_Deep_3) (fun _ _ hB => czT_ok 0 le_r4_Deep_3 lr_r4_Deep_3 (Nat.le_trans hB (by decide)) (Nat.le_trans hB (by decide))) (fun _ _ h => h) (hs_r4_Deep_3 A148 A122) (hl_r4_Deep_3 A148 A122)
theorem Lp_r4_Deep (A148 : T_r4_Closer) (A122 : T_r4_Deep) (h148 : FnOK syw Tryz.prog GT (ovD ro) ro 148 (q_r4_Closer A148)) (h122 : FnOK syw Tryz.prog GT (ovD ro) ro 122 (q_r4_Deep A122)) : LpOK syw Tryz.prog GT (ovD ro) ro (L_r4_Deep A148 A122) 0 Tryz.f122.ntmps (bodyOf Tryz.f122) := lp_of (l := [(nthLoop (bodyOf Tryz.f122) 0)]) (by kernel_rfl) (lp_cons (lo_r4_Deep_3 A148 A122 h148 h122) lp_nil)


theorem raw_r4_Deep (A148 : T_r4_Closer) (A122 : T_r4_Deep) (a0 : List Val) (k : W → Prop) : fnT syw Tryz.prog GT (C_r4_Deep A148 A122) (L_r4_Deep A148 A122) Tryz.f122.ntmps (bodyOf Tryz.f122) [none] Tryz.f122.results.toList [.l Cd.val a0] k = F_r4_Deep A148 A122 a0 (fun r0 => k (.i .i64 r0)) := by kernel_rfl

theorem ok_r4_Deep (A148 : T_r4_Closer) (A122 : T_r4_Deep) (h148 : FnOK syw Tryz.prog GT (ovD ro) ro 148 (q_r4_Closer A148)) (h122 : FnOK syw Tryz.prog GT (ovD ro) ro 122 (q_r4_Deep A122)) : FnOK syw Tryz.prog GT (ovD ro) ro 122 (q_r4_Deep (F_r4_Deep A148 A122)) := (fn_ok (rc := [none]) (f := 122) (fn := Tryz.f122) (c := bodyOf Tryz.f122) (nt := Tryz.f122.ntmps) (res := Tryz.f122.results.toList) (C := C_r4_Deep A148 A122) (L := (L_r4_Deep A148 A122)) (fun _ _ => rfl) Tryz.func122 (by kernel_rfl) rfl rfl (Cok_r4_Deep A148 A122 h148 h122) (Lp_r4_Deep A148 A122 h148 h122)).weak (by
  intro us k h
  unfold q_r4_Deep at h
  split at h
  · skip
    rename_i a0
    rw [raw_r4_Deep A148 A122 a0 k]
    exact h
  · exact h.elim)

abbrev T_r5_Great := List Dcl → (Bool → Prop) → Prop
def q_r5_Great (A : T_r5_Great) (us : List W) (k : W → Prop) : Prop := match us with
  | [.l Cd.dcl a0] => A a0 (fun r0 => k (.b r0))
  | _ => False
theorem q_r5_Great_weak {A A2 : T_r5_Great} (h : FnOK syw Tryz.prog GT (ovD ro) ro 83 (q_r5_Great A)) (hA : ∀ a0 K, A2 a0 K → A a0 K) : FnOK syw Tryz.prog GT (ovD ro) ro 83 (q_r5_Great A2) := h.weak (by
  intro us k h
  unfold q_r5_Great at h ⊢
  split at h
  · exact hA _ _ h
  · exact h.elim)

def F_r5_Great_l5 (A121 : T_r4_Size) (A122 : T_r4_Deep) : Nat → List Dcl → Int → Int → (Unit → Prop) → (Bool → Prop) → Prop
  | 0, _, _, _, _, _ => False
  | n + 1, x0, x3, x4, Ke, Kr => (((decide (x4 < (x0.length : Int))) = true → ((0 ≤ x4 ∧ x4 < (x0.length : Int)) ∧ ((0 ≤ x4 ∧ x4 < (x0.length : Int)) ∧ (A121 ((x0.getD x4.toNat (dfltD Cd.dcl)).val) (300 : Int) (fun y1 => (((decide ((300 : Int) < (IntKind.i64.wrap (x3 + (IntKind.i64.wrap ((((x0.getD x4.toNat (dfltD Cd.dcl)).name).length : Int) + y1)))))) = false → ((0 ≤ x4 ∧ x4 < (x0.length : Int)) ∧ (A122 ((x0.getD x4.toNat (dfltD Cd.dcl)).val) (fun y2 => (((decide ((40 : Int) < y2)) = true → Kr true) ∧ ((decide ((40 : Int) < y2)) = false → F_r5_Great_l5 A121 A122 n x0 (IntKind.i64.wrap (x3 + (IntKind.i64.wrap ((((x0.getD x4.toNat (dfltD Cd.dcl)).name).length : Int) + y1)))) (IntKind.i64.wrap (x4 + (1 : Int))) Ke Kr)))))) ∧ ((decide ((300 : Int) < (IntKind.i64.wrap (x3 + (IntKind.i64.wrap ((((x0.getD x4.toNat (dfltD Cd.dcl)).name).length : Int) + y1)))))) = true → Kr true))))))) ∧ ((decide (x4 < (x0.length : Int))) = false → Ke ()))

def F_r5_Great (A121 : T_r4_Size) (A122 : T_r4_Deep) (a0 : List Dcl) (K : Bool → Prop) : Prop :=
  (((decide ((40 : Int) < (a0.length : Int))) = true → K true) ∧ ((decide ((40 : Int) < (a0.length : Int))) = false → (∃ m, F_r5_Great_l5 A121 A122 m a0 (0 : Int) (0 : Int) (fun _ => K false) (fun y1 => K y1))))

def C_r5_Great (A121 : T_r4_Size) (A122 : T_r4_Deep) : CallT sg := tab [(121, con syw [some Cd.val, none] (q_r4_Size A121)), (122, con syw [some Cd.val] (q_r4_Deep A122))]
theorem Cok_r5_Great (A121 : T_r4_Size) (A122 : T_r4_Deep) (h121 : FnOK syw Tryz.prog GT (ovD ro) ro 121 (q_r4_Size A121)) (h122 : FnOK syw Tryz.prog GT (ovD ro) ro 122 (q_r4_Deep A122)) (o0 : Nat → Prop) : CalOK syw Tryz.prog GT (ovD ro) o0 ro (C_r5_Great A121 A122) := (tab_cons (con_ok h121) (tab_cons (con_ok h122) tab_nil)) o0

abbrev Ya_r5_Great_5 : Type := ((List (sg.Den Cd.dcl)) × Int × Int × Unit)
abbrev Yb_r5_Great_5 : Type := Unit
def ls_r5_Great_5 : LS syw Ya_r5_Great_5 Yb_r5_Great_5 := ⟨[], fCons 0 (vData syw Cd.dcl) (fCons 3 (vInt syw .i64) (fCons 4 (vInt syw .i64) (fNil syw))), hNil syw, 0, []⟩
def le_r5_Great_5 : LS syw Unit Unit := ⟨[], fNil syw, hNil syw, 0, []⟩
def lr_r5_Great_5 : LS syw (Bool × Unit) Unit := ⟨[], fCons 2 (vBool syw) (fNil syw), hNil syw, 0, []⟩
def FF_r5_Great_5 (A121 : T_r4_Size) (A122 : T_r4_Deep) (n : Nat) (x : Ya_r5_Great_5 × Yb_r5_Great_5) (K : Ex → Z sg → Prop) : Prop := F_r5_Great_l5 A121 A122 n x.1.1 x.1.2.1 x.1.2.2.1 (fun _ => K (.exit 0) (le_r5_Great_5.put ((), ()))) (fun y0 => K .ret (lr_r5_Great_5.put ((y0, ()), ())))
def h_r5_Great_5 (A121 : T_r4_Size) (A122 : T_r4_Deep) (z : Z sg) (K : Ex → Z sg → Prop) : Prop := ls_r5_Great_5.get z (fun x => ∃ n, FF_r5_Great_5 A121 A122 n x K)
def L_r5_Great (A121 : T_r4_Size) (A122 : T_r4_Deep) : LoopT sg := tabL [(5, h_r5_Great_5 A121 A122)]
theorem hs_r5_Great_5 (A121 : T_r4_Size) (A122 : T_r4_Deep) (n : Nat) (x : Ya_r5_Great_5 × Yb_r5_Great_5) (K : Ex → Z sg → Prop) : forceZ (ls_r5_Great_5.put x) (fun z => sC syw Tryz.prog GT (C_r5_Great A121 A122) (L_r5_Great A121 A122) Tryz.f83.ntmps (nthLoop (bodyOf Tryz.f83) 0) z (rnd ls_r5_Great_5 (czT 0 le_r5_Great_5 lr_r5_Great_5) (fun x => FF_r5_Great_5 A121 A122 n x K) K)) = FF_r5_Great_5 A121 A122 (n + 1) x K := by kernel_rfl
theorem hl_r5_Great_5 (A121 : T_r4_Size) (A122 : T_r4_Deep) (z : Z sg) (K : Ex → Z sg → Prop) : (L_r5_Great A121 A122) (nthLoop (bodyOf Tryz.f83) 0) z K = ls_r5_Great_5.get z (fun x => ∃ n, FF_r5_Great_5 A121 A122 n x K) := by kernel_rfl
theorem lo_r5_Great_5 (A121 : T_r4_Size) (A122 : T_r4_Deep) (h121 : FnOK syw Tryz.prog GT (ovD ro) ro 121 (q_r4_Size A121)) (h122 : FnOK syw Tryz.prog GT (ovD ro) ro 122 (q_r4_Deep A122)) : ∀ (o0 : Nat → Prop) (B : Bs sg), B.E.length ≤ 0 → ∀ z K, (L_r5_Great A121 A122) (nthLoop (bodyOf Tryz.f83) 0) z K → Sx.Sem syw Tryz.prog GT (ovD ro) o0 ro Tryz.f83.ntmps B (.loop (nthLoop (bodyOf Tryz.f83) 0)) z K :=
  loop_ok (Cok_r5_Great A121 A122 h121 h122) (lp_of (l := []) (by kernel_rfl) lp_nil) ls_r5_Great_5 (by decide) (czT 0 le_r5_Great_5 lr_r5_Great_5) (fun _ _ hB => czT_ok 0 le_r5_Great_5 lr_r5_Great_5 (Nat.le_trans hB (by decide)) (Nat.le_trans hB (by decide))) (fun _ _ h => h) (hs_r5_Great_5 A121 A122) (hl_r5_Great_5 A121 A122)
theorem Lp_r5_Great (A121 : T_r4_Size) (A122 : T_r4_Deep) (h121 : FnOK syw Tryz.prog GT (ovD ro) ro 121 (q_r4_Size A121)) (h122 : FnOK syw Tryz.prog GT (ovD ro) ro 122 (q_r4_Deep A122)) : LpOK syw Tryz.prog GT (ovD ro) ro (L_r5_Great A121 A122) 0 Tryz.f83.ntmps (bodyOf Tryz.f83) := lp_of (l := [(nthLoop (bodyOf Tryz.f83) 0)]) (by kernel_rfl) (lp_cons (lo_r5_Great_5 A121 A122 h121 h122) lp_nil)


theorem raw_r5_Great (A121 : T_r4_Size) (A122 : T_r4_Deep) (a0 : List Dcl) (k : W → Prop) : fnT syw Tryz.prog GT (C_r5_Great A121 A122) (L_r5_Great A121 A122) Tryz.f83.ntmps (bodyOf Tryz.f83) [none] Tryz.f83.results.toList [.l Cd.dcl a0] k = F_r5_Great A121 A122 a0 (fun r0 => k (.b r0)) := by kernel_rfl

theorem ok_r5_Great (A121 : T_r4_Size) (A122 : T_r4_Deep) (h121 : FnOK syw Tryz.prog GT (ovD ro) ro 121 (q_r4_Size A121)) (h122 : FnOK syw Tryz.prog GT (ovD ro) ro 122 (q_r4_Deep A122)) : FnOK syw Tryz.prog GT (ovD ro) ro 83 (q_r5_Great (F_r5_Great A121 A122)) := (fn_ok (rc := [none]) (f := 83) (fn := Tryz.f83) (c := bodyOf Tryz.f83) (nt := Tryz.f83.ntmps) (res := Tryz.f83.results.toList) (C := C_r5_Great A121 A122) (L := (L_r5_Great A121 A122)) (fun _ _ => rfl) Tryz.func83 (by kernel_rfl) rfl rfl (Cok_r5_Great A121 A122 h121 h122) (Lp_r5_Great A121 A122 h121 h122)).weak (by
  intro us k h
  unfold q_r5_Great at h
  split at h
  · skip
    rename_i a0
    rw [raw_r5_Great A121 A122 a0 k]
    exact h
  · exact h.elim)

abbrev T_ra_Size := Cnd → Int → (Int → Prop) → Prop
def q_ra_Size (A : T_ra_Size) (us : List W) (k : W → Prop) : Prop := match us with
  | [.a [.i .u8 a0_0, .s a0_1, .i .i64 a0_2, .s a0_3, .l Cd.val a0_4, .b a0_5, .l Cd.cnd a0_6], .i .i64 a1] => A (Cnd.mk a0_0 a0_1 a0_2 ⟨a0_3, a0_4, a0_5⟩ a0_6) a1 (fun r0 => k (.i .i64 r0))
  | _ => False
theorem q_ra_Size_weak {A A2 : T_ra_Size} (h : FnOK syw Tryz.prog GT (ovD ro) ro 44 (q_ra_Size A)) (hA : ∀ a0 a1 K, A2 a0 a1 K → A a0 a1 K) : FnOK syw Tryz.prog GT (ovD ro) ro 44 (q_ra_Size A2) := h.weak (by
  intro us k h
  unfold q_ra_Size at h ⊢
  split at h
  · exact hA _ _ _ h
  · exact h.elim)

def F_ra_Size_l3 (A44 : T_ra_Size) : Nat → Int → Int → Int → Int → List UInt8 → Int → List UInt8 → List Val → Bool → List Cnd → (Int → Prop) → Prop
  | 0, _, _, _, _, _, _, _, _, _, _, _ => False
  | n + 1, x1, x5, x6, c0_0, c0_1, c0_2, c0_3, c0_4, c0_5, c0_6, Ke => (((decide (x6 < (c0_6.length : Int))) = true → (((decide (x5 ≤ x1)) = true → ((0 ≤ x6 ∧ x6 < (c0_6.length : Int)) ∧ (A44 (Cnd.mk ((c0_6.getD x6.toNat (dfltD Cd.cnd)).kind) ((c0_6.getD x6.toNat (dfltD Cd.cnd)).name) ((c0_6.getD x6.toNat (dfltD Cd.cnd)).num) ⟨(c0_6.getD x6.toNat (dfltD Cd.cnd)).decl.name, (c0_6.getD x6.toNat (dfltD Cd.cnd)).decl.val, (c0_6.getD x6.toNat (dfltD Cd.cnd)).decl.imp⟩ ((c0_6.getD x6.toNat (dfltD Cd.cnd)).list)) (IntKind.i64.wrap (x1 - x5)) (fun y1 => F_ra_Size_l3 A44 n x1 (IntKind.i64.wrap (x5 + y1)) (IntKind.i64.wrap (x6 + (1 : Int))) c0_0 c0_1 c0_2 c0_3 c0_4 c0_5 c0_6 Ke)))) ∧ ((decide (x5 ≤ x1)) = false → Ke x5))) ∧ ((decide (x6 < (c0_6.length : Int))) = false → Ke x5))

def F_ra_Size (A44 : T_ra_Size) (a0 : Cnd) (a1 : Int) (K : Int → Prop) : Prop :=
  (∃ m, F_ra_Size_l3 A44 m a1 (1 : Int) (0 : Int) a0.kind a0.name a0.num a0.decl.name a0.decl.val a0.decl.imp a0.list (fun y1 => K y1))

def C_ra_Size (A44 : T_ra_Size) : CallT sg := tab [(44, conA syw [[none, none, none, none, some Cd.val, none, some Cd.cnd], []] [none, none] (q_ra_Size A44))]
theorem Cok_ra_Size (A44 : T_ra_Size) (h44 : FnOK syw Tryz.prog GT (ovD ro) ro 44 (q_ra_Size A44)) (o0 : Nat → Prop) : CalOK syw Tryz.prog GT (ovD ro) o0 ro (C_ra_Size A44) := (tab_cons (conA_ok h44) tab_nil) o0

abbrev Ya_ra_Size_3 : Type := (Int × Unit × Int × Int × Unit)
abbrev Yb_ra_Size_3 : Type := ((Int × (List UInt8) × Int × (List UInt8) × (List (sg.Den Cd.val)) × Bool × (List (sg.Den Cd.cnd)) × Unit) × Unit)
def ls_ra_Size_3 : LS syw Ya_ra_Size_3 Yb_ra_Size_3 := ⟨[], fCons 1 (vInt syw .i64) (fCons 2 (vLit syw (.p 0 0)) (fCons 5 (vInt syw .i64) (fCons 6 (vInt syw .i64) (fNil syw)))), hCells 0 (lCons (vInt syw .u8) (lCons (vStr syw) (lCons (vInt syw .i64) (lCons (vStr syw) (lCons (vData syw Cd.val) (lCons (vBool syw) (lCons (vData syw Cd.cnd) (lNil syw)))))))) (hNil syw), 1, []⟩
def le_ra_Size_3 : LS syw (Int × Unit) Unit := ⟨[], fCons 5 (vInt syw .i64) (fNil syw), hNil syw, 0, []⟩
def lr_ra_Size_3 : LS syw Unit Unit := ⟨[], fNil syw, hNil syw, 0, []⟩
def FF_ra_Size_3 (A44 : T_ra_Size) (n : Nat) (x : Ya_ra_Size_3 × Yb_ra_Size_3) (K : Ex → Z sg → Prop) : Prop := F_ra_Size_l3 A44 n x.1.1 x.1.2.2.1 x.1.2.2.2.1 x.2.1.1 x.2.1.2.1 x.2.1.2.2.1 x.2.1.2.2.2.1 x.2.1.2.2.2.2.1 x.2.1.2.2.2.2.2.1 x.2.1.2.2.2.2.2.2.1 (fun y0 => K (.exit 0) (le_ra_Size_3.put ((y0, ()), ())))
def h_ra_Size_3 (A44 : T_ra_Size) (z : Z sg) (K : Ex → Z sg → Prop) : Prop := ls_ra_Size_3.get z (fun x => ∃ n, FF_ra_Size_3 A44 n x K)
def L_ra_Size (A44 : T_ra_Size) : LoopT sg := tabL [(3, h_ra_Size_3 A44)]
theorem hs_ra_Size_3 (A44 : T_ra_Size) (n : Nat) (x : Ya_ra_Size_3 × Yb_ra_Size_3) (K : Ex → Z sg → Prop) : forceZ (ls_ra_Size_3.put x) (fun z => sC syw Tryz.prog GT (C_ra_Size A44) (L_ra_Size A44) Tryz.f44.ntmps (nthLoop (bodyOf Tryz.f44) 0) z (rnd ls_ra_Size_3 (czT 0 le_ra_Size_3 lr_ra_Size_3) (fun x => FF_ra_Size_3 A44 n x K) K)) = FF_ra_Size_3 A44 (n + 1) x K := by kernel_rfl
theorem hl_ra_Size_3 (A44 : T_ra_Size) (z : Z sg) (K : Ex → Z sg → Prop) : (L_ra_Size A44) (nthLoop (bodyOf Tryz.f44) 0) z K = ls_ra_Size_3.get z (fun x => ∃ n, FF_ra_Size_3 A44 n x K) := by kernel_rfl
theorem lo_ra_Size_3 (A44 : T_ra_Size) (h44 : FnOK syw Tryz.prog GT (ovD ro) ro 44 (q_ra_Size A44)) : ∀ (o0 : Nat → Prop) (B : Bs sg), B.E.length ≤ 0 → ∀ z K, (L_ra_Size A44) (nthLoop (bodyOf Tryz.f44) 0) z K → Sx.Sem syw Tryz.prog GT (ovD ro) o0 ro Tryz.f44.ntmps B (.loop (nthLoop (bodyOf Tryz.f44) 0)) z K :=
  loop_ok (Cok_ra_Size A44 h44) (lp_of (l := []) (by kernel_rfl) lp_nil) ls_ra_Size_3 (by decide) (czT 0 le_ra_Size_3 lr_ra_Size_3) (fun _ _ hB => czT_ok 0 le_ra_Size_3 lr_ra_Size_3 (Nat.le_trans hB (by decide)) (Nat.le_trans hB (by decide))) (fun _ _ h => h) (hs_ra_Size_3 A44) (hl_ra_Size_3 A44)
theorem Lp_ra_Size (A44 : T_ra_Size) (h44 : FnOK syw Tryz.prog GT (ovD ro) ro 44 (q_ra_Size A44)) : LpOK syw Tryz.prog GT (ovD ro) ro (L_ra_Size A44) 0 Tryz.f44.ntmps (bodyOf Tryz.f44) := lp_of (l := [(nthLoop (bodyOf Tryz.f44) 0)]) (by kernel_rfl) (lp_cons (lo_ra_Size_3 A44 h44) lp_nil)


theorem raw_ra_Size (A44 : T_ra_Size) (a0 : Cnd) (a1 : Int) (k : W → Prop) : fnT syw Tryz.prog GT (C_ra_Size A44) (L_ra_Size A44) Tryz.f44.ntmps (bodyOf Tryz.f44) [none] Tryz.f44.results.toList [.a [.i .u8 a0.kind, .s a0.name, .i .i64 a0.num, .s a0.decl.name, .l Cd.val a0.decl.val, .b a0.decl.imp, .l Cd.cnd a0.list], .i .i64 a1] k = F_ra_Size A44 a0 a1 (fun r0 => k (.i .i64 r0)) := by kernel_rfl

theorem ok_ra_Size (A44 : T_ra_Size) (h44 : FnOK syw Tryz.prog GT (ovD ro) ro 44 (q_ra_Size A44)) : FnOK syw Tryz.prog GT (ovD ro) ro 44 (q_ra_Size (F_ra_Size A44)) := (fn_ok (rc := [none]) (f := 44) (fn := Tryz.f44) (c := bodyOf Tryz.f44) (nt := Tryz.f44.ntmps) (res := Tryz.f44.results.toList) (C := C_ra_Size A44) (L := (L_ra_Size A44)) (fun _ _ => rfl) Tryz.func44 (by kernel_rfl) rfl rfl (Cok_ra_Size A44 h44) (Lp_ra_Size A44 h44)).weak (by
  intro us k h
  unfold q_ra_Size at h
  split at h
  · skip
    rename_i a0_0 a0_1 a0_2 a0_3 a0_4 a0_5 a0_6 a1
    rw [raw_ra_Size A44 (Cnd.mk a0_0 a0_1 a0_2 ⟨a0_3, a0_4, a0_5⟩ a0_6) a1 k]
    exact h
  · exact h.elim)

abbrev T_ra_long := Cnd → (Bool → Prop) → Prop
def q_ra_long (A : T_ra_long) (us : List W) (k : W → Prop) : Prop := match us with
  | [.a [.i .u8 a0_0, .s a0_1, .i .i64 a0_2, .s a0_3, .l Cd.val a0_4, .b a0_5, .l Cd.cnd a0_6]] => A (Cnd.mk a0_0 a0_1 a0_2 ⟨a0_3, a0_4, a0_5⟩ a0_6) (fun r0 => k (.b r0))
  | _ => False
theorem q_ra_long_weak {A A2 : T_ra_long} (h : FnOK syw Tryz.prog GT (ovD ro) ro 45 (q_ra_long A)) (hA : ∀ a0 K, A2 a0 K → A a0 K) : FnOK syw Tryz.prog GT (ovD ro) ro 45 (q_ra_long A2) := h.weak (by
  intro us k h
  unfold q_ra_long at h ⊢
  split at h
  · exact hA _ _ h
  · exact h.elim)

def F_ra_long_l4 (A83 : T_r5_Great) (A45 : T_ra_long) : Nat → Int → Int → List UInt8 → Int → List UInt8 → List Val → Bool → List Cnd → (Unit → Prop) → (Bool → Prop) → Prop
  | 0, _, _, _, _, _, _, _, _, _, _ => False
  | n + 1, x3, c0_0, c0_1, c0_2, c0_3, c0_4, c0_5, c0_6, Ke, Kr => (((decide (x3 < (c0_6.length : Int))) = true → ((0 ≤ x3 ∧ x3 < (c0_6.length : Int)) ∧ (A45 (Cnd.mk ((c0_6.getD x3.toNat (dfltD Cd.cnd)).kind) ((c0_6.getD x3.toNat (dfltD Cd.cnd)).name) ((c0_6.getD x3.toNat (dfltD Cd.cnd)).num) ⟨(c0_6.getD x3.toNat (dfltD Cd.cnd)).decl.name, (c0_6.getD x3.toNat (dfltD Cd.cnd)).decl.val, (c0_6.getD x3.toNat (dfltD Cd.cnd)).decl.imp⟩ ((c0_6.getD x3.toNat (dfltD Cd.cnd)).list)) (fun y1 => ((y1 = true → Kr true) ∧ (y1 = false → F_ra_long_l4 A83 A45 n (IntKind.i64.wrap (x3 + (1 : Int))) c0_0 c0_1 c0_2 c0_3 c0_4 c0_5 c0_6 Ke Kr)))))) ∧ ((decide (x3 < (c0_6.length : Int))) = false → Ke ()))

def F_ra_long (A83 : T_r5_Great) (A45 : T_ra_long) (a0 : Cnd) (K : Bool → Prop) : Prop :=
  (A83 [(Dcl.mk a0.decl.name a0.decl.val a0.decl.imp)] (fun y1 => ((y1 = false → (((decide ((200 : Int) < (a0.name.length : Int))) = true → K true) ∧ ((decide ((200 : Int) < (a0.name.length : Int))) = false → (∃ m, F_ra_long_l4 A83 A45 m (0 : Int) a0.kind a0.name a0.num a0.decl.name a0.decl.val a0.decl.imp a0.list (fun _ => K false) (fun y2 => K y2))))) ∧ (y1 = true → K true))))

def C_ra_long (A83 : T_r5_Great) (A45 : T_ra_long) : CallT sg := tab [(83, con syw [some Cd.dcl] (q_r5_Great A83)), (45, conA syw [[none, none, none, none, some Cd.val, none, some Cd.cnd]] [none] (q_ra_long A45))]
theorem Cok_ra_long (A83 : T_r5_Great) (A45 : T_ra_long) (h83 : FnOK syw Tryz.prog GT (ovD ro) ro 83 (q_r5_Great A83)) (h45 : FnOK syw Tryz.prog GT (ovD ro) ro 45 (q_ra_long A45)) (o0 : Nat → Prop) : CalOK syw Tryz.prog GT (ovD ro) o0 ro (C_ra_long A83 A45) := (tab_cons (con_ok h83) (tab_cons (conA_ok h45) tab_nil)) o0

abbrev Ya_ra_long_4 : Type := (Unit × Int × Unit)
abbrev Yb_ra_long_4 : Type := ((Int × (List UInt8) × Int × (List UInt8) × (List (sg.Den Cd.val)) × Bool × (List (sg.Den Cd.cnd)) × Unit) × Unit)
def ls_ra_long_4 : LS syw Ya_ra_long_4 Yb_ra_long_4 := ⟨[], fCons 1 (vLit syw (.p 0 0)) (fCons 3 (vInt syw .i64) (fNil syw)), hCells 0 (lCons (vInt syw .u8) (lCons (vStr syw) (lCons (vInt syw .i64) (lCons (vStr syw) (lCons (vData syw Cd.val) (lCons (vBool syw) (lCons (vData syw Cd.cnd) (lNil syw)))))))) (hNil syw), 1, []⟩
def le_ra_long_4 : LS syw Unit Unit := ⟨[], fNil syw, hNil syw, 0, []⟩
def lr_ra_long_4 : LS syw (Bool × Unit) Unit := ⟨[], fCons 2 (vBool syw) (fNil syw), hNil syw, 0, []⟩
def FF_ra_long_4 (A83 : T_r5_Great) (A45 : T_ra_long) (n : Nat) (x : Ya_ra_long_4 × Yb_ra_long_4) (K : Ex → Z sg → Prop) : Prop := F_ra_long_l4 A83 A45 n x.1.2.1 x.2.1.1 x.2.1.2.1 x.2.1.2.2.1 x.2.1.2.2.2.1 x.2.1.2.2.2.2.1 x.2.1.2.2.2.2.2.1 x.2.1.2.2.2.2.2.2.1 (fun _ => K (.exit 0) (le_ra_long_4.put ((), ()))) (fun y0 => K .ret (lr_ra_long_4.put ((y0, ()), ())))
def h_ra_long_4 (A83 : T_r5_Great) (A45 : T_ra_long) (z : Z sg) (K : Ex → Z sg → Prop) : Prop := ls_ra_long_4.get z (fun x => ∃ n, FF_ra_long_4 A83 A45 n x K)
def L_ra_long (A83 : T_r5_Great) (A45 : T_ra_long) : LoopT sg := tabL [(4, h_ra_long_4 A83 A45)]
theorem hs_ra_long_4 (A83 : T_r5_Great) (A45 : T_ra_long) (n : Nat) (x : Ya_ra_long_4 × Yb_ra_long_4) (K : Ex → Z sg → Prop) : forceZ (ls_ra_long_4.put x) (fun z => sC syw Tryz.prog GT (C_ra_long A83 A45) (L_ra_long A83 A45) Tryz.f45.ntmps (nthLoop (bodyOf Tryz.f45) 0) z (rnd ls_ra_long_4 (czT 0 le_ra_long_4 lr_ra_long_4) (fun x => FF_ra_long_4 A83 A45 n x K) K)) = FF_ra_long_4 A83 A45 (n + 1) x K := by kernel_rfl
theorem hl_ra_long_4 (A83 : T_r5_Great) (A45 : T_ra_long) (z : Z sg) (K : Ex → Z sg → Prop) : (L_ra_long A83 A45) (nthLoop (bodyOf Tryz.f45) 0) z K = ls_ra_long_4.get z (fun x => ∃ n, FF_ra_long_4 A83 A45 n x K) := by kernel_rfl
theorem lo_ra_long_4 (A83 : T_r5_Great) (A45 : T_ra_long) (h83 : FnOK syw Tryz.prog GT (ovD ro) ro 83 (q_r5_Great A83)) (h45 : FnOK syw Tryz.prog GT (ovD ro) ro 45 (q_ra_long A45)) : ∀ (o0 : Nat → Prop) (B : Bs sg), B.E.length ≤ 0 → ∀ z K, (L_ra_long A83 A45) (nthLoop (bodyOf Tryz.f45) 0) z K → Sx.Sem syw Tryz.prog GT (ovD ro) o0 ro Tryz.f45.ntmps B (.loop (nthLoop (bodyOf Tryz.f45) 0)) z K :=
  loop_ok (Cok_ra_long A83 A45 h83 h45) (lp_of (l := []) (by kernel_rfl) lp_nil) ls_ra_long_4 (by decide) (czT 0 le_ra_long_4 lr_ra_long_4) (fun _ _ hB => czT_ok 0 le_ra_long_4 lr_ra_long_4 (Nat.le_trans hB (by decide)) (Nat.le_trans hB (by decide))) (fun _ _ h => h) (hs_ra_long_4 A83 A45) (hl_ra_long_4 A83 A45)
theorem Lp_ra_long (A83 : T_r5_Great) (A45 : T_ra_long) (h83 : FnOK syw Tryz.prog GT (ovD ro) ro 83 (q_r5_Great A83)) (h45 : FnOK syw Tryz.prog GT (ovD ro) ro 45 (q_ra_long A45)) : LpOK syw Tryz.prog GT (ovD ro) ro (L_ra_long A83 A45) 0 Tryz.f45.ntmps (bodyOf Tryz.f45) := lp_of (l := [(nthLoop (bodyOf Tryz.f45) 0)]) (by kernel_rfl) (lp_cons (lo_ra_long_4 A83 A45 h83 h45) lp_nil)


theorem raw_ra_long (A83 : T_r5_Great) (A45 : T_ra_long) (a0 : Cnd) (k : W → Prop) : fnT syw Tryz.prog GT (C_ra_long A83 A45) (L_ra_long A83 A45) Tryz.f45.ntmps (bodyOf Tryz.f45) [none] Tryz.f45.results.toList [.a [.i .u8 a0.kind, .s a0.name, .i .i64 a0.num, .s a0.decl.name, .l Cd.val a0.decl.val, .b a0.decl.imp, .l Cd.cnd a0.list]] k = F_ra_long A83 A45 a0 (fun r0 => k (.b r0)) := by kernel_rfl

theorem ok_ra_long (A83 : T_r5_Great) (A45 : T_ra_long) (h83 : FnOK syw Tryz.prog GT (ovD ro) ro 83 (q_r5_Great A83)) (h45 : FnOK syw Tryz.prog GT (ovD ro) ro 45 (q_ra_long A45)) : FnOK syw Tryz.prog GT (ovD ro) ro 45 (q_ra_long (F_ra_long A83 A45)) := (fn_ok (rc := [none]) (f := 45) (fn := Tryz.f45) (c := bodyOf Tryz.f45) (nt := Tryz.f45.ntmps) (res := Tryz.f45.results.toList) (C := C_ra_long A83 A45) (L := (L_ra_long A83 A45)) (fun _ _ => rfl) Tryz.func45 (by kernel_rfl) rfl rfl (Cok_ra_long A83 A45 h83 h45) (Lp_ra_long A83 A45 h83 h45)).weak (by
  intro us k h
  unfold q_ra_long at h
  split at h
  · skip
    rename_i a0_0 a0_1 a0_2 a0_3 a0_4 a0_5 a0_6
    rw [raw_ra_long A83 A45 (Cnd.mk a0_0 a0_1 a0_2 ⟨a0_3, a0_4, a0_5⟩ a0_6) k]
    exact h
  · exact h.elim)

abbrev T_ra_Great := Cnd → (Bool → Prop) → Prop
def q_ra_Great (A : T_ra_Great) (us : List W) (k : W → Prop) : Prop := match us with
  | [.a [.i .u8 a0_0, .s a0_1, .i .i64 a0_2, .s a0_3, .l Cd.val a0_4, .b a0_5, .l Cd.cnd a0_6]] => A (Cnd.mk a0_0 a0_1 a0_2 ⟨a0_3, a0_4, a0_5⟩ a0_6) (fun r0 => k (.b r0))
  | _ => False
theorem q_ra_Great_weak {A A2 : T_ra_Great} (h : FnOK syw Tryz.prog GT (ovD ro) ro 19 (q_ra_Great A)) (hA : ∀ a0 K, A2 a0 K → A a0 K) : FnOK syw Tryz.prog GT (ovD ro) ro 19 (q_ra_Great A2) := h.weak (by
  intro us k h
  unfold q_ra_Great at h ⊢
  split at h
  · exact hA _ _ h
  · exact h.elim)

def F_ra_Great (A44 : T_ra_Size) (A45 : T_ra_long) (a0 : Cnd) (K : Bool → Prop) : Prop :=
  (A44 (Cnd.mk a0.kind a0.name a0.num ⟨a0.decl.name, a0.decl.val, a0.decl.imp⟩ a0.list) (100 : Int) (fun y1 => (((decide ((100 : Int) < y1)) = false → (A45 (Cnd.mk a0.kind a0.name a0.num ⟨a0.decl.name, a0.decl.val, a0.decl.imp⟩ a0.list) (fun y2 => K y2))) ∧ ((decide ((100 : Int) < y1)) = true → K true))))

def C_ra_Great (A44 : T_ra_Size) (A45 : T_ra_long) : CallT sg := tab [(44, conA syw [[none, none, none, none, some Cd.val, none, some Cd.cnd], []] [none, none] (q_ra_Size A44)), (45, conA syw [[none, none, none, none, some Cd.val, none, some Cd.cnd]] [none] (q_ra_long A45))]
theorem Cok_ra_Great (A44 : T_ra_Size) (A45 : T_ra_long) (h44 : FnOK syw Tryz.prog GT (ovD ro) ro 44 (q_ra_Size A44)) (h45 : FnOK syw Tryz.prog GT (ovD ro) ro 45 (q_ra_long A45)) (o0 : Nat → Prop) : CalOK syw Tryz.prog GT (ovD ro) o0 ro (C_ra_Great A44 A45) := (tab_cons (conA_ok h44) (tab_cons (conA_ok h45) tab_nil)) o0

theorem raw_ra_Great (A44 : T_ra_Size) (A45 : T_ra_long) (a0 : Cnd) (k : W → Prop) : fnT syw Tryz.prog GT (C_ra_Great A44 A45) noL Tryz.f19.ntmps (bodyOf Tryz.f19) [none] Tryz.f19.results.toList [.a [.i .u8 a0.kind, .s a0.name, .i .i64 a0.num, .s a0.decl.name, .l Cd.val a0.decl.val, .b a0.decl.imp, .l Cd.cnd a0.list]] k = F_ra_Great A44 A45 a0 (fun r0 => k (.b r0)) := by kernel_rfl

theorem ok_ra_Great (A44 : T_ra_Size) (A45 : T_ra_long) (h44 : FnOK syw Tryz.prog GT (ovD ro) ro 44 (q_ra_Size A44)) (h45 : FnOK syw Tryz.prog GT (ovD ro) ro 45 (q_ra_long A45)) : FnOK syw Tryz.prog GT (ovD ro) ro 19 (q_ra_Great (F_ra_Great A44 A45)) := (fn_ok (rc := [none]) (f := 19) (fn := Tryz.f19) (c := bodyOf Tryz.f19) (nt := Tryz.f19.ntmps) (res := Tryz.f19.results.toList) (C := C_ra_Great A44 A45) (L := noL) (fun _ _ => rfl) Tryz.func19 (by kernel_rfl) rfl rfl (Cok_ra_Great A44 A45 h44 h45) (lp_of (l := []) (by kernel_rfl) lp_nil)).weak (by
  intro us k h
  unfold q_ra_Great at h
  split at h
  · skip
    rename_i a0_0 a0_1 a0_2 a0_3 a0_4 a0_5 a0_6
    rw [raw_ra_Great A44 A45 (Cnd.mk a0_0 a0_1 a0_2 ⟨a0_3, a0_4, a0_5⟩ a0_6) k]
    exact h
  · exact h.elim)

abbrev T_r6_Is := Int → (Bool → Prop) → Prop
def q_r6_Is (A : T_r6_Is) (us : List W) (k : W → Prop) : Prop := match us with
  | [.i .i64 a0] => A a0 (fun r0 => k (.b r0))
  | _ => False
theorem q_r6_Is_weak {A A2 : T_r6_Is} (h : FnOK sy Tryz.prog GT (ovD ro) ro 165 (q_r6_Is A)) (hA : ∀ a0 K, A2 a0 K → A a0 K) : FnOK sy Tryz.prog GT (ovD ro) ro 165 (q_r6_Is A2) := h.weak (by
  intro us k h
  unfold q_r6_Is at h ⊢
  split at h
  · exact hA _ _ h
  · exact h.elim)

def F_r6_Is (a0 : Int) (K : Bool → Prop) : Prop :=
  (((decide ((-1000000000000 : Int) ≤ a0)) = true → K (decide (a0 ≤ (1000000000000 : Int)))) ∧ ((decide ((-1000000000000 : Int) ≤ a0)) = false → K false))

def C_r6_Is : CallT sg := tab []
theorem Cok_r6_Is (o0 : Nat → Prop) : CalOK sy Tryz.prog GT (ovD ro) o0 ro (C_r6_Is) := tab_nil o0

theorem raw_r6_Is (a0 : Int) (k : W → Prop) : fnT sy Tryz.prog GT (C_r6_Is) noL Tryz.f165.ntmps (bodyOf Tryz.f165) [none] Tryz.f165.results.toList [.i .i64 a0] k = F_r6_Is a0 (fun r0 => k (.b r0)) := by kernel_rfl

theorem ok_r6_Is : FnOK sy Tryz.prog GT (ovD ro) ro 165 (q_r6_Is (F_r6_Is)) := (fn_ok (rc := [none]) (f := 165) (fn := Tryz.f165) (c := bodyOf Tryz.f165) (nt := Tryz.f165.ntmps) (res := Tryz.f165.results.toList) (C := C_r6_Is) (L := noL) (fun _ _ => rfl) Tryz.func165 (by kernel_rfl) rfl rfl (Cok_r6_Is) (lp_of (l := []) (by kernel_rfl) lp_nil)).weak (by
  intro us k h
  unfold q_r6_Is at h
  split at h
  · rw [raw_r6_Is]; exact h
  · exact h.elim)

abbrev T_ra_plain := Dcl → (Bool → Prop) → Prop
def q_ra_plain (A : T_ra_plain) (us : List W) (k : W → Prop) : Prop := match us with
  | [.a [.s a0_0, .l Cd.val a0_1, .b a0_2]] => A (Dcl.mk a0_0 a0_1 a0_2) (fun r0 => k (.b r0))
  | _ => False
theorem q_ra_plain_weak {A A2 : T_ra_plain} (h : FnOK sy Tryz.prog GT (ovD ro) ro 123 (q_ra_plain A)) (hA : ∀ a0 K, A2 a0 K → A a0 K) : FnOK sy Tryz.prog GT (ovD ro) ro 123 (q_ra_plain A2) := h.weak (by
  intro us k h
  unfold q_ra_plain at h ⊢
  split at h
  · exact hA _ _ h
  · exact h.elim)

def F_ra_plain (a0 : Dcl) (K : Bool → Prop) : Prop :=
  (((a0.name == ([] : List UInt8)) = true → (((decide ((a0.val.length : Int) = (0 : Int))) = true → K (!a0.imp)) ∧ ((decide ((a0.val.length : Int) = (0 : Int))) = false → K false))) ∧ ((a0.name == ([] : List UInt8)) = false → K false))

def C_ra_plain : CallT sg := tab []
theorem Cok_ra_plain (o0 : Nat → Prop) : CalOK sy Tryz.prog GT (ovD ro) o0 ro (C_ra_plain) := tab_nil o0

theorem raw_ra_plain (a0 : Dcl) (k : W → Prop) : fnT sy Tryz.prog GT (C_ra_plain) noL Tryz.f123.ntmps (bodyOf Tryz.f123) [none] Tryz.f123.results.toList [.a [.s a0.name, .l Cd.val a0.val, .b a0.imp]] k = F_ra_plain a0 (fun r0 => k (.b r0)) := by kernel_rfl

theorem ok_ra_plain : FnOK sy Tryz.prog GT (ovD ro) ro 123 (q_ra_plain (F_ra_plain)) := (fn_ok (rc := [none]) (f := 123) (fn := Tryz.f123) (c := bodyOf Tryz.f123) (nt := Tryz.f123.ntmps) (res := Tryz.f123.results.toList) (C := C_ra_plain) (L := noL) (fun _ _ => rfl) Tryz.func123 (by kernel_rfl) rfl rfl (Cok_ra_plain) (lp_of (l := []) (by kernel_rfl) lp_nil)).weak (by
  intro us k h
  unfold q_ra_plain at h
  split at h
  · skip
    rename_i a0_0 a0_1 a0_2
    rw [raw_ra_plain (Dcl.mk a0_0 a0_1 a0_2) k]
    exact h
  · exact h.elim)

abbrev T_ra_listed := Cnd → (Bool → Prop) → Prop
def q_ra_listed (A : T_ra_listed) (us : List W) (k : W → Prop) : Prop := match us with
  | [.a [.i .u8 a0_0, .s a0_1, .i .i64 a0_2, .s a0_3, .l Cd.val a0_4, .b a0_5, .l Cd.cnd a0_6]] => A (Cnd.mk a0_0 a0_1 a0_2 ⟨a0_3, a0_4, a0_5⟩ a0_6) (fun r0 => k (.b r0))
  | _ => False
theorem q_ra_listed_weak {A A2 : T_ra_listed} (h : FnOK sy Tryz.prog GT (ovD ro) ro 86 (q_ra_listed A)) (hA : ∀ a0 K, A2 a0 K → A a0 K) : FnOK sy Tryz.prog GT (ovD ro) ro 86 (q_ra_listed A2) := h.weak (by
  intro us k h
  unfold q_ra_listed at h ⊢
  split at h
  · exact hA _ _ h
  · exact h.elim)

def F_ra_listed (A123 : T_ra_plain) (a0 : Cnd) (K : Bool → Prop) : Prop :=
  (((a0.name == ([] : List UInt8)) = true → (((decide (a0.num = (0 : Int))) = true → (A123 (Dcl.mk a0.decl.name a0.decl.val a0.decl.imp) (fun y1 => K y1))) ∧ ((decide (a0.num = (0 : Int))) = false → K false))) ∧ ((a0.name == ([] : List UInt8)) = false → K false))

def C_ra_listed (A123 : T_ra_plain) : CallT sg := tab [(123, conA sy [[none, some Cd.val, none]] [none] (q_ra_plain A123))]
theorem Cok_ra_listed (A123 : T_ra_plain) (h123 : FnOK sy Tryz.prog GT (ovD ro) ro 123 (q_ra_plain A123)) (o0 : Nat → Prop) : CalOK sy Tryz.prog GT (ovD ro) o0 ro (C_ra_listed A123) := (tab_cons (conA_ok h123) tab_nil) o0

theorem raw_ra_listed (A123 : T_ra_plain) (a0 : Cnd) (k : W → Prop) : fnT sy Tryz.prog GT (C_ra_listed A123) noL Tryz.f86.ntmps (bodyOf Tryz.f86) [none] Tryz.f86.results.toList [.a [.i .u8 a0.kind, .s a0.name, .i .i64 a0.num, .s a0.decl.name, .l Cd.val a0.decl.val, .b a0.decl.imp, .l Cd.cnd a0.list]] k = F_ra_listed A123 a0 (fun r0 => k (.b r0)) := by kernel_rfl

theorem ok_ra_listed (A123 : T_ra_plain) (h123 : FnOK sy Tryz.prog GT (ovD ro) ro 123 (q_ra_plain A123)) : FnOK sy Tryz.prog GT (ovD ro) ro 86 (q_ra_listed (F_ra_listed A123)) := (fn_ok (rc := [none]) (f := 86) (fn := Tryz.f86) (c := bodyOf Tryz.f86) (nt := Tryz.f86.ntmps) (res := Tryz.f86.results.toList) (C := C_ra_listed A123) (L := noL) (fun _ _ => rfl) Tryz.func86 (by kernel_rfl) rfl rfl (Cok_ra_listed A123 h123) (lp_of (l := []) (by kernel_rfl) lp_nil)).weak (by
  intro us k h
  unfold q_ra_listed at h
  split at h
  · skip
    rename_i a0_0 a0_1 a0_2 a0_3 a0_4 a0_5 a0_6
    rw [raw_ra_listed A123 (Cnd.mk a0_0 a0_1 a0_2 ⟨a0_3, a0_4, a0_5⟩ a0_6) k]
    exact h
  · exact h.elim)

abbrev T_ra_medium := List UInt8 → (Bool → Prop) → Prop
def q_ra_medium (A : T_ra_medium) (us : List W) (k : W → Prop) : Prop := match us with
  | [.s a0] => A a0 (fun r0 => k (.b r0))
  | _ => False
theorem q_ra_medium_weak {A A2 : T_ra_medium} (h : FnOK sy Tryz.prog GT (ovD ro) ro 164 (q_ra_medium A)) (hA : ∀ a0 K, A2 a0 K → A a0 K) : FnOK sy Tryz.prog GT (ovD ro) ro 164 (q_ra_medium A2) := h.weak (by
  intro us k h
  unfold q_ra_medium at h ⊢
  split at h
  · exact hA _ _ h
  · exact h.elim)

def F_ra_medium_l4 (A98 : T_vitrineref01_Lower) : Nat → List UInt8 → Int → (Unit → Prop) → (Bool → Prop) → Prop
  | 0, _, _, _, _ => False
  | n + 1, x0, x3, Ke, Kr => (((decide (x3 < (x0.length : Int))) = true → ((0 ≤ x3 ∧ x3 < (x0.length : Int)) ∧ (((decide (((x0.getD x3.toNat 0).toNat : Int) = (0 : Int))) = true → Kr false) ∧ ((decide (((x0.getD x3.toNat 0).toNat : Int) = (0 : Int))) = false → (I64 (x3 + (1 : Int)) ∧ F_ra_medium_l4 A98 n x0 (x3 + (1 : Int)) Ke Kr))))) ∧ ((decide (x3 < (x0.length : Int))) = false → Ke ()))

def F_ra_medium (A98 : T_vitrineref01_Lower) (a0 : List UInt8) (K : Bool → Prop) : Prop :=
  (((a0 == ([] : List UInt8)) = false → (((decide ((64 : Int) < (a0.length : Int))) = false → (A98 a0 (fun y1 => (((!(a0 == y1)) = false → (((a0 == ([97, 110, 100] : List UInt8)) = false → (((a0 == ([111, 114] : List UInt8)) = false → (((a0 == ([110, 111, 116] : List UInt8)) = false → (((a0 == ([111, 110, 108, 121] : List UInt8)) = true → K false) ∧ ((a0 == ([111, 110, 108, 121] : List UInt8)) = false → (∃ m, F_ra_medium_l4 A98 m a0 (0 : Int) (fun _ => K true) (fun y2 => K y2))))) ∧ ((a0 == ([110, 111, 116] : List UInt8)) = true → K false))) ∧ ((a0 == ([111, 114] : List UInt8)) = true → K false))) ∧ ((a0 == ([97, 110, 100] : List UInt8)) = true → K false))) ∧ ((!(a0 == y1)) = true → K false))))) ∧ ((decide ((64 : Int) < (a0.length : Int))) = true → K false))) ∧ ((a0 == ([] : List UInt8)) = true → K false))

def C_ra_medium (A98 : T_vitrineref01_Lower) : CallT sg := tab [(98, con sy [none] (q_vitrineref01_Lower A98))]
theorem Cok_ra_medium (A98 : T_vitrineref01_Lower) (h98 : FnOK sy Tryz.prog GT (ovD ro) ro 98 (q_vitrineref01_Lower A98)) (o0 : Nat → Prop) : CalOK sy Tryz.prog GT (ovD ro) o0 ro (C_ra_medium A98) := (tab_cons (con_ok h98) tab_nil) o0

abbrev Ya_ra_medium_4 : Type := ((List UInt8) × Int × Unit)
abbrev Yb_ra_medium_4 : Type := Unit
def ls_ra_medium_4 : LS sy Ya_ra_medium_4 Yb_ra_medium_4 := ⟨[], fCons 0 (vStr sy) (fCons 3 (vInt sy .i64) (fNil sy)), hNil sy, 0, []⟩
def le_ra_medium_4 : LS sy Unit Unit := ⟨[], fNil sy, hNil sy, 0, []⟩
def lr_ra_medium_4 : LS sy (Bool × Unit) Unit := ⟨[], fCons 2 (vBool sy) (fNil sy), hNil sy, 0, []⟩
def FF_ra_medium_4 (A98 : T_vitrineref01_Lower) (n : Nat) (x : Ya_ra_medium_4 × Yb_ra_medium_4) (K : Ex → Z sg → Prop) : Prop := F_ra_medium_l4 A98 n x.1.1 x.1.2.1 (fun _ => K (.exit 0) (le_ra_medium_4.put ((), ()))) (fun y0 => K .ret (lr_ra_medium_4.put ((y0, ()), ())))
def h_ra_medium_4 (A98 : T_vitrineref01_Lower) (z : Z sg) (K : Ex → Z sg → Prop) : Prop := ls_ra_medium_4.get z (fun x => ∃ n, FF_ra_medium_4 A98 n x K)
def L_ra_medium (A98 : T_vitrineref01_Lower) : LoopT sg := tabL [(4, h_ra_medium_4 A98)]
theorem hs_ra_medium_4 (A98 : T_vitrineref01_Lower) (n : Nat) (x : Ya_ra_medium_4 × Yb_ra_medium_4) (K : Ex → Z sg → Prop) : forceZ (ls_ra_medium_4.put x) (fun z => sC sy Tryz.prog GT (C_ra_medium A98) (L_ra_medium A98) Tryz.f164.ntmps (nthLoop (bodyOf Tryz.f164) 0) z (rnd ls_ra_medium_4 (czT 0 le_ra_medium_4 lr_ra_medium_4) (fun x => FF_ra_medium_4 A98 n x K) K)) = FF_ra_medium_4 A98 (n + 1) x K := by kernel_rfl
theorem hl_ra_medium_4 (A98 : T_vitrineref01_Lower) (z : Z sg) (K : Ex → Z sg → Prop) : (L_ra_medium A98) (nthLoop (bodyOf Tryz.f164) 0) z K = ls_ra_medium_4.get z (fun x => ∃ n, FF_ra_medium_4 A98 n x K) := by kernel_rfl
theorem lo_ra_medium_4 (A98 : T_vitrineref01_Lower) (h98 : FnOK sy Tryz.prog GT (ovD ro) ro 98 (q_vitrineref01_Lower A98)) : ∀ (o0 : Nat → Prop) (B : Bs sg), B.E.length ≤ 0 → ∀ z K, (L_ra_medium A98) (nthLoop (bodyOf Tryz.f164) 0) z K → Sx.Sem sy Tryz.prog GT (ovD ro) o0 ro Tryz.f164.ntmps B (.loop (nthLoop (bodyOf Tryz.f164) 0)) z K :=
  loop_ok (Cok_ra_medium A98 h98) (lp_of (l := []) (by kernel_rfl) lp_nil) ls_ra_medium_4 (by decide) (czT 0 le_ra_medium_4 lr_ra_medium_4) (fun _ _ hB => czT_ok 0 le_ra_medium_4 lr_ra_medium_4 (Nat.le_trans hB (by decide)) (Nat.le_trans hB (by decide))) (fun _ _ h => h) (hs_ra_medium_4 A98) (hl_ra_medium_4 A98)
theorem Lp_ra_medium (A98 : T_vitrineref01_Lower) (h98 : FnOK sy Tryz.prog GT (ovD ro) ro 98 (q_vitrineref01_Lower A98)) : LpOK sy Tryz.prog GT (ovD ro) ro (L_ra_medium A98) 0 Tryz.f164.ntmps (bodyOf Tryz.f164) := lp_of (l := [(nthLoop (bodyOf Tryz.f164) 0)]) (by kernel_rfl) (lp_cons (lo_ra_medium_4 A98 h98) lp_nil)


theorem raw_ra_medium (A98 : T_vitrineref01_Lower) (a0 : List UInt8) (k : W → Prop) : fnT sy Tryz.prog GT (C_ra_medium A98) (L_ra_medium A98) Tryz.f164.ntmps (bodyOf Tryz.f164) [none] Tryz.f164.results.toList [.s a0] k = F_ra_medium A98 a0 (fun r0 => k (.b r0)) := by kernel_rfl

theorem ok_ra_medium (A98 : T_vitrineref01_Lower) (h98 : FnOK sy Tryz.prog GT (ovD ro) ro 98 (q_vitrineref01_Lower A98)) : FnOK sy Tryz.prog GT (ovD ro) ro 164 (q_ra_medium (F_ra_medium A98)) := (fn_ok (rc := [none]) (f := 164) (fn := Tryz.f164) (c := bodyOf Tryz.f164) (nt := Tryz.f164.ntmps) (res := Tryz.f164.results.toList) (C := C_ra_medium A98) (L := (L_ra_medium A98)) (fun _ _ => rfl) Tryz.func164 (by kernel_rfl) rfl rfl (Cok_ra_medium A98 h98) (Lp_ra_medium A98 h98)).weak (by
  intro us k h
  unfold q_ra_medium at h
  split at h
  · rw [raw_ra_medium]; exact h
  · exact h.elim)

abbrev T_ra_all := Cnd → (Bool → Bool → Prop) → Prop
def q_ra_all (A : T_ra_all) (us : List W) (k : W → Prop) : Prop := match us with
  | [.a [.i .u8 a0_0, .s a0_1, .i .i64 a0_2, .s a0_3, .l Cd.val a0_4, .b a0_5, .l Cd.cnd a0_6]] => A (Cnd.mk a0_0 a0_1 a0_2 ⟨a0_3, a0_4, a0_5⟩ a0_6) (fun r0 r1 => k (.t [.b r0, .b r1]))
  | _ => False
theorem q_ra_all_weak {A A2 : T_ra_all} (h : FnOK sy Tryz.prog GT (ovD ro) ro 124 (q_ra_all A)) (hA : ∀ a0 K, A2 a0 K → A a0 K) : FnOK sy Tryz.prog GT (ovD ro) ro 124 (q_ra_all A2) := h.weak (by
  intro us k h
  unfold q_ra_all at h ⊢
  split at h
  · exact hA _ _ h
  · exact h.elim)

def F_ra_all_l4 (A86 : T_ra_listed) (A123 : T_ra_plain) (A164 : T_ra_medium) (A165 : T_r6_Is) : Nat → Int → Int → List UInt8 → Int → List UInt8 → List Val → Bool → List Cnd → (Int → List UInt8 → Int → List UInt8 → List Val → Bool → List Cnd → Prop) → (Bool → Bool → Prop) → Prop
  | 0, _, _, _, _, _, _, _, _, _, _ => False
  | n + 1, x4, c0_0, c0_1, c0_2, c0_3, c0_4, c0_5, c0_6, Ke, Kr => (((decide (x4 < (c0_6.length : Int))) = true → ((0 ≤ x4 ∧ x4 < (c0_6.length : Int)) ∧ (((decide ((0 : Int) < (((c0_6.getD x4.toNat (dfltD Cd.cnd)).list).length : Int))) = false → (A123 (Dcl.mk ((c0_6.getD x4.toNat (dfltD Cd.cnd)).decl.name) ((c0_6.getD x4.toNat (dfltD Cd.cnd)).decl.val) ((c0_6.getD x4.toNat (dfltD Cd.cnd)).decl.imp)) (fun y1 => (((!y1) = true → Kr false false) ∧ ((!y1) = false → (((decide (x4 = (0 : Int))) = true → (((decide (((c0_6.getD x4.toNat (dfltD Cd.cnd)).kind) = (4 : Int))) = true → (((decide (((c0_6.getD x4.toNat (dfltD Cd.cnd)).num) = (0 : Int))) = true → (A164 ((c0_6.getD x4.toNat (dfltD Cd.cnd)).name) (fun y2 => ((y2 = true → (I64 (x4 + (1 : Int)) ∧ F_ra_all_l4 A86 A123 A164 A165 n (x4 + (1 : Int)) c0_0 c0_1 c0_2 c0_3 c0_4 c0_5 c0_6 Ke Kr)) ∧ (y2 = false → (((decide (((c0_6.getD x4.toNat (dfltD Cd.cnd)).kind) ≠ (5 : Int))) = true → (((decide (((c0_6.getD x4.toNat (dfltD Cd.cnd)).kind) ≠ (6 : Int))) = false → (((!(((c0_6.getD x4.toNat (dfltD Cd.cnd)).name) == ([] : List UInt8))) = false → (((decide (((c0_6.getD x4.toNat (dfltD Cd.cnd)).num) < (0 : Int))) = false → (A165 ((c0_6.getD x4.toNat (dfltD Cd.cnd)).num) (fun y3 => (((!y3) = true → Kr false false) ∧ ((!y3) = false → (I64 (x4 + (1 : Int)) ∧ F_ra_all_l4 A86 A123 A164 A165 n (x4 + (1 : Int)) c0_0 c0_1 c0_2 c0_3 c0_4 c0_5 c0_6 Ke Kr)))))) ∧ ((decide (((c0_6.getD x4.toNat (dfltD Cd.cnd)).num) < (0 : Int))) = true → Kr false false))) ∧ ((!(((c0_6.getD x4.toNat (dfltD Cd.cnd)).name) == ([] : List UInt8))) = true → Kr false false))) ∧ ((decide (((c0_6.getD x4.toNat (dfltD Cd.cnd)).kind) ≠ (6 : Int))) = true → Kr false false))) ∧ ((decide (((c0_6.getD x4.toNat (dfltD Cd.cnd)).kind) ≠ (5 : Int))) = false → (((!(((c0_6.getD x4.toNat (dfltD Cd.cnd)).name) == ([] : List UInt8))) = false → (((decide (((c0_6.getD x4.toNat (dfltD Cd.cnd)).num) < (0 : Int))) = false → (A165 ((c0_6.getD x4.toNat (dfltD Cd.cnd)).num) (fun y4 => (((!y4) = true → Kr false false) ∧ ((!y4) = false → (I64 (x4 + (1 : Int)) ∧ F_ra_all_l4 A86 A123 A164 A165 n (x4 + (1 : Int)) c0_0 c0_1 c0_2 c0_3 c0_4 c0_5 c0_6 Ke Kr)))))) ∧ ((decide (((c0_6.getD x4.toNat (dfltD Cd.cnd)).num) < (0 : Int))) = true → Kr false false))) ∧ ((!(((c0_6.getD x4.toNat (dfltD Cd.cnd)).name) == ([] : List UInt8))) = true → Kr false false))))))))) ∧ ((decide (((c0_6.getD x4.toNat (dfltD Cd.cnd)).num) = (0 : Int))) = false → (((decide (((c0_6.getD x4.toNat (dfltD Cd.cnd)).kind) ≠ (5 : Int))) = true → (((decide (((c0_6.getD x4.toNat (dfltD Cd.cnd)).kind) ≠ (6 : Int))) = false → (((!(((c0_6.getD x4.toNat (dfltD Cd.cnd)).name) == ([] : List UInt8))) = false → (((decide (((c0_6.getD x4.toNat (dfltD Cd.cnd)).num) < (0 : Int))) = false → (A165 ((c0_6.getD x4.toNat (dfltD Cd.cnd)).num) (fun y5 => (((!y5) = true → Kr false false) ∧ ((!y5) = false → (I64 (x4 + (1 : Int)) ∧ F_ra_all_l4 A86 A123 A164 A165 n (x4 + (1 : Int)) c0_0 c0_1 c0_2 c0_3 c0_4 c0_5 c0_6 Ke Kr)))))) ∧ ((decide (((c0_6.getD x4.toNat (dfltD Cd.cnd)).num) < (0 : Int))) = true → Kr false false))) ∧ ((!(((c0_6.getD x4.toNat (dfltD Cd.cnd)).name) == ([] : List UInt8))) = true → Kr false false))) ∧ ((decide (((c0_6.getD x4.toNat (dfltD Cd.cnd)).kind) ≠ (6 : Int))) = true → Kr false false))) ∧ ((decide (((c0_6.getD x4.toNat (dfltD Cd.cnd)).kind) ≠ (5 : Int))) = false → (((!(((c0_6.getD x4.toNat (dfltD Cd.cnd)).name) == ([] : List UInt8))) = false → (((decide (((c0_6.getD x4.toNat (dfltD Cd.cnd)).num) < (0 : Int))) = false → (A165 ((c0_6.getD x4.toNat (dfltD Cd.cnd)).num) (fun y6 => (((!y6) = true → Kr false false) ∧ ((!y6) = false → (I64 (x4 + (1 : Int)) ∧ F_ra_all_l4 A86 A123 A164 A165 n (x4 + (1 : Int)) c0_0 c0_1 c0_2 c0_3 c0_4 c0_5 c0_6 Ke Kr)))))) ∧ ((decide (((c0_6.getD x4.toNat (dfltD Cd.cnd)).num) < (0 : Int))) = true → Kr false false))) ∧ ((!(((c0_6.getD x4.toNat (dfltD Cd.cnd)).name) == ([] : List UInt8))) = true → Kr false false))))))) ∧ ((decide (((c0_6.getD x4.toNat (dfltD Cd.cnd)).kind) = (4 : Int))) = false → (((decide (((c0_6.getD x4.toNat (dfltD Cd.cnd)).kind) ≠ (5 : Int))) = true → (((decide (((c0_6.getD x4.toNat (dfltD Cd.cnd)).kind) ≠ (6 : Int))) = false → (((!(((c0_6.getD x4.toNat (dfltD Cd.cnd)).name) == ([] : List UInt8))) = false → (((decide (((c0_6.getD x4.toNat (dfltD Cd.cnd)).num) < (0 : Int))) = false → (A165 ((c0_6.getD x4.toNat (dfltD Cd.cnd)).num) (fun y7 => (((!y7) = true → Kr false false) ∧ ((!y7) = false → (I64 (x4 + (1 : Int)) ∧ F_ra_all_l4 A86 A123 A164 A165 n (x4 + (1 : Int)) c0_0 c0_1 c0_2 c0_3 c0_4 c0_5 c0_6 Ke Kr)))))) ∧ ((decide (((c0_6.getD x4.toNat (dfltD Cd.cnd)).num) < (0 : Int))) = true → Kr false false))) ∧ ((!(((c0_6.getD x4.toNat (dfltD Cd.cnd)).name) == ([] : List UInt8))) = true → Kr false false))) ∧ ((decide (((c0_6.getD x4.toNat (dfltD Cd.cnd)).kind) ≠ (6 : Int))) = true → Kr false false))) ∧ ((decide (((c0_6.getD x4.toNat (dfltD Cd.cnd)).kind) ≠ (5 : Int))) = false → (((!(((c0_6.getD x4.toNat (dfltD Cd.cnd)).name) == ([] : List UInt8))) = false → (((decide (((c0_6.getD x4.toNat (dfltD Cd.cnd)).num) < (0 : Int))) = false → (A165 ((c0_6.getD x4.toNat (dfltD Cd.cnd)).num) (fun y8 => (((!y8) = true → Kr false false) ∧ ((!y8) = false → (I64 (x4 + (1 : Int)) ∧ F_ra_all_l4 A86 A123 A164 A165 n (x4 + (1 : Int)) c0_0 c0_1 c0_2 c0_3 c0_4 c0_5 c0_6 Ke Kr)))))) ∧ ((decide (((c0_6.getD x4.toNat (dfltD Cd.cnd)).num) < (0 : Int))) = true → Kr false false))) ∧ ((!(((c0_6.getD x4.toNat (dfltD Cd.cnd)).name) == ([] : List UInt8))) = true → Kr false false))))))) ∧ ((decide (x4 = (0 : Int))) = false → (((decide (((c0_6.getD x4.toNat (dfltD Cd.cnd)).kind) ≠ (5 : Int))) = true → (((decide (((c0_6.getD x4.toNat (dfltD Cd.cnd)).kind) ≠ (6 : Int))) = false → (((!(((c0_6.getD x4.toNat (dfltD Cd.cnd)).name) == ([] : List UInt8))) = false → (((decide (((c0_6.getD x4.toNat (dfltD Cd.cnd)).num) < (0 : Int))) = false → (A165 ((c0_6.getD x4.toNat (dfltD Cd.cnd)).num) (fun y9 => (((!y9) = true → Kr false false) ∧ ((!y9) = false → (I64 (x4 + (1 : Int)) ∧ F_ra_all_l4 A86 A123 A164 A165 n (x4 + (1 : Int)) c0_0 c0_1 c0_2 c0_3 c0_4 c0_5 c0_6 Ke Kr)))))) ∧ ((decide (((c0_6.getD x4.toNat (dfltD Cd.cnd)).num) < (0 : Int))) = true → Kr false false))) ∧ ((!(((c0_6.getD x4.toNat (dfltD Cd.cnd)).name) == ([] : List UInt8))) = true → Kr false false))) ∧ ((decide (((c0_6.getD x4.toNat (dfltD Cd.cnd)).kind) ≠ (6 : Int))) = true → Kr false false))) ∧ ((decide (((c0_6.getD x4.toNat (dfltD Cd.cnd)).kind) ≠ (5 : Int))) = false → (((!(((c0_6.getD x4.toNat (dfltD Cd.cnd)).name) == ([] : List UInt8))) = false → (((decide (((c0_6.getD x4.toNat (dfltD Cd.cnd)).num) < (0 : Int))) = false → (A165 ((c0_6.getD x4.toNat (dfltD Cd.cnd)).num) (fun y10 => (((!y10) = true → Kr false false) ∧ ((!y10) = false → (I64 (x4 + (1 : Int)) ∧ F_ra_all_l4 A86 A123 A164 A165 n (x4 + (1 : Int)) c0_0 c0_1 c0_2 c0_3 c0_4 c0_5 c0_6 Ke Kr)))))) ∧ ((decide (((c0_6.getD x4.toNat (dfltD Cd.cnd)).num) < (0 : Int))) = true → Kr false false))) ∧ ((!(((c0_6.getD x4.toNat (dfltD Cd.cnd)).name) == ([] : List UInt8))) = true → Kr false false))))))))))) ∧ ((decide ((0 : Int) < (((c0_6.getD x4.toNat (dfltD Cd.cnd)).list).length : Int))) = true → Kr false false)))) ∧ ((decide (x4 < (c0_6.length : Int))) = false → Ke c0_0 c0_1 c0_2 c0_3 c0_4 c0_5 c0_6))

def F_ra_all (A86 : T_ra_listed) (A123 : T_ra_plain) (A164 : T_ra_medium) (A165 : T_r6_Is) (a0 : Cnd) (K : Bool → Bool → Prop) : Prop :=
  (((decide (a0.kind ≠ (1 : Int))) = false → (A86 (Cnd.mk a0.kind a0.name a0.num ⟨a0.decl.name, a0.decl.val, a0.decl.imp⟩ a0.list) (fun y1 => (((!y1) = false → (((decide ((a0.list.length : Int) = (0 : Int))) = true → K false false) ∧ ((decide ((a0.list.length : Int) = (0 : Int))) = false → (∃ m, F_ra_all_l4 A86 A123 A164 A165 m (0 : Int) a0.kind a0.name a0.num a0.decl.name a0.decl.val a0.decl.imp a0.list (fun y2 y3 y4 y5 y6 y7 y8 => ((0 ≤ (0 : Int) ∧ (0 : Int) < (y8.length : Int)) ∧ K true (decide (((y8.getD 0 (dfltD Cd.cnd)).kind) = (4 : Int))))) (fun y9 y10 => K y9 y10))))) ∧ ((!y1) = true → K false false))))) ∧ ((decide (a0.kind ≠ (1 : Int))) = true → K false false))

def C_ra_all (A86 : T_ra_listed) (A123 : T_ra_plain) (A164 : T_ra_medium) (A165 : T_r6_Is) : CallT sg := tab [(86, conA sy [[none, none, none, none, some Cd.val, none, some Cd.cnd]] [none] (q_ra_listed A86)), (123, conA sy [[none, some Cd.val, none]] [none] (q_ra_plain A123)), (164, con sy [none] (q_ra_medium A164)), (165, con sy [none] (q_r6_Is A165))]
theorem Cok_ra_all (A86 : T_ra_listed) (A123 : T_ra_plain) (A164 : T_ra_medium) (A165 : T_r6_Is) (h86 : FnOK sy Tryz.prog GT (ovD ro) ro 86 (q_ra_listed A86)) (h123 : FnOK sy Tryz.prog GT (ovD ro) ro 123 (q_ra_plain A123)) (h164 : FnOK sy Tryz.prog GT (ovD ro) ro 164 (q_ra_medium A164)) (h165 : FnOK sy Tryz.prog GT (ovD ro) ro 165 (q_r6_Is A165)) (o0 : Nat → Prop) : CalOK sy Tryz.prog GT (ovD ro) o0 ro (C_ra_all A86 A123 A164 A165) := (tab_cons (conA_ok h86) (tab_cons (conA_ok h123) (tab_cons (con_ok h164) (tab_cons (con_ok h165) tab_nil)))) o0

abbrev Ya_ra_all_4 : Type := (Unit × Int × Unit)
abbrev Yb_ra_all_4 : Type := ((Int × (List UInt8) × Int × (List UInt8) × (List (sg.Den Cd.val)) × Bool × (List (sg.Den Cd.cnd)) × Unit) × Unit)
def ls_ra_all_4 : LS sy Ya_ra_all_4 Yb_ra_all_4 := ⟨[], fCons 1 (vLit sy (.p 0 0)) (fCons 4 (vInt sy .i64) (fNil sy)), hCells 0 (lCons (vInt sy .u8) (lCons (vStr sy) (lCons (vInt sy .i64) (lCons (vStr sy) (lCons (vData sy Cd.val) (lCons (vBool sy) (lCons (vData sy Cd.cnd) (lNil sy)))))))) (hNil sy), 1, []⟩
def le_ra_all_4 : LS sy (Unit × Unit) ((Int × (List UInt8) × Int × (List UInt8) × (List (sg.Den Cd.val)) × Bool × (List (sg.Den Cd.cnd)) × Unit) × Unit) := ⟨[], fCons 1 (vLit sy (.p 0 0)) (fNil sy), hCells 0 (lCons (vInt sy .u8) (lCons (vStr sy) (lCons (vInt sy .i64) (lCons (vStr sy) (lCons (vData sy Cd.val) (lCons (vBool sy) (lCons (vData sy Cd.cnd) (lNil sy)))))))) (hNil sy), 1, []⟩
def lr_ra_all_4 : LS sy (Bool × Bool × Unit) Unit := ⟨[], fCons 2 (vBool sy) (fCons 3 (vBool sy) (fNil sy)), hNil sy, 0, []⟩
def FF_ra_all_4 (A86 : T_ra_listed) (A123 : T_ra_plain) (A164 : T_ra_medium) (A165 : T_r6_Is) (n : Nat) (x : Ya_ra_all_4 × Yb_ra_all_4) (K : Ex → Z sg → Prop) : Prop := F_ra_all_l4 A86 A123 A164 A165 n x.1.2.1 x.2.1.1 x.2.1.2.1 x.2.1.2.2.1 x.2.1.2.2.2.1 x.2.1.2.2.2.2.1 x.2.1.2.2.2.2.2.1 x.2.1.2.2.2.2.2.2.1 (fun y0 y1 y2 y3 y4 y5 y6 => K (.exit 0) (le_ra_all_4.put (((), ()), ((y0, y1, y2, y3, y4, y5, y6, ()), ())))) (fun y0 y1 => K .ret (lr_ra_all_4.put ((y0, y1, ()), ())))
def h_ra_all_4 (A86 : T_ra_listed) (A123 : T_ra_plain) (A164 : T_ra_medium) (A165 : T_r6_Is) (z : Z sg) (K : Ex → Z sg → Prop) : Prop := ls_ra_all_4.get z (fun x => ∃ n, FF_ra_all_4 A86 A123 A164 A165 n x K)
def L_ra_all (A86 : T_ra_listed) (A123 : T_ra_plain) (A164 : T_ra_medium) (A165 : T_r6_Is) : LoopT sg := tabL [(4, h_ra_all_4 A86 A123 A164 A165)]
theorem hs_ra_all_4 (A86 : T_ra_listed) (A123 : T_ra_plain) (A164 : T_ra_medium) (A165 : T_r6_Is) (n : Nat) (x : Ya_ra_all_4 × Yb_ra_all_4) (K : Ex → Z sg → Prop) : forceZ (ls_ra_all_4.put x) (fun z => sC sy Tryz.prog GT (C_ra_all A86 A123 A164 A165) (L_ra_all A86 A123 A164 A165) Tryz.f124.ntmps (nthLoop (bodyOf Tryz.f124) 0) z (rnd ls_ra_all_4 (czT 0 le_ra_all_4 lr_ra_all_4) (fun x => FF_ra_all_4 A86 A123 A164 A165 n x K) K)) = FF_ra_all_4 A86 A123 A164 A165 (n + 1) x K := by kernel_rfl
theorem hl_ra_all_4 (A86 : T_ra_listed) (A123 : T_ra_plain) (A164 : T_ra_medium) (A165 : T_r6_Is) (z : Z sg) (K : Ex → Z sg → Prop) : (L_ra_all A86 A123 A164 A165) (nthLoop (bodyOf Tryz.f124) 0) z K = ls_ra_all_4.get z (fun x => ∃ n, FF_ra_all_4 A86 A123 A164 A165 n x K) := by kernel_rfl
theorem lo_ra_all_4 (A86 : T_ra_listed) (A123 : T_ra_plain) (A164 : T_ra_medium) (A165 : T_r6_Is) (h86 : FnOK sy Tryz.prog GT (ovD ro) ro 86 (q_ra_listed A86)) (h123 : FnOK sy Tryz.prog GT (ovD ro) ro 123 (q_ra_plain A123)) (h164 : FnOK sy Tryz.prog GT (ovD ro) ro 164 (q_ra_medium A164)) (h165 : FnOK sy Tryz.prog GT (ovD ro) ro 165 (q_r6_Is A165)) : ∀ (o0 : Nat → Prop) (B : Bs sg), B.E.length ≤ 0 → ∀ z K, (L_ra_all A86 A123 A164 A165) (nthLoop (bodyOf Tryz.f124) 0) z K → Sx.Sem sy Tryz.prog GT (ovD ro) o0 ro Tryz.f124.ntmps B (.loop (nthLoop (bodyOf Tryz.f124) 0)) z K :=
  loop_ok (Cok_ra_all A86 A123 A164 A165 h86 h123 h164 h165) (lp_of (l := []) (by kernel_rfl) lp_nil) ls_ra_all_4 (by decide) (czT 0 le_ra_all_4 lr_ra_all_4) (fun _ _ hB => czT_ok 0 le_ra_all_4 lr_ra_all_4 (Nat.le_trans hB (by decide)) (Nat.le_trans hB (by decide))) (fun _ _ h => h) (hs_ra_all_4 A86 A123 A164 A165) (hl_ra_all_4 A86 A123 A164 A165)
theorem Lp_ra_all (A86 : T_ra_listed) (A123 : T_ra_plain) (A164 : T_ra_medium) (A165 : T_r6_Is) (h86 : FnOK sy Tryz.prog GT (ovD ro) ro 86 (q_ra_listed A86)) (h123 : FnOK sy Tryz.prog GT (ovD ro) ro 123 (q_ra_plain A123)) (h164 : FnOK sy Tryz.prog GT (ovD ro) ro 164 (q_ra_medium A164)) (h165 : FnOK sy Tryz.prog GT (ovD ro) ro 165 (q_r6_Is A165)) : LpOK sy Tryz.prog GT (ovD ro) ro (L_ra_all A86 A123 A164 A165) 0 Tryz.f124.ntmps (bodyOf Tryz.f124) := lp_of (l := [(nthLoop (bodyOf Tryz.f124) 0)]) (by kernel_rfl) (lp_cons (lo_ra_all_4 A86 A123 A164 A165 h86 h123 h164 h165) lp_nil)


theorem raw_ra_all (A86 : T_ra_listed) (A123 : T_ra_plain) (A164 : T_ra_medium) (A165 : T_r6_Is) (a0 : Cnd) (k : W → Prop) : fnT sy Tryz.prog GT (C_ra_all A86 A123 A164 A165) (L_ra_all A86 A123 A164 A165) Tryz.f124.ntmps (bodyOf Tryz.f124) [none, none] Tryz.f124.results.toList [.a [.i .u8 a0.kind, .s a0.name, .i .i64 a0.num, .s a0.decl.name, .l Cd.val a0.decl.val, .b a0.decl.imp, .l Cd.cnd a0.list]] k = F_ra_all A86 A123 A164 A165 a0 (fun r0 r1 => k (.t [.b r0, .b r1])) := by kernel_rfl

theorem ok_ra_all (A86 : T_ra_listed) (A123 : T_ra_plain) (A164 : T_ra_medium) (A165 : T_r6_Is) (h86 : FnOK sy Tryz.prog GT (ovD ro) ro 86 (q_ra_listed A86)) (h123 : FnOK sy Tryz.prog GT (ovD ro) ro 123 (q_ra_plain A123)) (h164 : FnOK sy Tryz.prog GT (ovD ro) ro 164 (q_ra_medium A164)) (h165 : FnOK sy Tryz.prog GT (ovD ro) ro 165 (q_r6_Is A165)) : FnOK sy Tryz.prog GT (ovD ro) ro 124 (q_ra_all (F_ra_all A86 A123 A164 A165)) := (fn_ok (rc := [none, none]) (f := 124) (fn := Tryz.f124) (c := bodyOf Tryz.f124) (nt := Tryz.f124.ntmps) (res := Tryz.f124.results.toList) (C := C_ra_all A86 A123 A164 A165) (L := (L_ra_all A86 A123 A164 A165)) (fun _ _ => rfl) Tryz.func124 (by kernel_rfl) rfl rfl (Cok_ra_all A86 A123 A164 A165 h86 h123 h164 h165) (Lp_ra_all A86 A123 A164 A165 h86 h123 h164 h165)).weak (by
  intro us k h
  unfold q_ra_all at h
  split at h
  · skip
    rename_i a0_0 a0_1 a0_2 a0_3 a0_4 a0_5 a0_6
    rw [raw_ra_all A86 A123 A164 A165 (Cnd.mk a0_0 a0_1 a0_2 ⟨a0_3, a0_4, a0_5⟩ a0_6) k]
    exact h
  · exact h.elim)

abbrev T_ra_query := Cnd → (Bool → Prop) → Prop
def q_ra_query (A : T_ra_query) (us : List W) (k : W → Prop) : Prop := match us with
  | [.a [.i .u8 a0_0, .s a0_1, .i .i64 a0_2, .s a0_3, .l Cd.val a0_4, .b a0_5, .l Cd.cnd a0_6]] => A (Cnd.mk a0_0 a0_1 a0_2 ⟨a0_3, a0_4, a0_5⟩ a0_6) (fun r0 => k (.b r0))
  | _ => False
theorem q_ra_query_weak {A A2 : T_ra_query} (h : FnOK sy Tryz.prog GT (ovD ro) ro 87 (q_ra_query A)) (hA : ∀ a0 K, A2 a0 K → A a0 K) : FnOK sy Tryz.prog GT (ovD ro) ro 87 (q_ra_query A2) := h.weak (by
  intro us k h
  unfold q_ra_query at h ⊢
  split at h
  · exact hA _ _ h
  · exact h.elim)

def F_ra_query (A86 : T_ra_listed) (A124 : T_ra_all) (a0 : Cnd) (K : Bool → Prop) : Prop :=
  (((decide (a0.kind = (3 : Int))) = true → (A86 (Cnd.mk a0.kind a0.name a0.num ⟨a0.decl.name, a0.decl.val, a0.decl.imp⟩ a0.list) (fun y1 => (((!y1) = false → (((decide ((a0.list.length : Int) ≠ (1 : Int))) = true → K false) ∧ ((decide ((a0.list.length : Int) ≠ (1 : Int))) = false → ((0 ≤ (0 : Int) ∧ (0 : Int) < (a0.list.length : Int)) ∧ (A124 (Cnd.mk ((a0.list.getD 0 (dfltD Cd.cnd)).kind) ((a0.list.getD 0 (dfltD Cd.cnd)).name) ((a0.list.getD 0 (dfltD Cd.cnd)).num) ⟨(a0.list.getD 0 (dfltD Cd.cnd)).decl.name, (a0.list.getD 0 (dfltD Cd.cnd)).decl.val, (a0.list.getD 0 (dfltD Cd.cnd)).decl.imp⟩ ((a0.list.getD 0 (dfltD Cd.cnd)).list)) (fun y2 y3 => ((y2 = true → K y3) ∧ (y2 = false → K false)))))))) ∧ ((!y1) = true → K false))))) ∧ ((decide (a0.kind = (3 : Int))) = false → (A124 (Cnd.mk a0.kind a0.name a0.num ⟨a0.decl.name, a0.decl.val, a0.decl.imp⟩ a0.list) (fun y4 y5 => K y4))))

def C_ra_query (A86 : T_ra_listed) (A124 : T_ra_all) : CallT sg := tab [(86, conA sy [[none, none, none, none, some Cd.val, none, some Cd.cnd]] [none] (q_ra_listed A86)), (124, conA sy [[none, none, none, none, some Cd.val, none, some Cd.cnd]] [none] (q_ra_all A124))]
theorem Cok_ra_query (A86 : T_ra_listed) (A124 : T_ra_all) (h86 : FnOK sy Tryz.prog GT (ovD ro) ro 86 (q_ra_listed A86)) (h124 : FnOK sy Tryz.prog GT (ovD ro) ro 124 (q_ra_all A124)) (o0 : Nat → Prop) : CalOK sy Tryz.prog GT (ovD ro) o0 ro (C_ra_query A86 A124) := (tab_cons (conA_ok h86) (tab_cons (conA_ok h124) tab_nil)) o0

theorem raw_ra_query (A86 : T_ra_listed) (A124 : T_ra_all) (a0 : Cnd) (k : W → Prop) : fnT sy Tryz.prog GT (C_ra_query A86 A124) noL Tryz.f87.ntmps (bodyOf Tryz.f87) [none] Tryz.f87.results.toList [.a [.i .u8 a0.kind, .s a0.name, .i .i64 a0.num, .s a0.decl.name, .l Cd.val a0.decl.val, .b a0.decl.imp, .l Cd.cnd a0.list]] k = F_ra_query A86 A124 a0 (fun r0 => k (.b r0)) := by kernel_rfl

theorem ok_ra_query (A86 : T_ra_listed) (A124 : T_ra_all) (h86 : FnOK sy Tryz.prog GT (ovD ro) ro 86 (q_ra_listed A86)) (h124 : FnOK sy Tryz.prog GT (ovD ro) ro 124 (q_ra_all A124)) : FnOK sy Tryz.prog GT (ovD ro) ro 87 (q_ra_query (F_ra_query A86 A124)) := (fn_ok (rc := [none]) (f := 87) (fn := Tryz.f87) (c := bodyOf Tryz.f87) (nt := Tryz.f87.ntmps) (res := Tryz.f87.results.toList) (C := C_ra_query A86 A124) (L := noL) (fun _ _ => rfl) Tryz.func87 (by kernel_rfl) rfl rfl (Cok_ra_query A86 A124 h86 h124) (lp_of (l := []) (by kernel_rfl) lp_nil)).weak (by
  intro us k h
  unfold q_ra_query at h
  split at h
  · skip
    rename_i a0_0 a0_1 a0_2 a0_3 a0_4 a0_5 a0_6
    rw [raw_ra_query A86 A124 (Cnd.mk a0_0 a0_1 a0_2 ⟨a0_3, a0_4, a0_5⟩ a0_6) k]
    exact h
  · exact h.elim)

abbrev T_ra_Medial := Cnd → (Bool → Prop) → Prop
def q_ra_Medial (A : T_ra_Medial) (us : List W) (k : W → Prop) : Prop := match us with
  | [.a [.i .u8 a0_0, .s a0_1, .i .i64 a0_2, .s a0_3, .l Cd.val a0_4, .b a0_5, .l Cd.cnd a0_6]] => A (Cnd.mk a0_0 a0_1 a0_2 ⟨a0_3, a0_4, a0_5⟩ a0_6) (fun r0 => k (.b r0))
  | _ => False
theorem q_ra_Medial_weak {A A2 : T_ra_Medial} (h : FnOK sy Tryz.prog GT (ovD ro) ro 48 (q_ra_Medial A)) (hA : ∀ a0 K, A2 a0 K → A a0 K) : FnOK sy Tryz.prog GT (ovD ro) ro 48 (q_ra_Medial A2) := h.weak (by
  intro us k h
  unfold q_ra_Medial at h ⊢
  split at h
  · exact hA _ _ h
  · exact h.elim)

def F_ra_Medial_l8 (A86 : T_ra_listed) (A87 : T_ra_query) : Nat → Int → Int → List UInt8 → Int → List UInt8 → List Val → Bool → List Cnd → (Unit → Prop) → (Bool → Prop) → Prop
  | 0, _, _, _, _, _, _, _, _, _, _ => False
  | n + 1, x3, c0_0, c0_1, c0_2, c0_3, c0_4, c0_5, c0_6, Ke, Kr => (((decide (x3 < (c0_6.length : Int))) = true → ((0 ≤ x3 ∧ x3 < (c0_6.length : Int)) ∧ (A87 (Cnd.mk ((c0_6.getD x3.toNat (dfltD Cd.cnd)).kind) ((c0_6.getD x3.toNat (dfltD Cd.cnd)).name) ((c0_6.getD x3.toNat (dfltD Cd.cnd)).num) ⟨(c0_6.getD x3.toNat (dfltD Cd.cnd)).decl.name, (c0_6.getD x3.toNat (dfltD Cd.cnd)).decl.val, (c0_6.getD x3.toNat (dfltD Cd.cnd)).decl.imp⟩ ((c0_6.getD x3.toNat (dfltD Cd.cnd)).list)) (fun y1 => (((!y1) = true → Kr false) ∧ ((!y1) = false → (I64 (x3 + (1 : Int)) ∧ F_ra_Medial_l8 A86 A87 n (x3 + (1 : Int)) c0_0 c0_1 c0_2 c0_3 c0_4 c0_5 c0_6 Ke Kr))))))) ∧ ((decide (x3 < (c0_6.length : Int))) = false → Ke ()))

def F_ra_Medial (A86 : T_ra_listed) (A87 : T_ra_query) (a0 : Cnd) (K : Bool → Prop) : Prop :=
  (A86 (Cnd.mk a0.kind a0.name a0.num ⟨a0.decl.name, a0.decl.val, a0.decl.imp⟩ a0.list) (fun y1 => (((!y1) = true → K false) ∧ ((!y1) = false → (((decide (a0.kind = (1 : Int))) = true → K (decide ((a0.list.length : Int) = (0 : Int)))) ∧ ((decide (a0.kind = (1 : Int))) = false → (((decide (a0.kind ≠ (2 : Int))) = false → (((decide ((a0.list.length : Int) < (1 : Int))) = false → (((decide ((64 : Int) < (a0.list.length : Int))) = true → K false) ∧ ((decide ((64 : Int) < (a0.list.length : Int))) = false → (∃ m, F_ra_Medial_l8 A86 A87 m (0 : Int) a0.kind a0.name a0.num a0.decl.name a0.decl.val a0.decl.imp a0.list (fun _ => K true) (fun y2 => K y2))))) ∧ ((decide ((a0.list.length : Int) < (1 : Int))) = true → K false))) ∧ ((decide (a0.kind ≠ (2 : Int))) = true → K false))))))))

def C_ra_Medial (A86 : T_ra_listed) (A87 : T_ra_query) : CallT sg := tab [(86, conA sy [[none, none, none, none, some Cd.val, none, some Cd.cnd]] [none] (q_ra_listed A86)), (87, conA sy [[none, none, none, none, some Cd.val, none, some Cd.cnd]] [none] (q_ra_query A87))]
theorem Cok_ra_Medial (A86 : T_ra_listed) (A87 : T_ra_query) (h86 : FnOK sy Tryz.prog GT (ovD ro) ro 86 (q_ra_listed A86)) (h87 : FnOK sy Tryz.prog GT (ovD ro) ro 87 (q_ra_query A87)) (o0 : Nat → Prop) : CalOK sy Tryz.prog GT (ovD ro) o0 ro (C_ra_Medial A86 A87) := (tab_cons (conA_ok h86) (tab_cons (conA_ok h87) tab_nil)) o0

abbrev Ya_ra_Medial_8 : Type := (Unit × Int × Unit)
abbrev Yb_ra_Medial_8 : Type := ((Int × (List UInt8) × Int × (List UInt8) × (List (sg.Den Cd.val)) × Bool × (List (sg.Den Cd.cnd)) × Unit) × Unit)
def ls_ra_Medial_8 : LS sy Ya_ra_Medial_8 Yb_ra_Medial_8 := ⟨[], fCons 1 (vLit sy (.p 0 0)) (fCons 3 (vInt sy .i64) (fNil sy)), hCells 0 (lCons (vInt sy .u8) (lCons (vStr sy) (lCons (vInt sy .i64) (lCons (vStr sy) (lCons (vData sy Cd.val) (lCons (vBool sy) (lCons (vData sy Cd.cnd) (lNil sy)))))))) (hNil sy), 1, []⟩
def le_ra_Medial_8 : LS sy Unit Unit := ⟨[], fNil sy, hNil sy, 0, []⟩
def lr_ra_Medial_8 : LS sy (Bool × Unit) Unit := ⟨[], fCons 2 (vBool sy) (fNil sy), hNil sy, 0, []⟩
def FF_ra_Medial_8 (A86 : T_ra_listed) (A87 : T_ra_query) (n : Nat) (x : Ya_ra_Medial_8 × Yb_ra_Medial_8) (K : Ex → Z sg → Prop) : Prop := F_ra_Medial_l8 A86 A87 n x.1.2.1 x.2.1.1 x.2.1.2.1 x.2.1.2.2.1 x.2.1.2.2.2.1 x.2.1.2.2.2.2.1 x.2.1.2.2.2.2.2.1 x.2.1.2.2.2.2.2.2.1 (fun _ => K (.exit 0) (le_ra_Medial_8.put ((), ()))) (fun y0 => K .ret (lr_ra_Medial_8.put ((y0, ()), ())))
def h_ra_Medial_8 (A86 : T_ra_listed) (A87 : T_ra_query) (z : Z sg) (K : Ex → Z sg → Prop) : Prop := ls_ra_Medial_8.get z (fun x => ∃ n, FF_ra_Medial_8 A86 A87 n x K)
def L_ra_Medial (A86 : T_ra_listed) (A87 : T_ra_query) : LoopT sg := tabL [(8, h_ra_Medial_8 A86 A87)]
theorem hs_ra_Medial_8 (A86 : T_ra_listed) (A87 : T_ra_query) (n : Nat) (x : Ya_ra_Medial_8 × Yb_ra_Medial_8) (K : Ex → Z sg → Prop) : forceZ (ls_ra_Medial_8.put x) (fun z => sC sy Tryz.prog GT (C_ra_Medial A86 A87) (L_ra_Medial A86 A87) Tryz.f48.ntmps (nthLoop (bodyOf Tryz.f48) 0) z (rnd ls_ra_Medial_8 (czT 0 le_ra_Medial_8 lr_ra_Medial_8) (fun x => FF_ra_Medial_8 A86 A87 n x K) K)) = FF_ra_Medial_8 A86 A87 (n + 1) x K := by kernel_rfl
theorem hl_ra_Medial_8 (A86 : T_ra_listed) (A87 : T_ra_query) (z : Z sg) (K : Ex → Z sg → Prop) : (L_ra_Medial A86 A87) (nthLoop (bodyOf Tryz.f48) 0) z K = ls_ra_Medial_8.get z (fun x => ∃ n, FF_ra_Medial_8 A86 A87 n x K) := by kernel_rfl
theorem lo_ra_Medial_8 (A86 : T_ra_listed) (A87 : T_ra_query) (h86 : FnOK sy Tryz.prog GT (ovD ro) ro 86 (q_ra_listed A86)) (h87 : FnOK sy Tryz.prog GT (ovD ro) ro 87 (q_ra_query A87)) : ∀ (o0 : Nat → Prop) (B : Bs sg), B.E.length ≤ 0 → ∀ z K, (L_ra_Medial A86 A87) (nthLoop (bodyOf Tryz.f48) 0) z K → Sx.Sem sy Tryz.prog GT (ovD ro) o0 ro Tryz.f48.ntmps B (.loop (nthLoop (bodyOf Tryz.f48) 0)) z K :=
  loop_ok (Cok_ra_Medial A86 A87 h86 h87) (lp_of (l := []) (by kernel_rfl) lp_nil) ls_ra_Medial_8 (by decide) (czT 0 le_ra_Medial_8 lr_ra_Medial_8) (fun _ _ hB => czT_ok 0 le_ra_Medial_8 lr_ra_Medial_8 (Nat.le_trans hB (by decide)) (Nat.le_trans hB (by decide))) (fun _ _ h => h) (hs_ra_Medial_8 A86 A87) (hl_ra_Medial_8 A86 A87)
theorem Lp_ra_Medial (A86 : T_ra_listed) (A87 : T_ra_query) (h86 : FnOK sy Tryz.prog GT (ovD ro) ro 86 (q_ra_listed A86)) (h87 : FnOK sy Tryz.prog GT (ovD ro) ro 87 (q_ra_query A87)) : LpOK sy Tryz.prog GT (ovD ro) ro (L_ra_Medial A86 A87) 0 Tryz.f48.ntmps (bodyOf Tryz.f48) := lp_of (l := [(nthLoop (bodyOf Tryz.f48) 0)]) (by kernel_rfl) (lp_cons (lo_ra_Medial_8 A86 A87 h86 h87) lp_nil)


theorem raw_ra_Medial (A86 : T_ra_listed) (A87 : T_ra_query) (a0 : Cnd) (k : W → Prop) : fnT sy Tryz.prog GT (C_ra_Medial A86 A87) (L_ra_Medial A86 A87) Tryz.f48.ntmps (bodyOf Tryz.f48) [none] Tryz.f48.results.toList [.a [.i .u8 a0.kind, .s a0.name, .i .i64 a0.num, .s a0.decl.name, .l Cd.val a0.decl.val, .b a0.decl.imp, .l Cd.cnd a0.list]] k = F_ra_Medial A86 A87 a0 (fun r0 => k (.b r0)) := by kernel_rfl

theorem ok_ra_Medial (A86 : T_ra_listed) (A87 : T_ra_query) (h86 : FnOK sy Tryz.prog GT (ovD ro) ro 86 (q_ra_listed A86)) (h87 : FnOK sy Tryz.prog GT (ovD ro) ro 87 (q_ra_query A87)) : FnOK sy Tryz.prog GT (ovD ro) ro 48 (q_ra_Medial (F_ra_Medial A86 A87)) := (fn_ok (rc := [none]) (f := 48) (fn := Tryz.f48) (c := bodyOf Tryz.f48) (nt := Tryz.f48.ntmps) (res := Tryz.f48.results.toList) (C := C_ra_Medial A86 A87) (L := (L_ra_Medial A86 A87)) (fun _ _ => rfl) Tryz.func48 (by kernel_rfl) rfl rfl (Cok_ra_Medial A86 A87 h86 h87) (Lp_ra_Medial A86 A87 h86 h87)).weak (by
  intro us k h
  unfold q_ra_Medial at h
  split at h
  · skip
    rename_i a0_0 a0_1 a0_2 a0_3 a0_4 a0_5 a0_6
    rw [raw_ra_Medial A86 A87 (Cnd.mk a0_0 a0_1 a0_2 ⟨a0_3, a0_4, a0_5⟩ a0_6) k]
    exact h
  · exact h.elim)

abbrev T_ra_CheckMedia := Cnd → (Int → Prop) → Prop
def q_ra_CheckMedia (A : T_ra_CheckMedia) (us : List W) (k : W → Prop) : Prop := match us with
  | [.a [.i .u8 a0_0, .s a0_1, .i .i64 a0_2, .s a0_3, .l Cd.val a0_4, .b a0_5, .l Cd.cnd a0_6]] => A (Cnd.mk a0_0 a0_1 a0_2 ⟨a0_3, a0_4, a0_5⟩ a0_6) (fun r0 => k (.i .i64 r0))
  | _ => False
theorem q_ra_CheckMedia_weak {A A2 : T_ra_CheckMedia} (h : FnOK sy Tryz.prog GT (ovD ro) ro 24 (q_ra_CheckMedia A)) (hA : ∀ a0 K, A2 a0 K → A a0 K) : FnOK sy Tryz.prog GT (ovD ro) ro 24 (q_ra_CheckMedia A2) := h.weak (by
  intro us k h
  unfold q_ra_CheckMedia at h ⊢
  split at h
  · exact hA _ _ h
  · exact h.elim)

def F_ra_CheckMedia (A48 : T_ra_Medial) (a0 : Cnd) (K : Int → Prop) : Prop :=
  (A48 (Cnd.mk a0.kind a0.name a0.num ⟨a0.decl.name, a0.decl.val, a0.decl.imp⟩ a0.list) (fun y1 => (((!y1) = true → K (8 : Int)) ∧ ((!y1) = false → K (0 : Int)))))

def C_ra_CheckMedia (A48 : T_ra_Medial) : CallT sg := tab [(48, conA sy [[none, none, none, none, some Cd.val, none, some Cd.cnd]] [none] (q_ra_Medial A48))]
theorem Cok_ra_CheckMedia (A48 : T_ra_Medial) (h48 : FnOK sy Tryz.prog GT (ovD ro) ro 48 (q_ra_Medial A48)) (o0 : Nat → Prop) : CalOK sy Tryz.prog GT (ovD ro) o0 ro (C_ra_CheckMedia A48) := (tab_cons (conA_ok h48) tab_nil) o0

theorem raw_ra_CheckMedia (A48 : T_ra_Medial) (a0 : Cnd) (k : W → Prop) : fnT sy Tryz.prog GT (C_ra_CheckMedia A48) noL Tryz.f24.ntmps (bodyOf Tryz.f24) [none] Tryz.f24.results.toList [.a [.i .u8 a0.kind, .s a0.name, .i .i64 a0.num, .s a0.decl.name, .l Cd.val a0.decl.val, .b a0.decl.imp, .l Cd.cnd a0.list]] k = F_ra_CheckMedia A48 a0 (fun r0 => k (.i .i64 r0)) := by kernel_rfl

theorem ok_ra_CheckMedia (A48 : T_ra_Medial) (h48 : FnOK sy Tryz.prog GT (ovD ro) ro 48 (q_ra_Medial A48)) : FnOK sy Tryz.prog GT (ovD ro) ro 24 (q_ra_CheckMedia (F_ra_CheckMedia A48)) := (fn_ok (rc := [none]) (f := 24) (fn := Tryz.f24) (c := bodyOf Tryz.f24) (nt := Tryz.f24.ntmps) (res := Tryz.f24.results.toList) (C := C_ra_CheckMedia A48) (L := noL) (fun _ _ => rfl) Tryz.func24 (by kernel_rfl) rfl rfl (Cok_ra_CheckMedia A48 h48) (lp_of (l := []) (by kernel_rfl) lp_nil)).weak (by
  intro us k h
  unfold q_ra_CheckMedia at h
  split at h
  · skip
    rename_i a0_0 a0_1 a0_2 a0_3 a0_4 a0_5 a0_6
    rw [raw_ra_CheckMedia A48 (Cnd.mk a0_0 a0_1 a0_2 ⟨a0_3, a0_4, a0_5⟩ a0_6) k]
    exact h
  · exact h.elim)

end Go.Proofs.YtajmjilckaifoaaGreatDoor
namespace Go.Proofs.YtajmjilckaifoaaGreatDoor
open Go.Vm Go.Sx Go.RowKit
variable {ro : Nat}

abbrev T_stringslite_IndexByte := List UInt8 → Int → (Int → Prop) → Prop
def q_stringslite_IndexByte (A : T_stringslite_IndexByte) (us : List W) (k : W → Prop) : Prop := match us with
  | [.s a0, .i .u8 a1] => A a0 a1 (fun r0 => k (.i .i64 r0))
  | _ => False
theorem q_stringslite_IndexByte_weak {A A2 : T_stringslite_IndexByte} (h : FnOK sy Tryz.prog GT (ovD ro) ro 188 (q_stringslite_IndexByte A)) (hA : ∀ a0 a1 K, A2 a0 a1 K → A a0 a1 K) : FnOK sy Tryz.prog GT (ovD ro) ro 188 (q_stringslite_IndexByte A2) := h.weak (by
  intro us k h
  unfold q_stringslite_IndexByte at h ⊢
  split at h
  · exact hA _ _ _ h
  · exact h.elim)

abbrev T_strings_IndexByte := List UInt8 → Int → (Int → Prop) → Prop
def q_strings_IndexByte (A : T_strings_IndexByte) (us : List W) (k : W → Prop) : Prop := match us with
  | [.s a0, .i .u8 a1] => A a0 a1 (fun r0 => k (.i .i64 r0))
  | _ => False
theorem q_strings_IndexByte_weak {A A2 : T_strings_IndexByte} (h : FnOK sy Tryz.prog GT (ovD ro) ro 151 (q_strings_IndexByte A)) (hA : ∀ a0 a1 K, A2 a0 a1 K → A a0 a1 K) : FnOK sy Tryz.prog GT (ovD ro) ro 151 (q_strings_IndexByte A2) := h.weak (by
  intro us k h
  unfold q_strings_IndexByte at h ⊢
  split at h
  · exact hA _ _ _ h
  · exact h.elim)

def F_strings_IndexByte (A188 : T_stringslite_IndexByte) (a0 : List UInt8) (a1 : Int) (K : Int → Prop) : Prop :=
  (A188 a0 a1 (fun y1 => K y1))

def C_strings_IndexByte (A188 : T_stringslite_IndexByte) : CallT sg := tab [(188, con sy [none, none] (q_stringslite_IndexByte A188))]
theorem Cok_strings_IndexByte (A188 : T_stringslite_IndexByte) (h188 : FnOK sy Tryz.prog GT (ovD ro) ro 188 (q_stringslite_IndexByte A188)) (o0 : Nat → Prop) : CalOK sy Tryz.prog GT (ovD ro) o0 ro (C_strings_IndexByte A188) := (tab_cons (con_ok h188) tab_nil) o0

theorem raw_strings_IndexByte (A188 : T_stringslite_IndexByte) (a0 : List UInt8) (a1 : Int) (k : W → Prop) : fnT sy Tryz.prog GT (C_strings_IndexByte A188) noL Tryz.f151.ntmps (bodyOf Tryz.f151) [none] Tryz.f151.results.toList [.s a0, .i .u8 a1] k = F_strings_IndexByte A188 a0 a1 (fun r0 => k (.i .i64 r0)) := by kernel_rfl

theorem ok_strings_IndexByte (A188 : T_stringslite_IndexByte) (h188 : FnOK sy Tryz.prog GT (ovD ro) ro 188 (q_stringslite_IndexByte A188)) : FnOK sy Tryz.prog GT (ovD ro) ro 151 (q_strings_IndexByte (F_strings_IndexByte A188)) := (fn_ok (rc := [none]) (f := 151) (fn := Tryz.f151) (c := bodyOf Tryz.f151) (nt := Tryz.f151.ntmps) (res := Tryz.f151.results.toList) (C := C_strings_IndexByte A188) (L := noL) (fun _ _ => rfl) Tryz.func151 (by kernel_rfl) rfl rfl (Cok_strings_IndexByte A188 h188) (lp_of (l := []) (by kernel_rfl) lp_nil)).weak (by
  intro us k h
  unfold q_strings_IndexByte at h
  split at h
  · rw [raw_strings_IndexByte]; exact h
  · exact h.elim)

abbrev T_cond_isNoDecl := Dcl → (Bool → Prop) → Prop
def q_cond_isNoDecl (A : T_cond_isNoDecl) (us : List W) (k : W → Prop) : Prop := match us with
  | [.a [.s a0_0, .l Cd.val a0_1, .b a0_2]] => A (Dcl.mk a0_0 a0_1 a0_2) (fun r0 => k (.b r0))
  | _ => False
theorem q_cond_isNoDecl_weak {A A2 : T_cond_isNoDecl} (h : FnOK sy Tryz.prog GT (ovD ro) ro 111 (q_cond_isNoDecl A)) (hA : ∀ a0 K, A2 a0 K → A a0 K) : FnOK sy Tryz.prog GT (ovD ro) ro 111 (q_cond_isNoDecl A2) := h.weak (by
  intro us k h
  unfold q_cond_isNoDecl at h ⊢
  split at h
  · exact hA _ _ h
  · exact h.elim)

def F_cond_isNoDecl (a0 : Dcl) (K : Bool → Prop) : Prop :=
  (((a0.name == ([] : List UInt8)) = true → (((decide ((a0.val.length : Int) = (0 : Int))) = true → K (!a0.imp)) ∧ ((decide ((a0.val.length : Int) = (0 : Int))) = false → K false))) ∧ ((a0.name == ([] : List UInt8)) = false → K false))

def C_cond_isNoDecl : CallT sg := tab []
theorem Cok_cond_isNoDecl (o0 : Nat → Prop) : CalOK sy Tryz.prog GT (ovD ro) o0 ro (C_cond_isNoDecl) := tab_nil o0

theorem raw_cond_isNoDecl (a0 : Dcl) (k : W → Prop) : fnT sy Tryz.prog GT (C_cond_isNoDecl) noL Tryz.f111.ntmps (bodyOf Tryz.f111) [none] Tryz.f111.results.toList [.a [.s a0.name, .l Cd.val a0.val, .b a0.imp]] k = F_cond_isNoDecl a0 (fun r0 => k (.b r0)) := by kernel_rfl

theorem ok_cond_isNoDecl : FnOK sy Tryz.prog GT (ovD ro) ro 111 (q_cond_isNoDecl (F_cond_isNoDecl)) := (fn_ok (rc := [none]) (f := 111) (fn := Tryz.f111) (c := bodyOf Tryz.f111) (nt := Tryz.f111.ntmps) (res := Tryz.f111.results.toList) (C := C_cond_isNoDecl) (L := noL) (fun _ _ => rfl) Tryz.func111 (by kernel_rfl) rfl rfl (Cok_cond_isNoDecl) (lp_of (l := []) (by kernel_rfl) lp_nil)).weak (by
  intro us k h
  unfold q_cond_isNoDecl at h
  split at h
  · skip
    rename_i a0_0 a0_1 a0_2
    rw [raw_cond_isNoDecl (Dcl.mk a0_0 a0_1 a0_2) k]
    exact h
  · exact h.elim)

abbrev T_cond_isPure := Cnd → (Bool → Prop) → Prop
def q_cond_isPure (A : T_cond_isPure) (us : List W) (k : W → Prop) : Prop := match us with
  | [.a [.i .u8 a0_0, .s a0_1, .i .i64 a0_2, .s a0_3, .l Cd.val a0_4, .b a0_5, .l Cd.cnd a0_6]] => A (Cnd.mk a0_0 a0_1 a0_2 ⟨a0_3, a0_4, a0_5⟩ a0_6) (fun r0 => k (.b r0))
  | _ => False
theorem q_cond_isPure_weak {A A2 : T_cond_isPure} (h : FnOK sy Tryz.prog GT (ovD ro) ro 67 (q_cond_isPure A)) (hA : ∀ a0 K, A2 a0 K → A a0 K) : FnOK sy Tryz.prog GT (ovD ro) ro 67 (q_cond_isPure A2) := h.weak (by
  intro us k h
  unfold q_cond_isPure at h ⊢
  split at h
  · exact hA _ _ h
  · exact h.elim)

def F_cond_isPure (A111 : T_cond_isNoDecl) (a0 : Cnd) (K : Bool → Prop) : Prop :=
  (((decide (a0.kind = (1 : Int))) = true → (((a0.name == ([] : List UInt8)) = true → (((decide (a0.num = (0 : Int))) = true → (((decide ((0 : Int) = (0 : Int))) = true → (A111 (Dcl.mk a0.decl.name a0.decl.val a0.decl.imp) (fun y1 => K y1))) ∧ ((decide ((0 : Int) = (0 : Int))) = false → K false))) ∧ ((decide (a0.num = (0 : Int))) = false → K false))) ∧ ((a0.name == ([] : List UInt8)) = false → K false))) ∧ ((decide (a0.kind = (1 : Int))) = false → (((decide (a0.kind = (2 : Int))) = true → (((a0.name == ([] : List UInt8)) = true → (((decide (a0.num = (0 : Int))) = true → (((decide ((0 : Int) = (0 : Int))) = true → (A111 (Dcl.mk a0.decl.name a0.decl.val a0.decl.imp) (fun y2 => K y2))) ∧ ((decide ((0 : Int) = (0 : Int))) = false → K false))) ∧ ((decide (a0.num = (0 : Int))) = false → K false))) ∧ ((a0.name == ([] : List UInt8)) = false → K false))) ∧ ((decide (a0.kind = (2 : Int))) = false → (((decide (a0.kind = (3 : Int))) = true → (((a0.name == ([] : List UInt8)) = true → (((decide (a0.num = (0 : Int))) = true → (((decide ((0 : Int) = (0 : Int))) = true → (A111 (Dcl.mk a0.decl.name a0.decl.val a0.decl.imp) (fun y3 => K y3))) ∧ ((decide ((0 : Int) = (0 : Int))) = false → K false))) ∧ ((decide (a0.num = (0 : Int))) = false → K false))) ∧ ((a0.name == ([] : List UInt8)) = false → K false))) ∧ ((decide (a0.kind = (3 : Int))) = false → (((decide (a0.kind = (4 : Int))) = true → (((([] : List UInt8) == ([] : List UInt8)) = true → (((decide (a0.num = (0 : Int))) = true → (((decide ((a0.list.length : Int) = (0 : Int))) = true → (A111 (Dcl.mk a0.decl.name a0.decl.val a0.decl.imp) (fun y4 => K y4))) ∧ ((decide ((a0.list.length : Int) = (0 : Int))) = false → K false))) ∧ ((decide (a0.num = (0 : Int))) = false → K false))) ∧ ((([] : List UInt8) == ([] : List UInt8)) = false → K false))) ∧ ((decide (a0.kind = (4 : Int))) = false → (((decide (a0.kind = (5 : Int))) = true → (((a0.name == ([] : List UInt8)) = true → (((decide ((0 : Int) = (0 : Int))) = true → (((decide ((a0.list.length : Int) = (0 : Int))) = true → (A111 (Dcl.mk a0.decl.name a0.decl.val a0.decl.imp) (fun y5 => K y5))) ∧ ((decide ((a0.list.length : Int) = (0 : Int))) = false → K false))) ∧ ((decide ((0 : Int) = (0 : Int))) = false → K false))) ∧ ((a0.name == ([] : List UInt8)) = false → K false))) ∧ ((decide (a0.kind = (5 : Int))) = false → (((decide (a0.kind = (6 : Int))) = true → (((a0.name == ([] : List UInt8)) = true → (((decide ((0 : Int) = (0 : Int))) = true → (((decide ((a0.list.length : Int) = (0 : Int))) = true → (A111 (Dcl.mk a0.decl.name a0.decl.val a0.decl.imp) (fun y6 => K y6))) ∧ ((decide ((a0.list.length : Int) = (0 : Int))) = false → K false))) ∧ ((decide ((0 : Int) = (0 : Int))) = false → K false))) ∧ ((a0.name == ([] : List UInt8)) = false → K false))) ∧ ((decide (a0.kind = (6 : Int))) = false → (((decide (a0.kind = (7 : Int))) = true → (((a0.name == ([] : List UInt8)) = true → (((decide (a0.num = (0 : Int))) = true → (((decide ((a0.list.length : Int) = (0 : Int))) = true → (A111 (Dcl.mk ([] : List UInt8) ([] : List Val) false) (fun y7 => K y7))) ∧ ((decide ((a0.list.length : Int) = (0 : Int))) = false → K false))) ∧ ((decide (a0.num = (0 : Int))) = false → K false))) ∧ ((a0.name == ([] : List UInt8)) = false → K false))) ∧ ((decide (a0.kind = (7 : Int))) = false → (((a0.name == ([] : List UInt8)) = true → (((decide (a0.num = (0 : Int))) = true → (((decide ((a0.list.length : Int) = (0 : Int))) = true → (A111 (Dcl.mk a0.decl.name a0.decl.val a0.decl.imp) (fun y8 => K y8))) ∧ ((decide ((a0.list.length : Int) = (0 : Int))) = false → K false))) ∧ ((decide (a0.num = (0 : Int))) = false → K false))) ∧ ((a0.name == ([] : List UInt8)) = false → K false))))))))))))))))

def C_cond_isPure (A111 : T_cond_isNoDecl) : CallT sg := tab [(111, conA sy [[none, some Cd.val, none]] [none] (q_cond_isNoDecl A111))]
theorem Cok_cond_isPure (A111 : T_cond_isNoDecl) (h111 : FnOK sy Tryz.prog GT (ovD ro) ro 111 (q_cond_isNoDecl A111)) (o0 : Nat → Prop) : CalOK sy Tryz.prog GT (ovD ro) o0 ro (C_cond_isPure A111) := (tab_cons (conA_ok h111) tab_nil) o0

theorem raw_cond_isPure (A111 : T_cond_isNoDecl) (a0 : Cnd) (k : W → Prop) : fnT sy Tryz.prog GT (C_cond_isPure A111) noL Tryz.f67.ntmps (bodyOf Tryz.f67) [none] Tryz.f67.results.toList [.a [.i .u8 a0.kind, .s a0.name, .i .i64 a0.num, .s a0.decl.name, .l Cd.val a0.decl.val, .b a0.decl.imp, .l Cd.cnd a0.list]] k = F_cond_isPure A111 a0 (fun r0 => k (.b r0)) := by kernel_rfl

theorem ok_cond_isPure (A111 : T_cond_isNoDecl) (h111 : FnOK sy Tryz.prog GT (ovD ro) ro 111 (q_cond_isNoDecl A111)) : FnOK sy Tryz.prog GT (ovD ro) ro 67 (q_cond_isPure (F_cond_isPure A111)) := (fn_ok (rc := [none]) (f := 67) (fn := Tryz.f67) (c := bodyOf Tryz.f67) (nt := Tryz.f67.ntmps) (res := Tryz.f67.results.toList) (C := C_cond_isPure A111) (L := noL) (fun _ _ => rfl) Tryz.func67 (by kernel_rfl) rfl rfl (Cok_cond_isPure A111 h111) (lp_of (l := []) (by kernel_rfl) lp_nil)).weak (by
  intro us k h
  unfold q_cond_isPure at h
  split at h
  · skip
    rename_i a0_0 a0_1 a0_2 a0_3 a0_4 a0_5 a0_6
    rw [raw_cond_isPure A111 (Cnd.mk a0_0 a0_1 a0_2 ⟨a0_3, a0_4, a0_5⟩ a0_6) k]
    exact h
  · exact h.elim)

abbrev T_cond_isLength := Int → (Bool → Prop) → Prop
def q_cond_isLength (A : T_cond_isLength) (us : List W) (k : W → Prop) : Prop := match us with
  | [.i .i64 a0] => A a0 (fun r0 => k (.b r0))
  | _ => False
theorem q_cond_isLength_weak {A A2 : T_cond_isLength} (h : FnOK sy Tryz.prog GT (ovD ro) ro 193 (q_cond_isLength A)) (hA : ∀ a0 K, A2 a0 K → A a0 K) : FnOK sy Tryz.prog GT (ovD ro) ro 193 (q_cond_isLength A2) := h.weak (by
  intro us k h
  unfold q_cond_isLength at h ⊢
  split at h
  · exact hA _ _ h
  · exact h.elim)

def F_cond_isLength (a0 : Int) (K : Bool → Prop) : Prop :=
  (((decide ((0 : Int) ≤ a0)) = true → K (decide (a0 ≤ (1000000000000 : Int)))) ∧ ((decide ((0 : Int) ≤ a0)) = false → K false))

def C_cond_isLength : CallT sg := tab []
theorem Cok_cond_isLength (o0 : Nat → Prop) : CalOK sy Tryz.prog GT (ovD ro) o0 ro (C_cond_isLength) := tab_nil o0

theorem raw_cond_isLength (a0 : Int) (k : W → Prop) : fnT sy Tryz.prog GT (C_cond_isLength) noL Tryz.f193.ntmps (bodyOf Tryz.f193) [none] Tryz.f193.results.toList [.i .i64 a0] k = F_cond_isLength a0 (fun r0 => k (.b r0)) := by kernel_rfl

theorem ok_cond_isLength : FnOK sy Tryz.prog GT (ovD ro) ro 193 (q_cond_isLength (F_cond_isLength)) := (fn_ok (rc := [none]) (f := 193) (fn := Tryz.f193) (c := bodyOf Tryz.f193) (nt := Tryz.f193.ntmps) (res := Tryz.f193.results.toList) (C := C_cond_isLength) (L := noL) (fun _ _ => rfl) Tryz.func193 (by kernel_rfl) rfl rfl (Cok_cond_isLength) (lp_of (l := []) (by kernel_rfl) lp_nil)).weak (by
  intro us k h
  unfold q_cond_isLength at h
  split at h
  · rw [raw_cond_isLength]; exact h
  · exact h.elim)

abbrev T_cond_isName := List UInt8 → (Bool → Prop) → Prop
def q_cond_isName (A : T_cond_isName) (us : List W) (k : W → Prop) : Prop := match us with
  | [.s a0] => A a0 (fun r0 => k (.b r0))
  | _ => False
theorem q_cond_isName_weak {A A2 : T_cond_isName} (h : FnOK sy Tryz.prog GT (ovD ro) ro 192 (q_cond_isName A)) (hA : ∀ a0 K, A2 a0 K → A a0 K) : FnOK sy Tryz.prog GT (ovD ro) ro 192 (q_cond_isName A2) := h.weak (by
  intro us k h
  unfold q_cond_isName at h ⊢
  split at h
  · exact hA _ _ h
  · exact h.elim)

def F_cond_isName (A151 : T_strings_IndexByte) (A152 : T_input_Lower) (a0 : List UInt8) (K : Bool → Prop) : Prop :=
  (((a0 == ([] : List UInt8)) = true → K false) ∧ ((a0 == ([] : List UInt8)) = false → (((a0 == ([97, 110, 100] : List UInt8)) = true → K false) ∧ ((a0 == ([97, 110, 100] : List UInt8)) = false → (((a0 == ([111, 114] : List UInt8)) = true → K false) ∧ ((a0 == ([111, 114] : List UInt8)) = false → (((a0 == ([110, 111, 116] : List UInt8)) = true → K false) ∧ ((a0 == ([110, 111, 116] : List UInt8)) = false → (((a0 == ([111, 110, 108, 121] : List UInt8)) = true → K false) ∧ ((a0 == ([111, 110, 108, 121] : List UInt8)) = false → (((decide ((a0.length : Int) ≤ (64 : Int))) = true → (A151 a0 (0 : Int) (fun y1 => (((decide (y1 < (0 : Int))) = true → (A152 a0 (fun y2 => K (a0 == y2)))) ∧ ((decide (y1 < (0 : Int))) = false → K false))))) ∧ ((decide ((a0.length : Int) ≤ (64 : Int))) = false → K false))))))))))))

def C_cond_isName (A151 : T_strings_IndexByte) (A152 : T_input_Lower) : CallT sg := tab [(151, con sy [none, none] (q_strings_IndexByte A151)), (152, con sy [none] (q_input_Lower A152))]
theorem Cok_cond_isName (A151 : T_strings_IndexByte) (A152 : T_input_Lower) (h151 : FnOK sy Tryz.prog GT (ovD ro) ro 151 (q_strings_IndexByte A151)) (h152 : FnOK sy Tryz.prog GT (ovD ro) ro 152 (q_input_Lower A152)) (o0 : Nat → Prop) : CalOK sy Tryz.prog GT (ovD ro) o0 ro (C_cond_isName A151 A152) := (tab_cons (con_ok h151) (tab_cons (con_ok h152) tab_nil)) o0

theorem raw_cond_isName (A151 : T_strings_IndexByte) (A152 : T_input_Lower) (a0 : List UInt8) (k : W → Prop) : fnT sy Tryz.prog GT (C_cond_isName A151 A152) noL Tryz.f192.ntmps (bodyOf Tryz.f192) [none] Tryz.f192.results.toList [.s a0] k = F_cond_isName A151 A152 a0 (fun r0 => k (.b r0)) := by kernel_rfl

theorem ok_cond_isName (A151 : T_strings_IndexByte) (A152 : T_input_Lower) (h151 : FnOK sy Tryz.prog GT (ovD ro) ro 151 (q_strings_IndexByte A151)) (h152 : FnOK sy Tryz.prog GT (ovD ro) ro 152 (q_input_Lower A152)) : FnOK sy Tryz.prog GT (ovD ro) ro 192 (q_cond_isName (F_cond_isName A151 A152)) := (fn_ok (rc := [none]) (f := 192) (fn := Tryz.f192) (c := bodyOf Tryz.f192) (nt := Tryz.f192.ntmps) (res := Tryz.f192.results.toList) (C := C_cond_isName A151 A152) (L := noL) (fun _ _ => rfl) Tryz.func192 (by kernel_rfl) rfl rfl (Cok_cond_isName A151 A152 h151 h152) (lp_of (l := []) (by kernel_rfl) lp_nil)).weak (by
  intro us k h
  unfold q_cond_isName at h
  split at h
  · rw [raw_cond_isName]; exact h
  · exact h.elim)

abbrev T_cond_isType := Cnd → (Bool → Prop) → Prop
def q_cond_isType (A : T_cond_isType) (us : List W) (k : W → Prop) : Prop := match us with
  | [.a [.i .u8 a0_0, .s a0_1, .i .i64 a0_2, .s a0_3, .l Cd.val a0_4, .b a0_5, .l Cd.cnd a0_6]] => A (Cnd.mk a0_0 a0_1 a0_2 ⟨a0_3, a0_4, a0_5⟩ a0_6) (fun r0 => k (.b r0))
  | _ => False
theorem q_cond_isType_weak {A A2 : T_cond_isType} (h : FnOK sy Tryz.prog GT (ovD ro) ro 158 (q_cond_isType A)) (hA : ∀ a0 K, A2 a0 K → A a0 K) : FnOK sy Tryz.prog GT (ovD ro) ro 158 (q_cond_isType A2) := h.weak (by
  intro us k h
  unfold q_cond_isType at h ⊢
  split at h
  · exact hA _ _ h
  · exact h.elim)

def F_cond_isType (A67 : T_cond_isPure) (A192 : T_cond_isName) (a0 : Cnd) (K : Bool → Prop) : Prop :=
  (((decide (a0.kind = (4 : Int))) = true → (A67 (Cnd.mk a0.kind a0.name a0.num ⟨a0.decl.name, a0.decl.val, a0.decl.imp⟩ a0.list) (fun y1 => ((y1 = true → (A192 a0.name (fun y2 => K y2))) ∧ (y1 = false → K false))))) ∧ ((decide (a0.kind = (4 : Int))) = false → K false))

def C_cond_isType (A67 : T_cond_isPure) (A192 : T_cond_isName) : CallT sg := tab [(67, conA sy [[none, none, none, none, some Cd.val, none, some Cd.cnd]] [none] (q_cond_isPure A67)), (192, con sy [none] (q_cond_isName A192))]
theorem Cok_cond_isType (A67 : T_cond_isPure) (A192 : T_cond_isName) (h67 : FnOK sy Tryz.prog GT (ovD ro) ro 67 (q_cond_isPure A67)) (h192 : FnOK sy Tryz.prog GT (ovD ro) ro 192 (q_cond_isName A192)) (o0 : Nat → Prop) : CalOK sy Tryz.prog GT (ovD ro) o0 ro (C_cond_isType A67 A192) := (tab_cons (conA_ok h67) (tab_cons (con_ok h192) tab_nil)) o0

theorem raw_cond_isType (A67 : T_cond_isPure) (A192 : T_cond_isName) (a0 : Cnd) (k : W → Prop) : fnT sy Tryz.prog GT (C_cond_isType A67 A192) noL Tryz.f158.ntmps (bodyOf Tryz.f158) [none] Tryz.f158.results.toList [.a [.i .u8 a0.kind, .s a0.name, .i .i64 a0.num, .s a0.decl.name, .l Cd.val a0.decl.val, .b a0.decl.imp, .l Cd.cnd a0.list]] k = F_cond_isType A67 A192 a0 (fun r0 => k (.b r0)) := by kernel_rfl

theorem ok_cond_isType (A67 : T_cond_isPure) (A192 : T_cond_isName) (h67 : FnOK sy Tryz.prog GT (ovD ro) ro 67 (q_cond_isPure A67)) (h192 : FnOK sy Tryz.prog GT (ovD ro) ro 192 (q_cond_isName A192)) : FnOK sy Tryz.prog GT (ovD ro) ro 158 (q_cond_isType (F_cond_isType A67 A192)) := (fn_ok (rc := [none]) (f := 158) (fn := Tryz.f158) (c := bodyOf Tryz.f158) (nt := Tryz.f158.ntmps) (res := Tryz.f158.results.toList) (C := C_cond_isType A67 A192) (L := noL) (fun _ _ => rfl) Tryz.func158 (by kernel_rfl) rfl rfl (Cok_cond_isType A67 A192 h67 h192) (lp_of (l := []) (by kernel_rfl) lp_nil)).weak (by
  intro us k h
  unfold q_cond_isType at h
  split at h
  · skip
    rename_i a0_0 a0_1 a0_2 a0_3 a0_4 a0_5 a0_6
    rw [raw_cond_isType A67 A192 (Cnd.mk a0_0 a0_1 a0_2 ⟨a0_3, a0_4, a0_5⟩ a0_6) k]
    exact h
  · exact h.elim)

abbrev T_cond_isFeature := Cnd → (Bool → Prop) → Prop
def q_cond_isFeature (A : T_cond_isFeature) (us : List W) (k : W → Prop) : Prop := match us with
  | [.a [.i .u8 a0_0, .s a0_1, .i .i64 a0_2, .s a0_3, .l Cd.val a0_4, .b a0_5, .l Cd.cnd a0_6]] => A (Cnd.mk a0_0 a0_1 a0_2 ⟨a0_3, a0_4, a0_5⟩ a0_6) (fun r0 => k (.b r0))
  | _ => False
theorem q_cond_isFeature_weak {A A2 : T_cond_isFeature} (h : FnOK sy Tryz.prog GT (ovD ro) ro 160 (q_cond_isFeature A)) (hA : ∀ a0 K, A2 a0 K → A a0 K) : FnOK sy Tryz.prog GT (ovD ro) ro 160 (q_cond_isFeature A2) := h.weak (by
  intro us k h
  unfold q_cond_isFeature at h ⊢
  split at h
  · exact hA _ _ h
  · exact h.elim)

def F_cond_isFeature (A67 : T_cond_isPure) (A193 : T_cond_isLength) (a0 : Cnd) (K : Bool → Prop) : Prop :=
  (((decide (a0.kind = (5 : Int))) = false → (((decide (a0.kind = (6 : Int))) = true → (A67 (Cnd.mk a0.kind a0.name a0.num ⟨a0.decl.name, a0.decl.val, a0.decl.imp⟩ a0.list) (fun y1 => ((y1 = true → (A193 a0.num (fun y2 => K y2))) ∧ (y1 = false → K false))))) ∧ ((decide (a0.kind = (6 : Int))) = false → K false))) ∧ ((decide (a0.kind = (5 : Int))) = true → (A67 (Cnd.mk a0.kind a0.name a0.num ⟨a0.decl.name, a0.decl.val, a0.decl.imp⟩ a0.list) (fun y3 => ((y3 = true → (A193 a0.num (fun y4 => K y4))) ∧ (y3 = false → K false))))))

def C_cond_isFeature (A67 : T_cond_isPure) (A193 : T_cond_isLength) : CallT sg := tab [(67, conA sy [[none, none, none, none, some Cd.val, none, some Cd.cnd]] [none] (q_cond_isPure A67)), (193, con sy [none] (q_cond_isLength A193))]
theorem Cok_cond_isFeature (A67 : T_cond_isPure) (A193 : T_cond_isLength) (h67 : FnOK sy Tryz.prog GT (ovD ro) ro 67 (q_cond_isPure A67)) (h193 : FnOK sy Tryz.prog GT (ovD ro) ro 193 (q_cond_isLength A193)) (o0 : Nat → Prop) : CalOK sy Tryz.prog GT (ovD ro) o0 ro (C_cond_isFeature A67 A193) := (tab_cons (conA_ok h67) (tab_cons (con_ok h193) tab_nil)) o0

theorem raw_cond_isFeature (A67 : T_cond_isPure) (A193 : T_cond_isLength) (a0 : Cnd) (k : W → Prop) : fnT sy Tryz.prog GT (C_cond_isFeature A67 A193) noL Tryz.f160.ntmps (bodyOf Tryz.f160) [none] Tryz.f160.results.toList [.a [.i .u8 a0.kind, .s a0.name, .i .i64 a0.num, .s a0.decl.name, .l Cd.val a0.decl.val, .b a0.decl.imp, .l Cd.cnd a0.list]] k = F_cond_isFeature A67 A193 a0 (fun r0 => k (.b r0)) := by kernel_rfl

theorem ok_cond_isFeature (A67 : T_cond_isPure) (A193 : T_cond_isLength) (h67 : FnOK sy Tryz.prog GT (ovD ro) ro 67 (q_cond_isPure A67)) (h193 : FnOK sy Tryz.prog GT (ovD ro) ro 193 (q_cond_isLength A193)) : FnOK sy Tryz.prog GT (ovD ro) ro 160 (q_cond_isFeature (F_cond_isFeature A67 A193)) := (fn_ok (rc := [none]) (f := 160) (fn := Tryz.f160) (c := bodyOf Tryz.f160) (nt := Tryz.f160.ntmps) (res := Tryz.f160.results.toList) (C := C_cond_isFeature A67 A193) (L := noL) (fun _ _ => rfl) Tryz.func160 (by kernel_rfl) rfl rfl (Cok_cond_isFeature A67 A193 h67 h193) (lp_of (l := []) (by kernel_rfl) lp_nil)).weak (by
  intro us k h
  unfold q_cond_isFeature at h
  split at h
  · skip
    rename_i a0_0 a0_1 a0_2 a0_3 a0_4 a0_5 a0_6
    rw [raw_cond_isFeature A67 A193 (Cnd.mk a0_0 a0_1 a0_2 ⟨a0_3, a0_4, a0_5⟩ a0_6) k]
    exact h
  · exact h.elim)

def F_cond_every_F_l2 (A160 : T_cond_isFeature) : Nat → List Cnd → Int → Int → (Unit → Prop) → (Bool → Prop) → Prop
  | 0, _, _, _, _, _ => False
  | n + 1, x7, x8, x9, Ke, Kr => (((decide (x9 < x8)) = true → ((0 ≤ x9 ∧ x9 < (x7.length : Int)) ∧ (A160 (Cnd.mk ((x7.getD x9.toNat (dfltD Cd.cnd)).kind) ((x7.getD x9.toNat (dfltD Cd.cnd)).name) ((x7.getD x9.toNat (dfltD Cd.cnd)).num) ⟨(x7.getD x9.toNat (dfltD Cd.cnd)).decl.name, (x7.getD x9.toNat (dfltD Cd.cnd)).decl.val, (x7.getD x9.toNat (dfltD Cd.cnd)).decl.imp⟩ ((x7.getD x9.toNat (dfltD Cd.cnd)).list)) (fun y1 => (((!y1) = true → Kr false) ∧ ((!y1) = false → (I64 (x9 + (1 : Int)) ∧ F_cond_every_F_l2 A160 n x7 x8 (x9 + (1 : Int)) Ke Kr))))))) ∧ ((decide (x9 < x8)) = false → Ke ()))

def C_cond_every_F (A160 : T_cond_isFeature) : CallT sg := tab [(160, conA sy [[none, none, none, none, some Cd.val, none, some Cd.cnd]] [none] (q_cond_isFeature A160))]
theorem Cok_cond_every_F (A160 : T_cond_isFeature) (h160 : FnOK sy Tryz.prog GT (ovD ro) ro 160 (q_cond_isFeature A160)) (o0 : Nat → Prop) : CalOK sy Tryz.prog GT (ovD ro) o0 ro (C_cond_every_F A160) := (tab_cons (conA_ok h160) tab_nil) o0

abbrev Ya_cond_every_F_2 : Type := (Unit × (List (sg.Den Cd.cnd)) × Int × Int × Unit)
abbrev Yb_cond_every_F_2 : Type := Unit
def ls_cond_every_F_2 : LS sy Ya_cond_every_F_2 Yb_cond_every_F_2 := ⟨[], fCons 1 (vFn 160 (lNil sy)) (fCons 7 (vData sy Cd.cnd) (fCons 8 (vInt sy .i64) (fCons 9 (vInt sy .i64) (fNil sy)))), hNil sy, 1, []⟩
def le_cond_every_F_2 : LS sy Unit Unit := ⟨[], fNil sy, hNil sy, 1, []⟩
def lr_cond_every_F_2 : LS sy (Bool × Unit) Unit := ⟨[], fCons 4 (vBool sy) (fNil sy), hNil sy, 1, []⟩
def FF_cond_every_F_2 (A160 : T_cond_isFeature) (n : Nat) (x : Ya_cond_every_F_2 × Yb_cond_every_F_2) (K : Ex → Z sg → Prop) : Prop := F_cond_every_F_l2 A160 n x.1.2.1 x.1.2.2.1 x.1.2.2.2.1 (fun _ => K (.exit 0) (le_cond_every_F_2.put ((), ()))) (fun y0 => K .ret (lr_cond_every_F_2.put ((y0, ()), ())))
def h_cond_every_F_2 (A160 : T_cond_isFeature) (z : Z sg) (K : Ex → Z sg → Prop) : Prop := ls_cond_every_F_2.get z (fun x => ∃ n, FF_cond_every_F_2 A160 n x K)
def L_cond_every_F (A160 : T_cond_isFeature) : LoopT sg := tabL [(2, h_cond_every_F_2 A160)]
theorem hs_cond_every_F_2 (A160 : T_cond_isFeature) (n : Nat) (x : Ya_cond_every_F_2 × Yb_cond_every_F_2) (K : Ex → Z sg → Prop) : forceZ (ls_cond_every_F_2.put x) (fun z => sC sy Tryz.prog GT (C_cond_every_F A160) (L_cond_every_F A160) Tryz.f71.ntmps (nthLoop (bodyOf Tryz.f71) 0) z (rnd ls_cond_every_F_2 (czT 0 le_cond_every_F_2 lr_cond_every_F_2) (fun x => FF_cond_every_F_2 A160 n x K) K)) = FF_cond_every_F_2 A160 (n + 1) x K := by kernel_rfl
theorem hl_cond_every_F_2 (A160 : T_cond_isFeature) (z : Z sg) (K : Ex → Z sg → Prop) : (L_cond_every_F A160) (nthLoop (bodyOf Tryz.f71) 0) z K = ls_cond_every_F_2.get z (fun x => ∃ n, FF_cond_every_F_2 A160 n x K) := by kernel_rfl
theorem lo_cond_every_F_2 (A160 : T_cond_isFeature) (h160 : FnOK sy Tryz.prog GT (ovD ro) ro 160 (q_cond_isFeature A160)) : ∀ (o0 : Nat → Prop) (B : Bs sg), B.E.length ≤ 1 → ∀ z K, (L_cond_every_F A160) (nthLoop (bodyOf Tryz.f71) 0) z K → Sx.Sem sy Tryz.prog GT (ovD ro) o0 ro Tryz.f71.ntmps B (.loop (nthLoop (bodyOf Tryz.f71) 0)) z K :=
  loop_ok (Cok_cond_every_F A160 h160) (lp_of (l := []) (by kernel_rfl) lp_nil) ls_cond_every_F_2 (by decide) (czT 0 le_cond_every_F_2 lr_cond_every_F_2) (fun _ _ hB => czT_ok 0 le_cond_every_F_2 lr_cond_every_F_2 (Nat.le_trans hB (by decide)) (Nat.le_trans hB (by decide))) (fun _ _ h => h) (hs_cond_every_F_2 A160) (hl_cond_every_F_2 A160)
theorem Lp_cond_every_F (A160 : T_cond_isFeature) (h160 : FnOK sy Tryz.prog GT (ovD ro) ro 160 (q_cond_isFeature A160)) : LpOK sy Tryz.prog GT (ovD ro) ro (L_cond_every_F A160) 1 Tryz.f71.ntmps (bodyOf Tryz.f71) := lp_of (l := [(nthLoop (bodyOf Tryz.f71) 0)]) (by kernel_rfl) (lp_cons (lo_cond_every_F_2 A160 h160) lp_nil)


abbrev T_cond_isPlainQuery := Cnd → (Bool → Prop) → Prop
def q_cond_isPlainQuery (A : T_cond_isPlainQuery) (us : List W) (k : W → Prop) : Prop := match us with
  | [.a [.i .u8 a0_0, .s a0_1, .i .i64 a0_2, .s a0_3, .l Cd.val a0_4, .b a0_5, .l Cd.cnd a0_6]] => A (Cnd.mk a0_0 a0_1 a0_2 ⟨a0_3, a0_4, a0_5⟩ a0_6) (fun r0 => k (.b r0))
  | _ => False
theorem q_cond_isPlainQuery_weak {A A2 : T_cond_isPlainQuery} (h : FnOK sy Tryz.prog GT (ovD ro) ro 118 (q_cond_isPlainQuery A)) (hA : ∀ a0 K, A2 a0 K → A a0 K) : FnOK sy Tryz.prog GT (ovD ro) ro 118 (q_cond_isPlainQuery A2) := h.weak (by
  intro us k h
  unfold q_cond_isPlainQuery at h ⊢
  split at h
  · exact hA _ _ h
  · exact h.elim)

def F_cond_isPlainQuery (A67 : T_cond_isPure) (A158 : T_cond_isType) (A160 : T_cond_isFeature) (a0 : Cnd) (K : Bool → Prop) : Prop :=
  (((decide (a0.kind ≠ (1 : Int))) = false → (A67 (Cnd.mk a0.kind a0.name a0.num ⟨a0.decl.name, a0.decl.val, a0.decl.imp⟩ a0.list) (fun y1 => (((!y1) = false → (((decide ((a0.list.length : Int) = (0 : Int))) = true → K false) ∧ ((decide ((a0.list.length : Int) = (0 : Int))) = false → ((0 ≤ (0 : Int) ∧ (0 : Int) < (a0.list.length : Int)) ∧ (A158 (Cnd.mk ((a0.list.getD 0 (dfltD Cd.cnd)).kind) ((a0.list.getD 0 (dfltD Cd.cnd)).name) ((a0.list.getD 0 (dfltD Cd.cnd)).num) ⟨(a0.list.getD 0 (dfltD Cd.cnd)).decl.name, (a0.list.getD 0 (dfltD Cd.cnd)).decl.val, (a0.list.getD 0 (dfltD Cd.cnd)).decl.imp⟩ ((a0.list.getD 0 (dfltD Cd.cnd)).list)) (fun y2 => ((y2 = true → ((0 ≤ (1 : Int) ∧ (1 : Int) ≤ (a0.list.length : Int)) ∧ (∃ m, F_cond_every_F_l2 A160 m (a0.list.drop 1) ((a0.list.drop 1).length : Int) (0 : Int) (fun _ => K true) (fun y3 => K y3)))) ∧ (y2 = false → (∃ m, F_cond_every_F_l2 A160 m a0.list (a0.list.length : Int) (0 : Int) (fun _ => K true) (fun y4 => K y4)))))))))) ∧ ((!y1) = true → K false))))) ∧ ((decide (a0.kind ≠ (1 : Int))) = true → K false))

def C_cond_isPlainQuery (A67 : T_cond_isPure) (A158 : T_cond_isType) (A160 : T_cond_isFeature) : CallT sg := tab [(67, conA sy [[none, none, none, none, some Cd.val, none, some Cd.cnd]] [none] (q_cond_isPure A67)), (158, conA sy [[none, none, none, none, some Cd.val, none, some Cd.cnd]] [none] (q_cond_isType A158)), (71, inl sy Tryz.prog GT (C_cond_every_F A160) (L_cond_every_F A160) 1 Tryz.f71.ntmps (bodyOf Tryz.f71) Tryz.f71.results.toList)]
theorem Cok_cond_isPlainQuery (A67 : T_cond_isPure) (A158 : T_cond_isType) (A160 : T_cond_isFeature) (h67 : FnOK sy Tryz.prog GT (ovD ro) ro 67 (q_cond_isPure A67)) (h158 : FnOK sy Tryz.prog GT (ovD ro) ro 158 (q_cond_isType A158)) (h160 : FnOK sy Tryz.prog GT (ovD ro) ro 160 (q_cond_isFeature A160)) (o0 : Nat → Prop) : CalOK sy Tryz.prog GT (ovD ro) o0 ro (C_cond_isPlainQuery A67 A158 A160) := (tab_cons (conA_ok h67) (tab_cons (conA_ok h158) (tab_cons (inl_ok (f := 71) (fn := Tryz.f71) (fun _ _ => rfl) Tryz.func71 (by kernel_rfl) rfl rfl (Cok_cond_every_F A160 h160) (Lp_cond_every_F A160 h160)) tab_nil))) o0

theorem raw_cond_isPlainQuery (A67 : T_cond_isPure) (A158 : T_cond_isType) (A160 : T_cond_isFeature) (a0 : Cnd) (k : W → Prop) : fnT sy Tryz.prog GT (C_cond_isPlainQuery A67 A158 A160) noL Tryz.f118.ntmps (bodyOf Tryz.f118) [none] Tryz.f118.results.toList [.a [.i .u8 a0.kind, .s a0.name, .i .i64 a0.num, .s a0.decl.name, .l Cd.val a0.decl.val, .b a0.decl.imp, .l Cd.cnd a0.list]] k = F_cond_isPlainQuery A67 A158 A160 a0 (fun r0 => k (.b r0)) := by kernel_rfl

theorem ok_cond_isPlainQuery (A67 : T_cond_isPure) (A158 : T_cond_isType) (A160 : T_cond_isFeature) (h67 : FnOK sy Tryz.prog GT (ovD ro) ro 67 (q_cond_isPure A67)) (h158 : FnOK sy Tryz.prog GT (ovD ro) ro 158 (q_cond_isType A158)) (h160 : FnOK sy Tryz.prog GT (ovD ro) ro 160 (q_cond_isFeature A160)) : FnOK sy Tryz.prog GT (ovD ro) ro 118 (q_cond_isPlainQuery (F_cond_isPlainQuery A67 A158 A160)) := (fn_ok (rc := [none]) (f := 118) (fn := Tryz.f118) (c := bodyOf Tryz.f118) (nt := Tryz.f118.ntmps) (res := Tryz.f118.results.toList) (C := C_cond_isPlainQuery A67 A158 A160) (L := noL) (fun _ _ => rfl) Tryz.func118 (by kernel_rfl) rfl rfl (Cok_cond_isPlainQuery A67 A158 A160 h67 h158 h160) (lp_of (l := []) (by kernel_rfl) lp_nil)).weak (by
  intro us k h
  unfold q_cond_isPlainQuery at h
  split at h
  · skip
    rename_i a0_0 a0_1 a0_2 a0_3 a0_4 a0_5 a0_6
    rw [raw_cond_isPlainQuery A67 A158 A160 (Cnd.mk a0_0 a0_1 a0_2 ⟨a0_3, a0_4, a0_5⟩ a0_6) k]
    exact h
  · exact h.elim)

abbrev T_cond_isQuery := Cnd → (Bool → Prop) → Prop
def q_cond_isQuery (A : T_cond_isQuery) (us : List W) (k : W → Prop) : Prop := match us with
  | [.a [.i .u8 a0_0, .s a0_1, .i .i64 a0_2, .s a0_3, .l Cd.val a0_4, .b a0_5, .l Cd.cnd a0_6]] => A (Cnd.mk a0_0 a0_1 a0_2 ⟨a0_3, a0_4, a0_5⟩ a0_6) (fun r0 => k (.b r0))
  | _ => False
theorem q_cond_isQuery_weak {A A2 : T_cond_isQuery} (h : FnOK sy Tryz.prog GT (ovD ro) ro 76 (q_cond_isQuery A)) (hA : ∀ a0 K, A2 a0 K → A a0 K) : FnOK sy Tryz.prog GT (ovD ro) ro 76 (q_cond_isQuery A2) := h.weak (by
  intro us k h
  unfold q_cond_isQuery at h ⊢
  split at h
  · exact hA _ _ h
  · exact h.elim)

def F_cond_isQuery (A118 : T_cond_isPlainQuery) (A67 : T_cond_isPure) (a0 : Cnd) (K : Bool → Prop) : Prop :=
  (((decide (a0.kind ≠ (3 : Int))) = true → (A118 (Cnd.mk a0.kind a0.name a0.num ⟨a0.decl.name, a0.decl.val, a0.decl.imp⟩ a0.list) (fun y1 => K y1))) ∧ ((decide (a0.kind ≠ (3 : Int))) = false → (A67 (Cnd.mk a0.kind a0.name a0.num ⟨a0.decl.name, a0.decl.val, a0.decl.imp⟩ a0.list) (fun y2 => ((y2 = true → (((decide ((a0.list.length : Int) = (1 : Int))) = true → ((0 ≤ (0 : Int) ∧ (0 : Int) < (a0.list.length : Int)) ∧ (A118 (Cnd.mk ((a0.list.getD 0 (dfltD Cd.cnd)).kind) ((a0.list.getD 0 (dfltD Cd.cnd)).name) ((a0.list.getD 0 (dfltD Cd.cnd)).num) ⟨(a0.list.getD 0 (dfltD Cd.cnd)).decl.name, (a0.list.getD 0 (dfltD Cd.cnd)).decl.val, (a0.list.getD 0 (dfltD Cd.cnd)).decl.imp⟩ ((a0.list.getD 0 (dfltD Cd.cnd)).list)) (fun y3 => ((y3 = true → ((0 ≤ (0 : Int) ∧ (0 : Int) < (a0.list.length : Int)) ∧ ((0 ≤ (0 : Int) ∧ (0 : Int) < (((a0.list.getD 0 (dfltD Cd.cnd)).list).length : Int)) ∧ K (decide (((((a0.list.getD 0 (dfltD Cd.cnd)).list).getD 0 (dfltD Cd.cnd)).kind) = (4 : Int)))))) ∧ (y3 = false → K false)))))) ∧ ((decide ((a0.list.length : Int) = (1 : Int))) = false → K false))) ∧ (y2 = false → K false))))))

def C_cond_isQuery (A118 : T_cond_isPlainQuery) (A67 : T_cond_isPure) : CallT sg := tab [(118, conA sy [[none, none, none, none, some Cd.val, none, some Cd.cnd]] [none] (q_cond_isPlainQuery A118)), (67, conA sy [[none, none, none, none, some Cd.val, none, some Cd.cnd]] [none] (q_cond_isPure A67))]
theorem Cok_cond_isQuery (A118 : T_cond_isPlainQuery) (A67 : T_cond_isPure) (h118 : FnOK sy Tryz.prog GT (ovD ro) ro 118 (q_cond_isPlainQuery A118)) (h67 : FnOK sy Tryz.prog GT (ovD ro) ro 67 (q_cond_isPure A67)) (o0 : Nat → Prop) : CalOK sy Tryz.prog GT (ovD ro) o0 ro (C_cond_isQuery A118 A67) := (tab_cons (conA_ok h118) (tab_cons (conA_ok h67) tab_nil)) o0

theorem raw_cond_isQuery (A118 : T_cond_isPlainQuery) (A67 : T_cond_isPure) (a0 : Cnd) (k : W → Prop) : fnT sy Tryz.prog GT (C_cond_isQuery A118 A67) noL Tryz.f76.ntmps (bodyOf Tryz.f76) [none] Tryz.f76.results.toList [.a [.i .u8 a0.kind, .s a0.name, .i .i64 a0.num, .s a0.decl.name, .l Cd.val a0.decl.val, .b a0.decl.imp, .l Cd.cnd a0.list]] k = F_cond_isQuery A118 A67 a0 (fun r0 => k (.b r0)) := by kernel_rfl

theorem ok_cond_isQuery (A118 : T_cond_isPlainQuery) (A67 : T_cond_isPure) (h118 : FnOK sy Tryz.prog GT (ovD ro) ro 118 (q_cond_isPlainQuery A118)) (h67 : FnOK sy Tryz.prog GT (ovD ro) ro 67 (q_cond_isPure A67)) : FnOK sy Tryz.prog GT (ovD ro) ro 76 (q_cond_isQuery (F_cond_isQuery A118 A67)) := (fn_ok (rc := [none]) (f := 76) (fn := Tryz.f76) (c := bodyOf Tryz.f76) (nt := Tryz.f76.ntmps) (res := Tryz.f76.results.toList) (C := C_cond_isQuery A118 A67) (L := noL) (fun _ _ => rfl) Tryz.func76 (by kernel_rfl) rfl rfl (Cok_cond_isQuery A118 A67 h118 h67) (lp_of (l := []) (by kernel_rfl) lp_nil)).weak (by
  intro us k h
  unfold q_cond_isQuery at h
  split at h
  · skip
    rename_i a0_0 a0_1 a0_2 a0_3 a0_4 a0_5 a0_6
    rw [raw_cond_isQuery A118 A67 (Cnd.mk a0_0 a0_1 a0_2 ⟨a0_3, a0_4, a0_5⟩ a0_6) k]
    exact h
  · exact h.elim)

def F_cond_every_Q_l2 (A76 : T_cond_isQuery) : Nat → List Cnd → Int → Int → (Unit → Prop) → (Bool → Prop) → Prop
  | 0, _, _, _, _, _ => False
  | n + 1, x7, x8, x9, Ke, Kr => (((decide (x9 < x8)) = true → ((0 ≤ x9 ∧ x9 < (x7.length : Int)) ∧ (A76 (Cnd.mk ((x7.getD x9.toNat (dfltD Cd.cnd)).kind) ((x7.getD x9.toNat (dfltD Cd.cnd)).name) ((x7.getD x9.toNat (dfltD Cd.cnd)).num) ⟨(x7.getD x9.toNat (dfltD Cd.cnd)).decl.name, (x7.getD x9.toNat (dfltD Cd.cnd)).decl.val, (x7.getD x9.toNat (dfltD Cd.cnd)).decl.imp⟩ ((x7.getD x9.toNat (dfltD Cd.cnd)).list)) (fun y1 => (((!y1) = true → Kr false) ∧ ((!y1) = false → (I64 (x9 + (1 : Int)) ∧ F_cond_every_Q_l2 A76 n x7 x8 (x9 + (1 : Int)) Ke Kr))))))) ∧ ((decide (x9 < x8)) = false → Ke ()))

def C_cond_every_Q (A76 : T_cond_isQuery) : CallT sg := tab [(76, conA sy [[none, none, none, none, some Cd.val, none, some Cd.cnd]] [none] (q_cond_isQuery A76))]
theorem Cok_cond_every_Q (A76 : T_cond_isQuery) (h76 : FnOK sy Tryz.prog GT (ovD ro) ro 76 (q_cond_isQuery A76)) (o0 : Nat → Prop) : CalOK sy Tryz.prog GT (ovD ro) o0 ro (C_cond_every_Q A76) := (tab_cons (conA_ok h76) tab_nil) o0

abbrev Ya_cond_every_Q_2 : Type := (Unit × (List (sg.Den Cd.cnd)) × Int × Int × Unit)
abbrev Yb_cond_every_Q_2 : Type := Unit
def ls_cond_every_Q_2 : LS sy Ya_cond_every_Q_2 Yb_cond_every_Q_2 := ⟨[], fCons 1 (vFn 76 (lNil sy)) (fCons 7 (vData sy Cd.cnd) (fCons 8 (vInt sy .i64) (fCons 9 (vInt sy .i64) (fNil sy)))), hNil sy, 1, []⟩
def le_cond_every_Q_2 : LS sy Unit Unit := ⟨[], fNil sy, hNil sy, 1, []⟩
def lr_cond_every_Q_2 : LS sy (Bool × Unit) Unit := ⟨[], fCons 4 (vBool sy) (fNil sy), hNil sy, 1, []⟩
def FF_cond_every_Q_2 (A76 : T_cond_isQuery) (n : Nat) (x : Ya_cond_every_Q_2 × Yb_cond_every_Q_2) (K : Ex → Z sg → Prop) : Prop := F_cond_every_Q_l2 A76 n x.1.2.1 x.1.2.2.1 x.1.2.2.2.1 (fun _ => K (.exit 0) (le_cond_every_Q_2.put ((), ()))) (fun y0 => K .ret (lr_cond_every_Q_2.put ((y0, ()), ())))
def h_cond_every_Q_2 (A76 : T_cond_isQuery) (z : Z sg) (K : Ex → Z sg → Prop) : Prop := ls_cond_every_Q_2.get z (fun x => ∃ n, FF_cond_every_Q_2 A76 n x K)
def L_cond_every_Q (A76 : T_cond_isQuery) : LoopT sg := tabL [(2, h_cond_every_Q_2 A76)]
theorem hs_cond_every_Q_2 (A76 : T_cond_isQuery) (n : Nat) (x : Ya_cond_every_Q_2 × Yb_cond_every_Q_2) (K : Ex → Z sg → Prop) : forceZ (ls_cond_every_Q_2.put x) (fun z => sC sy Tryz.prog GT (C_cond_every_Q A76) (L_cond_every_Q A76) Tryz.f71.ntmps (nthLoop (bodyOf Tryz.f71) 0) z (rnd ls_cond_every_Q_2 (czT 0 le_cond_every_Q_2 lr_cond_every_Q_2) (fun x => FF_cond_every_Q_2 A76 n x K) K)) = FF_cond_every_Q_2 A76 (n + 1) x K := by kernel_rfl
theorem hl_cond_every_Q_2 (A76 : T_cond_isQuery) (z : Z sg) (K : Ex → Z sg → Prop) : (L_cond_every_Q A76) (nthLoop (bodyOf Tryz.f71) 0) z K = ls_cond_every_Q_2.get z (fun x => ∃ n, FF_cond_every_Q_2 A76 n x K) := by kernel_rfl
theorem lo_cond_every_Q_2 (A76 : T_cond_isQuery) (h76 : FnOK sy Tryz.prog GT (ovD ro) ro 76 (q_cond_isQuery A76)) : ∀ (o0 : Nat → Prop) (B : Bs sg), B.E.length ≤ 1 → ∀ z K, (L_cond_every_Q A76) (nthLoop (bodyOf Tryz.f71) 0) z K → Sx.Sem sy Tryz.prog GT (ovD ro) o0 ro Tryz.f71.ntmps B (.loop (nthLoop (bodyOf Tryz.f71) 0)) z K :=
  loop_ok (Cok_cond_every_Q A76 h76) (lp_of (l := []) (by kernel_rfl) lp_nil) ls_cond_every_Q_2 (by decide) (czT 0 le_cond_every_Q_2 lr_cond_every_Q_2) (fun _ _ hB => czT_ok 0 le_cond_every_Q_2 lr_cond_every_Q_2 (Nat.le_trans hB (by decide)) (Nat.le_trans hB (by decide))) (fun _ _ h => h) (hs_cond_every_Q_2 A76) (hl_cond_every_Q_2 A76)
theorem Lp_cond_every_Q (A76 : T_cond_isQuery) (h76 : FnOK sy Tryz.prog GT (ovD ro) ro 76 (q_cond_isQuery A76)) : LpOK sy Tryz.prog GT (ovD ro) ro (L_cond_every_Q A76) 1 Tryz.f71.ntmps (bodyOf Tryz.f71) := lp_of (l := [(nthLoop (bodyOf Tryz.f71) 0)]) (by kernel_rfl) (lp_cons (lo_cond_every_Q_2 A76 h76) lp_nil)


abbrev T_cond_isMedia := Cnd → (Bool → Prop) → Prop
def q_cond_isMedia (A : T_cond_isMedia) (us : List W) (k : W → Prop) : Prop := match us with
  | [.a [.i .u8 a0_0, .s a0_1, .i .i64 a0_2, .s a0_3, .l Cd.val a0_4, .b a0_5, .l Cd.cnd a0_6]] => A (Cnd.mk a0_0 a0_1 a0_2 ⟨a0_3, a0_4, a0_5⟩ a0_6) (fun r0 => k (.b r0))
  | _ => False
theorem q_cond_isMedia_weak {A A2 : T_cond_isMedia} (h : FnOK sy Tryz.prog GT (ovD ro) ro 38 (q_cond_isMedia A)) (hA : ∀ a0 K, A2 a0 K → A a0 K) : FnOK sy Tryz.prog GT (ovD ro) ro 38 (q_cond_isMedia A2) := h.weak (by
  intro us k h
  unfold q_cond_isMedia at h ⊢
  split at h
  · exact hA _ _ h
  · exact h.elim)

def F_cond_isMedia (A67 : T_cond_isPure) (A76 : T_cond_isQuery) (a0 : Cnd) (K : Bool → Prop) : Prop :=
  (A67 (Cnd.mk a0.kind a0.name a0.num ⟨a0.decl.name, a0.decl.val, a0.decl.imp⟩ a0.list) (fun y1 => (((!y1) = true → K false) ∧ ((!y1) = false → (((decide (a0.kind = (1 : Int))) = true → K (decide ((a0.list.length : Int) = (0 : Int)))) ∧ ((decide (a0.kind = (1 : Int))) = false → (((decide (a0.kind = (2 : Int))) = true → (((decide ((1 : Int) ≤ (a0.list.length : Int))) = true → (((decide ((a0.list.length : Int) ≤ (64 : Int))) = true → (∃ m, F_cond_every_Q_l2 A76 m a0.list (a0.list.length : Int) (0 : Int) (fun _ => K true) (fun y2 => K y2))) ∧ ((decide ((a0.list.length : Int) ≤ (64 : Int))) = false → K false))) ∧ ((decide ((1 : Int) ≤ (a0.list.length : Int))) = false → K false))) ∧ ((decide (a0.kind = (2 : Int))) = false → K false))))))))

def C_cond_isMedia (A67 : T_cond_isPure) (A76 : T_cond_isQuery) : CallT sg := tab [(67, conA sy [[none, none, none, none, some Cd.val, none, some Cd.cnd]] [none] (q_cond_isPure A67)), (71, inl sy Tryz.prog GT (C_cond_every_Q A76) (L_cond_every_Q A76) 1 Tryz.f71.ntmps (bodyOf Tryz.f71) Tryz.f71.results.toList)]
theorem Cok_cond_isMedia (A67 : T_cond_isPure) (A76 : T_cond_isQuery) (h67 : FnOK sy Tryz.prog GT (ovD ro) ro 67 (q_cond_isPure A67)) (h76 : FnOK sy Tryz.prog GT (ovD ro) ro 76 (q_cond_isQuery A76)) (o0 : Nat → Prop) : CalOK sy Tryz.prog GT (ovD ro) o0 ro (C_cond_isMedia A67 A76) := (tab_cons (conA_ok h67) (tab_cons (inl_ok (f := 71) (fn := Tryz.f71) (fun _ _ => rfl) Tryz.func71 (by kernel_rfl) rfl rfl (Cok_cond_every_Q A76 h76) (Lp_cond_every_Q A76 h76)) tab_nil)) o0

theorem raw_cond_isMedia (A67 : T_cond_isPure) (A76 : T_cond_isQuery) (a0 : Cnd) (k : W → Prop) : fnT sy Tryz.prog GT (C_cond_isMedia A67 A76) noL Tryz.f38.ntmps (bodyOf Tryz.f38) [none] Tryz.f38.results.toList [.a [.i .u8 a0.kind, .s a0.name, .i .i64 a0.num, .s a0.decl.name, .l Cd.val a0.decl.val, .b a0.decl.imp, .l Cd.cnd a0.list]] k = F_cond_isMedia A67 A76 a0 (fun r0 => k (.b r0)) := by kernel_rfl

theorem ok_cond_isMedia (A67 : T_cond_isPure) (A76 : T_cond_isQuery) (h67 : FnOK sy Tryz.prog GT (ovD ro) ro 67 (q_cond_isPure A67)) (h76 : FnOK sy Tryz.prog GT (ovD ro) ro 76 (q_cond_isQuery A76)) : FnOK sy Tryz.prog GT (ovD ro) ro 38 (q_cond_isMedia (F_cond_isMedia A67 A76)) := (fn_ok (rc := [none]) (f := 38) (fn := Tryz.f38) (c := bodyOf Tryz.f38) (nt := Tryz.f38.ntmps) (res := Tryz.f38.results.toList) (C := C_cond_isMedia A67 A76) (L := noL) (fun _ _ => rfl) Tryz.func38 (by kernel_rfl) rfl rfl (Cok_cond_isMedia A67 A76 h67 h76) (lp_of (l := []) (by kernel_rfl) lp_nil)).weak (by
  intro us k h
  unfold q_cond_isMedia at h
  split at h
  · skip
    rename_i a0_0 a0_1 a0_2 a0_3 a0_4 a0_5 a0_6
    rw [raw_cond_isMedia A67 A76 (Cnd.mk a0_0 a0_1 a0_2 ⟨a0_3, a0_4, a0_5⟩ a0_6) k]
    exact h
  · exact h.elim)

end Go.Proofs.YtajmjilckaifoaaGreatDoor
namespace Go.Sx
open Go.Vm

section
variable {S : Sg}
/-- The names from n on, n + k in all, are forgotten. -/
def cutT (n : Nat) (m : T (Ct S)) : Nat → T (Ct S)
  | 0 => m
  | k + 1 => (cutT n m k).upd (n + k) none
/-- They are there again. -/
def joinT (ks : List Nat) (n : Nat) (m m' : T (Ct S)) : Nat → T (Ct S)
  | 0 => m'
  | k + 1 => match m.get (n + k) with
    | some ct => (joinT ks n m m' k).upd (n + k) (some (killCt ks ct))
    | none => joinT ks n m m' k
theorem cutT_get {n : Nat} {m : T (Ct S)} : ∀ (k r : Nat), (cutT n m k).get r = if n ≤ r ∧ r < n + k then none else m.get r
  | 0, r => by rw [if_neg (by omega)]; rfl
  | k + 1, r => by
    rw [cutT, T.get_upd, cutT_get k r]
    by_cases h : r = n + k
    · rw [if_pos h, if_pos (by omega)]
    · rw [if_neg h]
      by_cases h2 : n ≤ r ∧ r < n + k
      · rw [if_pos h2, if_pos (by omega)]
      · rw [if_neg h2, if_neg (by omega)]
theorem joinT_get {ks : List Nat} {n : Nat} {m m' : T (Ct S)} (hm : ∀ r, n ≤ r → m'.get r = none) : ∀ (k r : Nat), (joinT ks n m m' k).get r = if n ≤ r ∧ r < n + k then (m.get r).map (killCt ks) else m'.get r
  | 0, r => by rw [if_neg (by omega)]; rfl
  | k + 1, r => by
    rw [joinT]
    cases hg : m.get (n + k) with
    | none =>
      show (joinT ks n m m' k).get r = _
      rw [joinT_get hm k r]
      by_cases h : r = n + k
      · rw [if_neg (by omega), if_pos (by omega), h, hg, hm _ (by omega)]
        rfl
      · by_cases h2 : n ≤ r ∧ r < n + k
        · rw [if_pos h2, if_pos (by omega)]
        · rw [if_neg h2, if_neg (by omega)]
    | some ct =>
      show ((joinT ks n m m' k).upd (n + k) (some (killCt ks ct))).get r = _
      rw [T.get_upd, joinT_get hm k r]
      by_cases h : r = n + k
      · rw [if_pos h, if_pos (by omega), h, hg]
        rfl
      · rw [if_neg h]
        by_cases h2 : n ≤ r ∧ r < n + k
        · rw [if_pos h2, if_pos (by omega)]
        · rw [if_neg h2, if_neg (by omega)]

variable {Y : Sy S} {P : Program} {G : Gl} {ov : Ov} {ro : Nat} {o0 : Nat → Prop}
/-- What is owned, and what bears one of the other names. -/
def ownHi (o0 : Nat → Prop) (n : Nat) (E : En) (m : T (Ct S)) (id : Nat) : Prop := o0 id ∨ ∃ (r : Nat) (ct : Ct S) (h : V), n ≤ r ∧ m.get r = some ct ∧ E[r]? = some (some id, h)

theorem named_cut {n nx : Nat} {E : En} {m : T (Ct S)} (hlt : ∀ r ct, m.get r = some ct → r < nx) {id : Nat} : named (E.take n) (cutT n m (nx - n)) id ↔ ∃ (r : Nat) (ct : Ct S) (h : V), r < n ∧ m.get r = some ct ∧ E[r]? = some (some id, h) := by
  constructor
  · rintro ⟨r, ct, h, e1, e2⟩
    rw [cutT_get] at e1
    split at e1
    · cases e1
    · rename_i hh
      have := hlt r ct e1
      have hr : r < n := by omega
      rw [List.getElem?_take, if_pos hr] at e2
      exact ⟨r, ct, h, hr, e1, e2⟩
  · rintro ⟨r, ct, h, hr, e1, e2⟩
    refine ⟨r, ct, h, ?_, ?_⟩
    · rw [cutT_get, if_neg (by omega)]; exact e1
    · rw [List.getElem?_take, if_pos hr]; exact e2
theorem own_cut {n nx : Nat} {E : En} {m : T (Ct S)} (hlt : ∀ r ct, m.get r = some ct → r < nx) {id : Nat} : ownOf (ownHi o0 n E m) (E.take n) (cutT n m (nx - n)) id ↔ ownOf o0 E m id := by
  unfold ownOf
  rw [named_cut hlt]
  constructor
  · rintro ((q | ⟨r, ct, h, _, e1, e2⟩) | ⟨r, ct, h, _, e1, e2⟩)
    · exact .inl q
    · exact .inr ⟨r, ct, h, e1, e2⟩
    · exact .inr ⟨r, ct, h, e1, e2⟩
  · rintro (q | ⟨r, ct, h, e1, e2⟩)
    · exact .inl (.inl q)
    · rcases Nat.lt_or_ge r n with hr | hr
      · exact .inr ⟨r, ct, h, hr, e1, e2⟩
      · exact .inl (.inr ⟨r, ct, h, hr, e1, e2⟩)

/-- A block that is named. -/
theorem id_of {E : En} {nx : Nat} {m : T (Ct S)} {st : St} (hI : Inv Y G o0 ro E nx m st) {r : Nat} {ct : Ct S} {id : Nat} {h : V} (e1 : m.get r = some ct) (e2 : E[r]? = some (some id, h)) : ro ≤ id ∧ id < st.nx := ent_id hI e1 e2

theorem cut_inv {E : En} {n nx : Nat} {m : T (Ct S)} {st : St} (hI : Inv Y G o0 ro E nx m st) (hn : n ≤ nx) (hl : Tall (lowCt n) (cutT n m (nx - n)) = true) : Inv Y G (ownHi o0 n E m) ro (E.take n) n (cutT n m (nx - n)) st := by
  have own : ∀ id, ownOf (ownHi o0 n E m) (E.take n) (cutT n m (nx - n)) id → ownOf o0 E m id := fun id h => (own_cut hI.lt).1 h
  have hd : ∀ c xs v, Dat Y (ownOf o0 E m) st c xs v → Dat Y (ownOf (ownHi o0 n E m) (E.take n) (cutT n m (nx - n))) st c xs v := fun c xs v hd => Dat.keep (Nat.le_refl _) (fun _ _ _ => rfl) (fun id _ ho => own id ho) hd
  have hda : ∀ u v, DatA Y (ownOf o0 E m) st u v → DatA Y (ownOf (ownHi o0 n E m) (E.take n) (cutT n m (nx - n))) st u v := fun u v hd => DatA.keep (Nat.le_refl _) (fun _ _ _ => rfl) (fun id _ ho => own id ho) hd
  have get : ∀ r ct, (cutT n m (nx - n)).get r = some ct → r < n ∧ m.get r = some ct := fun r ct e => by
    rw [cutT_get] at e
    split at e
    · cases e
    · have := hI.lt r ct e
      exact ⟨by omega, e⟩
  have tk : ∀ r, r < n → (E.take n)[r]? = E[r]? := fun r hr => by rw [List.getElem?_take, if_pos hr]
  refine ⟨by rw [List.length_take, hI.len]; omega, hI.ro, fun r ct e => (get r ct e).1, fun r ct e => ?_, fun id h => ?_, hI.glob, fun r r' ct ct' id y y' e1 e2 e3 e4 => ?_, fun id hid => ?_⟩
  · obtain ⟨q1, q2⟩ := get r ct e
    have he := hI.ent r ct q2
    have hlow := Tall_get hl e
    cases ct with
    | cells us =>
      obtain ⟨id, y, b, vs, g1, g2, g3, g4, g5, g6, g7⟩ := he
      exact ⟨id, y, b, vs, (tk r q1).trans g1, g2, g3, g4, g5, RelL.mono (fun _ _ e => e) hd us vs (RelL.low us vs hlow g6), g7⟩
    | buf c xs =>
      rcases he with ⟨v0, g1, g2, g0⟩ | ⟨id, cap, op, b, g1, g2, g3, g4, g5, g6, g7, g8, vs, g9, g10⟩
      · exact .inl ⟨v0, (tk r q1).trans g1, g2, g0⟩
      · exact .inr ⟨id, cap, op, b, (tk r q1).trans g1, g2, g3, g4, g5, g6, g7, g8, vs, g9, fun i x hx j u v hu hv => hda u v (g10 i x hx j u v hu hv)⟩
    | row c xs =>
      obtain ⟨id, b, g1, g2, g3, g4, g5, vs, g9, g10⟩ := he
      exact ⟨id, b, (tk r q1).trans g1, g2, g3, g4, g5, vs, g9, fun i x hx j u v hu hv => hda u v (g10 i x hx j u v hu hv)⟩
  · rcases h with h | ⟨r, ct, y, _, e1, e2⟩
    · exact hI.out id h
    · exact id_of hI e1 e2
  · obtain ⟨q1, q2⟩ := get r ct e1
    obtain ⟨p1, p2⟩ := get r' ct' e2
    rw [tk r q1] at e3
    rw [tk r' p1] at e4
    exact hI.inj r r' ct ct' id y y' q2 p2 e3 e4
  · rw [named_cut hI.lt] at hid
    obtain ⟨r, ct, y, hr, e1, e2⟩ := hid
    rintro (h | ⟨r', ct', y', hr', e3, e4⟩)
    · exact hI.dis id ⟨r, ct, y, e1, e2⟩ h
    · have := hI.inj r r' ct ct' id y y' e1 e3 e2 e4
      omega

/-- Behind the call all names are there again. -/
theorem join_inv {E E' : En} {n nx : Nat} {m m' : T (Ct S)} {st st' : St} {ks wr : List Nat} (hI : Inv Y G o0 ro E nx m st) (hn : n ≤ nx) (hI' : Inv Y G (ownHi o0 n E m) ro E' n m' st')
    (hS : Step (ownHi o0 n E m) (E.take n) (cutT n m (nx - n)) st E' m' st' ks wr) :
    Inv Y G o0 ro (E' ++ E.drop n) nx (joinT ks n m m' (nx - n)) st' ∧ Step o0 E m st (E' ++ E.drop n) (joinT ks n m m' (nx - n)) st' ks wr ∧ ∀ id, ownOf o0 (E' ++ E.drop n) (joinT ks n m m' (nx - n)) id → ownOf (ownHi o0 n E m) E' m' id := by
  have hm' : ∀ r, n ≤ r → m'.get r = none := fun r hr => by
    cases h : m'.get r with
    | none => rfl
    | some ct => have := hI'.lt r ct h; omega
  have get : ∀ r, (joinT ks n m m' (nx - n)).get r = if n ≤ r then (m.get r).map (killCt ks) else m'.get r := fun r => by
    rw [joinT_get hm']
    by_cases h : n ≤ r
    · by_cases h2 : r < nx
      · rw [if_pos (by omega), if_pos h]
      · rw [if_neg (by omega), if_pos h, hm' r h]
        cases h3 : m.get r with
        | none => rfl
        | some ct => have := hI.lt r ct h3; omega
    · rw [if_neg (by omega), if_neg h]
  have lo : ∀ r, r < n → (E' ++ E.drop n)[r]? = E'[r]? := fun r hr => by rw [List.getElem?_append_left (by rw [hI'.len]; exact hr)]
  have hi : ∀ r, n ≤ r → (E' ++ E.drop n)[r]? = E[r]? := fun r hr => by
    rw [List.getElem?_append_right (by rw [hI'.len]; exact hr), hI'.len, List.getElem?_drop]
    congr 1
    omega
  have tk : ∀ r, r < n → (E.take n)[r]? = E[r]? := fun r hr => by rw [List.getElem?_take, if_pos hr]
  -- who is named
  have nam : ∀ id, named (E' ++ E.drop n) (joinT ks n m m' (nx - n)) id → named E' m' id ∨ ∃ (r : Nat) (ct : Ct S) (h : V), n ≤ r ∧ m.get r = some ct ∧ E[r]? = some (some id, h) := by
    rintro id ⟨r, ct, h, e1, e2⟩
    rw [get] at e1
    by_cases hr : n ≤ r
    · rw [if_pos hr] at e1
      rw [hi r hr] at e2
      cases h3 : m.get r with
      | none => rw [h3] at e1; cases e1
      | some c0 => exact .inr ⟨r, c0, h, hr, h3, e2⟩
    · rw [if_neg hr] at e1
      rw [lo r (by omega)] at e2
      exact .inl ⟨r, ct, h, e1, e2⟩
  have own : ∀ id, ownOf o0 (E' ++ E.drop n) (joinT ks n m m' (nx - n)) id → ownOf (ownHi o0 n E m) E' m' id := by
    rintro id (q | q)
    · exact .inl (.inl q)
    · rcases nam id q with q | q
      · exact .inr q
      · exact .inl (.inr q)
  have old : ∀ id, named E' m' id → (∃ (r : Nat) (ct : Ct S) (h : V), r < n ∧ m.get r = some ct ∧ E[r]? = some (some id, h)) ∨ st.nx ≤ id := fun id h => (hS.nam id h).imp (fun q => (named_cut hI.lt).1 q) fun q => q
  have keep : ∀ id, id < st.nx → (∀ (r : Nat) ct (h : V), r < n → m.get r = some ct → E[r]? = some (some id, h) → False) → st'.hp.get id = st.hp.get id := fun id h1 h2 => hS.keep id h1 fun q => by
    obtain ⟨r, ct, h, a, b, c⟩ := (named_cut hI.lt).1 q
    exact h2 r ct h a b c
  have step : Step o0 E m st (E' ++ E.drop n) (joinT ks n m m' (nx - n)) st' ks wr := by
    refine ⟨?_, fun r hr hm => ?_, hS.nx, fun id h1 h2 => keep id h1 fun r ct h _ b c => h2 ⟨r, ct, h, b, c⟩, fun id h => ?_, fun j h1 h2 h3 => ?_⟩
    · rw [List.length_append, List.length_drop, hI'.len, hI.len]
      omega
    · rcases Nat.lt_or_ge r n with h | h
      · rw [lo r h, hS.same r (by rw [List.length_take, hI.len]; omega) hm, tk r h]
      · exact hi r h
    · rcases nam id h with q | ⟨r, ct, y, _, b, c⟩
      · rcases old id q with ⟨r, ct, y, _, b, c⟩ | q
        · exact .inl ⟨r, ct, y, b, c⟩
        · exact .inr q
      · exact .inl ⟨r, ct, y, b, c⟩
    · refine hS.ver j h1 h2 (h3.imp (fun q => q) fun q id hid => ?_)
      obtain ⟨r, ct, y, _, b, c⟩ := (named_cut hI.lt).1 hid
      exact q id ⟨r, ct, y, b, c⟩
  have hd : ∀ c xs v, Dat Y (ownOf (ownHi o0 n E m) E' m') st' c xs v → Dat Y (ownOf o0 (E' ++ E.drop n) (joinT ks n m m' (nx - n))) st' c xs v := fun c xs v hd => Dat.keep (Nat.le_refl _) (fun _ _ _ => rfl) (fun id _ ho => own id ho) hd
  have hda : ∀ u v, DatA Y (ownOf (ownHi o0 n E m) E' m') st' u v → DatA Y (ownOf o0 (E' ++ E.drop n) (joinT ks n m m' (nx - n))) st' u v := fun u v hd => DatA.keep (Nat.le_refl _) (fun _ _ _ => rfl) (fun id _ ho => own id ho) hd
  have ex : ∀ r x, E'[r]? = some x → (E' ++ E.drop n)[r]? = some x := fun r x h => by
    rw [lo r (by have := (List.getElem?_eq_some_iff.1 h).1; rw [hI'.len] at this; exact this)]
    exact h
  refine ⟨⟨?_, hI'.ro, fun r ct e => ?_, fun r ct e => ?_, fun id h => ?_, hI'.glob, fun r r' ct ct' id y y' e1 e2 e3 e4 => ?_, fun id h => ?_⟩, step, own⟩
  · rw [List.length_append, List.length_drop, hI'.len, hI.len]
    omega
  · rw [get] at e
    by_cases hr : n ≤ r
    · rw [if_pos hr] at e
      cases h3 : m.get r with
      | none => rw [h3] at e; cases e
      | some c0 => exact hI.lt r c0 h3
    · omega
  · rw [get] at e
    by_cases hr : n ≤ r
    · rw [if_pos hr] at e
      cases h3 : m.get r with
      | none => rw [h3] at e; cases e
      | some c0 =>
        rw [h3] at e
        obtain rfl := Option.some.inj e
        exact Ent.keep step (hI.ent r c0 h3) (hi r hr) fun id y h1 h2 => keep id h2 fun r' ct' y' h4 h5 h6 => by
          have := hI.inj r r' c0 ct' id y y' h3 h5 h1 h6
          omega
    · rw [if_neg hr] at e
      have he := hI'.ent r ct e
      have lr := lo r (by omega)
      cases ct with
      | cells us =>
        obtain ⟨id, y, b, vs, g1, g2, g3, g4, g5, g6, g7⟩ := he
        exact ⟨id, y, b, vs, lr.trans g1, g2, g3, g4, g5, RelL.mono ex hd us vs g6, g7⟩
      | buf c xs =>
        rcases he with ⟨v0, g1, g2, g0⟩ | ⟨id, cap, op, b, g1, g2, g3, g4, g5, g6, g7, g8, vs, g9, g10⟩
        · exact .inl ⟨v0, lr.trans g1, g2, g0⟩
        · exact .inr ⟨id, cap, op, b, lr.trans g1, g2, g3, g4, g5, g6, g7, g8, vs, g9, fun i x hx j u v hu hv => hda u v (g10 i x hx j u v hu hv)⟩
      | row c xs =>
        obtain ⟨id, b, g1, g2, g3, g4, g5, vs, g9, g10⟩ := he
        exact ⟨id, b, lr.trans g1, g2, g3, g4, g5, vs, g9, fun i x hx j u v hu hv => hda u v (g10 i x hx j u v hu hv)⟩
  · exact ⟨(hI.out id h).1, Nat.lt_of_lt_of_le (hI.out id h).2 hS.nx⟩
  · rw [get] at e1 e2
    have side : ∀ (r r' : Nat) (ct : Ct S) (y y' : V), r < n → n ≤ r' → m'.get r = some ct → (∃ c, m.get r' = some c) → E'[r]? = some (some id, y) → E[r']? = some (some id, y') → False := by
      rintro r r' ct y y' h1 h2 h3 ⟨c0, h4⟩ h5 h6
      rcases old id ⟨r, ct, y, h3, h5⟩ with ⟨r2, c2, y2, a, b, c⟩ | q
      · have := hI.inj r2 r' c2 c0 id y2 y' b h4 c h6
        omega
      · have := (id_of hI h4 h6).2
        omega
    by_cases hr : n ≤ r <;> by_cases hr' : n ≤ r'
    · rw [if_pos hr] at e1
      rw [if_pos hr'] at e2
      rw [hi r hr] at e3
      rw [hi r' hr'] at e4
      cases h3 : m.get r with
      | none => rw [h3] at e1; cases e1
      | some c0 =>
        cases h4 : m.get r' with
        | none => rw [h4] at e2; cases e2
        | some c1 => exact hI.inj r r' c0 c1 id y y' h3 h4 e3 e4
    · rw [if_pos hr] at e1
      rw [if_neg hr'] at e2
      rw [hi r hr] at e3
      rw [lo r' (by omega)] at e4
      cases h3 : m.get r with
      | none => rw [h3] at e1; cases e1
      | some c0 => exact (side r' r ct' y' y (by omega) hr e2 ⟨c0, h3⟩ e4 e3).elim
    · rw [if_neg hr] at e1
      rw [if_pos hr'] at e2
      rw [lo r (by omega)] at e3
      rw [hi r' hr'] at e4
      cases h4 : m.get r' with
      | none => rw [h4] at e2; cases e2
      | some c1 => exact (side r r' ct y y' (by omega) hr' e1 ⟨c1, h4⟩ e3 e4).elim
    · rw [if_neg hr] at e1
      rw [if_neg hr'] at e2
      rw [lo r (by omega)] at e3
      rw [lo r' (by omega)] at e4
      exact hI'.inj r r' ct ct' id y y' e1 e2 e3 e4
  · intro ho
    rcases nam id h with q | ⟨r, ct, y, _, b, c⟩
    · exact hI'.dis id q (.inl ho)
    · exact hI.dis id ⟨r, ct, y, b, c⟩ ho

/-- A call that is told by data at its beginning and its end, whatever names there are besides. -/
def gap {A H A2 H2 : Type} (Y : Sy S) (P : Program) (G : Gl) (nt : Nat) (l : LS Y A H) (le : LS Y A2 H2) (res : List ResultVar) (Af : A × H → (A2 × H2 → Prop) → Prop) : List (U S) → Nat → T (Ct S) → Kn S → Prop := fun us nx m k =>
  cond (Nat.ble us.length nt && (Nat.ble l.nx nx && (Nat.beq le.nx l.nx && (lowL l.nx us && Tall (lowCt l.nx) (cutT l.nx m (nx - l.nx)))))) (l.get ⟨frU us 0 .e, l.nx, cutT l.nx m (nx - l.nx), []⟩ fun x => Af x fun y => forceZ (le.put y) fun z => sResL Y P G z.fr z.m res fun us => k (some (oneU us)) nx (joinT z.ks l.nx m z.m (nx - l.nx)) z.ks [0]) False
def shg {A H A2 H2 : Type} (Y : Sy S) (P : Program) (G : Gl) (nt : Nat) (l : LS Y A H) (le : LS Y A2 H2) (res : List ResultVar) (Af : A × H → (A2 × H2 → Prop) → Prop) : List (U S) → Nat → T (Ct S) → Kn S → Prop := fun us nx m k =>
  cond (Nat.ble nx l.nx) (shp Y P G nt l le res Af us nx m k) (gap Y P G nt l le res Af us nx m k)

theorem gap_ok {A H A2 H2 : Type} {f : FuncId} {fn : Func} {c : Code} {nt : Nat} {res : List ResultVar} {l : LS Y A H} {le : LS Y A2 H2} {Af : A × H → (A2 × H2 → Prop) → Prop} (hov : ∀ vs st, ov f vs st = none) (hf : P.funcs[f]? = some fn) (hb : fn.body = some c) (hnt : fn.ntmps = nt) (hres : fn.results.toList = res)
    (h : ShOK Y P G ov ro nt c l le Af) : EntOK Y P G ov ro f (gap Y P G nt l le res Af) := by
  intro o0 us nx m k hk E st vs hI hr
  unfold gap at hk
  cases hl : (Nat.ble us.length nt && (Nat.ble l.nx nx && (Nat.beq le.nx l.nx && (lowL l.nx us && Tall (lowCt l.nx) (cutT l.nx m (nx - l.nx)))))) with
  | false => rw [hl] at hk; exact hk.elim
  | true =>
    rw [hl, cond_true] at hk
    simp only [Bool.and_eq_true, Nat.ble_eq, Nat.beq_eq] at hl
    obtain ⟨l1, l2, l3, l4, l5⟩ := hl
    have hI1 := cut_inv hI l2 l5
    have own : ∀ id, ownOf (ownHi o0 l.nx E m) (E.take l.nx) (cutT l.nx m (nx - l.nx)) id → ownOf o0 E m id := fun id h => (own_cut hI.lt).1 h
    have hr1 : RelL Y (Dat Y (ownOf (ownHi o0 l.nx E m) (E.take l.nx) (cutT l.nx m (nx - l.nx))) st) (E.take l.nx) us vs :=
      RelL.mono (fun _ _ e => e) (fun c xs v hd => Dat.keep (Nat.le_refl _) (fun _ _ _ => rfl) (fun id _ ho => own id ho) hd) us vs (RelL.low us vs l4 hr)
    have hz : Zat Y G (ownHi o0 l.nx E m) ro ⟨E.take l.nx, cutT l.nx m (nx - l.nx), st⟩ (⟨frU us 0 .e, l.nx, cutT l.nx m (nx - l.nx), []⟩ : Z S) (frameOf vs 0 .e) st :=
      ⟨E.take l.nx, hI1, (Step.refl _ _ _ st).anyW, frU_rel hr1 (fun t u hu => by rw [T.get_e] at hu; cases hu)⟩
    have hB : (E.take l.nx).length ≤ l.nx := by rw [hI1.len]; exact Nat.le_refl _
    obtain ⟨x, h1, h2⟩ := l.ok (B := ⟨E.take l.nx, cutT l.nx m (nx - l.nx), st⟩) hB hk hz
    obtain ⟨e, frV', st', hev, z', hz', hfin⟩ := h (ownHi o0 l.nx E m) ⟨E.take l.nx, cutT l.nx m (nx - l.nx), st⟩ hB x _ h1 _ st h2
    have fin' : le.get z' (fun y => forceZ (le.put y) fun z => sResL Y P G z.fr z.m res fun us => k (some (oneU us)) nx (joinT z.ks l.nx m z.m (nx - l.nx)) z.ks [0]) → (e = .nrm ∨ e = .ret) → ∃ v st', (∃ M, ∀ n, M ≤ n → evF P ov ro n f vs st = some (v, st')) ∧ Done Y G o0 ro E m st k (some v) st' := by
      intro hg he
      obtain ⟨y, q1, E', hI', hS', hf'⟩ := le.ok (B := ⟨E.take l.nx, cutT l.nx m (nx - l.nx), st⟩) (Nat.le_trans hB (Nat.le_of_eq l3.symm)) hg hz'
      rw [forceZ_eq] at q1
      obtain ⟨us', ws, g1, g2, g3⟩ := sResL_ok hI' hf' q1
      have hI'' : Inv Y G (ownHi o0 l.nx E m) ro E' l.nx (le.put y).m st' := by
        have : (le.put y).nx = l.nx := l3
        rw [this] at hI'
        exact hI'
      obtain ⟨j1, j2, j3⟩ := join_inv hI l2 hI'' hS'
      refine ⟨oneOf ws, st', call_of (hov vs _) hf hb hnt hres (by rw [hr.length]; exact l1) he hev g1, some (oneU us'), nx, _, (le.put y).ks, [0], _, j1, j2, ?_, g3⟩
      exact oneU_rel (RelL.mono (fun r x h => by rw [List.getElem?_append_left (List.getElem?_eq_some_iff.1 h).1]; exact h) (fun c xs v hd => Dat.keep (Nat.le_refl _) (fun _ _ _ => rfl) (fun id _ ho => j3 id ho) hd) us' ws g2)
    cases e with
    | nrm => exact fin' hfin (.inl rfl)
    | ret => exact fin' hfin (.inr rfl)
    | exit i => exact hfin.elim
    | goto i => exact hfin.elim
theorem shg_ok {A H A2 H2 : Type} {f : FuncId} {fn : Func} {c : Code} {nt : Nat} {res : List ResultVar} {l : LS Y A H} {le : LS Y A2 H2} {Af : A × H → (A2 × H2 → Prop) → Prop} (hov : ∀ vs st, ov f vs st = none) (hf : P.funcs[f]? = some fn) (hb : fn.body = some c) (hnt : fn.ntmps = nt) (hres : fn.results.toList = res)
    (hle : l.nx ≤ le.nx) (h : ShOK Y P G ov ro nt c l le Af) : EntOK Y P G ov ro f (shg Y P G nt l le res Af) := by
  intro o0 us nx m k hk E st vs hI hr
  unfold shg at hk
  cases hc : Nat.ble nx l.nx with
  | true => rw [hc] at hk; exact shp_ok hov hf hb hnt hres hle h o0 us nx m k hk E st vs hI hr
  | false => rw [hc] at hk; exact gap_ok hov hf hb hnt hres h o0 us nx m k hk E st vs hI hr
/-- By levels: a body that calls itself. -/
theorem sh_zero {A H A2 H2 : Type} {nt : Nat} {c : Code} {l : LS Y A H} {le : LS Y A2 H2} : ShOK Y P G ov ro nt c l le (fun _ _ => False) := fun _ _ _ _ _ h => h.elim
end
end Go.Sx
namespace Go.Proofs.YtajmjilckaifoaaGreatDoor
open Go.Vm Go.Sx Go.RowKit
variable {ro : Nat}

abbrev Ya_cond_holds_1_h : Type := ((Int × (List UInt8) × Int × (List UInt8) × (List (sg.Den Cd.val)) × Bool × (List (sg.Den Cd.cnd)) × Unit) × Unit × Unit × Unit × Unit)
abbrev Yb_cond_holds_1_h : Type := ((Int × Unit) × ((List (sg.Den Cd.bl)) × Unit) × ((Unit × Unit × Unit × Unit) × Unit) × Unit)
abbrev Yc_cond_holds_1_h : Type := (Bool × Unit)
abbrev Yd_cond_holds_1_h : Type := ((Int × Unit) × ((List (sg.Den Cd.bl)) × Unit) × ((Unit × Unit × Unit × Unit) × Unit) × Unit)
def sl_cond_holds_1_h : LS sy Ya_cond_holds_1_h Yb_cond_holds_1_h := ⟨[], fCons 0 (vAgg (lCons (vInt sy .u8) (lCons (vStr sy) (lCons (vInt sy .i64) (lCons (vStr sy) (lCons (vData sy Cd.val) (lCons (vBool sy) (lCons (vData sy Cd.cnd) (lNil sy))))))))) (fCons 1 (vLit sy (.p 1 0)) (fCons 2 (vLit sy (.p 2 0)) (fCons 3 (vLit sy (.p 3 0)) (fNil sy)))), hCells 1 (lCons (vInt sy .i64) (lNil sy)) (hCells 2 (lCons (vData sy Cd.bl) (lNil sy)) (hCells 3 (lCons (vFn 77 (lCons (vLit sy (.p 1 0)) (lCons (vLit sy (.p 2 0)) (lCons (vLit sy (.p 3 0)) (lNil sy))))) (lNil sy)) (hNil sy))), 4, []⟩
def sr_cond_holds_1_h : LS sy Yc_cond_holds_1_h Yd_cond_holds_1_h := ⟨[], fCons 5 (vBool sy) (fNil sy), hCells 1 (lCons (vInt sy .i64) (lNil sy)) (hCells 2 (lCons (vData sy Cd.bl) (lNil sy)) (hCells 3 (lCons (vFn 77 (lCons (vLit sy (.p 1 0)) (lCons (vLit sy (.p 2 0)) (lCons (vLit sy (.p 3 0)) (lNil sy))))) (lNil sy)) (hNil sy))), 4, []⟩
abbrev T_cond_holds_1_h := Int → (List UInt8) → Int → (List UInt8) → (List Val) → Bool → (List Cnd) → Int → (List Bool) → (Bool → Int → List Bool → Prop) → Prop
def g_cond_holds_1_h (A : T_cond_holds_1_h) (x : Ya_cond_holds_1_h × Yb_cond_holds_1_h) (K : Yc_cond_holds_1_h × Yd_cond_holds_1_h → Prop) : Prop := A x.1.1.1 x.1.1.2.1 x.1.1.2.2.1 x.1.1.2.2.2.1 x.1.1.2.2.2.2.1 x.1.1.2.2.2.2.2.1 x.1.1.2.2.2.2.2.2.1 x.2.1.1 x.2.2.1.1 (fun y0 y1 y2 => K ((y0, ()), ((y1, ()), (y2, ()), (((), (), (), ()), ()), ())))
def F_cond_holds_1_h_l14 (A77_h : T_cond_holds_1_h) : Nat → Int → List Cnd → Int → Int → Int → List Bool → Int → List UInt8 → Int → List UInt8 → List Val → Bool → List Cnd → (Int → Int → List Bool → Int → List UInt8 → Int → List UInt8 → List Val → Bool → List Cnd → Prop) → Prop
  | 0, _, _, _, _, _, _, _, _, _, _, _, _, _, _ => False
  | n + 1, x7, x43, x44, x45, c1_0, c2_0, c4_0, c4_1, c4_2, c4_3, c4_4, c4_5, c4_6, Ke => (((decide (x45 < x44)) = true → ((0 ≤ x45 ∧ x45 < (x43.length : Int)) ∧ (A77_h ((x43.getD x45.toNat (dfltD Cd.cnd)).kind) ((x43.getD x45.toNat (dfltD Cd.cnd)).name) ((x43.getD x45.toNat (dfltD Cd.cnd)).num) ((x43.getD x45.toNat (dfltD Cd.cnd)).decl.name) ((x43.getD x45.toNat (dfltD Cd.cnd)).decl.val) ((x43.getD x45.toNat (dfltD Cd.cnd)).decl.imp) ((x43.getD x45.toNat (dfltD Cd.cnd)).list) c1_0 c2_0 (fun y1 y2 y3 => ((y1 = true → (I64 (x7 + (1 : Int)) ∧ (I64 (x45 + (1 : Int)) ∧ F_cond_holds_1_h_l14 A77_h n (x7 + (1 : Int)) x43 x44 (x45 + (1 : Int)) y2 y3 c4_0 c4_1 c4_2 c4_3 c4_4 c4_5 c4_6 Ke))) ∧ (y1 = false → (I64 (x45 + (1 : Int)) ∧ F_cond_holds_1_h_l14 A77_h n x7 x43 x44 (x45 + (1 : Int)) y2 y3 c4_0 c4_1 c4_2 c4_3 c4_4 c4_5 c4_6 Ke))))))) ∧ ((decide (x45 < x44)) = false → Ke x7 c1_0 c2_0 c4_0 c4_1 c4_2 c4_3 c4_4 c4_5 c4_6))

def C_cond_holds_1_h (A77_h : T_cond_holds_1_h) : CallT sg := tab [(77, shg sy Tryz.prog GT Tryz.f77.ntmps sl_cond_holds_1_h sr_cond_holds_1_h Tryz.f77.results.toList (g_cond_holds_1_h A77_h))]
theorem Cok_cond_holds_1_h (A77_h : T_cond_holds_1_h) (h77_h : ShOK sy Tryz.prog GT (ovD ro) ro Tryz.f77.ntmps (bodyOf Tryz.f77) sl_cond_holds_1_h sr_cond_holds_1_h (g_cond_holds_1_h A77_h)) (o0 : Nat → Prop) : CalOK sy Tryz.prog GT (ovD ro) o0 ro (C_cond_holds_1_h A77_h) := (tab_cons (shg_ok (f := 77) (fn := Tryz.f77) (c := bodyOf Tryz.f77) (fun _ _ => rfl) Tryz.func77 (by kernel_rfl) rfl rfl (by decide) h77_h) tab_nil) o0

abbrev Ya_cond_holds_1_h_14 : Type := (Unit × Unit × Int × (List (sg.Den Cd.cnd)) × Int × Int × Unit)
abbrev Yb_cond_holds_1_h_14 : Type := ((Int × Unit) × ((List (sg.Den Cd.bl)) × Unit) × ((Unit × Unit × Unit × Unit) × Unit) × (Int × (List UInt8) × Int × (List UInt8) × (List (sg.Den Cd.val)) × Bool × (List (sg.Den Cd.cnd)) × Unit) × Unit)
def ls_cond_holds_1_h_14 : LS sy Ya_cond_holds_1_h_14 Yb_cond_holds_1_h_14 := ⟨[], fCons 3 (vLit sy (.p 3 0)) (fCons 4 (vLit sy (.p 4 0)) (fCons 7 (vInt sy .i64) (fCons 43 (vData sy Cd.cnd) (fCons 44 (vInt sy .i64) (fCons 45 (vInt sy .i64) (fNil sy)))))), hCells 1 (lCons (vInt sy .i64) (lNil sy)) (hCells 2 (lCons (vData sy Cd.bl) (lNil sy)) (hCells 3 (lCons (vFn 77 (lCons (vLit sy (.p 1 0)) (lCons (vLit sy (.p 2 0)) (lCons (vLit sy (.p 3 0)) (lNil sy))))) (lNil sy)) (hCells 4 (lCons (vInt sy .u8) (lCons (vStr sy) (lCons (vInt sy .i64) (lCons (vStr sy) (lCons (vData sy Cd.val) (lCons (vBool sy) (lCons (vData sy Cd.cnd) (lNil sy)))))))) (hNil sy)))), 5, []⟩
def le_cond_holds_1_h_14 : LS sy (Unit × Int × Unit) ((Int × Unit) × ((List (sg.Den Cd.bl)) × Unit) × ((Unit × Unit × Unit × Unit) × Unit) × (Int × (List UInt8) × Int × (List UInt8) × (List (sg.Den Cd.val)) × Bool × (List (sg.Den Cd.cnd)) × Unit) × Unit) := ⟨[], fCons 4 (vLit sy (.p 4 0)) (fCons 7 (vInt sy .i64) (fNil sy)), hCells 1 (lCons (vInt sy .i64) (lNil sy)) (hCells 2 (lCons (vData sy Cd.bl) (lNil sy)) (hCells 3 (lCons (vFn 77 (lCons (vLit sy (.p 1 0)) (lCons (vLit sy (.p 2 0)) (lCons (vLit sy (.p 3 0)) (lNil sy))))) (lNil sy)) (hCells 4 (lCons (vInt sy .u8) (lCons (vStr sy) (lCons (vInt sy .i64) (lCons (vStr sy) (lCons (vData sy Cd.val) (lCons (vBool sy) (lCons (vData sy Cd.cnd) (lNil sy)))))))) (hNil sy)))), 5, []⟩
def lr_cond_holds_1_h_14 : LS sy Unit Unit := ⟨[], fNil sy, hNil sy, 4, []⟩
def FF_cond_holds_1_h_14 (A77_h : T_cond_holds_1_h) (n : Nat) (x : Ya_cond_holds_1_h_14 × Yb_cond_holds_1_h_14) (K : Ex → Z sg → Prop) : Prop := F_cond_holds_1_h_l14 A77_h n x.1.2.2.1 x.1.2.2.2.1 x.1.2.2.2.2.1 x.1.2.2.2.2.2.1 x.2.1.1 x.2.2.1.1 x.2.2.2.2.1.1 x.2.2.2.2.1.2.1 x.2.2.2.2.1.2.2.1 x.2.2.2.2.1.2.2.2.1 x.2.2.2.2.1.2.2.2.2.1 x.2.2.2.2.1.2.2.2.2.2.1 x.2.2.2.2.1.2.2.2.2.2.2.1 (fun y0 y1 y2 y3 y4 y5 y6 y7 y8 y9 => K (.exit 1) (le_cond_holds_1_h_14.put (((), y0, ()), ((y1, ()), (y2, ()), (((), (), (), ()), ()), (y3, y4, y5, y6, y7, y8, y9, ()), ()))))
def h_cond_holds_1_h_14 (A77_h : T_cond_holds_1_h) (z : Z sg) (K : Ex → Z sg → Prop) : Prop := ls_cond_holds_1_h_14.get z (fun x => ∃ n, FF_cond_holds_1_h_14 A77_h n x K)
def L_cond_holds_1_h (A77_h : T_cond_holds_1_h) : LoopT sg := tabL [(14, h_cond_holds_1_h_14 A77_h)]
theorem hs_cond_holds_1_h_14 (A77_h : T_cond_holds_1_h) (n : Nat) (x : Ya_cond_holds_1_h_14 × Yb_cond_holds_1_h_14) (K : Ex → Z sg → Prop) : forceZ (ls_cond_holds_1_h_14.put x) (fun z => sC sy Tryz.prog GT (C_cond_holds_1_h A77_h) (L_cond_holds_1_h A77_h) Tryz.f77.ntmps (nthLoop (bodyOf Tryz.f77) 0) z (rnd ls_cond_holds_1_h_14 (czT 1 le_cond_holds_1_h_14 lr_cond_holds_1_h_14) (fun x => FF_cond_holds_1_h_14 A77_h n x K) K)) = FF_cond_holds_1_h_14 A77_h (n + 1) x K := by kernel_rfl
theorem hl_cond_holds_1_h_14 (A77_h : T_cond_holds_1_h) (z : Z sg) (K : Ex → Z sg → Prop) : (L_cond_holds_1_h A77_h) (nthLoop (bodyOf Tryz.f77) 0) z K = ls_cond_holds_1_h_14.get z (fun x => ∃ n, FF_cond_holds_1_h_14 A77_h n x K) := by kernel_rfl
theorem lo_cond_holds_1_h_14 (A77_h : T_cond_holds_1_h) (h77_h : ShOK sy Tryz.prog GT (ovD ro) ro Tryz.f77.ntmps (bodyOf Tryz.f77) sl_cond_holds_1_h sr_cond_holds_1_h (g_cond_holds_1_h A77_h)) : ∀ (o0 : Nat → Prop) (B : Bs sg), B.E.length ≤ 4 → ∀ z K, (L_cond_holds_1_h A77_h) (nthLoop (bodyOf Tryz.f77) 0) z K → Sx.Sem sy Tryz.prog GT (ovD ro) o0 ro Tryz.f77.ntmps B (.loop (nthLoop (bodyOf Tryz.f77) 0)) z K :=
  loop_ok (Cok_cond_holds_1_h A77_h h77_h) (lp_of (l := []) (by kernel_rfl) lp_nil) ls_cond_holds_1_h_14 (by decide) (czT 1 le_cond_holds_1_h_14 lr_cond_holds_1_h_14) (fun _ _ hB => czT_ok 1 le_cond_holds_1_h_14 lr_cond_holds_1_h_14 (Nat.le_trans hB (by decide)) (Nat.le_trans hB (by decide))) (fun _ _ h => h) (hs_cond_holds_1_h_14 A77_h) (hl_cond_holds_1_h_14 A77_h)
theorem Lp_cond_holds_1_h (A77_h : T_cond_holds_1_h) (h77_h : ShOK sy Tryz.prog GT (ovD ro) ro Tryz.f77.ntmps (bodyOf Tryz.f77) sl_cond_holds_1_h sr_cond_holds_1_h (g_cond_holds_1_h A77_h)) : LpOK sy Tryz.prog GT (ovD ro) ro (L_cond_holds_1_h A77_h) 4 Tryz.f77.ntmps (bodyOf Tryz.f77) := lp_of (l := [(nthLoop (bodyOf Tryz.f77) 0)]) (by kernel_rfl) (lp_cons (lo_cond_holds_1_h_14 A77_h h77_h) lp_nil)


def F_cond_holds_1_h (A77_h : T_cond_holds_1_h) (x0_0 : Int) (x0_1 : List UInt8) (x0_2 : Int) (x0_3 : List UInt8) (x0_4 : List Val) (x0_5 : Bool) (x0_6 : List Cnd) (c1_0 : Int) (c2_0 : List Bool) (K : (Bool → Int → List Bool → Prop)) : Prop :=
  (((decide (x0_0 = (4 : Int))) = true → (((x0_1 == ([97, 108, 108] : List UInt8)) = false → K (x0_1 == ([115, 99, 114, 101, 101, 110] : List UInt8)) c1_0 c2_0) ∧ ((x0_1 == ([97, 108, 108] : List UInt8)) = true → K true c1_0 c2_0))) ∧ ((decide (x0_0 = (4 : Int))) = false → (((decide (x0_0 = (5 : Int))) = true → K (decide (x0_2 ≤ c1_0)) c1_0 c2_0) ∧ ((decide (x0_0 = (5 : Int))) = false → (((decide (x0_0 = (6 : Int))) = true → K (decide (c1_0 ≤ x0_2)) c1_0 c2_0) ∧ ((decide (x0_0 = (6 : Int))) = false → (((decide (x0_0 = (7 : Int))) = true → ((0 ≤ (0 : Int) ∧ (0 : Int) < (c2_0.length : Int)) ∧ ((0 ≤ (1 : Int) ∧ (1 : Int) ≤ (c2_0.length : Int)) ∧ K (id (c2_0.getD 0 (dfltD Cd.bl)) : Bool) c1_0 (c2_0.drop 1)))) ∧ ((decide (x0_0 = (7 : Int))) = false → (∃ m, F_cond_holds_1_h_l14 A77_h m (0 : Int) x0_6 (x0_6.length : Int) (0 : Int) c1_0 c2_0 x0_0 x0_1 x0_2 x0_3 x0_4 x0_5 x0_6 (fun y1 y2 y3 y4 y5 y6 y7 y8 y9 y10 => (((decide (y4 = (1 : Int))) = true → K (decide (y1 = (y10.length : Int))) y2 y3) ∧ ((decide (y4 = (1 : Int))) = false → (((decide (y4 = (2 : Int))) = true → K (decide ((0 : Int) < y1)) y2 y3) ∧ ((decide (y4 = (2 : Int))) = false → (((decide (y4 = (3 : Int))) = true → K (decide (y1 = (0 : Int))) y2 y3) ∧ ((decide (y4 = (3 : Int))) = false → K false y2 y3))))))))))))))))

theorem tie_cond_holds_1_h (A77_h : T_cond_holds_1_h) (x : Ya_cond_holds_1_h × Yb_cond_holds_1_h) (K : Yc_cond_holds_1_h × Yd_cond_holds_1_h → Prop) : forceZ (sl_cond_holds_1_h.put x) (fun z => sC sy Tryz.prog GT (C_cond_holds_1_h A77_h) (L_cond_holds_1_h A77_h) Tryz.f77.ntmps (bodyOf Tryz.f77) z (fin2 sr_cond_holds_1_h K)) = g_cond_holds_1_h (F_cond_holds_1_h A77_h) x K := by kernel_rfl
theorem ok_cond_holds_1_h (A77_h : T_cond_holds_1_h) (h77_h : ShOK sy Tryz.prog GT (ovD ro) ro Tryz.f77.ntmps (bodyOf Tryz.f77) sl_cond_holds_1_h sr_cond_holds_1_h (g_cond_holds_1_h A77_h)) : ShOK sy Tryz.prog GT (ovD ro) ro Tryz.f77.ntmps (bodyOf Tryz.f77) sl_cond_holds_1_h sr_cond_holds_1_h (g_cond_holds_1_h (F_cond_holds_1_h A77_h)) := sh_of (Cok_cond_holds_1_h A77_h h77_h) (Lp_cond_holds_1_h A77_h h77_h) (tie_cond_holds_1_h A77_h)

abbrev T_cond_holds := Cnd → Int → List Bool → (Bool → Prop) → Prop
def q_cond_holds (A : T_cond_holds) (us : List W) (k : W → Prop) : Prop := match us with
  | [.a [.i .u8 a0_0, .s a0_1, .i .i64 a0_2, .s a0_3, .l Cd.val a0_4, .b a0_5, .l Cd.cnd a0_6], .i .i64 a1, .l Cd.bl a2] => A (Cnd.mk a0_0 a0_1 a0_2 ⟨a0_3, a0_4, a0_5⟩ a0_6) a1 a2 (fun r0 => k (.b r0))
  | _ => False
theorem q_cond_holds_weak {A A2 : T_cond_holds} (h : FnOK sy Tryz.prog GT (ovD ro) ro 40 (q_cond_holds A)) (hA : ∀ a0 a1 a2 K, A2 a0 a1 a2 K → A a0 a1 a2 K) : FnOK sy Tryz.prog GT (ovD ro) ro 40 (q_cond_holds A2) := h.weak (by
  intro us k h
  unfold q_cond_holds at h ⊢
  split at h
  · exact hA _ _ _ _ h
  · exact h.elim)

def F_cond_holds (A77_h : T_cond_holds_1_h) (a0 : Cnd) (a1 : Int) (a2 : List Bool) (K : Bool → Prop) : Prop :=
  (A77_h a0.kind a0.name a0.num a0.decl.name a0.decl.val a0.decl.imp a0.list a1 a2 (fun y1 y2 y3 => K y1))

def C_cond_holds (A77_h : T_cond_holds_1_h) : CallT sg := tab [(77, shg sy Tryz.prog GT Tryz.f77.ntmps sl_cond_holds_1_h sr_cond_holds_1_h Tryz.f77.results.toList (g_cond_holds_1_h A77_h))]
theorem Cok_cond_holds (A77_h : T_cond_holds_1_h) (h77_h : ShOK sy Tryz.prog GT (ovD ro) ro Tryz.f77.ntmps (bodyOf Tryz.f77) sl_cond_holds_1_h sr_cond_holds_1_h (g_cond_holds_1_h A77_h)) (o0 : Nat → Prop) : CalOK sy Tryz.prog GT (ovD ro) o0 ro (C_cond_holds A77_h) := (tab_cons (shg_ok (f := 77) (fn := Tryz.f77) (c := bodyOf Tryz.f77) (fun _ _ => rfl) Tryz.func77 (by kernel_rfl) rfl rfl (by decide) h77_h) tab_nil) o0

theorem raw_cond_holds (A77_h : T_cond_holds_1_h) (a0 : Cnd) (a1 : Int) (a2 : List Bool) (k : W → Prop) : fnT sy Tryz.prog GT (C_cond_holds A77_h) noL Tryz.f40.ntmps (bodyOf Tryz.f40) [none] Tryz.f40.results.toList [.a [.i .u8 a0.kind, .s a0.name, .i .i64 a0.num, .s a0.decl.name, .l Cd.val a0.decl.val, .b a0.decl.imp, .l Cd.cnd a0.list], .i .i64 a1, .l Cd.bl a2] k = F_cond_holds A77_h a0 a1 a2 (fun r0 => k (.b r0)) := by kernel_rfl

theorem ok_cond_holds (A77_h : T_cond_holds_1_h) (h77_h : ShOK sy Tryz.prog GT (ovD ro) ro Tryz.f77.ntmps (bodyOf Tryz.f77) sl_cond_holds_1_h sr_cond_holds_1_h (g_cond_holds_1_h A77_h)) : FnOK sy Tryz.prog GT (ovD ro) ro 40 (q_cond_holds (F_cond_holds A77_h)) := (fn_ok (rc := [none]) (f := 40) (fn := Tryz.f40) (c := bodyOf Tryz.f40) (nt := Tryz.f40.ntmps) (res := Tryz.f40.results.toList) (C := C_cond_holds A77_h) (L := noL) (fun _ _ => rfl) Tryz.func40 (by kernel_rfl) rfl rfl (Cok_cond_holds A77_h h77_h) (lp_of (l := []) (by kernel_rfl) lp_nil)).weak (by
  intro us k h
  unfold q_cond_holds at h
  split at h
  · skip
    rename_i a0_0 a0_1 a0_2 a0_3 a0_4 a0_5 a0_6 a1 a2
    rw [raw_cond_holds A77_h (Cnd.mk a0_0 a0_1 a0_2 ⟨a0_3, a0_4, a0_5⟩ a0_6) a1 a2 k]
    exact h
  · exact h.elim)

abbrev Ya_cond_appendDecls_d : Type := (Unit × (Int × (List UInt8) × Int × (List UInt8) × (List (sg.Den Cd.val)) × Bool × (List (sg.Den Cd.cnd)) × Unit) × Unit)
abbrev Yb_cond_appendDecls_d : Type := ((Int × (List UInt8) × Int × (List UInt8) × (List (sg.Den Cd.val)) × Bool × (List (sg.Den Cd.cnd)) × Unit) × (Int × Unit) × List (sg.Den Cd.dcl) × Unit)
abbrev Yc_cond_appendDecls_d : Type := (Unit × Unit)
abbrev Yd_cond_appendDecls_d : Type := ((Int × (List UInt8) × Int × (List UInt8) × (List (sg.Den Cd.val)) × Bool × (List (sg.Den Cd.cnd)) × Unit) × (Int × Unit) × List (sg.Den Cd.dcl) × Unit)
def sl_cond_appendDecls_d : LS sy Ya_cond_appendDecls_d Yb_cond_appendDecls_d := ⟨[.slot 0 2 Cd.dcl], fCons 0 (vLit sy (.o 2)) (fCons 1 (vAgg (lCons (vInt sy .u8) (lCons (vStr sy) (lCons (vInt sy .i64) (lCons (vStr sy) (lCons (vData sy Cd.val) (lCons (vBool sy) (lCons (vData sy Cd.cnd) (lNil sy))))))))) (fNil sy)), hCells 0 (lCons (vInt sy .u8) (lCons (vStr sy) (lCons (vInt sy .i64) (lCons (vStr sy) (lCons (vData sy Cd.val) (lCons (vBool sy) (lCons (vData sy Cd.cnd) (lNil sy)))))))) (hCells 1 (lCons (vInt sy .i64) (lNil sy)) (hBuf 2 Cd.dcl (hNil sy))), 3, []⟩
def sr_cond_appendDecls_d : LS sy Yc_cond_appendDecls_d Yd_cond_appendDecls_d := ⟨[], fCons 4 (vLit sy (.o 2)) (fNil sy), hCells 0 (lCons (vInt sy .u8) (lCons (vStr sy) (lCons (vInt sy .i64) (lCons (vStr sy) (lCons (vData sy Cd.val) (lCons (vBool sy) (lCons (vData sy Cd.cnd) (lNil sy)))))))) (hCells 1 (lCons (vInt sy .i64) (lNil sy)) (hBuf 2 Cd.dcl (hNil sy))), 3, [2]⟩
abbrev T_cond_appendDecls_d := Int → (List UInt8) → Int → (List UInt8) → (List Val) → Bool → (List Cnd) → Int → (List UInt8) → Int → (List UInt8) → (List Val) → Bool → (List Cnd) → Int → (List Dcl) → (Int → List UInt8 → Int → List UInt8 → List Val → Bool → List Cnd → Int → List Dcl → Prop) → Prop
def g_cond_appendDecls_d (A : T_cond_appendDecls_d) (x : Ya_cond_appendDecls_d × Yb_cond_appendDecls_d) (K : Yc_cond_appendDecls_d × Yd_cond_appendDecls_d → Prop) : Prop := A x.1.2.1.1 x.1.2.1.2.1 x.1.2.1.2.2.1 x.1.2.1.2.2.2.1 x.1.2.1.2.2.2.2.1 x.1.2.1.2.2.2.2.2.1 x.1.2.1.2.2.2.2.2.2.1 x.2.1.1 x.2.1.2.1 x.2.1.2.2.1 x.2.1.2.2.2.1 x.2.1.2.2.2.2.1 x.2.1.2.2.2.2.2.1 x.2.1.2.2.2.2.2.2.1 x.2.2.1.1 x.2.2.2.1 (fun y0 y1 y2 y3 y4 y5 y6 y7 y8 => K (((), ()), ((y0, y1, y2, y3, y4, y5, y6, ()), (y7, ()), y8, ())))
def F_cond_appendDecls_d_l4 (A39_d : T_cond_appendDecls_d) : Nat → List Cnd → Int → Int → Int → List UInt8 → Int → List UInt8 → List Val → Bool → List Cnd → Int → List Dcl → (Int → List UInt8 → Int → List UInt8 → List Val → Bool → List Cnd → Int → List Dcl → Prop) → Prop
  | 0, _, _, _, _, _, _, _, _, _, _, _, _, _ => False
  | n + 1, x16, x17, x18, c0_0, c0_1, c0_2, c0_3, c0_4, c0_5, c0_6, c1_0, b2, Ke => (((decide (x18 < x17)) = true → ((0 ≤ x18 ∧ x18 < (x16.length : Int)) ∧ (A39_d ((x16.getD x18.toNat (dfltD Cd.cnd)).kind) ((x16.getD x18.toNat (dfltD Cd.cnd)).name) ((x16.getD x18.toNat (dfltD Cd.cnd)).num) ((x16.getD x18.toNat (dfltD Cd.cnd)).decl.name) ((x16.getD x18.toNat (dfltD Cd.cnd)).decl.val) ((x16.getD x18.toNat (dfltD Cd.cnd)).decl.imp) ((x16.getD x18.toNat (dfltD Cd.cnd)).list) c0_0 c0_1 c0_2 c0_3 c0_4 c0_5 c0_6 c1_0 b2 (fun y1 y2 y3 y4 y5 y6 y7 y8 y9 => (I64 (x18 + (1 : Int)) ∧ F_cond_appendDecls_d_l4 A39_d n x16 x17 (x18 + (1 : Int)) y1 y2 y3 y4 y5 y6 y7 y8 y9 Ke))))) ∧ ((decide (x18 < x17)) = false → Ke c0_0 c0_1 c0_2 c0_3 c0_4 c0_5 c0_6 c1_0 b2))

def C_cond_appendDecls_d (A39_d : T_cond_appendDecls_d) : CallT sg := tab [(39, shg sy Tryz.prog GT Tryz.f39.ntmps sl_cond_appendDecls_d sr_cond_appendDecls_d Tryz.f39.results.toList (g_cond_appendDecls_d A39_d))]
theorem Cok_cond_appendDecls_d (A39_d : T_cond_appendDecls_d) (h39_d : ShOK sy Tryz.prog GT (ovD ro) ro Tryz.f39.ntmps (bodyOf Tryz.f39) sl_cond_appendDecls_d sr_cond_appendDecls_d (g_cond_appendDecls_d A39_d)) (o0 : Nat → Prop) : CalOK sy Tryz.prog GT (ovD ro) o0 ro (C_cond_appendDecls_d A39_d) := (tab_cons (shg_ok (f := 39) (fn := Tryz.f39) (c := bodyOf Tryz.f39) (fun _ _ => rfl) Tryz.func39 (by kernel_rfl) rfl rfl (by decide) h39_d) tab_nil) o0

abbrev Ya_cond_appendDecls_d_4 : Type := (Unit × (List (sg.Den Cd.cnd)) × Int × Int × Unit)
abbrev Yb_cond_appendDecls_d_4 : Type := ((Int × (List UInt8) × Int × (List UInt8) × (List (sg.Den Cd.val)) × Bool × (List (sg.Den Cd.cnd)) × Unit) × (Int × Unit) × List (sg.Den Cd.dcl) × Unit)
def ls_cond_appendDecls_d_4 : LS sy Ya_cond_appendDecls_d_4 Yb_cond_appendDecls_d_4 := ⟨[], fCons 0 (vLit sy (.o 2)) (fCons 16 (vData sy Cd.cnd) (fCons 17 (vInt sy .i64) (fCons 18 (vInt sy .i64) (fNil sy)))), hCells 0 (lCons (vInt sy .u8) (lCons (vStr sy) (lCons (vInt sy .i64) (lCons (vStr sy) (lCons (vData sy Cd.val) (lCons (vBool sy) (lCons (vData sy Cd.cnd) (lNil sy)))))))) (hCells 1 (lCons (vInt sy .i64) (lNil sy)) (hBuf 2 Cd.dcl (hNil sy))), 3, [2]⟩
def le_cond_appendDecls_d_4 : LS sy (Unit × Unit) ((Int × (List UInt8) × Int × (List UInt8) × (List (sg.Den Cd.val)) × Bool × (List (sg.Den Cd.cnd)) × Unit) × (Int × Unit) × List (sg.Den Cd.dcl) × Unit) := ⟨[], fCons 0 (vLit sy (.o 2)) (fNil sy), hCells 0 (lCons (vInt sy .u8) (lCons (vStr sy) (lCons (vInt sy .i64) (lCons (vStr sy) (lCons (vData sy Cd.val) (lCons (vBool sy) (lCons (vData sy Cd.cnd) (lNil sy)))))))) (hCells 1 (lCons (vInt sy .i64) (lNil sy)) (hBuf 2 Cd.dcl (hNil sy))), 3, [2]⟩
def lr_cond_appendDecls_d_4 : LS sy Unit Unit := ⟨[], fNil sy, hNil sy, 3, []⟩
def FF_cond_appendDecls_d_4 (A39_d : T_cond_appendDecls_d) (n : Nat) (x : Ya_cond_appendDecls_d_4 × Yb_cond_appendDecls_d_4) (K : Ex → Z sg → Prop) : Prop := F_cond_appendDecls_d_l4 A39_d n x.1.2.1 x.1.2.2.1 x.1.2.2.2.1 x.2.1.1 x.2.1.2.1 x.2.1.2.2.1 x.2.1.2.2.2.1 x.2.1.2.2.2.2.1 x.2.1.2.2.2.2.2.1 x.2.1.2.2.2.2.2.2.1 x.2.2.1.1 x.2.2.2.1 (fun y0 y1 y2 y3 y4 y5 y6 y7 y8 => K (.exit 0) (le_cond_appendDecls_d_4.put (((), ()), ((y0, y1, y2, y3, y4, y5, y6, ()), (y7, ()), y8, ()))))
def h_cond_appendDecls_d_4 (A39_d : T_cond_appendDecls_d) (z : Z sg) (K : Ex → Z sg → Prop) : Prop := ls_cond_appendDecls_d_4.get z (fun x => ∃ n, FF_cond_appendDecls_d_4 A39_d n x K)
def L_cond_appendDecls_d (A39_d : T_cond_appendDecls_d) : LoopT sg := tabL [(4, h_cond_appendDecls_d_4 A39_d)]
theorem hs_cond_appendDecls_d_4 (A39_d : T_cond_appendDecls_d) (n : Nat) (x : Ya_cond_appendDecls_d_4 × Yb_cond_appendDecls_d_4) (K : Ex → Z sg → Prop) : forceZ (ls_cond_appendDecls_d_4.put x) (fun z => sC sy Tryz.prog GT (C_cond_appendDecls_d A39_d) (L_cond_appendDecls_d A39_d) Tryz.f39.ntmps (nthLoop (bodyOf Tryz.f39) 0) z (rnd ls_cond_appendDecls_d_4 (czT 0 le_cond_appendDecls_d_4 lr_cond_appendDecls_d_4) (fun x => FF_cond_appendDecls_d_4 A39_d n x K) K)) = FF_cond_appendDecls_d_4 A39_d (n + 1) x K := by kernel_rfl
theorem hl_cond_appendDecls_d_4 (A39_d : T_cond_appendDecls_d) (z : Z sg) (K : Ex → Z sg → Prop) : (L_cond_appendDecls_d A39_d) (nthLoop (bodyOf Tryz.f39) 0) z K = ls_cond_appendDecls_d_4.get z (fun x => ∃ n, FF_cond_appendDecls_d_4 A39_d n x K) := by kernel_rfl
theorem lo_cond_appendDecls_d_4 (A39_d : T_cond_appendDecls_d) (h39_d : ShOK sy Tryz.prog GT (ovD ro) ro Tryz.f39.ntmps (bodyOf Tryz.f39) sl_cond_appendDecls_d sr_cond_appendDecls_d (g_cond_appendDecls_d A39_d)) : ∀ (o0 : Nat → Prop) (B : Bs sg), B.E.length ≤ 3 → ∀ z K, (L_cond_appendDecls_d A39_d) (nthLoop (bodyOf Tryz.f39) 0) z K → Sx.Sem sy Tryz.prog GT (ovD ro) o0 ro Tryz.f39.ntmps B (.loop (nthLoop (bodyOf Tryz.f39) 0)) z K :=
  loop_ok (Cok_cond_appendDecls_d A39_d h39_d) (lp_of (l := []) (by kernel_rfl) lp_nil) ls_cond_appendDecls_d_4 (by decide) (czT 0 le_cond_appendDecls_d_4 lr_cond_appendDecls_d_4) (fun _ _ hB => czT_ok 0 le_cond_appendDecls_d_4 lr_cond_appendDecls_d_4 (Nat.le_trans hB (by decide)) (Nat.le_trans hB (by decide))) (fun _ _ h => h) (hs_cond_appendDecls_d_4 A39_d) (hl_cond_appendDecls_d_4 A39_d)
theorem Lp_cond_appendDecls_d (A39_d : T_cond_appendDecls_d) (h39_d : ShOK sy Tryz.prog GT (ovD ro) ro Tryz.f39.ntmps (bodyOf Tryz.f39) sl_cond_appendDecls_d sr_cond_appendDecls_d (g_cond_appendDecls_d A39_d)) : LpOK sy Tryz.prog GT (ovD ro) ro (L_cond_appendDecls_d A39_d) 3 Tryz.f39.ntmps (bodyOf Tryz.f39) := lp_of (l := [(nthLoop (bodyOf Tryz.f39) 0)]) (by kernel_rfl) (lp_cons (lo_cond_appendDecls_d_4 A39_d h39_d) lp_nil)


def F_cond_appendDecls_d (A39_d : T_cond_appendDecls_d) (x1_0 : Int) (x1_1 : List UInt8) (x1_2 : Int) (x1_3 : List UInt8) (x1_4 : List Val) (x1_5 : Bool) (x1_6 : List Cnd) (c0_0 : Int) (c0_1 : List UInt8) (c0_2 : Int) (c0_3 : List UInt8) (c0_4 : List Val) (c0_5 : Bool) (c0_6 : List Cnd) (c1_0 : Int) (b2 : List Dcl) (K : (Int → List UInt8 → Int → List UInt8 → List Val → Bool → List Cnd → Int → List Dcl → Prop)) : Prop :=
  (((decide (x1_0 = (7 : Int))) = true → ((b2.length + [(Dcl.mk x1_3 x1_4 x1_5)].length) * 48 ≤ 1099511627776 ∧ K c0_0 c0_1 c0_2 c0_3 c0_4 c0_5 c0_6 c1_0 (b2 ++ [(Dcl.mk x1_3 x1_4 x1_5)]))) ∧ ((decide (x1_0 = (7 : Int))) = false → (∃ m, F_cond_appendDecls_d_l4 A39_d m x1_6 (x1_6.length : Int) (0 : Int) c0_0 c0_1 c0_2 c0_3 c0_4 c0_5 c0_6 c1_0 b2 (fun y1 y2 y3 y4 y5 y6 y7 y8 y9 => K y1 y2 y3 y4 y5 y6 y7 y8 y9))))

theorem tie_cond_appendDecls_d (A39_d : T_cond_appendDecls_d) (x : Ya_cond_appendDecls_d × Yb_cond_appendDecls_d) (K : Yc_cond_appendDecls_d × Yd_cond_appendDecls_d → Prop) : forceZ (sl_cond_appendDecls_d.put x) (fun z => sC sy Tryz.prog GT (C_cond_appendDecls_d A39_d) (L_cond_appendDecls_d A39_d) Tryz.f39.ntmps (bodyOf Tryz.f39) z (fin2 sr_cond_appendDecls_d K)) = g_cond_appendDecls_d (F_cond_appendDecls_d A39_d) x K := by kernel_rfl
theorem ok_cond_appendDecls_d (A39_d : T_cond_appendDecls_d) (h39_d : ShOK sy Tryz.prog GT (ovD ro) ro Tryz.f39.ntmps (bodyOf Tryz.f39) sl_cond_appendDecls_d sr_cond_appendDecls_d (g_cond_appendDecls_d A39_d)) : ShOK sy Tryz.prog GT (ovD ro) ro Tryz.f39.ntmps (bodyOf Tryz.f39) sl_cond_appendDecls_d sr_cond_appendDecls_d (g_cond_appendDecls_d (F_cond_appendDecls_d A39_d)) := sh_of (Cok_cond_appendDecls_d A39_d h39_d) (Lp_cond_appendDecls_d A39_d h39_d) (tie_cond_appendDecls_d A39_d)

abbrev T_cond_Holds := Cnd → Int → List Bool → (Bool → Int → Prop) → Prop
def q_cond_Holds (A : T_cond_Holds) (us : List W) (k : W → Prop) : Prop := match us with
  | [.a [.i .u8 a0_0, .s a0_1, .i .i64 a0_2, .s a0_3, .l Cd.val a0_4, .b a0_5, .l Cd.cnd a0_6], .a [.i .i64 a1_0], .l Cd.bl a2] => A (Cnd.mk a0_0 a0_1 a0_2 ⟨a0_3, a0_4, a0_5⟩ a0_6) a1_0 a2 (fun r0 r1 => k (.t [.b r0, .i .i64 r1]))
  | _ => False
theorem q_cond_Holds_weak {A A2 : T_cond_Holds} (h : FnOK sy Tryz.prog GT (ovD ro) ro 14 (q_cond_Holds A)) (hA : ∀ a0 a1 a2 K, A2 a0 a1 a2 K → A a0 a1 a2 K) : FnOK sy Tryz.prog GT (ovD ro) ro 14 (q_cond_Holds A2) := h.weak (by
  intro us k h
  unfold q_cond_Holds at h ⊢
  split at h
  · exact hA _ _ _ _ h
  · exact h.elim)

def F_cond_Holds (A38 : T_cond_isMedia) (A39_d : T_cond_appendDecls_d) (A40 : T_cond_holds) (a0 : Cnd) (a1 : Int) (a2 : List Bool) (K : Bool → Int → Prop) : Prop :=
  (A38 (Cnd.mk a0.kind a0.name a0.num ⟨a0.decl.name, a0.decl.val, a0.decl.imp⟩ a0.list) (fun y1 => (((!y1) = true → False) ∧ ((!y1) = false → (((decide (a1 < (0 : Int))) = false → (((decide ((1000000000 : Int) < a1)) = false → (A39_d a0.kind a0.name a0.num a0.decl.name a0.decl.val a0.decl.imp a0.list a0.kind a0.name a0.num a0.decl.name a0.decl.val a0.decl.imp a0.list a1 ([] : List Dcl) (fun y2 y3 y4 y5 y6 y7 y8 y9 y10 => (((decide ((a2.length : Int) ≠ (y10.length : Int))) = true → K false (2 : Int)) ∧ ((decide ((a2.length : Int) ≠ (y10.length : Int))) = false → (I64 (y9 * (1000 : Int)) ∧ (A40 (Cnd.mk y2 y3 y4 ⟨y5, y6, y7⟩ y8) (y9 * (1000 : Int)) a2 (fun y11 => K y11 (0 : Int))))))))) ∧ ((decide ((1000000000 : Int) < a1)) = true → K false (2 : Int)))) ∧ ((decide (a1 < (0 : Int))) = true → K false (2 : Int)))))))

def C_cond_Holds (A38 : T_cond_isMedia) (A39_d : T_cond_appendDecls_d) (A40 : T_cond_holds) : CallT sg := tab [(38, conA sy [[none, none, none, none, some Cd.val, none, some Cd.cnd]] [none] (q_cond_isMedia A38)), (33, con sy [] noT), (39, shg sy Tryz.prog GT Tryz.f39.ntmps sl_cond_appendDecls_d sr_cond_appendDecls_d Tryz.f39.results.toList (g_cond_appendDecls_d A39_d)), (40, conA sy [[none, none, none, none, some Cd.val, none, some Cd.cnd], [], []] [none, none, some Cd.bl] (q_cond_holds A40))]
theorem Cok_cond_Holds (A38 : T_cond_isMedia) (A39_d : T_cond_appendDecls_d) (A40 : T_cond_holds) (h38 : FnOK sy Tryz.prog GT (ovD ro) ro 38 (q_cond_isMedia A38)) (h39_d : ShOK sy Tryz.prog GT (ovD ro) ro Tryz.f39.ntmps (bodyOf Tryz.f39) sl_cond_appendDecls_d sr_cond_appendDecls_d (g_cond_appendDecls_d A39_d)) (h40 : FnOK sy Tryz.prog GT (ovD ro) ro 40 (q_cond_holds A40)) (o0 : Nat → Prop) : CalOK sy Tryz.prog GT (ovD ro) o0 ro (C_cond_Holds A38 A39_d A40) := (tab_cons (conA_ok h38) (tab_cons (con_ok (noT_ok 33)) (tab_cons (shg_ok (f := 39) (fn := Tryz.f39) (c := bodyOf Tryz.f39) (fun _ _ => rfl) Tryz.func39 (by kernel_rfl) rfl rfl (by decide) h39_d) (tab_cons (conA_ok h40) tab_nil)))) o0

theorem raw_cond_Holds (A38 : T_cond_isMedia) (A39_d : T_cond_appendDecls_d) (A40 : T_cond_holds) (a0 : Cnd) (a1 : Int) (a2 : List Bool) (k : W → Prop) : fnT sy Tryz.prog GT (C_cond_Holds A38 A39_d A40) noL Tryz.f14.ntmps (bodyOf Tryz.f14) [none, none] Tryz.f14.results.toList [.a [.i .u8 a0.kind, .s a0.name, .i .i64 a0.num, .s a0.decl.name, .l Cd.val a0.decl.val, .b a0.decl.imp, .l Cd.cnd a0.list], .a [.i .i64 a1], .l Cd.bl a2] k = F_cond_Holds A38 A39_d A40 a0 a1 a2 (fun r0 r1 => k (.t [.b r0, .i .i64 r1])) := by kernel_rfl

theorem ok_cond_Holds (A38 : T_cond_isMedia) (A39_d : T_cond_appendDecls_d) (A40 : T_cond_holds) (h38 : FnOK sy Tryz.prog GT (ovD ro) ro 38 (q_cond_isMedia A38)) (h39_d : ShOK sy Tryz.prog GT (ovD ro) ro Tryz.f39.ntmps (bodyOf Tryz.f39) sl_cond_appendDecls_d sr_cond_appendDecls_d (g_cond_appendDecls_d A39_d)) (h40 : FnOK sy Tryz.prog GT (ovD ro) ro 40 (q_cond_holds A40)) : FnOK sy Tryz.prog GT (ovD ro) ro 14 (q_cond_Holds (F_cond_Holds A38 A39_d A40)) := (fn_ok (rc := [none, none]) (f := 14) (fn := Tryz.f14) (c := bodyOf Tryz.f14) (nt := Tryz.f14.ntmps) (res := Tryz.f14.results.toList) (C := C_cond_Holds A38 A39_d A40) (L := noL) (fun _ _ => rfl) Tryz.func14 (by kernel_rfl) rfl rfl (Cok_cond_Holds A38 A39_d A40 h38 h39_d h40) (lp_of (l := []) (by kernel_rfl) lp_nil)).weak (by
  intro us k h
  unfold q_cond_Holds at h
  split at h
  · skip
    rename_i a0_0 a0_1 a0_2 a0_3 a0_4 a0_5 a0_6 a1_0 a2
    rw [raw_cond_Holds A38 A39_d A40 (Cnd.mk a0_0 a0_1 a0_2 ⟨a0_3, a0_4, a0_5⟩ a0_6) a1_0 a2 k]
    exact h
  · exact h.elim)

abbrev T_vitrinelaw10_alive := (Bool → Prop) → Prop
def q_vitrinelaw10_alive (A : T_vitrinelaw10_alive) (us : List W) (k : W → Prop) : Prop := match us with
  | [] => A (fun r0 => k (.b r0))
  | _ => False
theorem q_vitrinelaw10_alive_weak {A A2 : T_vitrinelaw10_alive} (h : FnOK sy Tryz.prog GT (ovD ro) ro 18 (q_vitrinelaw10_alive A)) (hA : ∀  K, A2  K → A  K) : FnOK sy Tryz.prog GT (ovD ro) ro 18 (q_vitrinelaw10_alive A2) := h.weak (by
  intro us k h
  unfold q_vitrinelaw10_alive at h ⊢
  split at h
  · exact hA _ h
  · exact h.elim)

abbrev T_vitrinelaw10_CondWide := Cnd → Int → Int → (Bool → Prop) → Prop
def q_vitrinelaw10_CondWide (A : T_vitrinelaw10_CondWide) (us : List W) (k : W → Prop) : Prop := match us with
  | [.a [.i .u8 a0_0, .s a0_1, .i .i64 a0_2, .s a0_3, .l Cd.val a0_4, .b a0_5, .l Cd.cnd a0_6], .i .i64 a1, .i .i64 a2] => A (Cnd.mk a0_0 a0_1 a0_2 ⟨a0_3, a0_4, a0_5⟩ a0_6) a1 a2 (fun r0 => k (.b r0))
  | _ => False
theorem q_vitrinelaw10_CondWide_weak {A A2 : T_vitrinelaw10_CondWide} (h : FnOK sy Tryz.prog GT (ovD ro) ro 7 (q_vitrinelaw10_CondWide A)) (hA : ∀ a0 a1 a2 K, A2 a0 a1 a2 K → A a0 a1 a2 K) : FnOK sy Tryz.prog GT (ovD ro) ro 7 (q_vitrinelaw10_CondWide A2) := h.weak (by
  intro us k h
  unfold q_vitrinelaw10_CondWide at h ⊢
  split at h
  · exact hA _ _ _ _ h
  · exact h.elim)

def F_vitrinelaw10_CondWide_l14 (A19 : T_ra_Great) (A24 : T_ra_CheckMedia) (A18 : T_vitrinelaw10_alive) (A14 : T_cond_Holds) : Nat → Int → Int → Bool → Int → Bool → Int → Bool → Int → Int → List UInt8 → Int → List UInt8 → List Val → Bool → List Cnd → (Int → Int → Bool → Int → Bool → Int → Int → List UInt8 → Int → List UInt8 → List Val → Bool → List Cnd → Prop) → (Bool → Prop) → Prop
  | 0, _, _, _, _, _, _, _, _, _, _, _, _, _, _, _, _, _ => False
  | n + 1, x1, x2, x7, x8, x9, x10, x11, x13, c0_0, c0_1, c0_2, c0_3, c0_4, c0_5, c0_6, Ke, Kr => ((0 ≤ x10 ∧ x10 < (c0_6.length : Int)) ∧ (((decide (x13 < (((c0_6.getD x10.toNat (dfltD Cd.cnd)).list).length : Int))) = true → ((0 ≤ x10 ∧ x10 < (c0_6.length : Int)) ∧ ((0 ≤ x13 ∧ x13 < (((c0_6.getD x10.toNat (dfltD Cd.cnd)).list).length : Int)) ∧ (((decide (((((c0_6.getD x10.toNat (dfltD Cd.cnd)).list).getD x13.toNat (dfltD Cd.cnd)).kind) = (4 : Int))) = true → (I64 (x13 + (1 : Int)) ∧ F_vitrinelaw10_CondWide_l14 A19 A24 A18 A14 n x1 x2 x7 x8 x9 x10 x11 (x13 + (1 : Int)) c0_0 c0_1 c0_2 c0_3 c0_4 c0_5 c0_6 Ke Kr)) ∧ ((decide (((((c0_6.getD x10.toNat (dfltD Cd.cnd)).list).getD x13.toNat (dfltD Cd.cnd)).kind) = (4 : Int))) = false → (A14 (Cnd.mk (2 : Int) ([] : List UInt8) (0 : Int) ⟨([] : List UInt8), ([] : List Val), false⟩ [(Cnd.mk (1 : Int) ([] : List UInt8) (0 : Int) ⟨([] : List UInt8), ([] : List Val), false⟩ [(Cnd.mk ((((c0_6.getD x10.toNat (dfltD Cd.cnd)).list).getD x13.toNat (dfltD Cd.cnd)).kind) ((((c0_6.getD x10.toNat (dfltD Cd.cnd)).list).getD x13.toNat (dfltD Cd.cnd)).name) ((((c0_6.getD x10.toNat (dfltD Cd.cnd)).list).getD x13.toNat (dfltD Cd.cnd)).num) ⟨(((c0_6.getD x10.toNat (dfltD Cd.cnd)).list).getD x13.toNat (dfltD Cd.cnd)).decl.name, (((c0_6.getD x10.toNat (dfltD Cd.cnd)).list).getD x13.toNat (dfltD Cd.cnd)).decl.val, (((c0_6.getD x10.toNat (dfltD Cd.cnd)).list).getD x13.toNat (dfltD Cd.cnd)).decl.imp⟩ ((((c0_6.getD x10.toNat (dfltD Cd.cnd)).list).getD x13.toNat (dfltD Cd.cnd)).list))])]) x1 ([] : List Bool) (fun y1 y2 => (A14 (Cnd.mk (2 : Int) ([] : List UInt8) (0 : Int) ⟨([] : List UInt8), ([] : List Val), false⟩ [(Cnd.mk (1 : Int) ([] : List UInt8) (0 : Int) ⟨([] : List UInt8), ([] : List Val), false⟩ [(Cnd.mk ((((c0_6.getD x10.toNat (dfltD Cd.cnd)).list).getD x13.toNat (dfltD Cd.cnd)).kind) ((((c0_6.getD x10.toNat (dfltD Cd.cnd)).list).getD x13.toNat (dfltD Cd.cnd)).name) ((((c0_6.getD x10.toNat (dfltD Cd.cnd)).list).getD x13.toNat (dfltD Cd.cnd)).num) ⟨(((c0_6.getD x10.toNat (dfltD Cd.cnd)).list).getD x13.toNat (dfltD Cd.cnd)).decl.name, (((c0_6.getD x10.toNat (dfltD Cd.cnd)).list).getD x13.toNat (dfltD Cd.cnd)).decl.val, (((c0_6.getD x10.toNat (dfltD Cd.cnd)).list).getD x13.toNat (dfltD Cd.cnd)).decl.imp⟩ ((((c0_6.getD x10.toNat (dfltD Cd.cnd)).list).getD x13.toNat (dfltD Cd.cnd)).list))])]) x2 ([] : List Bool) (fun y3 y4 => (((decide (y2 ≠ (0 : Int))) = false → (((decide (y4 ≠ (0 : Int))) = false → (((decide (((((c0_6.getD x10.toNat (dfltD Cd.cnd)).list).getD x13.toNat (dfltD Cd.cnd)).kind) = (5 : Int))) = true → ((y1 = true → (((!y3) = false → (((decide (((((c0_6.getD x10.toNat (dfltD Cd.cnd)).list).getD x13.toNat (dfltD Cd.cnd)).kind) = (6 : Int))) = true → ((y3 = true → (((!y1) = false → ((x11 = true → (((!y1) = true → Kr false) ∧ ((!y1) = false → (I64 (x13 + (1 : Int)) ∧ F_vitrinelaw10_CondWide_l14 A19 A24 A18 A14 n x1 x2 x7 x8 x9 x10 x11 (x13 + (1 : Int)) c0_0 c0_1 c0_2 c0_3 c0_4 c0_5 c0_6 Ke Kr)))) ∧ (x11 = false → (I64 (x13 + (1 : Int)) ∧ F_vitrinelaw10_CondWide_l14 A19 A24 A18 A14 n x1 x2 x7 x8 x9 x10 x11 (x13 + (1 : Int)) c0_0 c0_1 c0_2 c0_3 c0_4 c0_5 c0_6 Ke Kr)))) ∧ ((!y1) = true → Kr false))) ∧ (y3 = false → ((x11 = true → (((!y1) = true → Kr false) ∧ ((!y1) = false → (I64 (x13 + (1 : Int)) ∧ F_vitrinelaw10_CondWide_l14 A19 A24 A18 A14 n x1 x2 x7 x8 x9 x10 x11 (x13 + (1 : Int)) c0_0 c0_1 c0_2 c0_3 c0_4 c0_5 c0_6 Ke Kr)))) ∧ (x11 = false → (I64 (x13 + (1 : Int)) ∧ F_vitrinelaw10_CondWide_l14 A19 A24 A18 A14 n x1 x2 x7 x8 x9 x10 x11 (x13 + (1 : Int)) c0_0 c0_1 c0_2 c0_3 c0_4 c0_5 c0_6 Ke Kr)))))) ∧ ((decide (((((c0_6.getD x10.toNat (dfltD Cd.cnd)).list).getD x13.toNat (dfltD Cd.cnd)).kind) = (6 : Int))) = false → ((x11 = true → (((!y1) = true → Kr false) ∧ ((!y1) = false → (I64 (x13 + (1 : Int)) ∧ F_vitrinelaw10_CondWide_l14 A19 A24 A18 A14 n x1 x2 x7 x8 x9 x10 x11 (x13 + (1 : Int)) c0_0 c0_1 c0_2 c0_3 c0_4 c0_5 c0_6 Ke Kr)))) ∧ (x11 = false → (I64 (x13 + (1 : Int)) ∧ F_vitrinelaw10_CondWide_l14 A19 A24 A18 A14 n x1 x2 x7 x8 x9 x10 x11 (x13 + (1 : Int)) c0_0 c0_1 c0_2 c0_3 c0_4 c0_5 c0_6 Ke Kr)))))) ∧ ((!y3) = true → Kr false))) ∧ (y1 = false → (((decide (((((c0_6.getD x10.toNat (dfltD Cd.cnd)).list).getD x13.toNat (dfltD Cd.cnd)).kind) = (6 : Int))) = true → ((y3 = true → (((!y1) = false → ((x11 = true → (((!y1) = true → Kr false) ∧ ((!y1) = false → (I64 (x13 + (1 : Int)) ∧ F_vitrinelaw10_CondWide_l14 A19 A24 A18 A14 n x1 x2 x7 x8 x9 x10 x11 (x13 + (1 : Int)) c0_0 c0_1 c0_2 c0_3 c0_4 c0_5 c0_6 Ke Kr)))) ∧ (x11 = false → (I64 (x13 + (1 : Int)) ∧ F_vitrinelaw10_CondWide_l14 A19 A24 A18 A14 n x1 x2 x7 x8 x9 x10 x11 (x13 + (1 : Int)) c0_0 c0_1 c0_2 c0_3 c0_4 c0_5 c0_6 Ke Kr)))) ∧ ((!y1) = true → Kr false))) ∧ (y3 = false → ((x11 = true → (((!y1) = true → Kr false) ∧ ((!y1) = false → (I64 (x13 + (1 : Int)) ∧ F_vitrinelaw10_CondWide_l14 A19 A24 A18 A14 n x1 x2 x7 x8 x9 x10 x11 (x13 + (1 : Int)) c0_0 c0_1 c0_2 c0_3 c0_4 c0_5 c0_6 Ke Kr)))) ∧ (x11 = false → (I64 (x13 + (1 : Int)) ∧ F_vitrinelaw10_CondWide_l14 A19 A24 A18 A14 n x1 x2 x7 x8 x9 x10 x11 (x13 + (1 : Int)) c0_0 c0_1 c0_2 c0_3 c0_4 c0_5 c0_6 Ke Kr)))))) ∧ ((decide (((((c0_6.getD x10.toNat (dfltD Cd.cnd)).list).getD x13.toNat (dfltD Cd.cnd)).kind) = (6 : Int))) = false → ((x11 = true → (((!y1) = true → Kr false) ∧ ((!y1) = false → (I64 (x13 + (1 : Int)) ∧ F_vitrinelaw10_CondWide_l14 A19 A24 A18 A14 n x1 x2 x7 x8 x9 x10 x11 (x13 + (1 : Int)) c0_0 c0_1 c0_2 c0_3 c0_4 c0_5 c0_6 Ke Kr)))) ∧ (x11 = false → (I64 (x13 + (1 : Int)) ∧ F_vitrinelaw10_CondWide_l14 A19 A24 A18 A14 n x1 x2 x7 x8 x9 x10 x11 (x13 + (1 : Int)) c0_0 c0_1 c0_2 c0_3 c0_4 c0_5 c0_6 Ke Kr)))))))) ∧ ((decide (((((c0_6.getD x10.toNat (dfltD Cd.cnd)).list).getD x13.toNat (dfltD Cd.cnd)).kind) = (5 : Int))) = false → (((decide (((((c0_6.getD x10.toNat (dfltD Cd.cnd)).list).getD x13.toNat (dfltD Cd.cnd)).kind) = (6 : Int))) = true → ((y3 = true → (((!y1) = false → ((x11 = true → (((!y1) = true → Kr false) ∧ ((!y1) = false → (I64 (x13 + (1 : Int)) ∧ F_vitrinelaw10_CondWide_l14 A19 A24 A18 A14 n x1 x2 x7 x8 x9 x10 x11 (x13 + (1 : Int)) c0_0 c0_1 c0_2 c0_3 c0_4 c0_5 c0_6 Ke Kr)))) ∧ (x11 = false → (I64 (x13 + (1 : Int)) ∧ F_vitrinelaw10_CondWide_l14 A19 A24 A18 A14 n x1 x2 x7 x8 x9 x10 x11 (x13 + (1 : Int)) c0_0 c0_1 c0_2 c0_3 c0_4 c0_5 c0_6 Ke Kr)))) ∧ ((!y1) = true → Kr false))) ∧ (y3 = false → ((x11 = true → (((!y1) = true → Kr false) ∧ ((!y1) = false → (I64 (x13 + (1 : Int)) ∧ F_vitrinelaw10_CondWide_l14 A19 A24 A18 A14 n x1 x2 x7 x8 x9 x10 x11 (x13 + (1 : Int)) c0_0 c0_1 c0_2 c0_3 c0_4 c0_5 c0_6 Ke Kr)))) ∧ (x11 = false → (I64 (x13 + (1 : Int)) ∧ F_vitrinelaw10_CondWide_l14 A19 A24 A18 A14 n x1 x2 x7 x8 x9 x10 x11 (x13 + (1 : Int)) c0_0 c0_1 c0_2 c0_3 c0_4 c0_5 c0_6 Ke Kr)))))) ∧ ((decide (((((c0_6.getD x10.toNat (dfltD Cd.cnd)).list).getD x13.toNat (dfltD Cd.cnd)).kind) = (6 : Int))) = false → ((x11 = true → (((!y1) = true → Kr false) ∧ ((!y1) = false → (I64 (x13 + (1 : Int)) ∧ F_vitrinelaw10_CondWide_l14 A19 A24 A18 A14 n x1 x2 x7 x8 x9 x10 x11 (x13 + (1 : Int)) c0_0 c0_1 c0_2 c0_3 c0_4 c0_5 c0_6 Ke Kr)))) ∧ (x11 = false → (I64 (x13 + (1 : Int)) ∧ F_vitrinelaw10_CondWide_l14 A19 A24 A18 A14 n x1 x2 x7 x8 x9 x10 x11 (x13 + (1 : Int)) c0_0 c0_1 c0_2 c0_3 c0_4 c0_5 c0_6 Ke Kr)))))))) ∧ ((decide (y4 ≠ (0 : Int))) = true → Kr false))) ∧ ((decide (y2 ≠ (0 : Int))) = true → Kr false))))))))))) ∧ ((decide (x13 < (((c0_6.getD x10.toNat (dfltD Cd.cnd)).list).length : Int))) = false → Ke x1 x2 x7 x8 x9 x10 c0_0 c0_1 c0_2 c0_3 c0_4 c0_5 c0_6)))

def F_vitrinelaw10_CondWide_l6 (A19 : T_ra_Great) (A24 : T_ra_CheckMedia) (A18 : T_vitrinelaw10_alive) (A14 : T_cond_Holds) : Nat → Int → Int → Bool → Int → Bool → Int → Int → List UInt8 → Int → List UInt8 → List Val → Bool → List Cnd → (Bool → Int → Bool → Prop) → (Bool → Prop) → Prop
  | 0, _, _, _, _, _, _, _, _, _, _, _, _, _, _, _ => False
  | n + 1, x1, x2, x7, x8, x9, x10, c0_0, c0_1, c0_2, c0_3, c0_4, c0_5, c0_6, Ke, Kr => (((decide (x10 < (c0_6.length : Int))) = true → (I64 (x10 + (1 : Int)) ∧ ((0 ≤ x10 ∧ x10 ≤ (x10 + (1 : Int)) ∧ (x10 + (1 : Int)) ≤ (c0_6.length : Int)) ∧ (A14 (Cnd.mk (2 : Int) ([] : List UInt8) (0 : Int) ⟨([] : List UInt8), ([] : List Val), false⟩ ((c0_6.drop x10.toNat).take ((x10 + (1 : Int)).toNat - x10.toNat))) x1 ([] : List Bool) (fun y1 y2 => (((decide (y2 ≠ (0 : Int))) = true → Kr false) ∧ ((decide (y2 ≠ (0 : Int))) = false → ((x9 = false → ((0 ≤ x10 ∧ x10 < (c0_6.length : Int)) ∧ (((decide (((c0_6.getD x10.toNat (dfltD Cd.cnd)).kind) ≠ (1 : Int))) = true → (I64 (x10 + (1 : Int)) ∧ F_vitrinelaw10_CondWide_l6 A19 A24 A18 A14 n x1 x2 x7 x8 y1 (x10 + (1 : Int)) c0_0 c0_1 c0_2 c0_3 c0_4 c0_5 c0_6 Ke Kr)) ∧ ((decide (((c0_6.getD x10.toNat (dfltD Cd.cnd)).kind) ≠ (1 : Int))) = false → (∃ m, F_vitrinelaw10_CondWide_l14 A19 A24 A18 A14 m x1 x2 x7 x8 y1 x10 y1 (0 : Int) c0_0 c0_1 c0_2 c0_3 c0_4 c0_5 c0_6 (fun y3 y4 y5 y6 y7 y8 y9 y10 y11 y12 y13 y14 y15 => (I64 (y8 + (1 : Int)) ∧ F_vitrinelaw10_CondWide_l6 A19 A24 A18 A14 n y3 y4 y5 y6 y7 (y8 + (1 : Int)) y9 y10 y11 y12 y13 y14 y15 Ke Kr)) (fun y16 => Kr y16)))))) ∧ (x9 = true → ((0 ≤ x10 ∧ x10 < (c0_6.length : Int)) ∧ (((decide (((c0_6.getD x10.toNat (dfltD Cd.cnd)).kind) ≠ (1 : Int))) = true → (I64 (x10 + (1 : Int)) ∧ F_vitrinelaw10_CondWide_l6 A19 A24 A18 A14 n x1 x2 x7 x8 true (x10 + (1 : Int)) c0_0 c0_1 c0_2 c0_3 c0_4 c0_5 c0_6 Ke Kr)) ∧ ((decide (((c0_6.getD x10.toNat (dfltD Cd.cnd)).kind) ≠ (1 : Int))) = false → (∃ m, F_vitrinelaw10_CondWide_l14 A19 A24 A18 A14 m x1 x2 x7 x8 true x10 y1 (0 : Int) c0_0 c0_1 c0_2 c0_3 c0_4 c0_5 c0_6 (fun y17 y18 y19 y20 y21 y22 y23 y24 y25 y26 y27 y28 y29 => (I64 (y22 + (1 : Int)) ∧ F_vitrinelaw10_CondWide_l6 A19 A24 A18 A14 n y17 y18 y19 y20 y21 (y22 + (1 : Int)) y23 y24 y25 y26 y27 y28 y29 Ke Kr)) (fun y30 => Kr y30)))))))))))))) ∧ ((decide (x10 < (c0_6.length : Int))) = false → Ke x7 x8 x9))

def F_vitrinelaw10_CondWide (A19 : T_ra_Great) (A24 : T_ra_CheckMedia) (A18 : T_vitrinelaw10_alive) (A14 : T_cond_Holds) (a0 : Cnd) (a1 : Int) (a2 : Int) (K : Bool → Prop) : Prop :=
  (A19 (Cnd.mk a0.kind a0.name a0.num ⟨a0.decl.name, a0.decl.val, a0.decl.imp⟩ a0.list) (fun y1 => ((y1 = false → (A24 (Cnd.mk a0.kind a0.name a0.num ⟨a0.decl.name, a0.decl.val, a0.decl.imp⟩ a0.list) (fun y2 => (((decide (y2 ≠ (0 : Int))) = false → (((decide (a1 < (0 : Int))) = false → (((decide (a2 < a1)) = false → (((decide ((1000000000 : Int) < a2)) = true → (A18 (fun y3 => K y3))) ∧ ((decide ((1000000000 : Int) < a2)) = false → (A14 (Cnd.mk a0.kind a0.name a0.num ⟨a0.decl.name, a0.decl.val, a0.decl.imp⟩ a0.list) a1 ([] : List Bool) (fun y4 y5 => (∃ m, F_vitrinelaw10_CondWide_l6 A19 A24 A18 A14 m a1 a2 y4 y5 (decide (a0.kind = (1 : Int))) (0 : Int) a0.kind a0.name a0.num a0.decl.name a0.decl.val a0.decl.imp a0.list (fun y6 y7 y8 => (((decide (y7 = (0 : Int))) = true → (((y6 == y8) = true → (A18 (fun y9 => K y9))) ∧ ((y6 == y8) = false → K false))) ∧ ((decide (y7 = (0 : Int))) = false → K false))) (fun y10 => K y10))))))) ∧ ((decide (a2 < a1)) = true → (A18 (fun y11 => K y11))))) ∧ ((decide (a1 < (0 : Int))) = true → (A18 (fun y12 => K y12))))) ∧ ((decide (y2 ≠ (0 : Int))) = true → (A18 (fun y13 => K y13))))))) ∧ (y1 = true → (A18 (fun y14 => K y14))))))

def C_vitrinelaw10_CondWide (A19 : T_ra_Great) (A24 : T_ra_CheckMedia) (A18 : T_vitrinelaw10_alive) (A14 : T_cond_Holds) : CallT sg := tab [(19, conA sy [[none, none, none, none, some Cd.val, none, some Cd.cnd]] [none] (q_ra_Great A19)), (24, conA sy [[none, none, none, none, some Cd.val, none, some Cd.cnd]] [none] (q_ra_CheckMedia A24)), (18, con sy [] (q_vitrinelaw10_alive A18)), (14, conA sy [[none, none, none, none, some Cd.val, none, some Cd.cnd], [], []] [none, none, some Cd.bl] (q_cond_Holds A14))]
theorem Cok_vitrinelaw10_CondWide (A19 : T_ra_Great) (A24 : T_ra_CheckMedia) (A18 : T_vitrinelaw10_alive) (A14 : T_cond_Holds) (h19 : FnOK sy Tryz.prog GT (ovD ro) ro 19 (q_ra_Great A19)) (h24 : FnOK sy Tryz.prog GT (ovD ro) ro 24 (q_ra_CheckMedia A24)) (h18 : FnOK sy Tryz.prog GT (ovD ro) ro 18 (q_vitrinelaw10_alive A18)) (h14 : FnOK sy Tryz.prog GT (ovD ro) ro 14 (q_cond_Holds A14)) (o0 : Nat → Prop) : CalOK sy Tryz.prog GT (ovD ro) o0 ro (C_vitrinelaw10_CondWide A19 A24 A18 A14) := (tab_cons (conA_ok h19) (tab_cons (conA_ok h24) (tab_cons (con_ok h18) (tab_cons (conA_ok h14) tab_nil)))) o0

abbrev Ya_vitrinelaw10_CondWide_14 : Type := (Int × Int × Unit × Bool × Int × Bool × Int × Bool × Int × Unit)
abbrev Yb_vitrinelaw10_CondWide_14 : Type := ((Int × (List UInt8) × Int × (List UInt8) × (List (sg.Den Cd.val)) × Bool × (List (sg.Den Cd.cnd)) × Unit) × Unit)
def ls_vitrinelaw10_CondWide_14 : LS sy Ya_vitrinelaw10_CondWide_14 Yb_vitrinelaw10_CondWide_14 := ⟨[], fCons 1 (vInt sy .i64) (fCons 2 (vInt sy .i64) (fCons 3 (vLit sy (.p 0 0)) (fCons 7 (vBool sy) (fCons 8 (vInt sy .i64) (fCons 9 (vBool sy) (fCons 10 (vInt sy .i64) (fCons 11 (vBool sy) (fCons 13 (vInt sy .i64) (fNil sy))))))))), hCells 0 (lCons (vInt sy .u8) (lCons (vStr sy) (lCons (vInt sy .i64) (lCons (vStr sy) (lCons (vData sy Cd.val) (lCons (vBool sy) (lCons (vData sy Cd.cnd) (lNil sy)))))))) (hNil sy), 1, [2]⟩
def le_vitrinelaw10_CondWide_14 : LS sy (Int × Int × Unit × Bool × Int × Bool × Int × Unit) ((Int × (List UInt8) × Int × (List UInt8) × (List (sg.Den Cd.val)) × Bool × (List (sg.Den Cd.cnd)) × Unit) × Unit) := ⟨[], fCons 1 (vInt sy .i64) (fCons 2 (vInt sy .i64) (fCons 3 (vLit sy (.p 0 0)) (fCons 7 (vBool sy) (fCons 8 (vInt sy .i64) (fCons 9 (vBool sy) (fCons 10 (vInt sy .i64) (fNil sy))))))), hCells 0 (lCons (vInt sy .u8) (lCons (vStr sy) (lCons (vInt sy .i64) (lCons (vStr sy) (lCons (vData sy Cd.val) (lCons (vBool sy) (lCons (vData sy Cd.cnd) (lNil sy)))))))) (hNil sy), 1, [2]⟩
def lr_vitrinelaw10_CondWide_14 : LS sy (Bool × Unit) Unit := ⟨[], fCons 6 (vBool sy) (fNil sy), hNil sy, 0, [2]⟩
def FF_vitrinelaw10_CondWide_14 (A19 : T_ra_Great) (A24 : T_ra_CheckMedia) (A18 : T_vitrinelaw10_alive) (A14 : T_cond_Holds) (n : Nat) (x : Ya_vitrinelaw10_CondWide_14 × Yb_vitrinelaw10_CondWide_14) (K : Ex → Z sg → Prop) : Prop := F_vitrinelaw10_CondWide_l14 A19 A24 A18 A14 n x.1.1 x.1.2.1 x.1.2.2.2.1 x.1.2.2.2.2.1 x.1.2.2.2.2.2.1 x.1.2.2.2.2.2.2.1 x.1.2.2.2.2.2.2.2.1 x.1.2.2.2.2.2.2.2.2.1 x.2.1.1 x.2.1.2.1 x.2.1.2.2.1 x.2.1.2.2.2.1 x.2.1.2.2.2.2.1 x.2.1.2.2.2.2.2.1 x.2.1.2.2.2.2.2.2.1 (fun y0 y1 y2 y3 y4 y5 y6 y7 y8 y9 y10 y11 y12 => K (.exit 2) (le_vitrinelaw10_CondWide_14.put ((y0, y1, (), y2, y3, y4, y5, ()), ((y6, y7, y8, y9, y10, y11, y12, ()), ())))) (fun y0 => K .ret (lr_vitrinelaw10_CondWide_14.put ((y0, ()), ())))
def h_vitrinelaw10_CondWide_14 (A19 : T_ra_Great) (A24 : T_ra_CheckMedia) (A18 : T_vitrinelaw10_alive) (A14 : T_cond_Holds) (z : Z sg) (K : Ex → Z sg → Prop) : Prop := ls_vitrinelaw10_CondWide_14.get z (fun x => ∃ n, FF_vitrinelaw10_CondWide_14 A19 A24 A18 A14 n x K)
abbrev Ya_vitrinelaw10_CondWide_6 : Type := (Int × Int × Unit × Bool × Int × Bool × Int × Unit)
abbrev Yb_vitrinelaw10_CondWide_6 : Type := ((Int × (List UInt8) × Int × (List UInt8) × (List (sg.Den Cd.val)) × Bool × (List (sg.Den Cd.cnd)) × Unit) × Unit)
def ls_vitrinelaw10_CondWide_6 : LS sy Ya_vitrinelaw10_CondWide_6 Yb_vitrinelaw10_CondWide_6 := ⟨[], fCons 1 (vInt sy .i64) (fCons 2 (vInt sy .i64) (fCons 3 (vLit sy (.p 0 0)) (fCons 7 (vBool sy) (fCons 8 (vInt sy .i64) (fCons 9 (vBool sy) (fCons 10 (vInt sy .i64) (fNil sy))))))), hCells 0 (lCons (vInt sy .u8) (lCons (vStr sy) (lCons (vInt sy .i64) (lCons (vStr sy) (lCons (vData sy Cd.val) (lCons (vBool sy) (lCons (vData sy Cd.cnd) (lNil sy)))))))) (hNil sy), 1, [2]⟩
def le_vitrinelaw10_CondWide_6 : LS sy (Bool × Int × Bool × Unit) Unit := ⟨[], fCons 7 (vBool sy) (fCons 8 (vInt sy .i64) (fCons 9 (vBool sy) (fNil sy))), hNil sy, 0, [2]⟩
def lr_vitrinelaw10_CondWide_6 : LS sy (Bool × Unit) Unit := ⟨[], fCons 6 (vBool sy) (fNil sy), hNil sy, 0, [2]⟩
def FF_vitrinelaw10_CondWide_6 (A19 : T_ra_Great) (A24 : T_ra_CheckMedia) (A18 : T_vitrinelaw10_alive) (A14 : T_cond_Holds) (n : Nat) (x : Ya_vitrinelaw10_CondWide_6 × Yb_vitrinelaw10_CondWide_6) (K : Ex → Z sg → Prop) : Prop := F_vitrinelaw10_CondWide_l6 A19 A24 A18 A14 n x.1.1 x.1.2.1 x.1.2.2.2.1 x.1.2.2.2.2.1 x.1.2.2.2.2.2.1 x.1.2.2.2.2.2.2.1 x.2.1.1 x.2.1.2.1 x.2.1.2.2.1 x.2.1.2.2.2.1 x.2.1.2.2.2.2.1 x.2.1.2.2.2.2.2.1 x.2.1.2.2.2.2.2.2.1 (fun y0 y1 y2 => K (.exit 0) (le_vitrinelaw10_CondWide_6.put ((y0, y1, y2, ()), ()))) (fun y0 => K .ret (lr_vitrinelaw10_CondWide_6.put ((y0, ()), ())))
def h_vitrinelaw10_CondWide_6 (A19 : T_ra_Great) (A24 : T_ra_CheckMedia) (A18 : T_vitrinelaw10_alive) (A14 : T_cond_Holds) (z : Z sg) (K : Ex → Z sg → Prop) : Prop := ls_vitrinelaw10_CondWide_6.get z (fun x => ∃ n, FF_vitrinelaw10_CondWide_6 A19 A24 A18 A14 n x K)
def L_vitrinelaw10_CondWide (A19 : T_ra_Great) (A24 : T_ra_CheckMedia) (A18 : T_vitrinelaw10_alive) (A14 : T_cond_Holds) : LoopT sg := tabL [(14, h_vitrinelaw10_CondWide_14 A19 A24 A18 A14), (6, h_vitrinelaw10_CondWide_6 A19 A24 A18 A14)]
theorem hs_vitrinelaw10_CondWide_14 (A19 : T_ra_Great) (A24 : T_ra_CheckMedia) (A18 : T_vitrinelaw10_alive) (A14 : T_cond_Holds) (n : Nat) (x : Ya_vitrinelaw10_CondWide_14 × Yb_vitrinelaw10_CondWide_14) (K : Ex → Z sg → Prop) : forceZ (ls_vitrinelaw10_CondWide_14.put x) (fun z => sC sy Tryz.prog GT (C_vitrinelaw10_CondWide A19 A24 A18 A14) (L_vitrinelaw10_CondWide A19 A24 A18 A14) Tryz.f7.ntmps (nthLoop (nthLoop (bodyOf Tryz.f7) 0) 0) z (rnd ls_vitrinelaw10_CondWide_14 (czT 2 le_vitrinelaw10_CondWide_14 lr_vitrinelaw10_CondWide_14) (fun x => FF_vitrinelaw10_CondWide_14 A19 A24 A18 A14 n x K) K)) = FF_vitrinelaw10_CondWide_14 A19 A24 A18 A14 (n + 1) x K := by kernel_rfl
theorem hl_vitrinelaw10_CondWide_14 (A19 : T_ra_Great) (A24 : T_ra_CheckMedia) (A18 : T_vitrinelaw10_alive) (A14 : T_cond_Holds) (z : Z sg) (K : Ex → Z sg → Prop) : (L_vitrinelaw10_CondWide A19 A24 A18 A14) (nthLoop (nthLoop (bodyOf Tryz.f7) 0) 0) z K = ls_vitrinelaw10_CondWide_14.get z (fun x => ∃ n, FF_vitrinelaw10_CondWide_14 A19 A24 A18 A14 n x K) := by kernel_rfl
theorem lo_vitrinelaw10_CondWide_14 (A19 : T_ra_Great) (A24 : T_ra_CheckMedia) (A18 : T_vitrinelaw10_alive) (A14 : T_cond_Holds) (h19 : FnOK sy Tryz.prog GT (ovD ro) ro 19 (q_ra_Great A19)) (h24 : FnOK sy Tryz.prog GT (ovD ro) ro 24 (q_ra_CheckMedia A24)) (h18 : FnOK sy Tryz.prog GT (ovD ro) ro 18 (q_vitrinelaw10_alive A18)) (h14 : FnOK sy Tryz.prog GT (ovD ro) ro 14 (q_cond_Holds A14)) : ∀ (o0 : Nat → Prop) (B : Bs sg), B.E.length ≤ 0 → ∀ z K, (L_vitrinelaw10_CondWide A19 A24 A18 A14) (nthLoop (nthLoop (bodyOf Tryz.f7) 0) 0) z K → Sx.Sem sy Tryz.prog GT (ovD ro) o0 ro Tryz.f7.ntmps B (.loop (nthLoop (nthLoop (bodyOf Tryz.f7) 0) 0)) z K :=
  loop_ok (Cok_vitrinelaw10_CondWide A19 A24 A18 A14 h19 h24 h18 h14) (lp_of (l := []) (by kernel_rfl) lp_nil) ls_vitrinelaw10_CondWide_14 (by decide) (czT 2 le_vitrinelaw10_CondWide_14 lr_vitrinelaw10_CondWide_14) (fun _ _ hB => czT_ok 2 le_vitrinelaw10_CondWide_14 lr_vitrinelaw10_CondWide_14 (Nat.le_trans hB (by decide)) (Nat.le_trans hB (by decide))) (fun _ _ h => h) (hs_vitrinelaw10_CondWide_14 A19 A24 A18 A14) (hl_vitrinelaw10_CondWide_14 A19 A24 A18 A14)
theorem hs_vitrinelaw10_CondWide_6 (A19 : T_ra_Great) (A24 : T_ra_CheckMedia) (A18 : T_vitrinelaw10_alive) (A14 : T_cond_Holds) (n : Nat) (x : Ya_vitrinelaw10_CondWide_6 × Yb_vitrinelaw10_CondWide_6) (K : Ex → Z sg → Prop) : forceZ (ls_vitrinelaw10_CondWide_6.put x) (fun z => sC sy Tryz.prog GT (C_vitrinelaw10_CondWide A19 A24 A18 A14) (L_vitrinelaw10_CondWide A19 A24 A18 A14) Tryz.f7.ntmps (nthLoop (bodyOf Tryz.f7) 0) z (rnd ls_vitrinelaw10_CondWide_6 (czT 0 le_vitrinelaw10_CondWide_6 lr_vitrinelaw10_CondWide_6) (fun x => FF_vitrinelaw10_CondWide_6 A19 A24 A18 A14 n x K) K)) = FF_vitrinelaw10_CondWide_6 A19 A24 A18 A14 (n + 1) x K := by kernel_rfl
theorem hl_vitrinelaw10_CondWide_6 (A19 : T_ra_Great) (A24 : T_ra_CheckMedia) (A18 : T_vitrinelaw10_alive) (A14 : T_cond_Holds) (z : Z sg) (K : Ex → Z sg → Prop) : (L_vitrinelaw10_CondWide A19 A24 A18 A14) (nthLoop (bodyOf Tryz.f7) 0) z K = ls_vitrinelaw10_CondWide_6.get z (fun x => ∃ n, FF_vitrinelaw10_CondWide_6 A19 A24 A18 A14 n x K) := by kernel_rfl
theorem lo_vitrinelaw10_CondWide_6 (A19 : T_ra_Great) (A24 : T_ra_CheckMedia) (A18 : T_vitrinelaw10_alive) (A14 : T_cond_Holds) (h19 : FnOK sy Tryz.prog GT (ovD ro) ro 19 (q_ra_Great A19)) (h24 : FnOK sy Tryz.prog GT (ovD ro) ro 24 (q_ra_CheckMedia A24)) (h18 : FnOK sy Tryz.prog GT (ovD ro) ro 18 (q_vitrinelaw10_alive A18)) (h14 : FnOK sy Tryz.prog GT (ovD ro) ro 14 (q_cond_Holds A14)) : ∀ (o0 : Nat → Prop) (B : Bs sg), B.E.length ≤ 0 → ∀ z K, (L_vitrinelaw10_CondWide A19 A24 A18 A14) (nthLoop (bodyOf Tryz.f7) 0) z K → Sx.Sem sy Tryz.prog GT (ovD ro) o0 ro Tryz.f7.ntmps B (.loop (nthLoop (bodyOf Tryz.f7) 0)) z K :=
  loop_ok (Cok_vitrinelaw10_CondWide A19 A24 A18 A14 h19 h24 h18 h14) (lp_of (l := [(nthLoop (nthLoop (bodyOf Tryz.f7) 0) 0)]) (by kernel_rfl) (lp_cons (lo_vitrinelaw10_CondWide_14 A19 A24 A18 A14 h19 h24 h18 h14) lp_nil)) ls_vitrinelaw10_CondWide_6 (by decide) (czT 0 le_vitrinelaw10_CondWide_6 lr_vitrinelaw10_CondWide_6) (fun _ _ hB => czT_ok 0 le_vitrinelaw10_CondWide_6 lr_vitrinelaw10_CondWide_6 (Nat.le_trans hB (by decide)) (Nat.le_trans hB (by decide))) (fun _ _ h => h) (hs_vitrinelaw10_CondWide_6 A19 A24 A18 A14) (hl_vitrinelaw10_CondWide_6 A19 A24 A18 A14)
theorem Lp_vitrinelaw10_CondWide (A19 : T_ra_Great) (A24 : T_ra_CheckMedia) (A18 : T_vitrinelaw10_alive) (A14 : T_cond_Holds) (h19 : FnOK sy Tryz.prog GT (ovD ro) ro 19 (q_ra_Great A19)) (h24 : FnOK sy Tryz.prog GT (ovD ro) ro 24 (q_ra_CheckMedia A24)) (h18 : FnOK sy Tryz.prog GT (ovD ro) ro 18 (q_vitrinelaw10_alive A18)) (h14 : FnOK sy Tryz.prog GT (ovD ro) ro 14 (q_cond_Holds A14)) : LpOK sy Tryz.prog GT (ovD ro) ro (L_vitrinelaw10_CondWide A19 A24 A18 A14) 0 Tryz.f7.ntmps (bodyOf Tryz.f7) := lp_of (l := [(nthLoop (bodyOf Tryz.f7) 0)]) (by kernel_rfl) (lp_cons (lo_vitrinelaw10_CondWide_6 A19 A24 A18 A14 h19 h24 h18 h14) lp_nil)


theorem raw_vitrinelaw10_CondWide (A19 : T_ra_Great) (A24 : T_ra_CheckMedia) (A18 : T_vitrinelaw10_alive) (A14 : T_cond_Holds) (a0 : Cnd) (a1 : Int) (a2 : Int) (k : W → Prop) : fnT sy Tryz.prog GT (C_vitrinelaw10_CondWide A19 A24 A18 A14) (L_vitrinelaw10_CondWide A19 A24 A18 A14) Tryz.f7.ntmps (bodyOf Tryz.f7) [none] Tryz.f7.results.toList [.a [.i .u8 a0.kind, .s a0.name, .i .i64 a0.num, .s a0.decl.name, .l Cd.val a0.decl.val, .b a0.decl.imp, .l Cd.cnd a0.list], .i .i64 a1, .i .i64 a2] k = F_vitrinelaw10_CondWide A19 A24 A18 A14 a0 a1 a2 (fun r0 => k (.b r0)) := by kernel_rfl

theorem ok_vitrinelaw10_CondWide (A19 : T_ra_Great) (A24 : T_ra_CheckMedia) (A18 : T_vitrinelaw10_alive) (A14 : T_cond_Holds) (h19 : FnOK sy Tryz.prog GT (ovD ro) ro 19 (q_ra_Great A19)) (h24 : FnOK sy Tryz.prog GT (ovD ro) ro 24 (q_ra_CheckMedia A24)) (h18 : FnOK sy Tryz.prog GT (ovD ro) ro 18 (q_vitrinelaw10_alive A18)) (h14 : FnOK sy Tryz.prog GT (ovD ro) ro 14 (q_cond_Holds A14)) : FnOK sy Tryz.prog GT (ovD ro) ro 7 (q_vitrinelaw10_CondWide (F_vitrinelaw10_CondWide A19 A24 A18 A14)) := (fn_ok (rc := [none]) (f := 7) (fn := Tryz.f7) (c := bodyOf Tryz.f7) (nt := Tryz.f7.ntmps) (res := Tryz.f7.results.toList) (C := C_vitrinelaw10_CondWide A19 A24 A18 A14) (L := (L_vitrinelaw10_CondWide A19 A24 A18 A14)) (fun _ _ => rfl) Tryz.func7 (by kernel_rfl) rfl rfl (Cok_vitrinelaw10_CondWide A19 A24 A18 A14 h19 h24 h18 h14) (Lp_vitrinelaw10_CondWide A19 A24 A18 A14 h19 h24 h18 h14)).weak (by
  intro us k h
  unfold q_vitrinelaw10_CondWide at h
  split at h
  · skip
    rename_i a0_0 a0_1 a0_2 a0_3 a0_4 a0_5 a0_6 a1 a2
    rw [raw_vitrinelaw10_CondWide A19 A24 A18 A14 (Cnd.mk a0_0 a0_1 a0_2 ⟨a0_3, a0_4, a0_5⟩ a0_6) a1 a2 k]
    exact h
  · exact h.elim)

end Go.Proofs.YtajmjilckaifoaaGreatDoor
