/-
  What is known beforehand of this program: strconv.FormatInt, Mul64, a fraction's text, the examples; what the listed variables hold. Nothing is claimed here.
-/
import Derived.Test.YthjnkibldhfhmaaDoorOc
import Derived.Test.YthjnkibldhfhmaaDoorLp
import Derived.Test.YthjnkibldhfhmaaDoorAx
import Derived.Test.YthjnkibldhfhmaaDoorVg
import Derived.Test.YthjnkibldhfhmaaDoorRows
import Derived.KernelRfl
import Derived.MakeChecks
namespace Go.Proofs.YthjnkibldhfhmaaDoor
open Go.Vm Go.Vk Go.RowKit

theorem mixed : Tryd.prog.follows .mixedOrders = true := by kernel_rfl
theorem names : (Tryd.prog.funcs.toList.all fun fn => !(fn.name == "runtime.NumGoroutine")) = true := by kernel_rfl
theorem name_of (f : Nat) (fn : Func) (h : Tryd.prog.funcs[f]? = some fn) : (fn.name == "runtime.NumGoroutine") = false := by
  have := List.all_eq_true.1 names fn (Array.mem_toList_iff.2 (Array.mem_of_getElem? h))
  simpa using this

def gv3 : List V := [0,1,28,2,29,14,24,3,30,22,20,15,25,17,4,8,31,27,13,23,21,19,16,7,26,12,18,6,11,5,10,9].map fun n => .i .u8 (.ofNat n)
def gv4 : List V := [0,1,56,2,57,49,28,3,61,58,42,50,38,29,17,4,62,47,59,36,45,43,51,22,53,39,33,30,24,18,12,5,63,55,48,27,60,41,37,16,46,35,44,21,52,32,23,11,54,26,40,15,34,20,31,10,25,14,19,9,13,8,7,6].map fun n => .i .u8 (.ofNat n)
def gv2 : List V := [1,10,100,1000,10000,100000,1000000,10000000,100000000,1000000000,10000000000,100000000000,1000000000000,10000000000000,100000000000000,1000000000000000,10000000000000000,100000000000000000,1000000000000000000,10000000000000000000].map fun n => .i .u64 (.ofNat n)
def gs1 : List (Nat × List V) := [(3, gv3), (4, gv4), (2, gv2)]
theorem gon {W : World} (h : laidMetH Tryd.prog Rows.fixedNamesRow.laid W) : GOn W gs1 := by
  rw [MakeChecks.laidMetH_plain _ _ _ (by kernel_rfl)] at h
  have hr := fun n d hm => Lib.laidMet.reads (n := n) (d := d) h hm
  intro x hx
  simp only [gs1, List.mem_cons, List.not_mem_nil, or_false] at hx
  rcases hx with rfl | rfl | rfl
  · exact laid_at (hr _ _ (List.mem_cons_self ..)) 4 (t0 := 95) (by kernel_rfl) (by kernel_rfl) (by decide) (by kernel_rfl)
  · exact laid_at (hr _ _ (List.mem_cons_of_mem _ (List.mem_cons_self ..))) 4 (t0 := 96) (by kernel_rfl) (by kernel_rfl) (by decide) (by kernel_rfl)
  · exact laid_at (hr _ _ (List.mem_cons_of_mem _ (List.mem_cons_of_mem _ (List.mem_cons_self ..)))) 4 (t0 := 81) (by kernel_rfl) (by kernel_rfl) (by decide) (by kernel_rfl)

theorem ov_or0 {P : Program} {B : World} {a b : Ov0} (ha : Ov0OK P B a) (hb : Ov0OK P B b) : Ov0OK P B (fun f args => match a f args with | some r => some r | none => b f args) := by
  intro f args v h
  dsimp only at h
  cases hc : a f args with
  | some r => rw [hc] at h; exact ha f args v (hc.trans h)
  | none => rw [hc] at h; exact hb f args v h
theorem p10 {B : World} (hG : GOn B gs1) : ∃ e fz, B.heap[Tryd.lays173_ren.g 17]? = some (.cells (Lib.pow10Tab.map fun z => Value.int .u64 z).toArray e fz) := by
  obtain ⟨_, _, c, e, fz, h1, h2⟩ := hG (2, gv2) (List.mem_cons_of_mem _ (List.mem_cons_of_mem _ (List.mem_cons_self ..)))
  refine ⟨e, fz, ?_⟩
  show B.heap[2]? = _
  rw [h1]
  have : c = (Lib.pow10Tab.map fun z => Value.int .u64 z).toArray := Array.ext' (by rw [h2]; rfl)
  rw [this]
def ovM : Ov0 := fun f args => match vfmt 25 f args with | some r => some r | none => vmul 33 f args
theorem ovM_ok {B : World} (hG : GOn B gs1) : Ov0OK Tryd.prog B ovM := ov_or0 (vfmt_ok Tryd.lays173 (p10 hG)) (vmul_ok Tryd.lays264)
/-- Which slots of each function are read in another region than where they are written. -/
def maskL : List Nat := [0, 0, 0, 340282366920938463463374607474675373399, 537001971, 264179, 182687715556063220401840217882503393991876411335, 5081124891246843338323459604467, 20282409603651670423948325035975, 9277, 125117, 16785651, 541, 557511, 5, 93, 455, 115, 7, 93, 77, 77, 37, 5, 66037, 19, 268437245, 65779, 21, 2099517, 2101885, 8650941, 17188391667, 16371, 1339612589540973385843439843975626695, 275, 72075254947659775, 1065011, 37470230409059502067, 22118354012121515201326396120064183502845, 2061, 21, 13, 2923003971560093291123168138537876760321514930163, 20426010943356750102455122975, 5, 5, 275, 5, 19, 1031, 271, 5, 275, 477, 17435721971, 275, 5, 275, 5, 16661, 13, 5, 5, 2149585011, 21, 21, 8211, 66109, 4243, 262771, 19, 1037, 19, 316912838952437276284744179709, 15615293030781833389941184238615215835817264156527165427, 19, 1037, 5, 0, 19]
def live : Nat → Nat := fun f => maskL.getD f 0

def bb (n : Nat) : UInt8 := UInt8.ofNat (48 + n)
/-- A fraction's text. -/
def frV (r : Nat) : List UInt8 := cond (Nat.beq r 0) [] (cond (Nat.beq (r % 100) 0) [46, bb (r / 100)] (cond (Nat.beq (r % 10) 0) [46, bb (r / 100), bb (r / 10 % 10)] [46, bb (r / 100), bb (r / 10 % 10), bb (r % 10)]))
noncomputable def allB (n : Nat) (p : Nat → Bool) : Bool := Nat.rec (motive := fun _ => Bool) true (fun k ih => cond (p k) ih false) n
theorem allB_at {p : Nat → Bool} : ∀ {n : Nat}, allB n p = true → ∀ k, k < n → p k = true
  | n + 1, h, k, hk => by
    have h' : cond (p n) (allB n p) false = true := h
    cases hp : p n with
    | false => rw [hp] at h'; cases h'
    | true =>
      rw [hp] at h'
      rcases Nat.lt_or_ge k n with q | q
      · exact allB_at h' k q
      · have : k = n := by omega
        subst this
        exact hp
noncomputable def frC (n : Nat) : Bool := kcall Tryd.prog live (ofOv0 ovM) GL 1000 20 26 [.i .i64 (.ofNat n)] (st0 []) fun v _ => eqT v (V.str (frV n))
set_option maxRecDepth 100000000 in
theorem fr_all : allB 1000 frC = true := by kernel_rfl
theorem fr_ev {n : Nat} (h : n < 1000) : ∃ m st', evF Tryd.prog (ofOv0 ovM) GL m 26 [.i .i64 (.ofNat n)] (st0 []) = some (V.str (frV n), st') := by
  obtain ⟨v, st', ⟨m, h1⟩, h2⟩ := kcall_true 20 26 _ (st0 []) _ (allB_at fr_all n h)
  have e := eqT_true h2
  subst e
  exact ⟨m, st', h1 m (Nat.le_refl _)⟩
def ovF : Ov0 := fun f args => cond (Nat.beq f 26) (match args with
  | [.i .i64 (.ofNat n)] => cond (Nat.blt n 1000) (some (V.str (frV n))) none
  | _ => none) none
theorem ovF_ok {B : World} (hG : GOn B gs1) : Ov0OK Tryd.prog B ovF := by
  intro f args v h
  unfold ovF at h
  cases hf : Nat.beq f 26 with
  | false => rw [hf] at h; cases h
  | true =>
    rw [hf] at h
    rw [Nat.beq_eq] at hf
    subst hf
    simp only [cond_true] at h
    split at h
    · rename_i n
      cases hn : Nat.blt n 1000 with
      | false => rw [hn] at h; cases h
      | true =>
        rw [hn] at h
        obtain rfl := Option.some.inj h
        rw [Nat.blt_eq] at hn
        refine ⟨rfl, V.str_ok _ _, ⟨_, _, Tryd.func26, rfl⟩, fun J w _ hw => ?_⟩
        obtain ⟨m, st', he⟩ := fr_ev hn
        refine (answers_sound (B := B) (gs := []) (fun x hx => by cases hx) (ofOv0_ok (ovM_ok hG)) mixed name_of (by simp [V.oks, V.ok]) he w hw).mono ?_
        rintro e w' ⟨J', h1, h3⟩
        exact ⟨by rw [h1, V.str_real, V.str_real], h3⟩
    · cases h
def ov1 : Ov0 := fun f args => match ovF f args with | some r => some r | none => ovM f args
theorem ov1_ok {B : World} (hG : GOn B gs1) : Ov0OK Tryd.prog B ov1 := ov_or0 (ovF_ok hG) (ovM_ok hG)
set_option maxRecDepth 100000000 in
theorem alive1 : kAnswers Tryd.prog live (ofOv0 ov1) gs1 100000 200 18 [] = true := by kernel_rfl
def ovL : Ov0 := fun f args => cond (Nat.beq f 18) (match args with
  | [] => some (.b true)
  | _ :: _ => none) none
theorem ovL_ok {B : World} (hG : GOn B gs1) : Ov0OK Tryd.prog B ovL := by
  intro f args v h
  unfold ovL at h
  cases hf : Nat.beq f 18 with
  | false => rw [hf] at h; cases h
  | true =>
    rw [hf] at h
    rw [Nat.beq_eq] at hf
    subst hf
    cases args with
    | cons _ _ => cases h
    | nil =>
      obtain rfl := Option.some.inj h
      refine ⟨rfl, trivial, ⟨_, _, Tryd.func18, rfl⟩, fun J w _ hw => ?_⟩
      obtain ⟨m, st', he⟩ := kAnswers_true alive1
      refine (answers_sound hG (ofOv0_ok (ov1_ok hG)) mixed name_of (by simp [V.oks]) he w hw).mono ?_
      rintro e w' ⟨J', h1, h3⟩
      exact ⟨by rw [h1]; simp [V.real], h3⟩
def ov2 : Ov0 := fun f args => match ovL f args with | some r => some r | none => ov1 f args
theorem ov2_ok {B : World} (hG : GOn B gs1) : Ov0OK Tryd.prog B ov2 := ov_or0 (ovL_ok hG) (ov1_ok hG)
def ovA (_ : Nat) : Ov := ofOv0 ov2
theorem ovA_ok {ro : Nat} {B : World} (hG : GOn B gs1) : OvR Tryd.prog ro B (ovA ro) := ofOv0_ok (ov2_ok hG)
end Go.Proofs.YthjnkibldhfhmaaDoor
