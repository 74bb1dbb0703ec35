/-
 The law GlueBack holds at every input: it returns true, and what came in reads as it did. The listed package-level variables hold what the program's text lays; that is tied to the text by the card.
-/
import Derived.Test.YtmnegokadegioaaGreatDoorRows
import Derived.Test.YtmnegokadegioaaGreatDoorCards
import Derived.Test.YtmnegokadegioaaGreatDoorTie
import Derived.SevenTiedAt
import Derived.Lay
import Derived.Test.YtmnegokadegioaaGreatDoorAt1
import Derived.Test.YtmnegokadegioaaGreatDoorMe1
namespace Go.Proofs.YtmnegokadegioaaGreatDoor.glueBackLaw
open Go.RowKit Go.ChangeShapes Go.WideShapes Go.ChangeAt Go.Vm Go.Sx
open Go.ChangeMaps (open_string shut_string)
theorem own:ownKnob Tryz.prog.godebug=none:=by kernel_rfl
theorem kids:Kids Tryz.prog (· < Tryz.prog.types.size):=kids_rows (by kernel_rfl) (by kernel_rfl)
theorem full:∀t e,t<Tryz.prog.types.size→Tryz.prog.underlying t=some (.slice e)→0<Tryz.prog.cellsOf e:=slices_full_of _ (by kernel_rfl)
set_option maxRecDepth 100000 in
theorem contract (H:Type) (enc:TypeId×Value→H) (W:World) (base:Nat) (args:Array Value) (ds gs:List (DataW H)) (before:List MemPlace)
  (hval:∀(j:Nat) t v,Tryz.f4.params[j]?=some t→args[j]?=some v→Value.okWide Tryz.prog W .any base t v)
  (hW:DataW.Whole enc Tryz.prog Tryz.f4.params.toList Rows.glueBackSpec.vars false W args.toList ds gs before) (hZ:(DataW.weightsEach Tryz.prog (Tryz.f4.params.toList++Rows.glueBackSpec.plain.varTypes Tryz.prog) (ds++gs)).all (·≤reachBytes)=true) (hL:laidMetH Tryz.prog Rows.glueBackRow.laid W) (hB:W.ShapedOpen Tryz.prog) :
  Calls Tryz.prog 4 args W fun e W'=>∃v,e=.returned v∧Rows.glueBackSpec.post enc Tryz.prog Tryz.f4 false true false false W args v W':=by
 have hW':=hW;obtain ⟨p,q,hA0,hV,rfl,-,-⟩:=hW;have hA:DataW.TrodAll enc Tryz.prog W 0 (fun _=>true) true Tryz.f4.params.toList args.toList ds p:=hA0
 rw [Tryz.params4] at hA hval;obtain ⟨v0,r0,d0,e0,p0,q0,hargs,rfl,rfl,t0,u0⟩:=trodAll_cons hA;obtain ⟨rfl,rfl,rfl⟩:=trodAll_nil u0;obtain rfl:args = #[v0]:=by cases args;simp_all
 obtain ⟨rfl,rfl⟩:=trodVars_none hV;obtain ⟨fuel,hf⟩:=t0;obtain ⟨val,v,xs,hcs,hv,hd,hq⟩:=zgX (Y:=syo) (N:=fuel) (c:=Cd.tok) Tryz.underlying22 (by kernel_rfl) (Q:=fun y d=>(∀n∈d.weights Tryz.prog 24,n≤reachBytes)→zhs y) (fun fuel _ cs x h=>ZiA fuel cs x h) (Nat.le_succ _) hf
 rw [jht Tryz.underlying22 (hval 0 22 v0 rfl rfl)] at hcs;obtain rfl:v0=val:=(List.cons.inj hcs).1;have big:∀t∈xs,zhs t:=by
  intro y hy;obtain ⟨el,sp,e1,d,hm,hqq⟩:=hq y hy;exact hqq (Jge (j:=0) hZ rfl (by rw [←e1];rfl) Tryz.underlying22 hm)
 clear hA0;simp only [List.append_nil] at hW';refine (zgY W hL hB v0 v xs hv hd big).mono fun e W' ⟨he,hb⟩=>⟨_,he,?_⟩
 exact Zgk (tb:=4) kids full (by decide) rfl hW' rfl rfl Tryz.underlying4 hb
set_option maxRecDepth 100000 in
theorem lifted (os:Os) (started:os.Started) (H:Type) (enc:TypeId×Value→H) :
  ReturnsInHanded {} Tryz.checked os 4 .any (fun w args=>(Rows.glueBackSpec.pre enc Tryz.prog Tryz.f4 [] false w args∧laidMetH Tryz.prog Rows.glueBackRow.laid w)∧sizedMet enc Tryz.prog Tryz.f4 (OpenSpec.ofChange Rows.glueBackSpec) false w args)
   (Rows.glueBackSpec.post enc Tryz.prog Tryz.f4 false true false false):=by
 refine ZeP (C:=Tryz.checked) (X:=fun w _=>laidMetH Tryz.prog Rows.glueBackRow.laid w) (fun _ _ _ hh h=>h.of_heap hh) own started (by kernel_rfl) Tryz.func4
  (ChangeSpec.witness_shaped (enc:=enc) (C:=Tryz.checked) (os:=os) (X:=fun w _=>laidMetH Tryz.prog Rows.glueBackRow.laid w) false (World.laidAll Tryz.prog os Rows.glueBackRow.laid) #[.slice none 0 0] 8 (World.laidAll_os _ _ _) (World.shaped_of_ZipB (by kernel_rfl) (by kernel_rfl)) (by kernel_rfl) (by kernel_rfl) (by kernel_rfl)
   (by rw [MakeChecks.laidMetH_plain _ _ _ (by kernel_rfl)];exact laidMet_laidAll _ (by kernel_rfl) (by kernel_rfl))) ?_
 intro W base args ds gs before hval hW hZ hL hB;exact contract H enc W base args ds gs before hval hW hZ hL hB
theorem row_holds:Rows.glueBackRow.holds Tryz.pinned (OpenSpec.ofChange Rows.glueBackSpec):=
 OpenClaim.holds_of_wide 4 Tryz.f4 rfl rfl rfl rfl rfl rfl rfl ⟨rfl,rfl,rfl,rfl,rfl⟩ rfl rfl rfl rfl rfl (by kernel_rfl) Tryz.func4 (by kernel_rfl)
  (of_decide_eq_true (by kernel_rfl)) (by unfold Func.isWrapper;first|(rw [if_pos (by decide +kernel)];kernel_rfl)|(rw [if_neg (by decide +kernel)];exact ⟨rfl,rfl⟩))
  (fun os started H enc _=>lifted os started H enc)
theorem proved:Rows.GlueBackCardSaid:=
 Claim7.holds_tied_plain_at .later [] [.data, .data, .data, .data, .data, .pinned] true (true, "c5fdb9e70148711e1c1dfa4bfe753f87aa69520c19f6d367a41fdfb90ef67742") false row_holds (fun _ h => by cases h) (by kernel_rfl) (fun _ h => by cases h) glueBack_row_tie rfl ⟨rfl, rfl⟩ (by kernel_rfl) rfl
  (fun f fn hf hfn=>by
   obtain rfl:f=4:=Option.some.inj ((show Tryz.pinned.checked.prog.funcNamed Rows.glueBackRow.func=some 4 by kernel_rfl).symm.trans hf) |>.symm
   obtain rfl:fn=Tryz.f4:=(Option.some.inj (Tryz.func4.symm.trans hfn)).symm;exact ⟨by kernel_rfl,fun j t ht=>by
    rw [Tryz.params4] at ht;have hm:t∈([22]:List TypeId):=by simpa using Array.mem_of_getElem? ht
    have hall:(([22]:List TypeId).all fun u=>!Tryz.prog.wantsStandIn u)=true:=by kernel_rfl
    exact (show Tryz.prog.wantsStandIn t=false by simpa using List.all_eq_true.1 hall t hm)⟩)
  (by kernel_rfl)
end Go.Proofs.YtmnegokadegioaaGreatDoor.glueBackLaw
