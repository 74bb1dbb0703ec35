/-
 The law GlueParts holds at every input: it returns true, and what came in reads as it did. The listed package-level variables hold what the program's text lays; that is tied to the text by the card.
-/
import Derived.Test.YtplpmeednhcjkaaGreatDoorCards
import Derived.Test.YtplpmeednhcjkaaGreatDoorTie
import Derived.SevenTiedAt
import Derived.Lay
import Derived.Test.YtplpmeednhcjkaaGreatDoorMe1
namespace Go.Proofs.YtplpmeednhcjkaaGreatDoor.gluePartsLaw
open Go.RowKit Go.ChangeShapes Go.WideShapes Go.ChangeAt Go.Vm Go.Sx
open Go.ChangeMaps (open_string shut_string)
theorem own:ownKnob Tryz.prog.godebug=none:=by kernel_rfl
theorem kids:Kids Tryz.prog (· < Tryz.prog.types.size):=kids_rows (by kernel_rfl) (by kernel_rfl)
theorem full:∀t e,t<Tryz.prog.types.size->Tryz.prog.underlying t=some (.slice e)->0<Tryz.prog.cellsOf e:=slices_full_of _ (by kernel_rfl)
set_option maxRecDepth 100000 in
theorem contract (H:Type) (enc:TypeId×Value->H) (W:World) (base:Nat) (args:Array Value) (ds gs:List (DataW H)) (before:List MemPlace)
  (hval:∀(j:Nat) t v,Tryz.f3.params[j]?=some t->args[j]?=some v->Value.okWide Tryz.prog W .any base t v)
  (hW:DataW.Whole enc Tryz.prog Tryz.f3.params.toList Rows.gluePartsSpec.vars false W args.toList ds gs before) (hZ:(DataW.weightsEach Tryz.prog (Tryz.f3.params.toList++Rows.gluePartsSpec.plain.varTypes Tryz.prog) (ds++gs)).all (·<=reachBytes)=true) (hL:laidMetH Tryz.prog Rows.gluePartsRow.laid W) (hB:W.ShapedOpen Tryz.prog) :
  Calls Tryz.prog 3 args W λe W'=>∃v,e=.returned v/\Rows.gluePartsSpec.post enc Tryz.prog Tryz.f3 false true false false W args v W':=by
 have hW':=hW;obtain ⟨p,q,hA0,hV,rfl,-,-⟩:=hW;have hA:DataW.TrodAll enc Tryz.prog W 0 (λ_=>true) true Tryz.f3.params.toList args.toList ds p:=hA0
 rw [Tryz.params3] at hA hval;obtain ⟨v0,r0,d0,e0,p0,q0,hargs,rfl,rfl,t0,u0⟩:=trodAll_cons hA;obtain ⟨v1,r1,d1,e1,p1,q1,rfl,rfl,rfl,t1,u1⟩:=trodAll_cons u0;obtain ⟨rfl,rfl,rfl⟩:=trodAll_nil u1;obtain rfl:args = #[v0,v1]:=by cases args;simp_all
 obtain ⟨rfl,rfl⟩:=trodVars_none hV;obtain ⟨b,rfl,rfl,rfl,wb⟩:=open_int Tryz.underlying3 (hval 1 3 v1 rfl rfl) t1;obtain ⟨fuel,hf⟩:=t0;obtain ⟨val,v,xs,hcs,hv,hd,hq⟩:=Jhp (Y:=syo) (N:=fuel) (c:=Cd.tok) Tryz.underlying22 (by kernel_rfl) (Q:=λy d=>(∀n∈d.weights Tryz.prog 34,n<=reachBytes)->JhR y) (λfuel _ cs x h=>jja fuel cs x h) (di _) hf
 rw [JhV Tryz.underlying22 (hval 0 22 v0 rfl rfl)] at hcs;obtain rfl:v0=val:=(List.cons.inj hcs).1;have big:∀t∈xs,JhR t:=by
  intro y hy;obtain ⟨el,sp,e1,d,hm,hqq⟩:=hq y hy;exact hqq (ZgD (j:=0) hZ rfl (by rw [<-e1];rfl) Tryz.underlying22 hm)
 clear hA0;simp only [xf] at hW';refine (Zhq b W hL hB v0 v xs hv hd big).mono λe W' ⟨he,hb⟩=>⟨_,he,?_⟩
 exact zgJ (tb:=4) kids full (by decide) rfl hW' rfl rfl Tryz.underlying4 hb
set_option maxRecDepth 100000 in
theorem lifted (os:Os) (started:os.Started) (H:Type) (enc:TypeId×Value->H) :
  ReturnsInHanded {} Tryz.checked os 3 .any (λw args=>(Rows.gluePartsSpec.pre enc Tryz.prog Tryz.f3 [] false w args/\laidMetH Tryz.prog Rows.gluePartsRow.laid w)/\sizedMet enc Tryz.prog Tryz.f3 (OpenSpec.ofChange Rows.gluePartsSpec) false w args)
   (Rows.gluePartsSpec.post enc Tryz.prog Tryz.f3 false true false false):=by
 refine Je6 (C:=Tryz.checked) (X:=λw _=>laidMetH Tryz.prog Rows.gluePartsRow.laid w) (λ_ _ _ hh h=>h.of_heap hh) own started (by kernel_rfl) Tryz.func3
  (ChangeSpec.witness_shaped (enc:=enc) (C:=Tryz.checked) (os:=os) (X:=λw _=>laidMetH Tryz.prog Rows.gluePartsRow.laid w) false (World.laidAll Tryz.prog os Rows.gluePartsRow.laid) #[.slice none 0 0,.int .i64 0] 8 (World.laidAll_os _ _ _) (World.shaped_of_ZipB (by kernel_rfl) (by kernel_rfl)) (by kernel_rfl) (by kernel_rfl) (by kernel_rfl)
   (by rw [MakeChecks.laidMetH_plain _ _ _ (by kernel_rfl)];exact laidMet_laidAll _ (by kernel_rfl) (by kernel_rfl))) ?_
 intro W base args ds gs before hval hW hZ hL hB;exact contract H enc W base args ds gs before hval hW hZ hL hB
theorem row_holds:Rows.gluePartsRow.holds Tryz.pinned (OpenSpec.ofChange Rows.gluePartsSpec):=
 OpenClaim.holds_of_wide 3 Tryz.f3 rfl rfl rfl rfl rfl rfl rfl ⟨rfl,rfl,rfl,rfl,rfl⟩ rfl rfl rfl rfl rfl (by kernel_rfl) Tryz.func3 (by kernel_rfl)
  (Ha (by kernel_rfl)) (by unfold Func.isWrapper;first|(rw [ya (by decide +kernel)];kernel_rfl)|(rw [ga (by decide +kernel)];exact ⟨rfl,rfl⟩))
  (λos started H enc _=>lifted os started H enc)
theorem proved:Rows.GluePartsCardSaid:=
 Claim7.holds_tied_plain_at .later [] [.data, .data, .data, .data, .data, .pinned] true (true, "1a0fb54b532c36322449c5e67726b1b0ac411c31c0796faa2b93a0171956a15d") false row_holds (λ_ h => by cases h) (by kernel_rfl) (λ_ h => by cases h) glueParts_row_tie rfl ⟨rfl, rfl⟩ (by kernel_rfl) rfl
  (λf fn hf hfn=>by
   obtain rfl:f=3:=Rd ((show Tryz.pinned.checked.prog.funcNamed Rows.gluePartsRow.func=some 3 by kernel_rfl).symm.trans hf) |>.symm
   obtain rfl:fn=Tryz.f3:=(Rd (Tryz.func3.symm.trans hfn)).symm;exact ⟨by kernel_rfl,λj t ht=>by
    rw [Tryz.params3] at ht;have hm:t∈([22,3]:List TypeId):=by simpa using Array.mem_of_getElem? ht
    have hall:(([22,3]:List TypeId).all λu=>!Tryz.prog.wantsStandIn u)=true:=by kernel_rfl
    exact (show Tryz.prog.wantsStandIn t=false by simpa using Hk.1 hall t hm)⟩)
  (by kernel_rfl)
end Go.Proofs.YtplpmeednhcjkaaGreatDoor.gluePartsLaw
