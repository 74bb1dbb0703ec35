/- Lemmas. -/
import Derived.Shelf.Strconv.AppendIntPublic10
import Derived.Shelf.Spec.TrailingZeros
import Derived.Lib.AppendZeros
import Derived.LoopN
import Derived.Test.YtplpmeednhcjkaaGreatDoorVa4
set_option linter.unusedVariables false
set_option linter.unusedSimpArgs false
namespace Go.Vm
open Go.Proofs Go.Shelf Go.RowKit Go.Sort Go.Lib
variable {P:Program} {ρ:Ren}
set_option maxHeartbeats 6400000 in
set_option maxRecDepth 100000 in
theorem jhx (L:LaysM.n288 P ρ) (u:Nat) (hu:u<100) (sv v':Value) (w W3:World)
  (happ:∀ty,(Builtin.append_ #[ρ.t 37,ρ.t 9] ty #[sv,.string ⟨(Lib.decDigits u).toArray⟩]).run P w=.ok v' W3) :
  Calls P (ρ.f 288) #[sv,.int .u64 u,.int .i64 10] w λe w'=>e=.returned v'/\w'=W3:=by
 have mixed:=L.mixed;have t5:=L.t5;have a5:=L.a5;have z5:=L.z5;have v5:=L.v5;have t37:=L.t37;have u37:=run_underlying L.t37;have a37:=L.a37;have z37:=L.z37;have v37:=L.v37;have t53:=L.t53;have a53:=L.a53;have z53:=L.z53;have v53:=L.v53;have t3:=L.t3;have a3:=L.a3;have z3:=L.z3;have v3:=L.v3;have t4:=L.t4;have a4:=L.a4;have z4:=L.z4;have v4:=L.v4;have t9:=L.t9;have a9:=L.a9;have z9:=L.z9;have v9:=L.v9;have t171:=L.t171;have a171:=L.a171;have z171:=L.z171;have v171:=L.v171;have t0:=L.t0;have a0:=L.a0;have z0:=L.z0;have v0:=L.v0;have t173:=L.t173;have a173:=L.a173;have z173:=L.z173;have v173:=L.v173;have e283:∀args w,(callFunc (ρ.f 283) args).run P w=.ok (.enter (ρ.f 283) args) w:=enters_of L.f283 (by kernel_rfl) rfl
 go_enter L.f288,Body.n288_ntmps ρ
 go_wp2_with (first
  | (go_at_fn (ρ.f 283);refine (Any.internal_strconv_small { L with } u hu _).mono ?_;rintro e w' ⟨rfl,rfl⟩)
  | (at_builtin;refine Lib.wpList_append_run _ rfl _ _ (ρ.t 37) (ρ.t 9) rfl _ _ rfl rfl _ _ (happ _) ?_))
 go_wp2
 go_ret
 exact ⟨rfl,rfl⟩
theorem zeD (f:Array Value->Array Value) (c:Array Value) (t:TypeId) (z:Nat×Nat):onCells f (.cells c t z)=.cells (f c) t z:=rfl
set_option maxHeartbeats 12800000 in
set_option maxRecDepth 100000 in
theorem jiQ (L:LaysM.n288 P ρ) (u:Nat) (hu:100<=u) (hu64:u<18446744073709551616) (sv:Value) (w:World) (R:Value->World->Prop)
  (htab:∀nm,P.globalNamed nm=some (ρ.g 17)->Lib.TabIs P w nm .u64 Lib.pow10Tab)
  (happ:∀(c:Array Value) (k:Nat),c.size=24->(∀(j:Nat) (b:UInt8),(Lib.decDigits u)[j]?=some b->c[j]?=some (Value.int .u8 (b.toNat:Int)))->
   ∃v' W3,R v' W3/\∀ty,(Builtin.append_ #[ρ.t 37,ρ.t 37] ty #[sv,.slice (some ⟨w.heap.size,0,none⟩) (Lib.decDigits u).length 24]).run P ((w.alloc (.cells c (ρ.t 171))).drewN k)=.ok v' W3) :
  Calls P (ρ.f 288) #[sv,.int .u64 u,.int .i64 10] w λe w'=>∃v',e=.returned v'/\R v' w':=by
 have mixed:=L.mixed;have t5:=L.t5;have a5:=L.a5;have z5:=L.z5;have v5:=L.v5;have t37:=L.t37;have u37:=run_underlying L.t37;have a37:=L.a37;have z37:=L.z37;have v37:=L.v37;have t53:=L.t53;have a53:=L.a53;have z53:=L.z53;have v53:=L.v53;have t3:=L.t3;have a3:=L.a3;have z3:=L.z3;have v3:=L.v3;have t4:=L.t4;have a4:=L.a4;have z4:=L.z4;have v4:=L.v4;have t9:=L.t9;have a9:=L.a9;have z9:=L.z9;have v9:=L.v9;have t171:=L.t171;have a171:=L.a171;have z171:=L.z171;have v171:=L.v171;have t0:=L.t0;have a0:=L.a0;have z0:=L.z0;have v0:=L.v0;have t173:=L.t173;have a173:=L.a173;have z173:=L.z173;have v173:=L.v173;have e284:∀args w,(callFunc (ρ.f 284) args).run P w=.ok (.enter (ρ.f 284) args) w:=enters_of L.f284 (by kernel_rfl) rfl
 have e285:∀args w,(callFunc (ρ.f 285) args).run P w=.ok (.enter (ρ.f 285) args) w:=enters_of L.f285 (by kernel_rfl) rfl
 have hu1:1<=u:=by omega
 have hnd20:Lib.nDigits u<=20:=by have:=Lib.numDigits_eq u hu1 hu64;split at this <;> omega
 have hal:P.arrayLen (ρ.t 171)=24:=by simp [Program.arrayLen,L.t171]
 have hsl:∀W,(Instr.sliceAt (ρ.t 171) (.pointer (some ⟨w.heap.size,0,none⟩)) none (some (.int .i64 (Lib.nDigits u:Int))) none).run P W=.ok (.slice (some ⟨w.heap.size,0,none⟩) (Lib.nDigits u) 24) W:=λW=>by
  rw [run_sliceAt_array_h W (ρ.t 171) ⟨w.heap.size,0,none⟩ (by simp [Program.arrayLen,Program.elem,L.t171]) .i64 (Lib.nDigits u:Int) (by omega) (by rw [hal];omega)]
  go_simp
 have hH0:=Lib.holds_zero0 w (ρ.t 171) (Lib.nDigits u) (by omega)
 have hfmt:=Any.internal_strconv_formatBase10 { L with } w.heap.size 0 24 u (Array.replicate (Lib.nDigits u) 0) (w.alloc (.cells Lib.zeros24 (ρ.t 171))) hH0 (by rw [Array.size_replicate];exact Lib.lt_pow_nDigits u) hu64 (by rw [Array.size_replicate];omega)
 rw [Array.size_replicate] at hfmt;have HH0:=Lib.hid hH0;have iu:(100:Int)<=(u:Int):=by omega
 clear hH0 hal
 go_enter L.f288,Body.n288_ntmps ρ
 go_wp2_with (first
  | (go_at_fn (ρ.f 284);refine (Any.internal_strconv_numDigits { L with } u hu1 hu64 _ (Lib.tabIs_alloc (htab _ L.m17) _)).mono ?_;rintro e w' ⟨rfl,rfl⟩))
 go_at_fn (ρ.f 285)
 refine hfmt.mono ?_;rintro e w' ⟨rfl,k,v',dk,rfl,hF⟩;have hcells:∀(j:Nat) (b:UInt8),(Lib.decDigits u)[j]?=some b->((putRow (λ(b:UInt8)=>Value.int .u8 (b.toNat:Int)) (w.alloc (.cells Lib.zeros24 (ρ.t 171))) w.heap.size 0 dk).drewN k).cell? ⟨w.heap.size,j,none⟩=some (Value.int .u8 (b.toNat:Int)):=by
  intro j b hj;obtain ⟨hjl,hje⟩:=List.getElem?_eq_some_iff.1 hj;rw [<-hje,Lib.row_is_numeral hF j hjl,World.cell?_drewN];have:=cell?_putRow (λ(b:UInt8)=>Value.int .u8 (b.toNat:Int)) (w.alloc (.cells Lib.zeros24 (ρ.t 171))) w.heap.size 0 _ dk HH0.out (by rw [hF.size,Array.size_replicate]) j (by rw [hF.size];rw [Lib.decDigits_length] at hjl;exact hjl)
  rw [dd] at this;exact this
 have hW:(putRow (λ(b:UInt8)=>Value.int .u8 (b.toNat:Int)) (w.alloc (.cells Lib.zeros24 (ρ.t 171))) w.heap.size 0 dk).drewN k=(w.alloc (.cells (putCells (λ(b:UInt8)=>Value.int .u8 (b.toNat:Int)) 0 dk Lib.zeros24) (ρ.t 171))).drewN k:=by
  unfold putRow mapBlock;congr 1;unfold World.alloc;congr 1;apply Array.ext_getElem?;intro i;rw [Array.getElem?_modify];by_cases hi:w.heap.size=i
  ·subst hi;simp [zeD]
  ·rw [ga hi];rw [Array.getElem?_push,Array.getElem?_push];rw [ga (λz=>hi z.symm),ga (λz=>hi z.symm)]
 rw [hW] at hcells |-;generalize hc:putCells (λ(b:UInt8)=>Value.int .u8 (b.toNat:Int)) 0 dk Lib.zeros24=c at hcells
 have hcs:c.size=24:=by rw [<-hc];unfold putCells;rw [Array.size_mapIdx];rfl
 obtain ⟨v2,W3,hR,hrun⟩:=happ c k hcs (λj b hj=>by
  have:=hcells j b hj;rw [World.cell?_drewN,World.cell?_alloc_new] at this;exact this)
 rw [Lib.decDigits_length] at hrun;generalize (w.alloc (.cells c (ρ.t 171))).drewN k=W2 at hrun;clear HH0 hfmt hcells hW
 go_wp2_with (at_builtin;refine Lib.wpList_append_run _ rfl _ _ (ρ.t 37) (ρ.t 37) rfl _ _ rfl rfl _ _ (hrun _) ?_)
 go_wp2
 go_ret
 exact ⟨v2,rfl,hR⟩
end Go.Vm
namespace Go.Vm
open Go.Proofs Go.Shelf Go.RowKit Go.Sort Go.Lib
variable {P:Program} {ρ:Ren} {w:World}
def zeros65:Array Value:=Array.replicate 65 (.int .u8 0)
theorem jgT (L:LaysM.n288 P ρ) (w:World):Calls P (ρ.f 319) #[.int .i64 16] w λe w'=>e=.returned (.bool true)/\w'=w:=by
 have mixed:=L.mixed;have t3:=L.t3;have a3:=L.a3;have z3:=L.z3;have v3:=L.v3;have t4:=L.t4;have a4:=L.a4;have z4:=L.z4;have v4:=L.v4
 go_enter L.f319,Body.n319_ntmps ρ
 go_wp2
 go_ret
 exact ⟨by first|rfl|decide,rfl⟩
theorem jii (L:LaysM.n288 P ρ) (w:World) (hc:w.cell? ⟨ρ.g 19,15,none⟩=some (.int .u8 4)):Calls P (ρ.f 338) #[.int .u64 16] w λe w'=>e=.returned (.int .i64 4)/\w'=w:=by
 have mixed:=L.mixed;have t3:=L.t3;have a3:=L.a3;have z3:=L.z3;have v3:=L.v3;have t4:=L.t4;have a4:=L.a4;have z4:=L.z4;have v4:=L.v4;have t5:=L.t5;have a5:=L.a5;have z5:=L.z5;have v5:=L.v5;have t46:=L.t46;have a46:=L.a46;have z46:=L.z46;have v46:=L.v46;have t53:=L.t53;have a53:=L.a53;have z53:=L.z53;have v53:=L.v53;have t233:=L.t233;have a233:=L.a233;have z233:=L.z233;have hk:IntKind.u64.wrap (bits BinOp.and IntKind.u64 16 (IntKind.u64.wrap (-16))*285870213051353865) / 288230376151711744=15:=by decide
 go_enter L.f338,Body.n338_ntmps ρ
 go_wp2
 go_ret
 exact ⟨rfl,rfl⟩
theorem ZiQ (L:LaysM.n288 P ρ) (w:World) (hc:w.cell? ⟨ρ.g 19,15,none⟩=some (.int .u8 4)):Calls P (ρ.f 320) #[.int .u64 16] w λe w'=>e=.returned (.int .i64 4)/\w'=w:=by
 have mixed:=L.mixed;have t3:=L.t3;have a3:=L.a3;have z3:=L.z3;have v3:=L.v3;have t4:=L.t4;have a4:=L.a4;have z4:=L.z4;have v4:=L.v4;have t46:=L.t46;have a46:=L.a46;have z46:=L.z46;have v46:=L.v46;have t53:=L.t53;have a53:=L.a53;have z53:=L.z53;have v53:=L.v53;have e338:∀args w,(callFunc (ρ.f 338) args).run P w=.ok (.enter (ρ.f 338) args) w:=enters_of L.f338 (by kernel_rfl) rfl
 go_enter L.f320,Body.n320_ntmps ρ
 go_wp2_with (go_at_fn (ρ.f 338);refine (jii L _ hc).mono ?_;rintro e w' ⟨rfl,rfl⟩)
 go_ret
 exact ⟨rfl,rfl⟩
def hexS:ByteArray:=⟨#[48,49,50,51,52,53,54,55,56,57,97,98,99,100,101,102,103,104,105,106,107,108,109,110,111,112,113,114,115,116,117,118,119,120,121,122]⟩
def JcV (n:Nat):UInt8:=if n<10 then UInt8.ofNat (48+n) else UInt8.ofNat (87+n)
theorem zfB (n:Nat) (h:n<hexS.size) (h16:n<16):hexS[n]=JcV n:=by
 revert h
 revert n
 decide
def jcH (u:Nat):List UInt8:=if u<16 then [JcV u] else [JcV (u / 16),JcV (u%16)]
theorem Zgp {u:Nat} (hu:u<256):bits .and .u64 (u:Int) 15=((u%16:Nat):Int):=by
 have:=bits_and_u64_nat u 15 (by omega) (by omega)
 rw [show ((15:Nat):Int)=15 from rfl] at this
 rw [this];have h2:=Nat.and_two_pow_sub_one_eq_mod u 4;rw [show 2^4-1=15 from rfl,show 2^4=16 from rfl] at h2
 rw [h2]
theorem zf7 (w:World) (o:Obj) {i:Nat} (h:i<w.heap.size):(w.alloc o).heap[i]?=w.heap[i]?:=Below.heap_alloc w o i h
set_option maxHeartbeats 6400000 in
set_option maxRecDepth 100000 in
theorem Jjf (L:LaysM.n288 P ρ) (hz:∀w,(zeroValue (ρ.t 213)).run P w=.ok (.agg zeros65) w) (u:Nat) (hu:u<16) (sv:Value) (w:World) (hc:w.cell? ⟨ρ.g 19,15,none⟩=some (.int .u8 4)) (R:Value->World->Prop)
  (happ:∀c:Array Value,c.size=65->c[64]?=some (.int .u8 ((JcV u).toNat:Int))->∃v' W3,R v' W3/\∀ty,(Builtin.append_ #[ρ.t 37,ρ.t 37] ty #[sv,.slice (some ⟨w.heap.size,64,none⟩) 1 1]).run P (w.alloc (.cells c (ρ.t 213)))=.ok v' W3) :
  Calls P (ρ.f 286) #[sv,.int .u64 u,.int .i64 16,.bool false,.bool true] w λe w'=>∃v',e=.returned (.tuple #[v',.string ⟨#[]⟩])/\R v' w':=by
 have mixed:=L.mixed;have t0:=L.t0;have a0:=L.a0;have z0:=L.z0;have v0:=L.v0;have t3:=L.t3;have a3:=L.a3;have z3:=L.z3;have v3:=L.v3;have t4:=L.t4;have a4:=L.a4;have z4:=L.z4;have v4:=L.v4;have t5:=L.t5;have a5:=L.a5;have z5:=L.z5;have v5:=L.v5;have t9:=L.t9;have a9:=L.a9;have z9:=L.z9;have v9:=L.v9;have t20:=L.t20;have a20:=L.a20;have z20:=L.z20;have v20:=L.v20;have t37:=L.t37;have a37:=L.a37;have z37:=L.z37;have v37:=L.v37;have t46:=L.t46;have a46:=L.a46;have z46:=L.z46;have v46:=L.v46;have t53:=L.t53;have a53:=L.a53;have z53:=L.z53;have v53:=L.v53;have t173:=L.t173;have a173:=L.a173;have z173:=L.z173;have v173:=L.v173;have t213:=L.t213;have a213:=L.a213;have z213:=L.z213;have e319:∀args w,(callFunc (ρ.f 319) args).run P w=.ok (.enter (ρ.f 319) args) w:=enters_of L.f319 (by kernel_rfl) rfl
 have e320:∀args w,(callFunc (ρ.f 320) args).run P w=.ok (.enter (ρ.f 320) args) w:=enters_of L.f320 (by kernel_rfl) rfl
 have hb1:¬(16<=(u:Int)):=by omega
 have hlt:u<hexS.size:=by show u<36;omega
 obtain ⟨v2,W3,hR,hrun⟩:=happ (zeros65.setIfInBounds 64 (.int .u8 ((hexS[u].toNat:Nat):Int))) (by rw [Qh];rfl) (by rw [zfB u hlt hu,Array.getElem?_setIfInBounds_self_of_lt (by decide)])
 have hcells:Value.cells (.agg zeros65)=zeros65:=rfl;have hcg:(w.alloc (.cells zeros65 (ρ.t 213))).cell? ⟨ρ.g 19,15,none⟩=some (.int .u8 4):=by
  have hlt:ρ.g 19<w.heap.size:=by
   rcases Hg (ρ.g 19) w.heap.size with q|q
   ·exact q
   ·simp [World.cell?,Array.getElem?_eq_none q] at hc
  simp only [World.cell?] at hc |-;rw [zf7 w _ hlt];exact hc
 go_enter L.f286,Body.n286_ntmps ρ
 go_wp2_with (first
  | (go_at_fn (ρ.f 319);refine (jgT L _).mono ?_;rintro e w' ⟨rfl,rfl⟩)
  | (go_at_fn (ρ.f 320);refine (ZiQ L _ hcg).mono ?_;rintro e w' ⟨rfl,rfl⟩)
  | (at_builtin;refine Lib.wpList_append_run _ rfl _ _ (ρ.t 37) (ρ.t 37) rfl _ _ rfl rfl _ _ (hrun _) ?_))
 refine wp_loop_rounds 1 ?_;rw [rounds_succ]
 go_wp2_with (at_builtin;refine Lib.wpList_append_run _ rfl _ _ (ρ.t 37) (ρ.t 37) rfl _ _ rfl rfl _ _ (hrun _) ?_)
 go_wp2
 first|go_ret|go_ret2
 exact ⟨v2,rfl,hR⟩
set_option maxHeartbeats 6400000 in
set_option maxRecDepth 100000 in
theorem zjg (L:LaysM.n288 P ρ) (hz:∀w,(zeroValue (ρ.t 213)).run P w=.ok (.agg zeros65) w) (u:Nat) (hu0:16<=u) (hu:u<256) (sv:Value) (w:World) (hc:w.cell? ⟨ρ.g 19,15,none⟩=some (.int .u8 4)) (R:Value->World->Prop)
  (happ:∀c:Array Value,c.size=65->c[63]?=some (.int .u8 ((JcV (u / 16)).toNat:Int))->c[64]?=some (.int .u8 ((JcV (u%16)).toNat:Int))->∃v' W3,R v' W3/\∀ty,(Builtin.append_ #[ρ.t 37,ρ.t 37] ty #[sv,.slice (some ⟨w.heap.size,63,none⟩) 2 2]).run P (w.alloc (.cells c (ρ.t 213)))=.ok v' W3) :
  Calls P (ρ.f 286) #[sv,.int .u64 u,.int .i64 16,.bool false,.bool true] w λe w'=>∃v',e=.returned (.tuple #[v',.string ⟨#[]⟩])/\R v' w':=by
 have mixed:=L.mixed;have t0:=L.t0;have a0:=L.a0;have z0:=L.z0;have v0:=L.v0;have t3:=L.t3;have a3:=L.a3;have z3:=L.z3;have v3:=L.v3;have t4:=L.t4;have a4:=L.a4;have z4:=L.z4;have v4:=L.v4;have t5:=L.t5;have a5:=L.a5;have z5:=L.z5;have v5:=L.v5;have t9:=L.t9;have a9:=L.a9;have z9:=L.z9;have v9:=L.v9;have t20:=L.t20;have a20:=L.a20;have z20:=L.z20;have v20:=L.v20;have t37:=L.t37;have a37:=L.a37;have z37:=L.z37;have v37:=L.v37;have t46:=L.t46;have a46:=L.a46;have z46:=L.z46;have v46:=L.v46;have t53:=L.t53;have a53:=L.a53;have z53:=L.z53;have v53:=L.v53;have t173:=L.t173;have a173:=L.a173;have z173:=L.z173;have v173:=L.v173;have t213:=L.t213;have a213:=L.a213;have z213:=L.z213;have e319:∀args w,(callFunc (ρ.f 319) args).run P w=.ok (.enter (ρ.f 319) args) w:=enters_of L.f319 (by kernel_rfl) rfl
 have e320:∀args w,(callFunc (ρ.f 320) args).run P w=.ok (.enter (ρ.f 320) args) w:=enters_of L.f320 (by kernel_rfl) rfl
 have hb1:(16:Int)<=(u:Int):=by omega
 have hb2:=Zgp hu;have hb4:¬((16:Int)<=(u:Int) / 16):=by omega
 have hb5:(0:Int)<=(u:Int) / 16:=by omega
 have hlt1:u / 16<hexS.size:=by show u / 16<36;omega
 have hlt2:u%16<hexS.size:=by show u%16<36;omega
 obtain ⟨v2,W3,hR,hrun⟩:=happ ((zeros65.setIfInBounds 64 (.int .u8 ((hexS[u%16].toNat:Nat):Int))).setIfInBounds 63 (.int .u8 ((hexS[u / 16].toNat:Nat):Int))) (by rw [Qh,Qh];rfl)
  (by rw [zfB _ hlt1 (by omega),Array.getElem?_setIfInBounds_self_of_lt (by rw [Qh];decide)]) (by rw [zfB _ hlt2 (by omega),Array.getElem?_setIfInBounds_ne (by decide),Array.getElem?_setIfInBounds_self_of_lt (by decide)])
 have hcells:Value.cells (.agg zeros65)=zeros65:=rfl;have hcg:(w.alloc (.cells zeros65 (ρ.t 213))).cell? ⟨ρ.g 19,15,none⟩=some (.int .u8 4):=by
  have hlt:ρ.g 19<w.heap.size:=by
   rcases Hg (ρ.g 19) w.heap.size with q|q
   ·exact q
   ·simp [World.cell?,Array.getElem?_eq_none q] at hc
  simp only [World.cell?] at hc |-;rw [zf7 w _ hlt];exact hc
 go_enter L.f286,Body.n286_ntmps ρ
 go_wp2_with (first
  | (go_at_fn (ρ.f 319);refine (jgT L _).mono ?_;rintro e w' ⟨rfl,rfl⟩)
  | (go_at_fn (ρ.f 320);refine (ZiQ L _ hcg).mono ?_;rintro e w' ⟨rfl,rfl⟩)
  | (at_builtin;refine Lib.wpList_append_run _ rfl _ _ (ρ.t 37) (ρ.t 37) rfl _ _ rfl rfl _ _ (hrun _) ?_))
 refine wp_loop_rounds 2 ?_;rw [rounds_succ]
 go_wp2_with (at_builtin;refine Lib.wpList_append_run _ rfl _ _ (ρ.t 37) (ρ.t 37) rfl _ _ rfl rfl _ _ (hrun _) ?_)
 rw [rounds_succ]
 go_wp2_with (at_builtin;refine Lib.wpList_append_run _ rfl _ _ (ρ.t 37) (ρ.t 37) rfl _ _ rfl rfl _ _ (hrun _) ?_)
 go_wp2
 first|go_ret|go_ret2
 exact ⟨v2,rfl,hR⟩
set_option maxHeartbeats 6400000 in
set_option maxRecDepth 100000 in
theorem JiQ (L:LaysM.n288 P ρ) (hz:∀w,(zeroValue (ρ.t 213)).run P w=.ok (.agg zeros65) w) (u:Nat) (hu:u<256) (sv:Value) (w:World) (hc:w.cell? ⟨ρ.g 19,15,none⟩=some (.int .u8 4)) (R:Value->World->Prop)
  (happ:∀c:Array Value,c.size=65->(∀(j:Nat) (b:UInt8),(jcH u)[j]?=some b->c[65-(jcH u).length+j]?=some (.int .u8 (b.toNat:Int)))->
   ∃v' W3,R v' W3/\∀ty,(Builtin.append_ #[ρ.t 37,ρ.t 37] ty #[sv,.slice (some ⟨w.heap.size,65-(jcH u).length,none⟩) (jcH u).length (jcH u).length]).run P (w.alloc (.cells c (ρ.t 213)))=.ok v' W3) :
  Calls P (ρ.f 288) #[sv,.int .u64 u,.int .i64 16] w λe w'=>∃v',e=.returned v'/\R v' w':=by
 have mixed:=L.mixed;have t5:=L.t5;have a5:=L.a5;have z5:=L.z5;have v5:=L.v5;have t37:=L.t37;have u37:=run_underlying L.t37;have a37:=L.a37;have z37:=L.z37;have v37:=L.v37;have t53:=L.t53;have a53:=L.a53;have z53:=L.z53;have v53:=L.v53;have t3:=L.t3;have a3:=L.a3;have z3:=L.z3;have v3:=L.v3;have t4:=L.t4;have a4:=L.a4;have z4:=L.z4;have v4:=L.v4;have t9:=L.t9;have a9:=L.a9;have z9:=L.z9;have v9:=L.v9;have t171:=L.t171;have a171:=L.a171;have z171:=L.z171;have v171:=L.v171;have t0:=L.t0;have a0:=L.a0;have z0:=L.z0;have v0:=L.v0;have t173:=L.t173;have a173:=L.a173;have z173:=L.z173;have v173:=L.v173;have e286:∀args w,(callFunc (ρ.f 286) args).run P w=.ok (.enter (ρ.f 286) args) w:=enters_of L.f286 (by kernel_rfl) rfl
 have hfb:Calls P (ρ.f 286) #[sv,.int .u64 u,.int .i64 16,.bool false,.bool true] w λe w'=>∃v',e=.returned (.tuple #[v',.string ⟨#[]⟩])/\R v' w':=by
  by_cases h:u<16
  ·have hl:jcH u=[JcV u]:=by unfold jcH;rw [ya h]
   rw [hl] at happ;exact Jjf L hz u h sv w hc R λc h1 h2=>happ c h1 λj b hj=>by
    match j,hj with
    | 0,hj=>simp only [List.getElem?_cons_zero,xa] at hj;subst hj;exact h2
  ·have hl:jcH u=[JcV (u / 16),JcV (u%16)]:=by unfold jcH;rw [ga h]
   rw [hl] at happ;exact zjg L hz u (by omega) hu sv w hc R λc h1 h2 h3=>happ c h1 λj b hj=>by
    match j,hj with
    | 0,hj=>simp only [List.getElem?_cons_zero,xa] at hj;subst hj;exact h2
    | 1,hj=>simp only [List.getElem?_cons_succ,List.getElem?_cons_zero,xa] at hj;subst hj;exact h3
 go_enter L.f288,Body.n288_ntmps ρ
 go_wp2_with (go_at_fn (ρ.f 286);refine hfb.mono ?_;rintro e w' ⟨v2,rfl,hR⟩)
 go_wp2
 first|go_ret|go_ret2
 exact ⟨v2,rfl,hR⟩
end Go.Vm
namespace Go.Vm
open Go.Proofs Go.Shelf Go.RowKit Go.Sort Go.Lib
def Jec (n b:Int):Bool:=(decide (b=10)&&(decide (0<=n)&&decide (n<9223372036854775808)))||(decide (b=16)&&(decide (0<=n)&&decide (n<256)))
def zaX (n b:Int):List UInt8:=if b=10 then Lib.decDigits n.toNat else jcH n.toNat
def jh0 (P:Program) (fid:FuncId) (t:TypeId) (ro:Nat):Ov:=λf args st=>cond (Nat.beq f fid) (match args with
 | [s,.i .i64 n,.i .i64 b]=>cond (Jec n b) (zaT P ro st t s (V.str (zaX n b))) none
 | _=>none) none
variable {P:Program} {ρ:Ren}
theorem jdL (ts:Array TypeId) (t1 t2:TypeId) (xs:Array Value):Builtin.append_ ts t1 xs=Builtin.append_ ts t2 xs:=rfl
set_option maxHeartbeats 1600000 in
theorem ziR (L:LaysM.n176 P ρ) (i:Nat) (hi:i<9223372036854775808) (b:Int) (sv:Value) (w:World) (R:Value->World->Prop)
  (h:Calls P (ρ.f 288) #[sv,.int .u64 i,.int .i64 b] w λe w'=>∃v',e=.returned v'/\R v' w') :
  Calls P (ρ.f 176) #[sv,.int .i64 i,.int .i64 b] w λe w'=>∃v',e=.returned v'/\R v' w':=by
 have mixed:=L.mixed;have t5:=L.t5;have a5:=L.a5;have z5:=L.z5;have v5:=L.v5;have t37:=L.t37;have u37:=run_underlying L.t37;have a37:=L.a37;have z37:=L.z37;have v37:=L.v37;have t2:=L.t2;have a2:=L.a2;have z2:=L.z2;have v2:=L.v2;have t3:=L.t3;have a3:=L.a3;have z3:=L.z3;have v3:=L.v3;have t53:=L.t53;have a53:=L.a53;have z53:=L.z53;have v53:=L.v53;have t4:=L.t4;have a4:=L.a4;have z4:=L.z4;have v4:=L.v4;have e249:∀args w,(callFunc (ρ.f 249) args).run P w=.ok (.enter (ρ.f 249) args) w:=enters_of L.f249 (by kernel_rfl) rfl
 have e288:∀args w,(callFunc (ρ.f 288) args).run P w=.ok (.enter (ρ.f 288) args) w:=enters_of L.f288 (by kernel_rfl) rfl
 have inner:Calls P (ρ.f 249) #[sv,.int .i64 i,.int .i64 b] w λe w'=>∃v',e=.returned v'/\R v' w':=by
  have hw:IntKind.u64.wrap (i:Int)=(i:Int):=by rw [IntKind.wrap_u64];omega
  have hn:¬((i:Int)<0):=by omega
  go_enter L.f249,Body.n249_ntmps ρ
  go_wp2_with (go_at_fn (ρ.f 288);refine h.mono ?_;rintro e w' ⟨v2,rfl,hR⟩)
  go_wp2
  first|go_ret|go_ret2
  exact ⟨v2,rfl,hR⟩
 go_enter L.f176,Body.n176_ntmps ρ
 go_wp2_with (go_at_fn (ρ.f 249);refine inner.mono ?_;rintro e w' ⟨v2,rfl,hR⟩)
 go_wp2
 first|go_ret|go_ret2
 exact ⟨v2,rfl,hR⟩
structure Tabs (ρ:Ren) (B:World):Prop where
 p10:∃e fz,B.heap[ρ.g 17]?=some (.cells (Lib.pow10Tab.map λz=>Value.int .u64 z).toArray e fz)
 db:B.cell? ⟨ρ.g 19,15,none⟩=some (.int .u8 4)
theorem Old.heap_at {A B:World} (h:Old A B) {i:Nat} {o:Obj} (hi:A.heap[i]?=some o):B.heap[i]?=some o:=by
 rw [h.block i ?_]
 ·exact hi
 ·rcases Hg i A.heap.size with q|q
  ·exact q
  ·rw [Array.getElem?_eq_none q] at hi;cases hi
theorem Post.moreN {J:Inj} {ro:Nat} {B:World} {st:St} {w:World} (hn:J.nx=st.nx) (hh:HR J ro B st.hp.get w) (hro:ro<=J.nx) (o:Obj) (k:Nat):Post J ro B st w J st ((w.alloc o).drewN k):=by
 have h:=Post.more hn hh hro o;exact ⟨h.le,h.nx,h.hr.congr rfl,⟨h.below.os,h.below.tape,h.below.output,h.below.size,h.below.block⟩,h.ext,h.ro,h.fr⟩
theorem Jgp {c:Array Value} {ys:List UInt8} {o:Nat} {J:Inj} (h:∀(j:Nat) (b:UInt8),ys[j]?=some b->c[o+j]?=some (.int .u8 (b.toNat:Int))):c.extract o (o+ys.length)=((cB ys).map (V.real J)).toArray:=by
 apply Array.ext_getElem?;intro j;rw [Array.getElem?_extract];by_cases hj:j<ys.length
 ·have h1:=h j ys[j] (List.getElem?_eq_getElem hj);have hlt:o+j<c.size:=by
   rcases Hg (o+j) c.size with q|q
   ·exact q
   ·rw [Array.getElem?_eq_none q] at h1;cases h1
  rw [ya (by simp only [Nat.min_def];split <;> omega),h1]
  simp [cB,hj,V.real]
 ·rw [ga (by simp only [Nat.min_def];split <;> omega)]
  simp [cB,hj]
theorem ze7 {st:St} {J:Inj} {ys:List UInt8} {w2:World} {r o cap:Nat} {c:Array Value} {e:TypeId} {fz:Nat×Nat} (hc:w2.heap[r]?=some (.cells c e fz)) (hsz:o+ys.length<=c.size)
  (h:∀(j:Nat) (b:UInt8),ys[j]?=some b->c[o+j]?=some (.int .u8 (b.toNat:Int))) :
  ∀(n es:Nat) (new:List V),Zfu (V.str ys)=some n->zaS st es n (V.str ys)=some new->∀w1:World,w1.heap=w2.heap->
   (Builtin.lenOf (.slice (some ⟨r,o,none⟩) ys.length cap)).run P w1=.ok n w1/\(Builtin.firstCells es n (.slice (some ⟨r,o,none⟩) ys.length cap)).run P w1=.ok (new.map (V.real J)).toArray w1:=by
 intro n es new h1 h2 w1 hw;simp only [V.str,Zfu,xa] at h1;subst h1;have hes:es=1:=by
  unfold V.str zaS at h2;cases q:Nat.beq es 1 with
  | false=>rw [q] at h2;cases h2
  | true=>exact Nat.eq_of_beq_eq_true q
 subst hes;rw [je4,xa] at h2;subst h2;refine ⟨rfl,?_⟩;show (loadCells ⟨r,o,none⟩ (ys.length*1)).run P w1=_;rw [Hj,jdg (c:=c) (k:=o) (λj hj=>by rw [Addr.add_lit];simp [World.cell?,hw,hc]) hsz,Jgp h]
theorem Zii (L:LaysM.n176 P ρ) (hz:∀w,(zeroValue (ρ.t 213)).run P w=.ok (.agg zeros65) w) {ro:Nat} {B:World} (hT:Tabs ρ B):OvR P ro B (jh0 P (ρ.f 176) (ρ.t 37) ro):=by
 intro B' hB f args st v st' h J w hn hh hro hargs;unfold jh0 at h;cases hf:Nat.beq f (ρ.f 176) with
 | false=>simp [hf] at h
 | true=>
 simp only [hf,Qa] at h;rw [Rc] at hf;subst hf;refine ⟨⟨_,_,L.f176,rfl⟩,?_⟩;split at h
 ·rename_i s n b;cases hc:Jec n b with
  | false=>simp [hc] at h
  | true=>
  simp only [hc,Qa] at h;have hv:=h;clear h;have hs:s.ok J.nx:=by simp only [V.oks] at hargs;exact hargs.1
  have hreal:(V.reals J [s,.i .i64 n,.i .i64 b]).toArray = #[s.real J,.int .i64 n,.int .i64 b]:=by simp [V.reals,V.real]
  rw [hreal];have hx:=V.str_ok J.nx (zaX n b);have hold:=hB.trans hh.base;have heap:∀{k:Nat} {o:Obj},B.heap[k]?=some o->w.heap[k]?=some o:=λhk=>hold.heap_at hk
  simp only [Jec,xg,yb,xc] at hc
  suffices hsuf:Calls P (ρ.f 176) #[s.real J,.int .i64 n,.int .i64 b] w λe w'=>∃v',e=.returned v'/\∃J',v'=v.real J'/\v.ok J'.nx/\Post J ro B' st w J' st' w' by
   refine hsuf.mono ?_;rintro e w' ⟨v',rfl,J',rfl,h2,h3⟩;exact ⟨J',rfl,h2,h3⟩
  rcases hc with ⟨rfl,h0,h1⟩|⟨rfl,h0,h1⟩
  ·obtain ⟨u,rfl⟩:∃u:Nat,n=u:=⟨n.toNat,by omega⟩
   have hi:zaX (u:Int) 10=Lib.decDigits u:=by unfold zaX;rw [ya rfl];simp
   rw [hi] at hv hx;refine ziR L u (by omega) 10 (s.real J) w (λv' w'=>∃J',v'=v.real J'/\v.ok J'.nx/\Post J ro B' st w J' st' w') ?_
   by_cases hu:u<100
   ·obtain ⟨J',w',r1,r2,r3⟩:=Zdg (P:=P) (u:=ρ.t 9) (ty:=ρ.t 37) hn hh hro L.t9 (by simp) hs hx hv
    rw [V.str_real] at r1;refine (jhx { L with } u hu (s.real J) _ w w' (λty=>(Ya (λx=>Sem.run P x w) (jdL _ ty (ρ.t 37) _)).trans r1)).mono ?_
    rintro e w1 ⟨rfl,rfl⟩;exact ⟨_,rfl,J',rfl,r2,r3⟩
   ·refine jiQ { L with } u (by omega) (by omega) (s.real J) w (λv' w'=>∃J',v'=v.real J'/\v.ok J'.nx/\Post J ro B' st w J' st' w') ?_ ?_
    ·intro nm hnm;obtain ⟨e,fz,hp⟩:=hT.p10;unfold Lib.TabIs World.var?;rw [hnm,Option.bind_some,heap hp]
    ·intro c k hcs hcc;have p1:=Post.moreN hn hh hro (Obj.cells c (ρ.t 171)) k;have hat:((w.alloc (.cells c (ρ.t 171))).drewN k).heap[w.heap.size]?=some (.cells c (ρ.t 171)):=by
      show (w.heap.push _)[w.heap.size]?=_;simp
     have hlen:(Lib.decDigits u).length<=24:=by
      have:Lib.nDigits u<=20:=by have:=Lib.numDigits_eq u (by omega) (by omega);split at this <;> omega
      rw [Lib.decDigits_length];omega
     obtain ⟨J',w',r1,r2,r3⟩:=ZbF (P:=P) (u:=ρ.t 37) (ty:=ρ.t 37) hn p1.hr hro L.t37 (by simp) hs hx hv (X:=.slice (some ⟨w.heap.size,0,none⟩) (Lib.decDigits u).length 24)
      (ze7 (P:=P) hat (by omega) (λj b hj=>by rw [dd];exact hcc j b hj))
     exact ⟨_,w',⟨J',rfl,r2,p1.trans r3⟩,λty=>(Ya (λx=>Sem.run P x _) (jdL _ ty (ρ.t 37) _)).trans r1⟩
  ·obtain ⟨u,rfl⟩:∃u:Nat,n=u:=⟨n.toNat,by omega⟩
   have hi:zaX (u:Int) 16=jcH u:=by unfold zaX;rw [ga (by decide)];simp
   rw [hi] at hv hx;refine ziR L u (by omega) 16 (s.real J) w (λv' w'=>∃J',v'=v.real J'/\v.ok J'.nx/\Post J ro B' st w J' st' w') ?_
   refine JiQ { L with } hz u (by omega) (s.real J) w ?_ (λv' w'=>∃J',v'=v.real J'/\v.ok J'.nx/\Post J ro B' st w J' st' w') ?_
   ·have hd:=hT.db;simp only [World.cell?] at hd |-;cases hg:B.heap[ρ.g 19]? with
    | none=>rw [hg] at hd;cases hd
    | some o=>rw [heap hg];rw [hg] at hd;exact hd
   ·intro c hcs hcc;have p1:=Post.more hn hh hro (Obj.cells c (ρ.t 213));have hat:(w.alloc (.cells c (ρ.t 213))).heap[w.heap.size]?=some (.cells c (ρ.t 213)):=by
     show (w.heap.push _)[w.heap.size]?=_;simp
    have hlen:(jcH u).length<=2:=by unfold jcH;split <;> simp
    obtain ⟨J',w',r1,r2,r3⟩:=ZbF (P:=P) (u:=ρ.t 37) (ty:=ρ.t 37) hn p1.hr hro L.t37 (by simp) hs hx hv (X:=.slice (some ⟨w.heap.size,65-(jcH u).length,none⟩) (jcH u).length (jcH u).length)
     (ze7 (P:=P) hat (by omega) hcc)
    exact ⟨_,w',⟨J',rfl,r2,p1.trans r3⟩,λty=>(Ya (λx=>Sem.run P x _) (jdL _ ty (ρ.t 37) _)).trans r1⟩
 ·cases h
