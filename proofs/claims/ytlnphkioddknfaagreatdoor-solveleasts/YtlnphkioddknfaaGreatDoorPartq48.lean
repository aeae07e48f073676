/- SolveLeasts is true for any two matrices: what Least tells, in new memory, is what the document's order tells. -/
import Derived.Test.YtlnphkioddknfaaGreatDoorRows
import Derived.Test.YtlnphkioddknfaaGreatDoorPartq47
import Derived.Test.YtlnphkioddknfaaGreatDoorPartq11
import Derived.Lib.LaidTab
import Derived.OpenShut
import Derived.Deep.DeepHandedRow
import Derived.Test.YtlnphkioddknfaaGreatDoorPartq27
import Derived.Deep.Strs
import Derived.Test.YtlnphkioddknfaaGreatDoorCards
import Derived.Test.YtlnphkioddknfaaGreatDoorTie
set_option maxRecDepth 20000
namespace Go.Proofs.YtlnphkioddknfaaGreatDoor
open Go.ChangeShapes Go.WideShapes Go.ChangeAt Go.RowKit Go.Joins
theorem Tryz.tabName:Tryz.prog.globalNamed "math/bits.deBruijn32tab" = some 1:=by kernel_rfl
theorem Tryz.tabType:(Tryz.prog.globals[1]?).map (·.type) = some 245:=by kernel_rfl
theorem Tryz.tabCells:Tryz.prog.cellsOf 245 = 32:=by kernel_rfl
theorem Tryz.byteCells:Tryz.prog.cellsOf 5 = 1:=by kernel_rfl
theorem tab_getD:∀ j,j < Lib.deBruijn32tab.length→(List.map Int.ofNat Lib.deBruijn32tab).getD j 0 = ((Lib.deBruijn32tab.getD j 0:Nat):Int):=by decide
theorem tab_of_laid {W:World} (h:laidMetH Tryz.prog [("math/bits.deBruijn32tab",Rows.laid_math_bits_deBruijn32tab)] W):Tab W:=by
 have ht:=Lib.tabIs_of_head (zs:=Lib.deBruijn32tab.map Int.ofNat) (rest:=[]) Tryz.tabName Tryz.tabType Tryz.underlying245 Tryz.underlying5 Tryz.byteCells Tryz.tabCells h
 intro j hj
 have:=ht.cell Tryz.tabName j (by simpa using hj)
 rw [this]
 congr 2
 exact tab_getD j hj
end Go.Proofs.YtlnphkioddknfaaGreatDoor
namespace Go.Proofs.YtlnphkioddknfaaGreatDoor
open Go.ChangeShapes Go.WideShapes Go.ChangeAt Go.RowKit Go.Joins Go.Deep
theorem Tryz.cellsBits:Tryz.prog.cellsOf 37 = 1:=by kernel_rfl
theorem Tryz.bytesBits:Tryz.prog.bytesOf 37 = 8:=by kernel_rfl
theorem cellOf_plain {W:World} {a:Addr} {v:Value} (h:W.cell? a = some v):a.spot = none∧a.block < W.heap.size:=⟨World.cell?_spot h,World.block_lt_of_cell? W _ h⟩
theorem addOf_plain (b off i:Nat):(⟨b,off,none⟩:Addr).add i = ⟨b,off+i,none⟩:=by simp [Addr.add]
theorem bounds_of_u64 {x:Int} (h:(Lit.int .u64 x).wf = true):0≤x∧x≤18446744073709551615:=by
 simp [Lit.wf,IntKind.min,IntKind.max,IntKind.signed,IntKind.bits] at h
 omega
end Go.Proofs.YtlnphkioddknfaaGreatDoor
namespace Go.Proofs.YtlnphkioddknfaaGreatDoor
open Go.ChangeShapes Go.WideShapes Go.ChangeAt Go.RowKit Go.Joins Go.Deep
theorem Tryz.cellsMx:Tryz.prog.cellsOf 24 = 3:=by kernel_rfl
theorem open_matrix {H:Type} {enc:TypeId × Value→H} {W:World} {base:Nat} {v:Value} {d:DataW H} {p:List MemPlace} (hval:Value.okWide Tryz.prog W .any base 24 v) (h:DataW.Trod enc Tryz.prog W 0 (fun _=>true) true 24 v d p)
  (hs:∀ n ∈ d.weights Tryz.prog 24,n≤reachBytes) :
  ∃ (r c:Int) (ao:Option Addr) (cap:Nat) (I:List Int),v = .agg #[.int .i64 r,.int .i64 c,.slice ao I.length cap]∧BitsAt W ao cap I∧I.length≤17592186043904∧(-9223372036854775808≤r∧r≤9223372036854775807)∧(-9223372036854775808≤c∧c≤9223372036854775807):=by
 obtain ⟨c0,c1,c2,y0,y1,y2,m,rfl,rfl,rfl,hy0,hy1,hy2⟩:=open_agg3 Tryz.underlying24 (by kernel_rfl) Tryz.cellsMx hval h
 obtain ⟨r,e0,_,w0⟩:=DataW.trod_int Tryz.underlying3 hy0
 simp at e0
 subst e0
 obtain ⟨c,e1,_,w1⟩:=DataW.trod_int Tryz.underlying3 hy1
 simp at e1
 subst e1
 have b0:=bounds_of_i64 w0
 have b1:=bounds_of_i64 w1
 rcases open_ints Tryz.underlying22 Tryz.underlying37 Tryz.cellsBits hy2 with ⟨hcs,_⟩ | ⟨a,len0,cap0,zs,hcs,_,hl,hm,hz,hx,hcell,hwz⟩
 ·simp at hcs
  subst hcs
  exact ⟨r,c,none,0,[],rfl,⟨by simp,by simp,.inl rfl⟩,by simp,b0,b1⟩
 ·simp at hcs
  subst hcs
  have hzc:zs.length = cap0:=by simpa using hz
  have hlen:(zs.take len0).length = len0:=by simp;omega
  refine ⟨r,c,some a,cap0,zs.take len0,by rw [hlen],⟨by omega,fun x hx=>bounds_of_u64 (hwz x (List.mem_of_mem_take hx)),?_⟩,?_,b0,b1⟩
  ·rcases Nat.eq_zero_or_pos len0 with rfl | hp
   ·left;simp
   ·right
    obtain ⟨b,off,spot⟩:=a
    obtain ⟨e1,e2⟩:=cellOf_plain (hcell 0 (by omega))
    have hspot:spot = none:=by simpa [Addr.add] using e1
    subst hspot
    refine ⟨b,off,rfl,by simpa [Addr.add] using e2,fun i hi=>?_⟩
    have h1:=hcell i (by omega)
    rw [addOf_plain] at h1
    rw [h1,List.getElem?_take,if_pos (by omega),List.getD_eq_getElem?_getD]
  ·rw [hx] at hs
   have hk:=hs ((zs.length) * 8) (by
    simp only [DataW.weights,Tryz.underlying24,DataW.weightsEach,List.map,Tryz.underlying22,List.append_nil,List.mem_cons,List.mem_append,Tryz.bytesBits,lits,List.length_map,List.length_take,List.length_drop]
    refine .inr (.inr (.inl ?_))
    omega)
   simp only [reachBytes] at hk
   omega
end Go.Proofs.YtlnphkioddknfaaGreatDoor
namespace Go.Proofs.YtlnphkioddknfaaGreatDoor
open Go.ChangeShapes Go.WideShapes Go.ChangeAt Go.RowKit
set_option maxRecDepth 100000 in
theorem solveLeasts_contract (H:Type) (enc:TypeId × Value→H) (W:World) (base:Nat) (args:Array Value) (ds gs:List (DataW H)) (before:List MemPlace)
  (hval:∀ (j:Nat) t v,Tryz.f5.params[j]? = some t→args[j]? = some v→Value.okWide Tryz.prog W .any base t v)
  (hW:DataW.Whole enc Tryz.prog Tryz.f5.params.toList Rows.solveLeastsSpec.vars false W args.toList ds gs before)
  (hsz0:(DataW.weightsEach Tryz.prog (Tryz.f5.params.toList ++ (OpenSpec.ofChange Rows.solveLeastsSpec).bare.plain.varTypes Tryz.prog) (ds ++ gs)).all (·≤reachBytes) = true) (hLd:laidMetH Tryz.prog Rows.solveLeastsRow.laid W) :
  Calls Tryz.prog 5 args W fun e W'=>∃ v,e = .returned v∧Rows.solveLeastsSpec.post enc Tryz.prog Tryz.f5 false true false false W args v W':=by
 have hT:Tab W:=tab_of_laid hLd
 have hsz:(DataW.weightsEach Tryz.prog (Tryz.f5.params.toList ++ (OpenSpec.ofChange Rows.solveLeastsSpec).bare.plain.varTypes Tryz.prog) (ds ++ gs)).all (·≤reachBytes) = true:=hsz0
 have hW':=hW
 obtain ⟨p,q,hA0,hV,rfl,hfz,hnd⟩:=hW
 have hA:DataW.TrodAll enc Tryz.prog W 0 (fun _=>true) true Tryz.f5.params.toList args.toList ds p:=hA0
 rw [Tryz.params5] at hA hval hsz
 obtain ⟨v0,vs0,d0,ds0,p0,q0,hargs,rfl,rfl,h0,r0⟩:=trodAll_cons hA
 obtain ⟨v1,vs1,d1,ds1,p1,q1,rfl,rfl,rfl,h1,r1⟩:=trodAll_cons r0
 obtain ⟨rfl,rfl,rfl⟩:=trodAll_nil r1
 obtain rfl:args = #[v0,v1]:=by cases args;simp_all
 obtain ⟨rfl,rfl⟩:=trodVars_none hV
 have k0:=h0
 have lt0:∀ x ∈ p0,x.block < W.heap.size:=by obtain ⟨m,hm⟩:=k0;exact DataW.trod_lt m _ _ _ hm
 obtain ⟨x0,z0,a0,c0,L0,rfl,hL0,hl0,wr0,wc0⟩:=open_matrix (hval 0 24 v0 rfl rfl) h0 (fun n hn=>of_decide_eq_true (List.all_eq_true.1 hsz n (DataW.weights_mem_each (j:=0) rfl rfl n hn)))
 have k1:=h1
 have lt1:∀ x ∈ p1,x.block < W.heap.size:=by obtain ⟨m,hm⟩:=k1;exact DataW.trod_lt m _ _ _ hm
 obtain ⟨x1,z1,a1,c1,L1,rfl,hL1,hl1,wr1,wc1⟩:=open_matrix (hval 1 24 v1 rfl rfl) h1 (fun n hn=>of_decide_eq_true (List.all_eq_true.1 hsz n (DataW.weights_mem_each (j:=1) rfl rfl n hn)))
 clear hA0
 refine (solveLeasts_walk x0 z0 a0 c0 L0 x1 z1 a1 c1 L1 W hL0 hl0 wr0 wc0 hL1 hl1 wr1 wc1 hT).mono fun e W' ⟨he,bel⟩=>?_
 subst he
 exact ⟨_,rfl,_,_,_,[],_,[],hW',trodAll_mk1 (shut_bool Tryz.underlying4 _),trodAll_cons_mk (Below.trod Tryz.laidOut (by kernel_rfl) (of_decide_eq_true (by kernel_rfl)) k0 bel lt0) (trodAll_cons_mk (Below.trod Tryz.laidOut (by kernel_rfl) (of_decide_eq_true (by kernel_rfl)) k1 bel lt1) (trodAll_mk0)),rfl,bel.frame _,fun h=>by cases h⟩
noncomputable def solveLeasts_world (os:Os):World :=
 { World.holding Tryz.prog os ⟨#[],#[],[]⟩ with heap:=(World.holding Tryz.prog os ⟨#[],#[],[]⟩).heap.modify 1 fun
   | .cells _ t frozen=>.cells (Lib.deBruijn32tab.map fun z:Nat=>Value.int .u8 (z:Int)).toArray t frozen
   | o=>o }
theorem solveLeasts_met (os:Os):laidMet Tryz.prog Rows.solveLeastsRow.laid ((solveLeasts_world os).forCall (fun _ _=>0) ⟨#[],#[.agg #[.int .i64 0,.int .i64 0,.slice none 0 0],.agg #[.int .i64 0,.int .i64 0,.slice none 0 0]],[]⟩).memory :=
 laidMet_of_run' 8 (by kernel_rfl) (by kernel_rfl)
theorem solveLeasts_reads (os:Os) {H:Type} (enc:TypeId × Value→H):∃ places,DataW.whole enc Tryz.prog ((solveLeasts_world os).forCall (fun _ _=>0) ⟨#[],#[.agg #[.int .i64 0,.int .i64 0,.slice none 0 0],.agg #[.int .i64 0,.int .i64 0,.slice none 0 0]],[]⟩).memory Tryz.f5.params.toList Rows.solveLeastsSpec.vars false #[.agg #[.int .i64 0,.int .i64 0,.slice none 0 0],.agg #[.int .i64 0,.int .i64 0,.slice none 0 0]].toList 8 = some ([.agg [.lit (.int .i64 0),.lit (.int .i64 0),.nil],.agg [.lit (.int .i64 0),.lit (.int .i64 0),.nil]],[],places) :=
 ⟨[],by kernel_rfl⟩
set_option maxRecDepth 100000 in
theorem solveLeasts_lifted (os:Os) (started:os.Started) (H:Type) (enc:TypeId × Value→H) (F:Stop.Interp) :
  ReturnsInHanded {} Tryz.checked os 5 .any ((OpenSpec.ofChange Rows.solveLeastsSpec).preRow enc Tryz.prog Tryz.f5 Rows.solveLeastsRow.domain false Rows.solveLeastsRow.laid) (((OpenSpec.ofChange Rows.solveLeastsSpec).at F).post enc Tryz.prog Tryz.f5 false true false false):=by
 obtain ⟨places,hx⟩:=solveLeasts_reads os enc
 refine returnsInHanded_of_row (C:=Tryz.checked) (s:=OpenSpec.ofChange Rows.solveLeastsSpec) Tryz.own started (by kernel_rfl) Tryz.func5
  (witness_row_at (enc:=enc) (C:=Tryz.checked) false (solveLeasts_world os) #[.agg #[.int .i64 0,.int .i64 0,.slice none 0 0],.agg #[.int .i64 0,.int .i64 0,.slice none 0 0]] rfl (by kernel_rfl) (by kernel_rfl) (by kernel_rfl)
   (OpenSpec.preRow_of_cond 8 hx (by kernel_rfl) (fun k hk=>by cases hk) (by kernel_rfl) (solveLeasts_met os))) ?_
 intro W base args ds gs before hval hW _ _ hsz hL _ _
 exact solveLeasts_contract H enc W base args ds gs before hval hW hsz hL
theorem solveLeasts_said:Rows.SolveLeastsSaid :=
 OpenClaim.holds_of_cond 5 Tryz.f5 rfl rfl rfl rfl rfl rfl rfl ⟨rfl,rfl,rfl,rfl,rfl⟩ rfl rfl rfl rfl rfl (by kernel_rfl) Tryz.func5 (by kernel_rfl)
  (of_decide_eq_true (by kernel_rfl)) (by unfold Func.isWrapper;first | (rw [if_pos (by decide +kernel)];kernel_rfl) | (rw [if_neg (by decide +kernel)];exact ⟨rfl,rfl⟩))
  (fun os started H enc _ F=>by rw [OpenClaim.pre_eq_preRow];exact solveLeasts_lifted os started H enc F)
theorem solveLeasts_plain (f:FuncId) (fn:Func) (hf:Tryz.pinned.checked.prog.funcNamed "dioptra/dioptralaw17.SolveLeasts" = some f) (hfn:Tryz.pinned.checked.prog.funcs[f]? = some fn) :
  false = Tryz.pinned.checked.prog.looks []∧∀ (j:Nat) t,fn.params[j]? = some t→Tryz.pinned.checked.prog.wantsStandIn t = false:=by
 obtain rfl:f = 5:=Option.some.inj ((show Tryz.prog.funcNamed "dioptra/dioptralaw17.SolveLeasts" = some 5 by kernel_rfl).symm.trans hf) |>.symm
 obtain rfl:fn = Tryz.f5:=(Option.some.inj (Tryz.func5.symm.trans hfn)).symm
 refine ⟨by kernel_rfl,fun j t ht=>?_⟩
 rw [Tryz.params5] at ht
 have hm:t ∈ [24,24]:=by simpa using Array.mem_of_getElem? ht
 have hall:([24,24].all fun u=>!Tryz.prog.wantsStandIn u) = true:=by kernel_rfl
 exact (show Tryz.prog.wantsStandIn t = false by simpa using List.all_eq_true.1 hall t hm)
theorem solveLeasts_card:Rows.SolveLeastsCardSaid :=
 Claim7.holds_tied_plain_at .later [] _ _ _ _ solveLeasts_said (fun _ h=>by cases h) (by kernel_rfl) (fun _ h=>by cases h) solveLeasts_row_tie rfl ⟨rfl,rfl⟩ (by kernel_rfl) rfl solveLeasts_plain (by kernel_rfl)
#print axioms solveLeasts_card
end Go.Proofs.YtlnphkioddknfaaGreatDoor
