/- SvdTurns is true for any matrix: of one whose numbers are 0 or from 2^-100 on and below 2^100 the columns of how it was turned stand upright on one another but for a square of 2^-70, where there is an answer. -/
import Derived.Test.YtcbcmlaogehimaaGreatDoorCards
import Derived.Test.YtcbcmlaogehimaaGreatDoorTie
import Derived.Test.YtcbcmlaogehimaaGreatDoorPartt37
set_option maxRecDepth 20000
namespace Go.Proofs.YtcbcmlaogehimaaGreatDoor
open Go.ChangeShapes Go.WideShapes Go.ChangeAt Go.RowKit
set_option maxRecDepth 100000 in
theorem lT(H:Type)(enc:TypeId×Value→H)(W:World)(A:Nat)(args:Array Value)(J K:List (DataW H))(d:List MemPlace)
  (u:∀(j:Nat) t v,Tryz.f5.params[j]? =some t→args[j]? =some v→Value.okWide Tryz.prog W .any A t v)
  (hW:DataW.Whole enc Tryz.prog Tryz.f5.params.toList Rows.svdTurnsSpec.vars false W args.toList J K d)
  (D:(DataW.weightsEach Tryz.prog (Tryz.f5.params.toList++(OpenSpec.ofChange Rows.svdTurnsSpec).bare.plain.varTypes Tryz.prog) (J++K)).all (·≤reachBytes)=true) (L:laidMetH Tryz.prog Rows.svdTurnsRow.laid W):
  Calls Tryz.prog 5 args W fun e W'=>∃v,e=.returned v∧Rows.svdTurnsSpec.post enc Tryz.prog Tryz.f5 false true false false W args v W':=by
 have hT:cq W:=vg L
 have G:(DataW.weightsEach Tryz.prog (Tryz.f5.params.toList++(OpenSpec.ofChange Rows.svdTurnsSpec).bare.plain.varTypes Tryz.prog) (J++K)).all (·≤reachBytes)=true:=D
 have N:=hW
 obtain⟨p,q,I,hV,rfl,aa,ae⟩:=hW
 have hA:DataW.TrodAll enc Tryz.prog W 0 (fun _=>true) true Tryz.f5.params.toList args.toList J p:=I
 rw[Tryz.params5]at hA u G
 obtain⟨v0,ah,d0,am,p0,q0,Q,rfl,rfl,h0,r0⟩:=trodAll_cons hA
 obtain⟨rfl,rfl,rfl⟩:=trodAll_nil r0
 obtain rfl:args= #[v0]:=by cases args;simp_all
 obtain⟨rfl,rfl⟩:=trodVars_none hV
 have k0:=h0
 have O:∀x∈p0,x.block<W.heap.size:=by obtain⟨m,hm⟩:=k0;exact DataW.trod_lt m _ _ _ hm
 obtain⟨x0,z0,a0,c0,L0,rfl,U,X,Y,Z⟩:=vi (u 0 24 v0 rfl rfl) h0 (fun n hn=>of_decide_eq_true (List.all_eq_true.1 G n (DataW.weights_mem_each (j:=0) rfl rfl n hn)))
 clear I
 refine(qc x0 z0 a0 c0 L0 W U X Y Z hT).mono fun e W' ⟨he,F⟩=>?_
 subst he
 exact⟨_,rfl,_,_,_,[],_,[],N,trodAll_mk1 (shut_bool Tryz.underlying4 _),trodAll_cons_mk (Below.trod Tryz.laidOut (by kernel_rfl) (of_decide_eq_true (by kernel_rfl)) k0 F O) (trodAll_mk0),rfl,F.frame _,fun h=>by cases h⟩
noncomputable def svdTurns_world (os:Os):World:=
 {World.holding Tryz.prog os ⟨#[],#[],[]⟩with heap:=(World.holding Tryz.prog os ⟨#[],#[],[]⟩).heap.modify 1 fun
   | .cells _ t frozen=>.cells (Lib.deBruijn32tab.map fun z:Nat=>Value.int .u8 (z:Int)).toArray t frozen
   |o=>o}
theorem sC(d:Os):laidMet Tryz.prog Rows.svdTurnsRow.laid ((svdTurns_world d).forCall (fun _ _=>0) ⟨#[],#[.agg #[.int .i64 0,.int .i64 0,.slice none 0 0]],[]⟩).memory:=
 laidMet_of_run' 8 (by kernel_rfl) (by kernel_rfl)
theorem pD(h:Os){H:Type}(enc:TypeId×Value→H):∃d,DataW.whole enc Tryz.prog ((svdTurns_world h).forCall (fun _ _=>0) ⟨#[],#[.agg #[.int .i64 0,.int .i64 0,.slice none 0 0]],[]⟩).memory Tryz.f5.params.toList Rows.svdTurnsSpec.vars false #[.agg #[.int .i64 0,.int .i64 0,.slice none 0 0]].toList 8=some ([.agg [.lit (.int .i64 0),.lit (.int .i64 0),.nil]],[],d):=
 ⟨[],by kernel_rfl⟩
set_option maxRecDepth 100000 in
theorem nv(u:Os)(d:u.Started)(H:Type)(enc:TypeId×Value→H)(F:Stop.Interp):
  ReturnsInHanded {} Tryz.checked u 5 .any ((OpenSpec.ofChange Rows.svdTurnsSpec).preRow enc Tryz.prog Tryz.f5 Rows.svdTurnsRow.domain false Rows.svdTurnsRow.laid) (((OpenSpec.ofChange Rows.svdTurnsSpec).at F).post enc Tryz.prog Tryz.f5 false true false false):=by
 obtain⟨D,J⟩:=pD u enc
 refine returnsInHanded_of_row (C:=Tryz.checked) (s:=OpenSpec.ofChange Rows.svdTurnsSpec) Tryz.own d (by kernel_rfl) Tryz.func5
  (witness_row_at (enc:=enc) (C:=Tryz.checked) false (svdTurns_world u) #[.agg #[.int .i64 0,.int .i64 0,.slice none 0 0]] rfl (by kernel_rfl) (by kernel_rfl) (by kernel_rfl)
   (OpenSpec.preRow_of_cond 8 J (by kernel_rfl) (fun k I=>by cases I) (by kernel_rfl) (sC u))) ?_
 intro W z args K L h A N _ _ G O _ _
 exact lT H enc W z args K L h A N G O
theorem vj:(Rows.svdTurnsRow.inPlace==Tryz.pinned.checked.prog.inPlace 5)=true:=by kernel_rfl
theorem vk:(Rows.svdTurnsRow.unfollowed==Tryz.pinned.checked.prog.unfollowed 5)=true:=by kernel_rfl
theorem vl:(Rows.svdTurnsRow.recurses==Tryz.pinned.checked.prog.recurses 5)=true:=by kernel_rfl
theorem vm:(Rows.svdTurnsRow.named==Tryz.pinned.checked.prog.varsNamed 5)=true:=by kernel_rfl
theorem vn:(Rows.svdTurnsRow.lifted==Tryz.pinned.checked.prog.liftsFinal)=true:=by kernel_rfl
theorem vr:(Tryz.pinned.checked.prog.stops==[])=true:=by kernel_rfl
theorem vt:(Tryz.pinned.checked.prog.stopKnobs==[])=true:=by kernel_rfl
theorem vu:Tryz.pinned.checked.prog.stopsHeard=true:=by kernel_rfl
theorem vv:Tryz.pinned.checked.prog.mayEnter=true:=by kernel_rfl
theorem sD:(Rows.svdTurnsRow.plainKeys==Tryz.pinned.checked.prog.plainKeys)=true:=by kernel_rfl
theorem sE:(Tryz.pinned.checked.prog.make==some Rows.svdTurnsRow.make)=true:=by kernel_rfl
theorem nw:joinedFacts Tryz.pinned.checked.prog 5 Tryz.f5 (OpenSpec.ofChange Rows.svdTurnsSpec).bare Rows.svdTurnsRow=true:=by
 simp only[joinedFacts,Bool.and_eq_true]
 repeat' apply And.intro
 all_goals first
  |with_reducible exact vj
  |with_reducible exact vk
  |with_reducible exact vl
  |with_reducible exact vm
  |with_reducible exact vn
  |with_reducible exact vr
  |with_reducible exact vt
  |with_reducible exact vu
  |with_reducible exact vv
  |with_reducible exact sD
  |with_reducible exact sE
  |kernel_rfl
theorem qg:Rows.SvdTurnsSaid:=
 OpenClaim.holds_of_cond 5 Tryz.f5 rfl rfl rfl rfl rfl rfl rfl ⟨rfl,rfl,rfl,rfl,rfl⟩ rfl rfl rfl rfl rfl (by kernel_rfl) Tryz.func5 nw
  (of_decide_eq_true (by kernel_rfl)) (by unfold Func.isWrapper;first|(rw[if_pos (by decide+kernel)];kernel_rfl)|(rw[if_neg (by decide+kernel)];exact⟨rfl,rfl⟩))
  (fun h d H enc _ F=>by rw[OpenClaim.pre_eq_preRow];exact nv h d H enc F)
theorem pE(f:FuncId)(h:Func)(D:Tryz.pinned.checked.prog.funcNamed "dioptra/dioptralaw19.SvdTurns" =some f)(z:Tryz.pinned.checked.prog.funcs[f]? =some h):
  false=Tryz.pinned.checked.prog.looks []∧∀(j:Nat) t,h.params[j]? =some t→Tryz.pinned.checked.prog.wantsStandIn t=false:=by
 obtain rfl:f=5:=Option.some.inj ((show Tryz.prog.funcNamed "dioptra/dioptralaw19.SvdTurns" =some 5 by kernel_rfl).symm.trans D) |>.symm
 obtain rfl:h=Tryz.f5:=(Option.some.inj (Tryz.func5.symm.trans z)).symm
 refine⟨by kernel_rfl,fun j t A=>?_⟩
 rw[Tryz.params5]at A
 have F:t∈ [24]:=by simpa using Array.mem_of_getElem? A
 have d:([24].all fun u=>!Tryz.prog.wantsStandIn u)=true:=by kernel_rfl
 exact(show Tryz.prog.wantsStandIn t=false by simpa using List.all_eq_true.1 d t F)
theorem svdTurns_card:Rows.SvdTurnsCardSaid:=
 Claim7.holds_tied_plain_at .later [] _ _ _ _ qg (fun _ h=>by cases h) (by kernel_rfl) (fun _ h=>by cases h) svdTurns_row_tie rfl ⟨rfl,rfl⟩ (by kernel_rfl) rfl pE (by kernel_rfl)
#print axioms svdTurns_card
end Go.Proofs.YtcbcmlaogehimaaGreatDoor
