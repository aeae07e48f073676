/- SvdPairs is true for any matrix: of one whose numbers are 0 or from 2^-100 on and below 2^100 the exact product of two turned columns has a square of at most a part in 2^76 of the product of their squares, or one of their squares is at most a part in 2^80 of the matrix's, where there is an answer. -/
import Derived.Test.YtcbcmlaogehimaaGreatDoorPartp37
import Derived.Deep.DeepHandedRow
import Derived.Test.YtcbcmlaogehimaaGreatDoorCards
import Derived.Test.YtcbcmlaogehimaaGreatDoorTie
set_option maxRecDepth 20000
namespace Go.Proofs.YtcbcmlaogehimaaGreatDoor
theorem ko{x:Int}(h:(Lit.int .i64 x).wf=true):-9223372036854775808≤x∧x≤9223372036854775807:=by
 simp[Lit.wf,IntKind.min,IntKind.max,IntKind.signed,IntKind.bits]at h
 omega
open Go.ChangeShapes Go.WideShapes Go.ChangeAt Go.RowKit Go.Joins
theorem Tryz.tabName:Tryz.prog.globalNamed "math/bits.deBruijn32tab" =some 1:=by kernel_rfl
theorem Tryz.tabType:(Tryz.prog.globals[1]?).map (·.type)=some 240:=by kernel_rfl
theorem Tryz.tabCells:Tryz.prog.cellsOf 240=32:=by kernel_rfl
theorem Tryz.byteCells:Tryz.prog.cellsOf 5=1:=by kernel_rfl
theorem Fw:∀j,j<Lib.deBruijn32tab.length→(List.map Int.ofNat Lib.deBruijn32tab).getD j 0=((Lib.deBruijn32tab.getD j 0:Nat):Int):=by decide
theorem vH{W:World}(h:laidMetH Tryz.prog [("math/bits.deBruijn32tab",Rows.laid_math_bits_deBruijn32tab)] W):cr W:=by
 have u:=Lib.tabIs_of_head (zs:=Lib.deBruijn32tab.map Int.ofNat) (rest:=[]) Tryz.tabName Tryz.tabType Tryz.underlying240 Tryz.underlying5 Tryz.byteCells Tryz.tabCells h
 intro j d
 have:=u.cell Tryz.tabName j (by simpa using d)
 rw[this]
 congr 2
 exact Fw j d
end Go.Proofs.YtcbcmlaogehimaaGreatDoor
namespace Go.Proofs.YtcbcmlaogehimaaGreatDoor
open Go.ChangeShapes Go.WideShapes Go.ChangeAt Go.RowKit Go.Joins Go.Deep
theorem Tryz.cellsBits:Tryz.prog.cellsOf 69=1:=by kernel_rfl
theorem Tryz.bytesBits:Tryz.prog.bytesOf 69=8:=by kernel_rfl
theorem te{W:World}{a:Addr}{v:Value}(h:W.cell? a=some v):a.spot=none∧a.block<W.heap.size:=⟨World.cell?_spot h,World.block_lt_of_cell? W _ h⟩
theorem vI(b d i:Nat):(⟨b,d,none⟩:Addr).add i=⟨b,d+i,none⟩:=by simp[Addr.add]
theorem qA{x:Int}(h:(Lit.int .u64 x).wf=true):0≤x∧x≤18446744073709551615:=by
 simp[Lit.wf,IntKind.min,IntKind.max,IntKind.signed,IntKind.bits]at h
 omega
theorem Tryz.cellsMx:Tryz.prog.cellsOf 24=3:=by kernel_rfl
theorem vJ{H:Type}{enc:TypeId×Value→H}{W:World}{G:Nat}{v:Value}{d:DataW H}{p:List MemPlace}(J:Value.okWide Tryz.prog W .any G 24 v)(h:DataW.Trod enc Tryz.prog W 0 (fun _=>true) true 24 v d p)
  (hs:∀n∈d.weights Tryz.prog 24,n≤reachBytes):
  ∃(r c:Int) (ao:Option Addr) (K:Nat) (I:List Int),v=.agg #[.int .i64 r,.int .i64 c,.slice ao I.length K]∧ak W ao K I∧I.length≤17592186043904∧(-9223372036854775808≤r∧r≤9223372036854775807)∧(-9223372036854775808≤c∧c≤9223372036854775807):=by
 obtain⟨c0,c1,c2,y0,y1,y2,m,rfl,rfl,rfl,X,Y,Z⟩:=open_agg3 Tryz.underlying24 (by kernel_rfl) Tryz.cellsMx J h
 obtain⟨r,e0,_,w0⟩:=DataW.trod_int Tryz.underlying3 X
 simp at e0
 subst e0
 obtain⟨c,Q,_,w1⟩:=DataW.trod_int Tryz.underlying3 Y
 simp at Q
 subst Q
 have b0:=ko w0
 have b1:=ko w1
 rcases open_ints Tryz.underlying22 Tryz.underlying69 Tryz.cellsBits Z with⟨z,_⟩|⟨a,u,D,zs,z,_,hl,hm,hz,U,A,ae⟩
 ·simp at z
  subst z
  exact⟨r,c,none,0,[],rfl,⟨by simp,by simp,.inl rfl⟩,by simp,b0,b1⟩
 ·simp at z
  subst z
  have ah:zs.length=D:=by simpa using hz
  have L:(zs.take u).length=u:=by simp;omega
  refine⟨r,c,some a,D,zs.take u,by rw[L],⟨by omega,fun x U=>qA (ae x (List.mem_of_mem_take U)),?_⟩,?_,b0,b1⟩
  ·rcases Nat.eq_zero_or_pos u with rfl|hp
   ·left;simp
   ·right
    obtain⟨b,aa,O⟩:=a
    obtain⟨Q,e2⟩:=te (A 0 (by omega))
    have F:O=none:=by simpa[Addr.add]using Q
    subst F
    refine⟨b,aa,rfl,by simpa[Addr.add]using e2,fun i hi=>?_⟩
    have h1:=A i (by omega)
    rw[vI]at h1
    rw[h1,List.getElem?_take,if_pos (by omega),List.getD_eq_getElem?_getD]
  ·rw[U]at hs
   have hk:=hs ((zs.length)*8) (by
    simp only[DataW.weights,Tryz.underlying24,DataW.weightsEach,List.map,Tryz.underlying22,List.append_nil,List.mem_cons,List.mem_append,Tryz.bytesBits,lits,List.length_map,List.length_take,List.length_drop]
    refine .inr (.inr (.inl ?_))
    omega)
   simp only[reachBytes]at hk
   omega
end Go.Proofs.YtcbcmlaogehimaaGreatDoor
namespace Go.Proofs.YtcbcmlaogehimaaGreatDoor
open Go.ChangeShapes Go.WideShapes Go.ChangeAt Go.RowKit
set_option maxRecDepth 100000 in
theorem mq(H:Type)(enc:TypeId×Value→H)(W:World)(A:Nat)(args:Array Value)(J K:List (DataW H))(d:List MemPlace)
  (u:∀(j:Nat) t v,Tryz.f6.params[j]? =some t→args[j]? =some v→Value.okWide Tryz.prog W .any A t v)
  (hW:DataW.Whole enc Tryz.prog Tryz.f6.params.toList Rows.svdPairsSpec.vars false W args.toList J K d)
  (D:(DataW.weightsEach Tryz.prog (Tryz.f6.params.toList++(OpenSpec.ofChange Rows.svdPairsSpec).bare.plain.varTypes Tryz.prog) (J++K)).all (·≤reachBytes)=true) (L:laidMetH Tryz.prog Rows.svdPairsRow.laid W):
  Calls Tryz.prog 6 args W fun e W'=>∃v,e=.returned v∧Rows.svdPairsSpec.post enc Tryz.prog Tryz.f6 false true false false W args v W':=by
 have hT:cr W:=vH L
 have G:(DataW.weightsEach Tryz.prog (Tryz.f6.params.toList++(OpenSpec.ofChange Rows.svdPairsSpec).bare.plain.varTypes Tryz.prog) (J++K)).all (·≤reachBytes)=true:=D
 have O:=hW
 obtain⟨p,q,I,hV,rfl,ae,ah⟩:=hW
 have hA:DataW.TrodAll enc Tryz.prog W 0 (fun _=>true) true Tryz.f6.params.toList args.toList J p:=I
 rw[Tryz.params6]at hA u G
 obtain⟨v0,am,d0,an,p0,q0,U,rfl,rfl,h0,r0⟩:=trodAll_cons hA
 obtain⟨rfl,rfl,rfl⟩:=trodAll_nil r0
 obtain rfl:args= #[v0]:=by cases args;simp_all
 obtain⟨rfl,rfl⟩:=trodVars_none hV
 have k0:=h0
 have Q:∀x∈p0,x.block<W.heap.size:=by obtain⟨m,hm⟩:=k0;exact DataW.trod_lt m _ _ _ hm
 obtain⟨x0,z0,a0,c0,L0,rfl,X,Y,Z,aa⟩:=vJ (u 0 24 v0 rfl rfl) h0 (fun n hn=>of_decide_eq_true (List.all_eq_true.1 G n (DataW.weights_mem_each (j:=0) rfl rfl n hn)))
 clear I
 refine(qz x0 z0 a0 c0 L0 W X Y Z aa hT).mono fun e W' ⟨he,F⟩=>?_
 subst he
 exact⟨_,rfl,_,_,_,[],_,[],O,trodAll_mk1 (shut_bool Tryz.underlying4 _),trodAll_cons_mk (Below.trod Tryz.laidOut (by kernel_rfl) (of_decide_eq_true (by kernel_rfl)) k0 F Q) (trodAll_mk0),rfl,F.frame _,fun h=>by cases h⟩
noncomputable def svdPairs_world (os:Os):World:=
 {World.holding Tryz.prog os ⟨#[],#[],[]⟩with heap:=(World.holding Tryz.prog os ⟨#[],#[],[]⟩).heap.modify 1 fun
   | .cells _ t frozen=>.cells (Lib.deBruijn32tab.map fun z:Nat=>Value.int .u8 (z:Int)).toArray t frozen
   |o=>o}
theorem tf(d:Os):laidMet Tryz.prog Rows.svdPairsRow.laid ((svdPairs_world d).forCall (fun _ _=>0) ⟨#[],#[.agg #[.int .i64 0,.int .i64 0,.slice none 0 0]],[]⟩).memory:=
 laidMet_of_run' 8 (by kernel_rfl) (by kernel_rfl)
theorem pZ(h:Os){H:Type}(enc:TypeId×Value→H):∃d,DataW.whole enc Tryz.prog ((svdPairs_world h).forCall (fun _ _=>0) ⟨#[],#[.agg #[.int .i64 0,.int .i64 0,.slice none 0 0]],[]⟩).memory Tryz.f6.params.toList Rows.svdPairsSpec.vars false #[.agg #[.int .i64 0,.int .i64 0,.slice none 0 0]].toList 8=some ([.agg [.lit (.int .i64 0),.lit (.int .i64 0),.nil]],[],d):=
 ⟨[],by kernel_rfl⟩
set_option maxRecDepth 100000 in
theorem nM(u:Os)(d:u.Started)(H:Type)(enc:TypeId×Value→H)(F:Stop.Interp):
  ReturnsInHanded {} Tryz.checked u 6 .any ((OpenSpec.ofChange Rows.svdPairsSpec).preRow enc Tryz.prog Tryz.f6 Rows.svdPairsRow.domain false Rows.svdPairsRow.laid) (((OpenSpec.ofChange Rows.svdPairsSpec).at F).post enc Tryz.prog Tryz.f6 false true false false):=by
 obtain⟨D,J⟩:=pZ u enc
 refine returnsInHanded_of_row (C:=Tryz.checked) (s:=OpenSpec.ofChange Rows.svdPairsSpec) Tryz.own d (by kernel_rfl) Tryz.func6
  (witness_row_at (enc:=enc) (C:=Tryz.checked) false (svdPairs_world u) #[.agg #[.int .i64 0,.int .i64 0,.slice none 0 0]] rfl (by kernel_rfl) (by kernel_rfl) (by kernel_rfl)
   (OpenSpec.preRow_of_cond 8 J (by kernel_rfl) (fun k I=>by cases I) (by kernel_rfl) (tf u))) ?_
 intro W z args K L h A O _ _ G Q _ _
 exact mq H enc W z args K L h A O G Q
theorem vK:(Rows.svdPairsRow.inPlace==Tryz.pinned.checked.prog.inPlace 6)=true:=by kernel_rfl
theorem vL:(Rows.svdPairsRow.unfollowed==Tryz.pinned.checked.prog.unfollowed 6)=true:=by kernel_rfl
theorem vM:(Rows.svdPairsRow.recurses==Tryz.pinned.checked.prog.recurses 6)=true:=by kernel_rfl
theorem vN:(Rows.svdPairsRow.named==Tryz.pinned.checked.prog.varsNamed 6)=true:=by kernel_rfl
theorem vO:(Rows.svdPairsRow.lifted==Tryz.pinned.checked.prog.liftsFinal)=true:=by kernel_rfl
theorem vP:(Tryz.pinned.checked.prog.stops==[])=true:=by kernel_rfl
theorem vQ:(Tryz.pinned.checked.prog.stopKnobs==[])=true:=by kernel_rfl
theorem vR:Tryz.pinned.checked.prog.stopsHeard=true:=by kernel_rfl
theorem vS:Tryz.pinned.checked.prog.mayEnter=true:=by kernel_rfl
theorem tg:(Rows.svdPairsRow.plainKeys==Tryz.pinned.checked.prog.plainKeys)=true:=by kernel_rfl
theorem th:(Tryz.pinned.checked.prog.make==some Rows.svdPairsRow.make)=true:=by kernel_rfl
theorem nN:joinedFacts Tryz.pinned.checked.prog 6 Tryz.f6 (OpenSpec.ofChange Rows.svdPairsSpec).bare Rows.svdPairsRow=true:=by
 simp only[joinedFacts,Bool.and_eq_true]
 repeat' apply And.intro
 all_goals first
  |with_reducible exact vK
  |with_reducible exact vL
  |with_reducible exact vM
  |with_reducible exact vN
  |with_reducible exact vO
  |with_reducible exact vP
  |with_reducible exact vQ
  |with_reducible exact vR
  |with_reducible exact vS
  |with_reducible exact tg
  |with_reducible exact th
  |kernel_rfl
theorem qB:Rows.SvdPairsSaid:=
 OpenClaim.holds_of_cond 6 Tryz.f6 rfl rfl rfl rfl rfl rfl rfl ⟨rfl,rfl,rfl,rfl,rfl⟩ rfl rfl rfl rfl rfl (by kernel_rfl) Tryz.func6 nN
  (of_decide_eq_true (by kernel_rfl)) (by unfold Func.isWrapper;first|(rw[if_pos (by decide+kernel)];kernel_rfl)|(rw[if_neg (by decide+kernel)];exact⟨rfl,rfl⟩))
  (fun h d H enc _ F=>by rw[OpenClaim.pre_eq_preRow];exact nM h d H enc F)
theorem p6(f:FuncId)(h:Func)(D:Tryz.pinned.checked.prog.funcNamed "dioptra/dioptralaw19.SvdPairs" =some f)(z:Tryz.pinned.checked.prog.funcs[f]? =some h):
  false=Tryz.pinned.checked.prog.looks []∧∀(j:Nat) t,h.params[j]? =some t→Tryz.pinned.checked.prog.wantsStandIn t=false:=by
 obtain rfl:f=6:=Option.some.inj ((show Tryz.prog.funcNamed "dioptra/dioptralaw19.SvdPairs" =some 6 by kernel_rfl).symm.trans D) |>.symm
 obtain rfl:h=Tryz.f6:=(Option.some.inj (Tryz.func6.symm.trans z)).symm
 refine⟨by kernel_rfl,fun j t A=>?_⟩
 rw[Tryz.params6]at A
 have F:t∈ [24]:=by simpa using Array.mem_of_getElem? A
 have d:([24].all fun u=>!Tryz.prog.wantsStandIn u)=true:=by kernel_rfl
 exact(show Tryz.prog.wantsStandIn t=false by simpa using List.all_eq_true.1 d t F)
theorem svdPairs_card:Rows.SvdPairsCardSaid:=
 Claim7.holds_tied_plain_at .later [] _ _ _ _ qB (fun _ h=>by cases h) (by kernel_rfl) (fun _ h=>by cases h) svdPairs_row_tie rfl ⟨rfl,rfl⟩ (by kernel_rfl) rfl p6 (by kernel_rfl)
#print axioms svdPairs_card
end Go.Proofs.YtcbcmlaogehimaaGreatDoor
