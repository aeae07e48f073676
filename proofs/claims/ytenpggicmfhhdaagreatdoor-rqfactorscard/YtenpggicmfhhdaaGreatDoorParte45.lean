/- RqFactors is true for any matrix: Lq and Rq answer as the reference does. -/
import Derived.Test.YtenpggicmfhhdaaGreatDoorParte44
import Derived.Deep.DeepHandedRow
import Derived.Test.YtenpggicmfhhdaaGreatDoorCards
import Derived.Test.YtenpggicmfhhdaaGreatDoorTie
set_option maxRecDepth 20000
namespace Go.Proofs.YtenpggicmfhhdaaGreatDoor
open Go.ChangeShapes Go.WideShapes Go.ChangeAt Go.RowKit Go.Joins
theorem Tryz.tabName:Tryz.prog.globalNamed "math/bits.deBruijn32tab" =some 1:=by kernel_rfl
theorem Tryz.tabType:(Tryz.prog.globals[1]?).map (·.type)=some 176:=by kernel_rfl
theorem Tryz.tabCells:Tryz.prog.cellsOf 176=32:=by kernel_rfl
theorem Tryz.byteCells:Tryz.prog.cellsOf 5=1:=by kernel_rfl
theorem AQ:∀j,j<Lib.deBruijn32tab.length→(List.map Int.ofNat Lib.deBruijn32tab).getD j 0=((Lib.deBruijn32tab.getD j 0:Nat):Int):=by decide
theorem sd{W:World}(h:laidMetH Tryz.prog [("math/bits.deBruijn32tab",Rows.laid_math_bits_deBruijn32tab)] W):cd W:=by
 have f:=Lib.tabIs_of_head (zs:=Lib.deBruijn32tab.map Int.ofNat) (rest:=[]) Tryz.tabName Tryz.tabType Tryz.underlying176 Tryz.underlying5 Tryz.byteCells Tryz.tabCells h
 intro j d
 have:=f.cell Tryz.tabName j (by simpa using d)
 rw[this]
 congr 2
 exact AQ j d
end Go.Proofs.YtenpggicmfhhdaaGreatDoor
namespace Go.Proofs.YtenpggicmfhhdaaGreatDoor
open Go.ChangeShapes Go.WideShapes Go.ChangeAt Go.RowKit Go.Joins Go.Deep
theorem Tryz.cellsBits:Tryz.prog.cellsOf 30=1:=by kernel_rfl
theorem Tryz.bytesBits:Tryz.prog.bytesOf 30=8:=by kernel_rfl
theorem qd{W:World}{a:Addr}{v:Value}(h:W.cell? a=some v):a.spot=none∧a.block<W.heap.size:=⟨World.cell?_spot h,World.block_lt_of_cell? W _ h⟩
theorem se(b d i:Nat):(⟨b,d,none⟩:Addr).add i=⟨b,d+i,none⟩:=by simp[Addr.add]
theorem oo{x:Int}(h:(Lit.int .u64 x).wf=true):0≤x∧x≤18446744073709551615:=by
 simp[Lit.wf,IntKind.min,IntKind.max,IntKind.signed,IntKind.bits]at h
 omega
theorem Tryz.cellsMx:Tryz.prog.cellsOf 24=3:=by kernel_rfl
theorem sf{H:Type}{enc:TypeId×Value→H}{W:World}{A:Nat}{v:Value}{d:DataW H}{p:List MemPlace}(D:Value.okWide Tryz.prog W .any A 24 v)(h:DataW.Trod enc Tryz.prog W 0 (fun _=>true) true 24 v d p)
  (V:∀n∈d.weights Tryz.prog 24,n≤reachBytes):
  ∃(r c:Int) (X:Option Addr) (F:Nat) (I:List Int),v=.agg #[.int .i64 r,.int .i64 c,.slice X I.length F]∧ab W X F I∧I.length≤17592186043904∧(-9223372036854775808≤r∧r≤9223372036854775807)∧(-9223372036854775808≤c∧c≤9223372036854775807):=by
 obtain⟨c0,c1,c2,y0,y1,y2,m,rfl,rfl,rfl,N,O,Q⟩:=open_agg3 Tryz.underlying24 (by kernel_rfl) Tryz.cellsMx D h
 obtain⟨r,e0,_,w0⟩:=DataW.trod_int Tryz.underlying3 N
 simp at e0
 subst e0
 obtain⟨c,L,_,w1⟩:=DataW.trod_int Tryz.underlying3 O
 simp at L
 subst L
 have Y:=jn w0
 have Z:=jn w1
 rcases open_ints Tryz.underlying22 Tryz.underlying30 Tryz.cellsBits Q with⟨l,_⟩|⟨a,f,y,zs,l,_,hl,hm,hz,M,t,U⟩
 ·simp at l
  subst l
  exact⟨r,c,none,0,[],rfl,⟨by simp,by simp,.inl rfl⟩,by simp,Y,Z⟩
 ·simp at l
  subst l
  have ae:zs.length=y:=by simpa using hz
  have G:(zs.take f).length=f:=by simp;omega
  refine⟨r,c,some a,y,zs.take f,by rw[G],⟨by omega,fun x M=>oo (U x (List.mem_of_mem_take M)),?_⟩,?_,Y,Z⟩
  ·rcases Nat.eq_zero_or_pos f with rfl|hp
   ·left;simp
   ·right
    obtain⟨b,T,K⟩:=a
    obtain⟨L,e2⟩:=qd (t 0 (by omega))
    have z:K=none:=by simpa[Addr.add]using L
    subst z
    refine⟨b,T,rfl,by simpa[Addr.add]using e2,fun i hi=>?_⟩
    have h1:=t i (by omega)
    rw[se]at h1
    rw[h1,List.getElem?_take,if_pos (by omega),List.getD_eq_getElem?_getD]
  ·rw[M]at V
   have hk:=V ((zs.length)*8) (by
    simp only[DataW.weights,Tryz.underlying24,DataW.weightsEach,List.map,Tryz.underlying22,List.append_nil,List.mem_cons,List.mem_append,Tryz.bytesBits,lits,List.length_map,List.length_take,List.length_drop]
    refine .inr (.inr (.inl ?_))
    omega)
   simp only[reachBytes]at hk
   omega
end Go.Proofs.YtenpggicmfhhdaaGreatDoor
namespace Go.Proofs.YtenpggicmfhhdaaGreatDoor
open Go.ChangeShapes Go.WideShapes Go.ChangeAt Go.RowKit
set_option maxRecDepth 100000 in
theorem jE(H:Type)(enc:TypeId×Value→H)(W:World)(y:Nat)(d:Array Value)(I K:List (DataW H))(f:List MemPlace)
  (l:∀(j:Nat) t v,Tryz.f4.params[j]? =some t→d[j]? =some v→Value.okWide Tryz.prog W .any y t v)
  (X:DataW.Whole enc Tryz.prog Tryz.f4.params.toList Rows.rqFactorsSpec.vars false W d.toList I K f)
  (A:(DataW.weightsEach Tryz.prog (Tryz.f4.params.toList++(OpenSpec.ofChange Rows.rqFactorsSpec).bare.plain.varTypes Tryz.prog) (I++K)).all (·≤reachBytes)=true) (L:laidMetH Tryz.prog Rows.rqFactorsRow.laid W):
  Calls Tryz.prog 4 d W fun e Y=>∃v,e=.returned v∧Rows.rqFactorsSpec.post enc Tryz.prog Tryz.f4 false true false false W d v Y:=by
 have hT:cd W:=sd L
 have F:(DataW.weightsEach Tryz.prog (Tryz.f4.params.toList++(OpenSpec.ofChange Rows.rqFactorsSpec).bare.plain.varTypes Tryz.prog) (I++K)).all (·≤reachBytes)=true:=A
 have M:=X
 obtain⟨p,q,G,hV,rfl,ae,aj⟩:=X
 have Z:DataW.TrodAll enc Tryz.prog W 0 (fun _=>true) true Tryz.f4.params.toList d.toList I p:=G
 rw[Tryz.params4]at Z l F
 obtain⟨v0,am,d0,ao,p0,q0,O,rfl,rfl,h0,r0⟩:=trodAll_cons Z
 obtain⟨rfl,rfl,rfl⟩:=trodAll_nil r0
 obtain rfl:d= #[v0]:=by cases d;simp_all
 obtain⟨rfl,rfl⟩:=trodVars_none hV
 have k0:=h0
 have N:∀x∈p0,x.block<W.heap.size:=by obtain⟨m,hm⟩:=k0;exact DataW.trod_lt m _ _ _ hm
 obtain⟨x0,z0,a0,c0,L0,rfl,Q,T,U,V⟩:=sf (l 0 24 v0 rfl rfl) h0 (fun n hn=>of_decide_eq_true (List.all_eq_true.1 F n (DataW.weights_mem_each (j:=0) rfl rfl n hn)))
 clear G
 refine(nC x0 z0 a0 c0 L0 W Q T U V hT).mono fun e Y ⟨he,D⟩=>?_
 subst he
 exact⟨_,rfl,_,_,_,[],_,[],M,trodAll_mk1 (shut_bool Tryz.underlying4 _),trodAll_cons_mk (Below.trod Tryz.laidOut (by kernel_rfl) (of_decide_eq_true (by kernel_rfl)) k0 D N) (trodAll_mk0),rfl,D.frame _,fun h=>by cases h⟩
noncomputable def rqFactors_world (os:Os):World:=
 {World.holding Tryz.prog os ⟨#[],#[],[]⟩with heap:=(World.holding Tryz.prog os ⟨#[],#[],[]⟩).heap.modify 1 fun
   | .cells _ t frozen=>.cells (Lib.deBruijn32tab.map fun z:Nat=>Value.int .u8 (z:Int)).toArray t frozen
   |o=>o}
theorem oq(d:Os):laidMet Tryz.prog Rows.rqFactorsRow.laid ((rqFactors_world d).forCall (fun _ _=>0) ⟨#[],#[.agg #[.int .i64 0,.int .i64 0,.slice none 0 0]],[]⟩).memory:=
 laidMet_of_run' 8 (by kernel_rfl) (by kernel_rfl)
theorem lk(f:Os){H:Type}(enc:TypeId×Value→H):∃d,DataW.whole enc Tryz.prog ((rqFactors_world f).forCall (fun _ _=>0) ⟨#[],#[.agg #[.int .i64 0,.int .i64 0,.slice none 0 0]],[]⟩).memory Tryz.f4.params.toList Rows.rqFactorsSpec.vars false #[.agg #[.int .i64 0,.int .i64 0,.slice none 0 0]].toList 8=some ([.agg [.lit (.int .i64 0),.lit (.int .i64 0),.nil]],[],d):=
 ⟨[],by kernel_rfl⟩
set_option maxRecDepth 100000 in
theorem kN(h:Os)(d:h.Started)(H:Type)(enc:TypeId×Value→H)(F:Stop.Interp):
  ReturnsInHanded {} Tryz.checked h 4 .any ((OpenSpec.ofChange Rows.rqFactorsSpec).preRow enc Tryz.prog Tryz.f4 Rows.rqFactorsRow.domain false Rows.rqFactorsRow.laid) (((OpenSpec.ofChange Rows.rqFactorsSpec).at F).post enc Tryz.prog Tryz.f4 false true false false):=by
 obtain⟨y,D⟩:=lk h enc
 refine returnsInHanded_of_row (C:=Tryz.checked) (s:=OpenSpec.ofChange Rows.rqFactorsSpec) Tryz.own d (by kernel_rfl) Tryz.func4
  (witness_row_at (enc:=enc) (C:=Tryz.checked) false (rqFactors_world h) #[.agg #[.int .i64 0,.int .i64 0,.slice none 0 0]] rfl (by kernel_rfl) (by kernel_rfl) (by kernel_rfl)
   (OpenSpec.preRow_of_cond 8 D (by kernel_rfl) (fun k A=>by cases A) (by kernel_rfl) (oq h))) ?_
 intro W l m G I f t K _ _ z L _ _
 exact jE H enc W l m G I f t K z L
theorem nD:Rows.RqFactorsSaid:=
 OpenClaim.holds_of_cond 4 Tryz.f4 rfl rfl rfl rfl rfl rfl rfl ⟨rfl,rfl,rfl,rfl,rfl⟩ rfl rfl rfl rfl rfl (by kernel_rfl) Tryz.func4 (by kernel_rfl)
  (of_decide_eq_true (by kernel_rfl)) (by unfold Func.isWrapper;first|(rw[if_pos (by decide+kernel)];kernel_rfl)|(rw[if_neg (by decide+kernel)];exact⟨rfl,rfl⟩))
  (fun f d H enc _ F=>by rw[OpenClaim.pre_eq_preRow];exact kN f d H enc F)
theorem lm(f:FuncId)(h:Func)(y:Tryz.pinned.checked.prog.funcNamed "dioptra/dioptralaw15.RqFactors" =some f)(l:Tryz.pinned.checked.prog.funcs[f]? =some h):
  false=Tryz.pinned.checked.prog.looks []∧∀(j:Nat) t,h.params[j]? =some t→Tryz.pinned.checked.prog.wantsStandIn t=false:=by
 obtain rfl:f=4:=Option.some.inj ((show Tryz.prog.funcNamed "dioptra/dioptralaw15.RqFactors" =some 4 by kernel_rfl).symm.trans y) |>.symm
 obtain rfl:h=Tryz.f4:=(Option.some.inj (Tryz.func4.symm.trans l)).symm
 refine⟨by kernel_rfl,fun j t m=>?_⟩
 rw[Tryz.params4]at m
 have z:t∈ [24]:=by simpa using Array.mem_of_getElem? m
 have d:([24].all fun u=>!Tryz.prog.wantsStandIn u)=true:=by kernel_rfl
 exact(show Tryz.prog.wantsStandIn t=false by simpa using List.all_eq_true.1 d t z)
theorem rqFactors_card:Rows.RqFactorsCardSaid:=
 Claim7.holds_tied_plain_at .later [] _ _ _ _ nD (fun _ h=>by cases h) (by kernel_rfl) (fun _ h=>by cases h) rqFactors_row_tie rfl ⟨rfl,rfl⟩ (by kernel_rfl) rfl lm (by kernel_rfl)
#print axioms rqFactors_card
end Go.Proofs.YtenpggicmfhhdaaGreatDoor
