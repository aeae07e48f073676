/- PivotFactors is true for any matrix: Factor answers as the reference does, in memory of its own, with the errors in their order. -/
import Derived.Test.YtnnfjeieennffaaGreatDoorPartc47
import Derived.Test.YtnnfjeieennffaaGreatDoorCards
import Derived.Test.YtnnfjeieennffaaGreatDoorTie
set_option maxRecDepth 20000
namespace Go.Proofs.YtnnfjeieennffaaGreatDoor
open Go.ChangeShapes Go.WideShapes Go.ChangeAt Go.RowKit Go.Joins Go.Deep
theorem Tryz.cellsMx:Tryz.prog.cellsOf 24=3:=by kernel_rfl
theorem uq{H:Type}{enc:TypeId×Value→H}{W:World}{D:Nat}{v:Value}{d:DataW H}{p:List MemPlace}(F:Value.okWide Tryz.prog W .any D 24 v)(h:DataW.Trod enc Tryz.prog W 0 (fun _=>true) true 24 v d p)
  (Y:∀n∈d.weights Tryz.prog 24,n≤reachBytes):
  ∃(r c:Int) (Z:Option Addr) (G:Nat) (I:List Int),v=.agg #[.int .i64 r,.int .i64 c,.slice Z I.length G]∧ad W Z G I∧I.length≤17592186043904∧(-9223372036854775808≤r∧r≤9223372036854775807)∧(-9223372036854775808≤c∧c≤9223372036854775807):=by
 obtain⟨c0,c1,c2,y0,y1,y2,m,rfl,rfl,rfl,O,Q,U⟩:=open_agg3 Tryz.underlying24 (by kernel_rfl) Tryz.cellsMx F h
 obtain⟨r,e0,_,w0⟩:=DataW.trod_int Tryz.underlying3 O
 simp at e0
 subst e0
 obtain⟨c,M,_,w1⟩:=DataW.trod_int Tryz.underlying3 Q
 simp at M
 subst M
 have b0:=jJ w0
 have b1:=jJ w1
 rcases open_ints Tryz.underlying22 Tryz.underlying31 Tryz.cellsBits U with⟨l,_⟩|⟨a,f,z,zs,l,_,hl,hm,hz,N,t,X⟩
 ·simp at l
  subst l
  exact⟨r,c,none,0,[],rfl,⟨by simp,by simp,.inl rfl⟩,by simp,b0,b1⟩
 ·simp at l
  subst l
  have ae:zs.length=z:=by simpa using hz
  have K:(zs.take f).length=f:=by simp;omega
  refine⟨r,c,some a,z,zs.take f,by rw[K],⟨by omega,fun x N=>pC (X x (List.mem_of_mem_take N)),?_⟩,?_,b0,b1⟩
  ·rcases Nat.eq_zero_or_pos f with rfl|hp
   ·left;simp
   ·right
    obtain⟨b,V,L⟩:=a
    obtain⟨M,e2⟩:=rD (t 0 (by omega))
    have A:L=none:=by simpa[Addr.add]using M
    subst A
    refine⟨b,V,rfl,by simpa[Addr.add]using e2,fun i hi=>?_⟩
    have h1:=t i (by omega)
    rw[uo]at h1
    rw[h1,List.getElem?_take,if_pos (by omega),List.getD_eq_getElem?_getD]
  ·rw[N]at Y
   have hk:=Y ((zs.length)*8) (by
    simp only[DataW.weights,Tryz.underlying24,DataW.weightsEach,List.map,Tryz.underlying22,List.append_nil,List.mem_cons,List.mem_append,Tryz.bytesBits,lits,List.length_map,List.length_take,List.length_drop]
    refine .inr (.inr (.inl ?_))
    omega)
   simp only[reachBytes]at hk
   omega
end Go.Proofs.YtnnfjeieennffaaGreatDoor
namespace Go.Proofs.YtnnfjeieennffaaGreatDoor
open Go.ChangeShapes Go.WideShapes Go.ChangeAt Go.RowKit
set_option maxRecDepth 100000 in
theorem iO(H:Type)(enc:TypeId×Value→H)(W:World)(A:Nat)(d:Array Value)(L M:List (DataW H))(f:List MemPlace)
  (l:∀(j:Nat) t v,Tryz.f3.params[j]? =some t→d[j]? =some v→Value.okWide Tryz.prog W .any A t v)
  (hW:DataW.Whole enc Tryz.prog Tryz.f3.params.toList Rows.pivotFactorsSpec.vars false W d.toList L M f)
  (D:(DataW.weightsEach Tryz.prog (Tryz.f3.params.toList++(OpenSpec.ofChange Rows.pivotFactorsSpec).bare.plain.varTypes Tryz.prog) (L++M)).all (·≤reachBytes)=true) (N:laidMetH Tryz.prog Rows.pivotFactorsRow.laid W):
  Calls Tryz.prog 3 d W fun e W'=>∃v,e=.returned v∧Rows.pivotFactorsSpec.post enc Tryz.prog Tryz.f3 false true false false W d v W':=by
 have hT:cC W:=um N
 have G:(DataW.weightsEach Tryz.prog (Tryz.f3.params.toList++(OpenSpec.ofChange Rows.pivotFactorsSpec).bare.plain.varTypes Tryz.prog) (L++M)).all (·≤reachBytes)=true:=D
 have O:=hW
 obtain⟨p,q,K,hV,rfl,ae,aj⟩:=hW
 have hA:DataW.TrodAll enc Tryz.prog W 0 (fun _=>true) true Tryz.f3.params.toList d.toList L p:=K
 rw[Tryz.params3]at hA l G
 obtain⟨v0,am,d0,ao,p0,q0,U,rfl,rfl,h0,r0⟩:=trodAll_cons hA
 obtain⟨rfl,rfl,rfl⟩:=trodAll_nil r0
 obtain rfl:d= #[v0]:=by cases d;simp_all
 obtain⟨rfl,rfl⟩:=trodVars_none hV
 have k0:=h0
 have Q:∀x∈p0,x.block<W.heap.size:=by obtain⟨m,hm⟩:=k0;exact DataW.trod_lt m _ _ _ hm
 obtain⟨x0,z0,a0,c0,L0,rfl,V,X,Y,Z⟩:=uq (l 0 24 v0 rfl rfl) h0 (fun n hn=>of_decide_eq_true (List.all_eq_true.1 G n (DataW.weights_mem_each (j:=0) rfl rfl n hn)))
 clear K
 refine(kU x0 z0 a0 c0 L0 W V X Y Z hT).mono fun e W' ⟨he,F⟩=>?_
 subst he
 exact⟨_,rfl,_,_,_,[],_,[],O,trodAll_mk1 (shut_bool Tryz.underlying4 _),trodAll_cons_mk (Below.trod Tryz.laidOut (by kernel_rfl) (of_decide_eq_true (by kernel_rfl)) k0 F Q) (trodAll_mk0),rfl,F.frame _,fun h=>by cases h⟩
noncomputable def pivotFactors_world (os:Os):World:=
 {World.holding Tryz.prog os ⟨#[],#[],[]⟩with heap:=(World.holding Tryz.prog os ⟨#[],#[],[]⟩).heap.modify 1 fun
   | .cells _ t frozen=>.cells (Lib.deBruijn32tab.map fun z:Nat=>Value.int .u8 (z:Int)).toArray t frozen
   |o=>o}
theorem lU(d:Os):laidMet Tryz.prog Rows.pivotFactorsRow.laid ((pivotFactors_world d).forCall (fun _ _=>0) ⟨#[],#[.agg #[.int .i64 0,.int .i64 0,.slice none 0 0]],[]⟩).memory:=
 laidMet_of_run' 8 (by kernel_rfl) (by kernel_rfl)
theorem j4(f:Os){H:Type}(enc:TypeId×Value→H):∃d,DataW.whole enc Tryz.prog ((pivotFactors_world f).forCall (fun _ _=>0) ⟨#[],#[.agg #[.int .i64 0,.int .i64 0,.slice none 0 0]],[]⟩).memory Tryz.f3.params.toList Rows.pivotFactorsSpec.vars false #[.agg #[.int .i64 0,.int .i64 0,.slice none 0 0]].toList 8=some ([.agg [.lit (.int .i64 0),.lit (.int .i64 0),.nil]],[],d):=
 ⟨[],by kernel_rfl⟩
set_option maxRecDepth 100000 in
theorem jA(h:Os)(d:h.Started)(H:Type)(enc:TypeId×Value→H)(F:Stop.Interp):
  ReturnsInHanded {} Tryz.checked h 3 .any ((OpenSpec.ofChange Rows.pivotFactorsSpec).preRow enc Tryz.prog Tryz.f3 Rows.pivotFactorsRow.domain false Rows.pivotFactorsRow.laid) (((OpenSpec.ofChange Rows.pivotFactorsSpec).at F).post enc Tryz.prog Tryz.f3 false true false false):=by
 obtain⟨z,G⟩:=j4 h enc
 refine returnsInHanded_of_row (C:=Tryz.checked) (s:=OpenSpec.ofChange Rows.pivotFactorsSpec) Tryz.own d (by kernel_rfl) Tryz.func3
  (witness_row_at (enc:=enc) (C:=Tryz.checked) false (pivotFactors_world h) #[.agg #[.int .i64 0,.int .i64 0,.slice none 0 0]] rfl (by kernel_rfl) (by kernel_rfl) (by kernel_rfl)
   (OpenSpec.preRow_of_cond 8 G (by kernel_rfl) (fun k D=>by cases D) (by kernel_rfl) (lU h))) ?_
 intro W l m K L f t M _ _ A N _ _
 exact iO H enc W l m K L f t M A N
theorem kV:Rows.PivotFactorsSaid:=
 OpenClaim.holds_of_cond 3 Tryz.f3 rfl rfl rfl rfl rfl rfl rfl ⟨rfl,rfl,rfl,rfl,rfl⟩ rfl rfl rfl rfl rfl (by kernel_rfl) Tryz.func3 (by kernel_rfl)
  (of_decide_eq_true (by kernel_rfl)) (by unfold Func.isWrapper;first|(rw[if_pos (by decide+kernel)];kernel_rfl)|(rw[if_neg (by decide+kernel)];exact⟨rfl,rfl⟩))
  (fun f d H enc _ F=>by rw[OpenClaim.pre_eq_preRow];exact jA f d H enc F)
theorem j5(f:FuncId)(h:Func)(z:Tryz.pinned.checked.prog.funcNamed "dioptra/dioptralaw16.PivotFactors" =some f)(l:Tryz.pinned.checked.prog.funcs[f]? =some h):
  false=Tryz.pinned.checked.prog.looks []∧∀(j:Nat) t,h.params[j]? =some t→Tryz.pinned.checked.prog.wantsStandIn t=false:=by
 obtain rfl:f=3:=Option.some.inj ((show Tryz.prog.funcNamed "dioptra/dioptralaw16.PivotFactors" =some 3 by kernel_rfl).symm.trans z) |>.symm
 obtain rfl:h=Tryz.f3:=(Option.some.inj (Tryz.func3.symm.trans l)).symm
 refine⟨by kernel_rfl,fun j t m=>?_⟩
 rw[Tryz.params3]at m
 have A:t∈ [24]:=by simpa using Array.mem_of_getElem? m
 have d:([24].all fun u=>!Tryz.prog.wantsStandIn u)=true:=by kernel_rfl
 exact(show Tryz.prog.wantsStandIn t=false by simpa using List.all_eq_true.1 d t A)
theorem pivotFactors_card:Rows.PivotFactorsCardSaid:=
 Claim7.holds_tied_plain_at .later [] _ _ _ _ kV (fun _ h=>by cases h) (by kernel_rfl) (fun _ h=>by cases h) pivotFactors_row_tie rfl ⟨rfl,rfl⟩ (by kernel_rfl) rfl j5 (by kernel_rfl)
#print axioms pivotFactors_card
end Go.Proofs.YtnnfjeieennffaaGreatDoor
