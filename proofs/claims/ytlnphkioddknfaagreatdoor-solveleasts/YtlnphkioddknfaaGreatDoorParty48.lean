/- SolveLeasts is true for any two matrices: what Least tells, in new memory, is what the document's order tells. -/
import Derived.Test.YtlnphkioddknfaaGreatDoorParty47
import Derived.Deep.DeepHandedRow
import Derived.Test.YtlnphkioddknfaaGreatDoorCards
import Derived.Test.YtlnphkioddknfaaGreatDoorTie
set_option maxRecDepth 20000
namespace Go.Proofs.YtlnphkioddknfaaGreatDoor
open Go.ChangeShapes Go.WideShapes Go.ChangeAt Go.RowKit Go.Joins
theorem Tryz.tabName:Tryz.prog.globalNamed "math/bits.deBruijn32tab" =some 1:=by kernel_rfl
theorem Tryz.tabType:(Tryz.prog.globals[1]?).map (·.type)=some 245:=by kernel_rfl
theorem Tryz.tabCells:Tryz.prog.cellsOf 245=32:=by kernel_rfl
theorem Tryz.byteCells:Tryz.prog.cellsOf 5=1:=by kernel_rfl
theorem DO:∀j,j<Lib.deBruijn32tab.length→(List.map Int.ofNat Lib.deBruijn32tab).getD j 0=((Lib.deBruijn32tab.getD j 0:Nat):Int):=by decide
theorem uu{W:World}(h:laidMetH Tryz.prog [("math/bits.deBruijn32tab",Rows.laid_math_bits_deBruijn32tab)] W):b7 W:=by
 have f:=Lib.tabIs_of_head (zs:=Lib.deBruijn32tab.map Int.ofNat) (rest:=[]) Tryz.tabName Tryz.tabType Tryz.underlying245 Tryz.underlying5 Tryz.byteCells Tryz.tabCells h
 intro j d
 have:=f.cell Tryz.tabName j (by simpa using d)
 rw[this]
 congr 2
 exact DO j d
end Go.Proofs.YtlnphkioddknfaaGreatDoor
namespace Go.Proofs.YtlnphkioddknfaaGreatDoor
open Go.ChangeShapes Go.WideShapes Go.ChangeAt Go.RowKit Go.Joins Go.Deep
theorem Tryz.cellsBits:Tryz.prog.cellsOf 37=1:=by kernel_rfl
theorem Tryz.bytesBits:Tryz.prog.bytesOf 37=8:=by kernel_rfl
theorem rC{W:World}{a:Addr}{v:Value}(h:W.cell? a=some v):a.spot=none∧a.block<W.heap.size:=⟨World.cell?_spot h,World.block_lt_of_cell? W _ h⟩
theorem uv(b d i:Nat):(⟨b,d,none⟩:Addr).add i=⟨b,d+i,none⟩:=by simp[Addr.add]
theorem pm{x:Int}(h:(Lit.int .u64 x).wf=true):0≤x∧x≤18446744073709551615:=by
 simp[Lit.wf,IntKind.min,IntKind.max,IntKind.signed,IntKind.bits]at h
 omega
theorem Tryz.cellsMx:Tryz.prog.cellsOf 24=3:=by kernel_rfl
theorem mm{H:Type}{enc:TypeId×Value→H}{W:World}{A:Nat}{v:Value}{d:DataW H}{p:List MemPlace}(D:Value.okWide Tryz.prog W .any A 24 v)(h:DataW.Trod enc Tryz.prog W 0 (fun _=>true) true 24 v d p)
  (V:∀n∈d.weights Tryz.prog 24,n≤reachBytes):
  ∃(r c:Int) (ao:Option Addr) (cap:Nat) (I:List Int),v=.agg #[.int .i64 r,.int .i64 c,.slice ao I.length cap]∧ac W ao cap I∧I.length≤17592186043904∧(-9223372036854775808≤r∧r≤9223372036854775807)∧(-9223372036854775808≤c∧c≤9223372036854775807):=by
 obtain⟨c0,c1,c2,y0,y1,y2,m,rfl,rfl,rfl,M,N,O⟩:=open_agg3 Tryz.underlying24 (by kernel_rfl) Tryz.cellsMx D h
 obtain⟨r,e0,_,w0⟩:=DataW.trod_int Tryz.underlying3 M
 simp at e0
 subst e0
 obtain⟨c,K,_,w1⟩:=DataW.trod_int Tryz.underlying3 N
 simp at K
 subst K
 have X:=jW w0
 have Y:=jW w1
 rcases open_ints Tryz.underlying22 Tryz.underlying37 Tryz.cellsBits O with⟨l,_⟩|⟨a,f,y,zs,l,_,hl,hm,hz,L,t,U⟩
 ·simp at l
  subst l
  exact⟨r,c,none,0,[],rfl,⟨by simp,by simp,.inl rfl⟩,by simp,X,Y⟩
 ·simp at l
  subst l
  have ae:zs.length=y:=by simpa using hz
  have F:(zs.take f).length=f:=by simp;omega
  refine⟨r,c,some a,y,zs.take f,by rw[F],⟨by omega,fun x L=>pm (U x (List.mem_of_mem_take L)),?_⟩,?_,X,Y⟩
  ·rcases Nat.eq_zero_or_pos f with rfl|hp
   ·left;simp
   ·right
    obtain⟨b,Q,G⟩:=a
    obtain⟨K,e2⟩:=rC (t 0 (by omega))
    have z:G=none:=by simpa[Addr.add]using K
    subst z
    refine⟨b,Q,rfl,by simpa[Addr.add]using e2,fun i hi=>?_⟩
    have Z:=t i (by omega)
    rw[uv]at Z
    rw[Z,List.getElem?_take,if_pos (by omega),List.getD_eq_getElem?_getD]
  ·rw[L]at V
   have hk:=V ((zs.length)*8) (by
    simp only[DataW.weights,Tryz.underlying24,DataW.weightsEach,List.map,Tryz.underlying22,List.append_nil,List.mem_cons,List.mem_append,Tryz.bytesBits,lits,List.length_map,List.length_take,List.length_drop]
    refine .inr (.inr (.inl ?_))
    omega)
   simp only[reachBytes]at hk
   omega
end Go.Proofs.YtlnphkioddknfaaGreatDoor
namespace Go.Proofs.YtlnphkioddknfaaGreatDoor
open Go.ChangeShapes Go.WideShapes Go.ChangeAt Go.RowKit
set_option maxRecDepth 100000 in
theorem jy(H:Type)(enc:TypeId×Value→H)(W:World)(D:Nat)(d:Array Value)(I K:List (DataW H))(l:List MemPlace)
  (f:∀(j:Nat) t v,Tryz.f5.params[j]? =some t→d[j]? =some v→Value.okWide Tryz.prog W .any D t v)
  (hW:DataW.Whole enc Tryz.prog Tryz.f5.params.toList Rows.solveLeastsSpec.vars false W d.toList I K l)
  (F:(DataW.weightsEach Tryz.prog (Tryz.f5.params.toList++(OpenSpec.ofChange Rows.solveLeastsSpec).bare.plain.varTypes Tryz.prog) (I++K)).all (·≤reachBytes)=true) (L:laidMetH Tryz.prog Rows.solveLeastsRow.laid W):
  Calls Tryz.prog 5 d W fun e W'=>∃v,e=.returned v∧Rows.solveLeastsSpec.post enc Tryz.prog Tryz.f5 false true false false W d v W':=by
 have hT:b7 W:=uu L
 have A:(DataW.weightsEach Tryz.prog (Tryz.f5.params.toList++(OpenSpec.ofChange Rows.solveLeastsSpec).bare.plain.varTypes Tryz.prog) (I++K)).all (·≤reachBytes)=true:=F
 have N:=hW
 obtain⟨p,q,G,hV,rfl,ax,aI⟩:=hW
 have hA:DataW.TrodAll enc Tryz.prog W 0 (fun _=>true) true Tryz.f5.params.toList d.toList I p:=G
 rw[Tryz.params5]at hA f A
 obtain⟨v0,a2,d0,a3,p0,q0,Q,rfl,rfl,h0,r0⟩:=trodAll_cons hA
 obtain⟨v1,a4,d1,a5,p1,q1,rfl,rfl,rfl,h1,r1⟩:=trodAll_cons r0
 obtain⟨rfl,rfl,rfl⟩:=trodAll_nil r1
 obtain rfl:d= #[v0,v1]:=by cases d;simp_all
 obtain⟨rfl,rfl⟩:=trodVars_none hV
 have k0:=h0
 have O:∀x∈p0,x.block<W.heap.size:=by obtain⟨m,U⟩:=k0;exact DataW.trod_lt m _ _ _ U
 obtain⟨x0,z0,a0,c0,L0,rfl,V,X,Y,Z⟩:=mm (f 0 24 v0 rfl rfl) h0 (fun n M=>of_decide_eq_true (List.all_eq_true.1 A n (DataW.weights_mem_each (j:=0) rfl rfl n M)))
 have k1:=h1
 have JM:∀x∈p1,x.block<W.heap.size:=by obtain⟨m,U⟩:=k1;exact DataW.trod_lt m _ _ _ U
 obtain⟨x1,z1,a1,c1,L1,rfl,ae,aj,ak,am⟩:=mm (f 1 24 v1 rfl rfl) h1 (fun n M=>of_decide_eq_true (List.all_eq_true.1 A n (DataW.weights_mem_each (j:=1) rfl rfl n M)))
 clear G
 refine(lO x0 z0 a0 c0 L0 x1 z1 a1 c1 L1 W V X Y Z ae aj ak am hT).mono fun e W' ⟨he,y⟩=>?_
 subst he
 exact⟨_,rfl,_,_,_,[],_,[],N,trodAll_mk1 (shut_bool Tryz.underlying4 _),trodAll_cons_mk (Below.trod Tryz.laidOut (by kernel_rfl) (of_decide_eq_true (by kernel_rfl)) k0 y O) (trodAll_cons_mk (Below.trod Tryz.laidOut (by kernel_rfl) (of_decide_eq_true (by kernel_rfl)) k1 y JM) (trodAll_mk0)),rfl,y.frame _,fun h=>by cases h⟩
noncomputable def solveLeasts_world (os:Os):World:=
 {World.holding Tryz.prog os ⟨#[],#[],[]⟩with heap:=(World.holding Tryz.prog os ⟨#[],#[],[]⟩).heap.modify 1 fun
   | .cells _ t frozen=>.cells (Lib.deBruijn32tab.map fun z:Nat=>Value.int .u8 (z:Int)).toArray t frozen
   |o=>o}
theorem mv(d:Os):laidMet Tryz.prog Rows.solveLeastsRow.laid ((solveLeasts_world d).forCall (fun _ _=>0) ⟨#[],#[.agg #[.int .i64 0,.int .i64 0,.slice none 0 0],.agg #[.int .i64 0,.int .i64 0,.slice none 0 0]],[]⟩).memory:=
 laidMet_of_run' 8 (by kernel_rfl) (by kernel_rfl)
theorem k6(f:Os){H:Type}(enc:TypeId×Value→H):∃d,DataW.whole enc Tryz.prog ((solveLeasts_world f).forCall (fun _ _=>0) ⟨#[],#[.agg #[.int .i64 0,.int .i64 0,.slice none 0 0],.agg #[.int .i64 0,.int .i64 0,.slice none 0 0]],[]⟩).memory Tryz.f5.params.toList Rows.solveLeastsSpec.vars false #[.agg #[.int .i64 0,.int .i64 0,.slice none 0 0],.agg #[.int .i64 0,.int .i64 0,.slice none 0 0]].toList 8=some ([.agg [.lit (.int .i64 0),.lit (.int .i64 0),.nil],.agg [.lit (.int .i64 0),.lit (.int .i64 0),.nil]],[],d):=
 ⟨[],by kernel_rfl⟩
set_option maxRecDepth 100000 in
theorem km(h:Os)(d:h.Started)(H:Type)(enc:TypeId×Value→H)(F:Stop.Interp):
  ReturnsInHanded {} Tryz.checked h 5 .any ((OpenSpec.ofChange Rows.solveLeastsSpec).preRow enc Tryz.prog Tryz.f5 Rows.solveLeastsRow.domain false Rows.solveLeastsRow.laid) (((OpenSpec.ofChange Rows.solveLeastsSpec).at F).post enc Tryz.prog Tryz.f5 false true false false):=by
 obtain⟨y,D⟩:=k6 h enc
 refine returnsInHanded_of_row (C:=Tryz.checked) (s:=OpenSpec.ofChange Rows.solveLeastsSpec) Tryz.own d (by kernel_rfl) Tryz.func5
  (witness_row_at (enc:=enc) (C:=Tryz.checked) false (solveLeasts_world h) #[.agg #[.int .i64 0,.int .i64 0,.slice none 0 0],.agg #[.int .i64 0,.int .i64 0,.slice none 0 0]] rfl (by kernel_rfl) (by kernel_rfl) (by kernel_rfl)
   (OpenSpec.preRow_of_cond 8 D (by kernel_rfl) (fun k A=>by cases A) (by kernel_rfl) (mv h))) ?_
 intro W l m G I f t K _ _ z L _ _
 exact jy H enc W l m G I f t K z L
theorem lP:Rows.SolveLeastsSaid:=
 OpenClaim.holds_of_cond 5 Tryz.f5 rfl rfl rfl rfl rfl rfl rfl ⟨rfl,rfl,rfl,rfl,rfl⟩ rfl rfl rfl rfl rfl (by kernel_rfl) Tryz.func5 (by kernel_rfl)
  (of_decide_eq_true (by kernel_rfl)) (by unfold Func.isWrapper;first|(rw[if_pos (by decide+kernel)];kernel_rfl)|(rw[if_neg (by decide+kernel)];exact⟨rfl,rfl⟩))
  (fun f d H enc _ F=>by rw[OpenClaim.pre_eq_preRow];exact km f d H enc F)
theorem k7(f:FuncId)(h:Func)(y:Tryz.pinned.checked.prog.funcNamed "dioptra/dioptralaw17.SolveLeasts" =some f)(l:Tryz.pinned.checked.prog.funcs[f]? =some h):
  false=Tryz.pinned.checked.prog.looks []∧∀(j:Nat) t,h.params[j]? =some t→Tryz.pinned.checked.prog.wantsStandIn t=false:=by
 obtain rfl:f=5:=Option.some.inj ((show Tryz.prog.funcNamed "dioptra/dioptralaw17.SolveLeasts" =some 5 by kernel_rfl).symm.trans y) |>.symm
 obtain rfl:h=Tryz.f5:=(Option.some.inj (Tryz.func5.symm.trans l)).symm
 refine⟨by kernel_rfl,fun j t m=>?_⟩
 rw[Tryz.params5]at m
 have z:t∈ [24,24]:=by simpa using Array.mem_of_getElem? m
 have d:([24,24].all fun u=>!Tryz.prog.wantsStandIn u)=true:=by kernel_rfl
 exact(show Tryz.prog.wantsStandIn t=false by simpa using List.all_eq_true.1 d t z)
theorem solveLeasts_card:Rows.SolveLeastsCardSaid:=
 Claim7.holds_tied_plain_at .later [] _ _ _ _ lP (fun _ h=>by cases h) (by kernel_rfl) (fun _ h=>by cases h) solveLeasts_row_tie rfl ⟨rfl,rfl⟩ (by kernel_rfl) rfl k7 (by kernel_rfl)
#print axioms solveLeasts_card
end Go.Proofs.YtlnphkioddknfaaGreatDoor
