/- SolveUpright is true for any two matrices: what Least tells of numbers that are neither very great nor very small nearly stands upright. -/
import Derived.Test.YtcbcmlaogehimaaGreatDoorPartu41
import Derived.Test.YtcbcmlaogehimaaGreatDoorCards
import Derived.Test.YtcbcmlaogehimaaGreatDoorTie
set_option maxRecDepth 20000
namespace Go.Proofs.YtcbcmlaogehimaaGreatDoor
open Go.ChangeShapes Go.WideShapes Go.ChangeAt Go.RowKit Go.Joins Go.Deep
theorem Tryz.cellsMx:Tryz.prog.cellsOf 24=3:=by kernel_rfl
theorem pF{H:Type}{enc:TypeId×Value->H}{W:World}{J:Nat}{v:Value}{d:DataW H}{p:List MemPlace}(K:Value.okWide Tryz.prog W .any J 24 v)(h:DataW.Trod enc Tryz.prog W 0 (fun _=>true) true 24 v d p)
  (hs:∀n∈d.weights Tryz.prog 24,n<=reachBytes):
  ∃(r c:Int) (ao:GY) (cap:Nat) (I:List Int),v=.agg #[C0 r,C0 c,.slice ao I.length cap]/\ag W ao cap I/\I.length<=17592186043904/\(-9223372036854775808<=r/\r<=9223372036854775807)/\(-9223372036854775808<=c/\c<=9223372036854775807):=by
 obtain⟨c0,c1,c2,y0,y1,y2,m,rfl,rfl,rfl,Q,U,Z⟩:=open_agg3 Tryz.underlying24 (by kernel_rfl) Tryz.cellsMx K h;obtain⟨r,e0,_,w0⟩:=DataW.trod_int Tryz.underlying3 Q
 simp at e0
 subst e0;obtain⟨c,N,_,w1⟩:=DataW.trod_int Tryz.underlying3 U
 simp at N
 subst N;have b0:=mA w0;have b1:=mA w1;rcases open_ints Tryz.underlying22 Tryz.underlying69 Tryz.cellsBits Z with⟨t,_⟩|⟨a,l,F,zs,t,_,hl,hm,hz,O,D,ae⟩
 ·simp at t
  subst t;exact⟨r,c,none,0,[],rfl,⟨by simp,by simp,.inl rfl⟩,by simp,b0,b1⟩
 ·simp at t
  subst t;have am:zs.length=F:=by simpa using hz
  have L:(zs.take l).length=l:=by simp;omega
  refine⟨r,c,some a,F,zs.take l,by rw[L],⟨by omega,fun x O=>tr (ae x (List.mem_of_mem_take O)),?_⟩,?_,b0,b1⟩
  ·rcases Nat.eq_zero_or_pos l with rfl|hp
   ·left;simp
   ·right
    obtain⟨b,aa,M⟩:=a;obtain⟨N,e2⟩:=vB (D 0 (by omega));have G:M=none:=by simpa[Addr.add]using N
    subst G;refine⟨b,aa,rfl,by simpa[Addr.add]using e2,fun i hi=>?_⟩;have h1:=D i (by omega);rw[yy]at h1;rw[h1,List.getElem?_take,if_pos (by omega),List.getD_eq_getElem?_getD]
  ·rw[O]at hs
   have hk:=hs ((zs.length)*8) (by
    simp only[DataW.weights,Tryz.underlying24,DataW.weightsEach,List.map,Tryz.underlying22,List.append_nil,List.mem_cons,List.mem_append,Tryz.bytesBits,lits,List.length_map,List.length_take,List.length_drop];refine .inr (.inr (.inl ?_));omega)
   simp only[reachBytes]at hk;omega
end Go.Proofs.YtcbcmlaogehimaaGreatDoor
namespace Go.Proofs.YtcbcmlaogehimaaGreatDoor
open Go.ChangeShapes Go.WideShapes Go.ChangeAt Go.RowKit
set_option maxRecDepth 100000 in
theorem kz(H:Type)(enc:TypeId×Value->H)(W:World)(I:Nat)(args:Array Value)(L M:List (DataW H))(D:List MemPlace)
  (l:∀(j:Nat) t v,Tryz.f3.params[j]? =some t->args[j]? =some v->Value.okWide Tryz.prog W .any I t v)
  (hW:DataW.Whole enc Tryz.prog Tryz.f3.params.toList Rows.solveUprightSpec.vars false W args.toList L M D)
  (J:(DataW.weightsEach Tryz.prog (Tryz.f3.params.toList++(OpenSpec.ofChange Rows.solveUprightSpec).bare.plain.varTypes Tryz.prog) (L++M)).all (·<=reachBytes)=true) (N:laidMetH Tryz.prog Rows.solveUprightRow.laid W):
  GF 3 args W fun e W'=>∃v,e=.returned v/\Rows.solveUprightSpec.post enc Tryz.prog Tryz.f3 false true false false W args v W':=by
 have hT:cX W:=yx N;have G:(DataW.weightsEach Tryz.prog (Tryz.f3.params.toList++(OpenSpec.ofChange Rows.solveUprightSpec).bare.plain.varTypes Tryz.prog) (L++M)).all (·<=reachBytes)=true:=J;have Q:=hW;obtain⟨p,q,K,hV,rfl,a4,a5⟩:=hW;have hA:DataW.TrodAll enc Tryz.prog W 0 (fun _=>true) true Tryz.f3.params.toList args.toList L p:=K;rw[Tryz.params3]at hA l G;obtain⟨v0,a6,d0,a7,p0,q0,Z,rfl,rfl,h0,r0⟩:=trodAll_cons hA;obtain⟨v1,a9,d1,ba,p1,q1,rfl,rfl,rfl,h1,r1⟩:=trodAll_cons r0;obtain⟨rfl,rfl,rfl⟩:=trodAll_nil r1;obtain rfl:args= #[v0,v1]:=by cases args;simp_all
 obtain⟨rfl,rfl⟩:=trodVars_none hV;have k0:=h0;have U:∀x∈p0,x.block<W.heap.size:=by obtain⟨m,hm⟩:=k0;exact DataW.trod_lt m _ _ _ hm
 obtain⟨x0,z0,a0,c0,L0,rfl,aa,ae,am,ap⟩:=pF (l 0 24 v0 rfl rfl) h0 (fun n O=>of_decide_eq_true (List.all_eq_true.1 G n (DataW.weights_mem_each (j:=0) rfl rfl n O)));have k1:=h1;have Q9:∀x∈p1,x.block<W.heap.size:=by obtain⟨m,hm⟩:=k1;exact DataW.trod_lt m _ _ _ hm
 obtain⟨x1,z1,a1,c1,L1,rfl,ax,aI,a2,a3⟩:=pF (l 1 24 v1 rfl rfl) h1 (fun n O=>of_decide_eq_true (List.all_eq_true.1 G n (DataW.weights_mem_each (j:=1) rfl rfl n O)));clear K;refine(oA x0 z0 a0 c0 L0 x1 z1 a1 c1 L1 W aa ae am ap ax aI a2 a3 hT).mono fun e W' ⟨he,F⟩=>?_
 subst he;exact⟨_,rfl,_,_,_,[],_,[],Q,trodAll_mk1 (shut_bool Tryz.underlying4 _),trodAll_cons_mk (Below.trod Tryz.laidOut (by kernel_rfl) (of_decide_eq_true (by kernel_rfl)) k0 F U) (trodAll_cons_mk (Below.trod Tryz.laidOut (by kernel_rfl) (of_decide_eq_true (by kernel_rfl)) k1 F Q9) (trodAll_mk0)),rfl,F.frame _,fun h=>by cases h⟩
noncomputable def solveUpright_world (os:Os):World:=
 {World.holding Tryz.prog os ⟨#[],#[],[]⟩with heap:=(World.holding Tryz.prog os ⟨#[],#[],[]⟩).heap.modify 1 fun
   | .cells _ t frozen=>.cells (Lib.deBruijn32tab.map fun z:Nat=>Value.int .u8 (z:Int)).toArray t frozen
   |o=>o}
theorem pe(h:Os):laidMet Tryz.prog Rows.solveUprightRow.laid ((solveUpright_world h).forCall (fun _ _=>0) ⟨#[],#[.agg #[C0 0,C0 0,.slice none 0 0],.agg #[C0 0,C0 0,.slice none 0 0]],[]⟩).memory:=
 laidMet_of_run' 8 (by kernel_rfl) (by kernel_rfl)
theorem nm(l:Os){H:Type}(enc:TypeId×Value->H):∃h,DataW.whole enc Tryz.prog ((solveUpright_world l).forCall (fun _ _=>0) ⟨#[],#[.agg #[C0 0,C0 0,.slice none 0 0],.agg #[C0 0,C0 0,.slice none 0 0]],[]⟩).memory Tryz.f3.params.toList Rows.solveUprightSpec.vars false #[.agg #[C0 0,C0 0,.slice none 0 0],.agg #[C0 0,C0 0,.slice none 0 0]].toList 8=some ([.agg [.lit (.int .i64 0),.lit (.int .i64 0),.nil],.agg [.lit (.int .i64 0),.lit (.int .i64 0),.nil]],[],h):=
 ⟨[],by kernel_rfl⟩
set_option maxRecDepth 100000 in
theorem mo(t:Os)(h:t.Started)(H:Type)(enc:TypeId×Value->H)(F:Stop.Interp):
  ReturnsInHanded {} Tryz.checked t 3 .any ((OpenSpec.ofChange Rows.solveUprightSpec).preRow enc Tryz.prog Tryz.f3 Rows.solveUprightRow.domain false Rows.solveUprightRow.laid) (((OpenSpec.ofChange Rows.solveUprightSpec).at F).post enc Tryz.prog Tryz.f3 false true false false):=by
 obtain⟨I,L⟩:=nm t enc;refine returnsInHanded_of_row (C:=Tryz.checked) (s:=OpenSpec.ofChange Rows.solveUprightSpec) Tryz.own h (by kernel_rfl) Tryz.func3
  (witness_row_at (enc:=enc) (C:=Tryz.checked) false (solveUpright_world t) #[.agg #[C0 0,C0 0,.slice none 0 0],.agg #[C0 0,C0 0,.slice none 0 0]] rfl (by kernel_rfl) (by kernel_rfl) (by kernel_rfl)
   (OpenSpec.preRow_of_cond 8 L (by kernel_rfl) (fun k K=>by cases K) (by kernel_rfl) (pe t))) ?_
 intro W D args M N l G O _ _ J Q _ _;exact kz H enc W D args M N l G O J Q
theorem pO:(Rows.solveUprightRow.inPlace==Tryz.pinned.checked.prog.inPlace 3)=true:=by kernel_rfl
theorem pP:(Rows.solveUprightRow.unfollowed==Tryz.pinned.checked.prog.unfollowed 3)=true:=by kernel_rfl
theorem pQ:(Rows.solveUprightRow.recurses==Tryz.pinned.checked.prog.recurses 3)=true:=by kernel_rfl
theorem pR:(Rows.solveUprightRow.named==Tryz.pinned.checked.prog.varsNamed 3)=true:=by kernel_rfl
theorem pU:(Rows.solveUprightRow.lifted==Tryz.pinned.checked.prog.liftsFinal)=true:=by kernel_rfl
theorem pV:(Tryz.pinned.checked.prog.stops==[])=true:=by kernel_rfl
theorem pW:(Tryz.pinned.checked.prog.stopKnobs==[])=true:=by kernel_rfl
theorem pX:Tryz.pinned.checked.prog.stopsHeard=true:=by kernel_rfl
theorem pY:Tryz.pinned.checked.prog.mayEnter=true:=by kernel_rfl
theorem pf:(Rows.solveUprightRow.plainKeys==Tryz.pinned.checked.prog.plainKeys)=true:=by kernel_rfl
theorem pg:(Tryz.pinned.checked.prog.make==some Rows.solveUprightRow.make)=true:=by kernel_rfl
theorem mp:joinedFacts Tryz.pinned.checked.prog 3 Tryz.f3 (OpenSpec.ofChange Rows.solveUprightSpec).bare Rows.solveUprightRow=true:=by
 simp only[joinedFacts,Bool.and_eq_true]
 repeat' apply And.intro
 all_goals first
  |with_reducible exact pO
  |with_reducible exact pP
  |with_reducible exact pQ
  |with_reducible exact pR
  |with_reducible exact pU
  |with_reducible exact pV
  |with_reducible exact pW
  |with_reducible exact pX
  |with_reducible exact pY
  |with_reducible exact pf
  |with_reducible exact pg
  |kernel_rfl
theorem oB:Rows.SolveUprightSaid:=
 OpenClaim.holds_of_cond 3 Tryz.f3 rfl rfl rfl rfl rfl rfl rfl ⟨rfl,rfl,rfl,rfl,rfl⟩ rfl rfl rfl rfl rfl (by kernel_rfl) Tryz.func3 mp
  (of_decide_eq_true (by kernel_rfl)) (by unfold Func.isWrapper;first|(rw[if_pos (by decide+kernel)];kernel_rfl)|(rw[if_neg (by decide+kernel)];exact⟨rfl,rfl⟩))
  (fun l h H enc _ F=>by rw[OpenClaim.pre_eq_preRow];exact mo l h H enc F)
theorem no(f:FuncId)(l:Func)(G:Tryz.pinned.checked.prog.funcNamed "dioptra/dioptralaw17.SolveUpright" =some f)(D:Tryz.pinned.checked.prog.funcs[f]? =some l):
  false=Tryz.pinned.checked.prog.looks []/\∀(j:Nat) t,l.params[j]? =some t->Tryz.pinned.checked.prog.wantsStandIn t=false:=by
 obtain rfl:f=3:=Option.some.inj ((show Tryz.prog.funcNamed "dioptra/dioptralaw17.SolveUpright" =some 3 by kernel_rfl).symm.trans G) |>.symm;obtain rfl:l=Tryz.f3:=(Option.some.inj (Tryz.func3.symm.trans D)).symm;refine⟨by kernel_rfl,fun j t F=>?_⟩;rw[Tryz.params3]at F;have H:t∈ [24,24]:=by simpa using Array.mem_of_getElem? F
 have h:([24,24].all fun u=>!Tryz.prog.wantsStandIn u)=true:=by kernel_rfl
 exact(show Tryz.prog.wantsStandIn t=false by simpa using List.all_eq_true.1 h t H)
theorem solveUpright_card:Rows.SolveUprightCardSaid:=
 Claim7.holds_tied_plain_at .later [] _ _ _ _ oB (fun _ h=>by cases h) (by kernel_rfl) (fun _ h=>by cases h) solveUpright_row_tie rfl ⟨rfl,rfl⟩ (by kernel_rfl) rfl no (by kernel_rfl)
#print axioms solveUpright_card
end Go.Proofs.YtcbcmlaogehimaaGreatDoor
