/- PivotWhole is true for any two small numbers and any list of small whole numbers: the rank that is told of a whole matrix of at most four rows and columns is its rank. -/
import Derived.Test.YtmpkkhackbpflaaGreatDoorPartg53
import Derived.Test.YtmpkkhackbpflaaGreatDoorCards
import Derived.Test.YtmpkkhackbpflaaGreatDoorTie
namespace Go.Proofs.YtmpkkhackbpflaaGreatDoor
open Go.RowKit
theorem Ja(n:Int):floatOfInt .f64 n=iV n:=by
 have h:floatOfInt .f64 n=Ieee.double.nearest (decide (n<0)) n.natAbs 0:=rfl
 rw[h,u4]
 rfl
theorem Ah(n:Int)(l:n≠0):(oM n).natAbs*2^(oE n 0).toNat=n.natAbs:=by
 have h:=mq n 0 l
 rw[Int.sub_zero]at h
 have d:=congrArg Int.natAbs h
 rw[Int.natAbs_mul,Int.natAbs_pow]at d
 exact d
theorem Mo(n:Int)(d:n≠0):0≤oE n 0:=by rw[d9 _ _ d];omega
theorem Nw(n:Int)(d:n≠0)(h:-9007199254740992≤n∧n≤9007199254740992):(oM n).natAbs<9007199254740992∧(oM n).natAbs≠0∧oE n 0≤64:=by
 have l:=iB n d
 have t:=Ah n d
 have z:=rI n
 have D:=Kn n (by omega) d
 have F:oE n 0=0+(tz n.natAbs:Int):=d9 n 0 d
 refine⟨?_,by omega,by omega⟩
 have G:(oM n).natAbs%2=1:=by omega
 omega
theorem FO(v i K:Nat)(E:Int)(d:E=(i:Nat))(h:K=1074):v*2^(E+1074).toNat=v*2^i*2^K:=by
 rw[Nat.mul_assoc,←Nat.pow_add,d,show(((i:Nat):Int)+1074).toNat=i+K by omega]
theorem qC(n:Int)(h:-9007199254740992≤n∧n≤9007199254740992):ah (iV n)=true∧fQ (iV n)=(n:Rat):=by
 by_cases d:n=0
 ·subst d
  have e:iV 0=0:=by decide+kernel
  rw[e]
  exact⟨by decide,ix⟩
 obtain⟨Q,H,Y⟩:=Nw n d h
 have V:=Mo n d
 have X:=zt Q
 obtain⟨I,T⟩:=jr n 0
 obtain⟨Z,r4⟩:=T d
 have z:aB (oM n).natAbs (oE n 0)≤oE n 0:=by unfold aB;omega
 have D:(bl (oM n).natAbs:Int)+oE n 0≤1024:=by omega
 have l:=sH _ _ H D z
 have F:=Dy _ _ H D z
 obtain⟨K,U⟩:∃K:Nat,K=1074:=⟨_,rfl⟩
 rw[FO _ (oE n 0).toNat K (oE n 0) (by omega) U,Ah n d,I]at F
 rw[I]at l
 have t:ah (iV n)=true:=(cF _).2.2.2 (by unfold iV;rw[gu _ _ (by omega)];exact l)
 have M:fZ (iV n)=n*2^K:=by
  unfold iV
  rw[xn _ _ (by omega)]
  unfold pv
  rw[F]
  by_cases G:n<0
  ·rw[decide_eq_true G,if_pos rfl]
   have:(n.natAbs:Int)= -n:=by omega
   rw[Int.natCast_mul,this,Int.natCast_pow]
   simp[Int.neg_mul]
  ·rw[decide_eq_false G,if_neg (by decide)]
   have:(n.natAbs:Int)=n:=by omega
   rw[Int.natCast_mul,this,Int.natCast_pow]
   rfl
 refine⟨t,?_⟩
 unfold fQ
 have e:=dG (-1074) K
 rw[show(-1074:Int)+((K:Nat):Int)=0 by omega,kF]at e
 obtain⟨J,L⟩:∃J:Nat,2^K=J:=⟨_,rfl⟩
 have N:(2:Int)^K=(J:Int):=by rw[←L,Int.natCast_pow];rfl
 rw[L]at e
 rw[M,N,Rat.intCast_mul,Rat.mul_assoc]
 have O:(((J:Nat):Int):Rat)=((J:Nat):Rat):=rfl
 rw[O,←e,Rat.mul_one]
def Ai(I:List Int)(n k:Nat):List Nat:=(List.range n).map (fun x=>if x<k then iV (Int.tmod (nZ I x) 5)else 0)
theorem mQ(I:List Int)(n k:Nat):(Ai I n k).length=n:=by unfold Ai;rw[List.length_map,List.length_range]
theorem Mp(I:List Int){n k x:Nat}(d:x<n):(Ai I n k).getD x 0=if x<k then iV (Int.tmod (nZ I x) 5)else 0:=by
 unfold Ai
 rw[List.getD_eq_getElem?_getD,List.getElem?_map,List.getElem?_range d]
 rfl
theorem Aj(I:List Int)(n k i:Nat)(h:i<(Ai I n k).length):(Ai I n k)[i]=if i<k then iV (Int.tmod (nZ I i) 5)else 0:=by
 simp only[Ai,List.getElem_map,List.getElem_range]
theorem Jb(I:List Int)(n k:Nat):(Ai I n k).set k (iV (Int.tmod (nZ I k) 5))=Ai I n (k+1):=by
 refine List.ext_getElem (by rw[List.length_set,mQ,mQ]) (fun i h d=>?_)
 rw[mQ]at d
 rw[List.getElem_set,Aj I n (k+1) i]
 by_cases g:k=i
 ·subst g
  rw[if_pos rfl,if_pos (by omega)]
 ·rw[if_neg g,Aj I n k i]
  by_cases q:i<k
  ·rw[if_pos q,if_pos (by omega)]
  ·rw[if_neg q,if_neg (by omega)]
theorem Ak(x:Int):-4≤Int.tmod x 5∧Int.tmod x 5≤4:=by
 have d:=Int.tmod_lt_of_pos x (show(0:Int)<5 by decide)
 have h:=Int.lt_tmod_of_pos x (show(0:Int)<5 by decide)
 omega
theorem Al(I:List Int)(n k:Nat):∀x∈Ai I n k,x<18446744073709551616∧ah x=true:=by
 intro x d
 obtain⟨i,_,rfl⟩:=List.mem_map.1 d
 have:=Ak (nZ I i)
 split
 ·exact⟨DW _,(qC _ (by omega)).1⟩
 ·exact⟨by decide,by decide⟩
theorem oB(p q:Nat)(T:Option Addr)(z:Nat)(I:List Int)(w:World)(hp:p<256)(hq:q<256)(hI:Mn w T z I)(hl:I.length≤281474976710656)(U:c8 w):
  Calls Tryz.prog 3 #[.int .u8 p,.int .u8 q,.slice T I.length z] w fun e d=>e=.returned (.bool true)∧Below w.heap.size w d:=by
 obtain⟨a,ha⟩:∃a,p%5=a:=⟨_,rfl⟩
 obtain⟨b,L⟩:∃b,q%5=b:=⟨_,rfl⟩
 have a4:a≤4:=by omega
 have b4:b≤4:=by omega
 obtain⟨S,O⟩:∃S,Ai I (a*b) (min (a*b) I.length)=S:=⟨_,rfl⟩
 have G:S.length=a*b:=by rw[←O];exact mQ _ _ _
 have Y:∀x∈S,x<18446744073709551616∧ah x=true:=by rw[←O];exact Al _ _ _
 have el:∀i k,i<a→k<b→cj b S i k=if i*b+k<I.length then iV (Int.tmod (nZ I (i*b+k)) 5)else 0:=fun i k H J=>by
  have D:i*b+k<a*b:=gN H J
  unfold cj
  rw[←O,Mp I D]
  by_cases g:i*b+k<I.length
  ·rw[if_pos g,if_pos (by omega)]
  ·rw[if_neg g,if_neg (by omega)]
 have hW:∀i k,i<a→k<b→cj b S i k<18446744073709551616∧ah (cj b S i k)=true∧fQ (cj b S i k)=(((fun k i=>if i*b+k<I.length then Int.tmod (nZ I (i*b+k)) 5 else 0) k i:Int):Rat):=fun i k H J=>by
  rw[el i k H J]
  show _∧_∧_=((if i*b+k<I.length then Int.tmod (nZ I (i*b+k)) 5 else 0:Int):Rat)
  have:=Ak (nZ I (i*b+k))
  by_cases g:i*b+k<I.length
  ·rw[if_pos g,if_pos g]
   exact⟨DW _,qC _ (by omega)⟩
  ·rw[if_neg g,if_neg g]
   exact⟨by decide,by decide,ix⟩
 have hv:∀k i,-4≤(fun k i=>if i*b+k<I.length then Int.tmod (nZ I (i*b+k)) 5 else 0) k i∧(fun k i=>if i*b+k<I.length then Int.tmod (nZ I (i*b+k)) 5 else 0) k i≤4:=fun k i=>by
  have:=Ak (nZ I (i*b+k))
  show-4≤(if i*b+k<I.length then Int.tmod (nZ I (i*b+k)) 5 else 0)∧(if i*b+k<I.length then Int.tmod (nZ I (i*b+k)) 5 else 0)≤4
  split<;>omega
 have hR:=yU (S:=S) a4 b4 _ hv hW
 have Z:gD (p2 200) a b S:=fun i k H J=>by
  obtain⟨l,t,Q⟩:=hW i k H J
  refine⟨l,t,?_⟩
  rw[Q]
  have M:=hv k i
  generalize (fun k i=>if i*b+k<I.length then Int.tmod (nZ I (i*b+k)) 5 else 0) k i=n at*
  have n1:(n:Rat)≤((4:Int):Rat):=Rat.intCast_le_intCast.2 M.2
  have n2:((-4:Int):Rat)≤(n:Rat):=Rat.intCast_le_intCast.2 M.1
  have e1:((4:Int):Rat)=4:=rfl
  have e2:((-4:Int):Rat)= -4:=rfl
  have p3:p2 3=8:=by rw[show(3:Int)=((3:Nat):Int) by rfl,cR];rfl
  have p4:=aA (show(3:Int)≤200 by decide)
  exact bU (by grind) (by grind)
 have N:eM S=true:=Z.fins G
 have hK:=Cb Z G (by omega)
 have aa:=(Z.all (by omega) (min b a) (Nat.le_refl _)).1
 have lr:(jD a b S).length=a*b:=kx a b S G _
 have ad:eM (jD a b S)=true:=aa.fins lr
 refine rh p q a b (a*b) I.length z T I w hI rfl hl ha L hp hq (Ai I (a*b)) (fun k=>iV (Int.tmod (nZ I k) 5)) (fun k=>iV (Int.tmod (nZ I k) 5)) (Ci a b S) (jD a b S) (FG a b (jD a b S):Nat) (fun k=>mQ _ _ _) (fun k x D=>(Al I (a*b) k x D).1) (fun k _ _=>Jb I (a*b) k) (fun k _=>Ja _) (min (a*b) I.length) (fun k l t Q=>by omega) (fun d=>?_) (fun d k _=>?_) (fun d V X L F=>?_) (fun d ro rc L F=>?_) (fun d V X F=>?_) (fun d=>?_) (oA w U)
 ·refine(yk a b d (by omega) (by omega)).mono ?_
  rintro e h ⟨g,rfl,l,t,Q⟩
  refine⟨g,rfl,l,?_,Q⟩
  have e:Ai I (a*b) 0=List.replicate (a*b) 0:=by
   unfold Ai
   rw[List.eq_replicate_iff]
   refine⟨by simp,fun x D=>?_⟩
   obtain⟨i,_,rfl⟩:=List.mem_map.1 D
   exact if_neg (by omega)
  rw[e]
  exact t
 ·refine Nh _ _ d (fun h=>?_)
  have:=Be (iV (Int.tmod (nZ I k) 5)) h (DW _)
  have k4:fK (iV (Int.tmod (nZ I k) 5))≠4:=(bY (qC _ (by have:=Ak (nZ I k);omega)).1).2
  rw[if_neg k4]at this
  exact this
 ·rw[O]at F
  have:=ov a b X V S d ⟨F,G,by omega,by omega⟩ N hK (U.all L)
  rw[G]at this
  refine this.mono ?_
  rintro e h ⟨v,u,lo,lc,rfl,l,t,_,_,ae⟩
  exact⟨v,u,lo,lc,rfl,l,t,ae⟩
 ·exact Cf a b rc ro (jD a b S) d ⟨F,lr,by omega,by omega⟩ ad (U.all L)
 ·rw[O]at F
  have:=wg a b X V S d ⟨F,G,by omega,by omega⟩ (fun x D=>(Y x D).2)
  rw[G]at this
  refine this.mono ?_
  rintro e h ⟨k,rfl,l,t⟩
  rw[l.unique hR]
  exact⟨rfl,t⟩
 ·have:=Bc 4607182418800017408 d (by decide)
  rw[show eX 4607182418800017408=0 by decide+kernel]at this
  exact this
end Go.Proofs.YtmpkkhackbpflaaGreatDoor
namespace Go.Proofs.YtmpkkhackbpflaaGreatDoor
open Go.ChangeShapes Go.WideShapes Go.ChangeAt Go.RowKit
set_option maxRecDepth 100000 in
theorem kH(H:Type)(enc:TypeId×Value→H)(W:World)(F:Nat)(d:Array Value)(M N:List (DataW H))(D:List MemPlace)
  (l:∀(j:Nat) t v,Tryz.f3.params[j]? =some t→d[j]? =some v→Value.okWide Tryz.prog W .any F t v)
  (hW:DataW.Whole enc Tryz.prog Tryz.f3.params.toList Rows.pivotWholeSpec.vars false W d.toList M N D)
  (G:(DataW.weightsEach Tryz.prog (Tryz.f3.params.toList++(OpenSpec.ofChange Rows.pivotWholeSpec).bare.plain.varTypes Tryz.prog) (M++N)).all (·≤reachBytes)=true) (O:laidMetH Tryz.prog Rows.pivotWholeRow.laid W):
  Calls Tryz.prog 3 d W fun e W'=>∃v,e=.returned v∧Rows.pivotWholeSpec.post enc Tryz.prog Tryz.f3 false true false false W d v W':=by
 have hT:c8 W:=wF O
 have J:(DataW.weightsEach Tryz.prog (Tryz.f3.params.toList++(OpenSpec.ofChange Rows.pivotWholeSpec).bare.plain.varTypes Tryz.prog) (M++N)).all (·≤reachBytes)=true:=G
 have Q:=hW
 obtain⟨p,q,L,hV,rfl,ae,ai⟩:=hW
 have hA:DataW.TrodAll enc Tryz.prog W 0 (fun _=>true) true Tryz.f3.params.toList d.toList M p:=L
 rw[Tryz.params3]at hA l J
 obtain⟨v0,am,d0,ao,p0,q0,U,rfl,rfl,h0,r0⟩:=trodAll_cons hA
 obtain⟨v1,ap,d1,aq,p1,q1,rfl,rfl,rfl,h1,r1⟩:=trodAll_cons r0
 obtain⟨v2,ax,d2,ay,p2,q2,rfl,rfl,rfl,h2,r2⟩:=trodAll_cons r1
 obtain⟨rfl,rfl,rfl⟩:=trodAll_nil r2
 obtain rfl:d= #[v0,v1,v2]:=by cases d;simp_all
 obtain⟨rfl,rfl⟩:=trodVars_none hV
 obtain⟨x0,rfl,rfl,rfl,w0⟩:=open_int Tryz.underlying5 (l 0 5 v0 rfl rfl) h0
 obtain⟨y0,V,X⟩:=su w0
 subst V
 obtain⟨x1,rfl,rfl,rfl,w1⟩:=open_int Tryz.underlying5 (l 1 5 v1 rfl rfl) h1
 obtain⟨y1,Y,Z⟩:=su w1
 subst Y
 have k2:=h2
 have T:∀x∈p2,x.block<W.heap.size:=by obtain⟨m,hm⟩:=k2;exact DataW.trod_lt m _ _ _ hm
 obtain⟨a2,c2,L2,rfl,aa,ad⟩:=wH (l 2 22 v2 rfl rfl) h2 (fun n hn=>of_decide_eq_true (List.all_eq_true.1 J n (DataW.weights_mem_each (j:=2) rfl rfl n hn)))
 clear L
 refine(oB y0 y1 a2 c2 L2 W X Z aa ad hT).mono fun e W' ⟨he,I⟩=>?_
 subst he
 exact⟨_,rfl,_,_,_,[],_,[],Q,trodAll_mk1 (shut_bool Tryz.underlying4 _),trodAll_cons_mk (shut_int Tryz.underlying5 w0) (trodAll_cons_mk (shut_int Tryz.underlying5 w1) (trodAll_cons_mk (Below.trod Tryz.laidOut (by kernel_rfl) (of_decide_eq_true (by kernel_rfl)) k2 I T) (trodAll_mk0))),rfl,I.frame _,fun h=>by cases h⟩
noncomputable def pivotWhole_world (os:Os):World:=
 {World.holding Tryz.prog os ⟨#[],#[],[]⟩with heap:=(World.holding Tryz.prog os ⟨#[],#[],[]⟩).heap.modify 1 fun
   | .cells _ t frozen=>.cells (Lib.deBruijn32tab.map fun z:Nat=>Value.int .u8 (z:Int)).toArray t frozen
   |o=>o}
theorem qD(d:Os):laidMet Tryz.prog Rows.pivotWholeRow.laid ((pivotWhole_world d).forCall (fun _ _=>0) ⟨#[],#[.int .u8 0,.int .u8 0,.slice none 0 0],[]⟩).memory:=
 laidMet_of_run' 8 (by kernel_rfl) (by kernel_rfl)
theorem nV(h:Os){H:Type}(enc:TypeId×Value→H):∃d,DataW.whole enc Tryz.prog ((pivotWhole_world h).forCall (fun _ _=>0) ⟨#[],#[.int .u8 0,.int .u8 0,.slice none 0 0],[]⟩).memory Tryz.f3.params.toList Rows.pivotWholeSpec.vars false #[.int .u8 0,.int .u8 0,.slice none 0 0].toList 8=some ([.lit (.int .u8 0),.lit (.int .u8 0),.nil],[],d):=
 ⟨[],by kernel_rfl⟩
set_option maxRecDepth 100000 in
theorem mR(l:Os)(d:l.Started)(H:Type)(enc:TypeId×Value→H)(F:Stop.Interp):
  ReturnsInHanded {} Tryz.checked l 3 .any ((OpenSpec.ofChange Rows.pivotWholeSpec).preRow enc Tryz.prog Tryz.f3 Rows.pivotWholeRow.domain false Rows.pivotWholeRow.laid) (((OpenSpec.ofChange Rows.pivotWholeSpec).at F).post enc Tryz.prog Tryz.f3 false true false false):=by
 obtain⟨G,L⟩:=nV l enc
 refine returnsInHanded_of_row (C:=Tryz.checked) (s:=OpenSpec.ofChange Rows.pivotWholeSpec) Tryz.own d (by kernel_rfl) Tryz.func3
  (witness_row_at (enc:=enc) (C:=Tryz.checked) false (pivotWhole_world l) #[.int .u8 0,.int .u8 0,.slice none 0 0] rfl (by kernel_rfl) (by kernel_rfl) (by kernel_rfl)
   (OpenSpec.preRow_of_cond 8 L (by kernel_rfl) (fun k J=>by cases J) (by kernel_rfl) (qD l))) ?_
 intro W t z M N h D O _ _ I Q _ _
 exact kH H enc W t z M N h D O I Q
theorem oC:Rows.PivotWholeSaid:=
 OpenClaim.holds_of_cond 3 Tryz.f3 rfl rfl rfl rfl rfl rfl rfl ⟨rfl,rfl,rfl,rfl,rfl⟩ rfl rfl rfl rfl rfl (by kernel_rfl) Tryz.func3 (by kernel_rfl)
  (of_decide_eq_true (by kernel_rfl)) (by unfold Func.isWrapper;first|(rw[if_pos (by decide+kernel)];kernel_rfl)|(rw[if_neg (by decide+kernel)];exact⟨rfl,rfl⟩))
  (fun h d H enc _ F=>by rw[OpenClaim.pre_eq_preRow];exact mR h d H enc F)
theorem nW(f:FuncId)(h:Func)(D:Tryz.pinned.checked.prog.funcNamed "dioptra/dioptralaw16.PivotWhole" =some f)(l:Tryz.pinned.checked.prog.funcs[f]? =some h):
  false=Tryz.pinned.checked.prog.looks []∧∀(j:Nat) t,h.params[j]? =some t→Tryz.pinned.checked.prog.wantsStandIn t=false:=by
 obtain rfl:f=3:=Option.some.inj ((show Tryz.prog.funcNamed "dioptra/dioptralaw16.PivotWhole" =some 3 by kernel_rfl).symm.trans D) |>.symm
 obtain rfl:h=Tryz.f3:=(Option.some.inj (Tryz.func3.symm.trans l)).symm
 refine⟨by kernel_rfl,fun j t z=>?_⟩
 rw[Tryz.params3]at z
 have F:t∈ [5,5,22]:=by simpa using Array.mem_of_getElem? z
 have d:([5,5,22].all fun u=>!Tryz.prog.wantsStandIn u)=true:=by kernel_rfl
 exact(show Tryz.prog.wantsStandIn t=false by simpa using List.all_eq_true.1 d t F)
theorem pivotWhole_card:Rows.PivotWholeCardSaid:=
 Claim7.holds_tied_plain_at .later [] _ _ _ _ oC (fun _ h=>by cases h) (by kernel_rfl) (fun _ h=>by cases h) pivotWhole_row_tie rfl ⟨rfl,rfl⟩ (by kernel_rfl) rfl nW (by kernel_rfl)
#print axioms pivotWhole_card
end Go.Proofs.YtmpkkhackbpflaaGreatDoor
