/- Part 15 of the texts. -/
import Derived.Test.YtmpkkhackbpflaaGreatDoorPartg14
set_option maxHeartbeats 4000000
set_option maxRecDepth 20000
namespace Go.Proofs.YtmpkkhackbpflaaGreatDoor
open Go.RowKit
attribute [local go_sem ↓] Go.wp_at_zero Go.wp_at_succ
theorem iU(x k:Int):IntKind.i64.wrap (IntKind.i64.wrap x+k)=IntKind.i64.wrap (x+k):=by
 simp only[IntKind.wrap,IntKind.signed,IntKind.bits]
 simp
 split<;>split<;>split<;>omega
theorem g8(x:Int):wrap64 x=IntKind.i64.wrap x:=by
 simp only[IntKind.wrap,IntKind.signed,IntKind.bits,wrap64]
 simp
 split<;>omega
theorem br(x:Int)(h:-9223372036854775808≤x∧x≤9223372036854775807):IntKind.i64.wrap x=x:=by
 simp only[IntKind.wrap,IntKind.signed,IntKind.bits]
 simp
 omega
theorem fj(x e:Int)(j:Nat)(d:j<18446744073709551616)(h:x=IntKind.i64.wrap (e+j)):((x-e)%18446744073709551616).toNat=j:=by
 subst h
 simp only[IntKind.wrap,IntKind.signed,IntKind.bits]
 simp
 split<;>omega
theorem JK(x:Int):sg (decide (x<0)) x.natAbs=x:=by
 unfold sg
 by_cases h:x<0
 ·rw[decide_eq_true h];simp;omega
 ·rw[decide_eq_false h];simp;omega
def AE(w wr:World)(z:Int)(j:Nat)(nn:Bool)(a:Option Addr)(c:Nat)(L:List Nat):Prop:=
 aC wr w.heap.size (.bool nn) (.slice a L.length c)∧a8 wr (w.heap.size+1) (.bool false) (.slice none 0 0) (.int .i64 0)∧af wr a c L∧bZ L∧L≠ []∧L.length≤30000∧sg nn (val L)*2^j=z∧Below w.heap.size w wr
theorem AE.step{w h:World}{z x:Int}{F J t:Bool}{L a':Option Addr}{N O D v M B j:Nat}{d:List Nat}
  (G:aC h w.heap.size (.bool J) (.slice L N O)) (Q:a8 h (w.heap.size+1) (.bool false) (.slice none 0 0) (.int .i64 0))
  (i:af h a' D d∧bB B a' d∧bZ d∧t=decide (x<0)∧val d=x.natAbs∧d.length≤M) (H:x=sg F v) (Z:v≠0) (T:sg F v*2^j=z) (hl:M≤30000) (l:Below w.heap.size w h):
  AE w ((h.setCell ⟨w.heap.size,0,none⟩ (.bool t)).setCell ⟨w.heap.size,1,none⟩ (.slice a' d.length D)) z j t a' D d:=by
 obtain⟨V,i2,X,Y,I,i6⟩:=i
 have U:sg t (val d)=x:=by rw[Y,I,JK]
 refine⟨G.put _ _,(Q.other (by simp) _).other (by simp) _,V.box G _ _,X,?_,by omega,?_,(l.setCell (by simp) _).setCell (by simp) _⟩
 ·rintro rfl
  simp[val]at I
  have:x.natAbs=v:=by rw[H,ke]
  omega
 ·rw[U,H];exact T
theorem AE.tzs{w wr:World}{z:Int}{j:Nat}{d:Bool}{a:Option Addr}{c:Nat}{L:List Nat}(h:AE w wr z j d a c L):val L≠0∧tz z.natAbs=j+tz (val L):=by
 obtain⟨G,H,I,t,D,J,F,M⟩:=h
 have l:val L≠0:=fun e=>D ((aS L t).1 e)
 refine⟨l,?_⟩
 rw[←Dc (val L) j (by omega),←F,Int.natAbs_mul,ke,Int.natAbs_pow,Nat.mul_comm]
 rfl
theorem AE.last{w wr:World}{z:Int}{j:Nat}{d:Bool}{a:Option Addr}{c:Nat}{L:List Nat}(h:AE w wr z j d a c L)(J:val L%2=1):ar 0 wr (.agg #[.bool d,.slice a L.length c]) (oM z)∧j=tz z.natAbs:=by
 obtain⟨M,N,l,D,F,O,G,Q⟩:=h
 have t:jE z (sg d (val L)) j:=⟨G.symm,by unfold sg;cases d<;>simp<;>omega⟩
 obtain⟨T,H,I⟩:=t.eq
 rw[←H,←eU]
 exact⟨ar.mk l (bB.zero l) D F (by omega),I⟩
theorem AF(L:List Nat)(d:bM L):val L%4294967296=L[0]?.getD 0:=by
 cases L with
 |nil=>rfl
 |cons x r=>
  have:=d x (by simp)
  simp[val]
  omega
theorem AE.down{w wr:World}{z:Int}{j:Nat}{d:Bool}{a:Option Addr}{c:Nat}{L:List Nat}(h:AE w wr z j d a c L)(k:Nat)(H:val L%2^k=0):val L/2^k≠0∧sg d (val L/2^k)*2^(j+k)=z∧j+k≤tz z.natAbs:=by
 obtain⟨D,F⟩:=h.tzs
 obtain⟨I,J,M,N,O,Q,G,T⟩:=h
 have l:val L=2^k*(val L/2^k):=by have:=Nat.div_add_mod (val L) (2^k);omega
 have t:val L/2^k≠0:=fun e=>D (by rw[l,e];simp)
 refine⟨t,?_,?_⟩
 ·rw[←G]
  conv=>rhs;rw[l]
  generalize val L/2^k=q
  have e:sg d (2^k*q)=sg d q*2^k:=by
   unfold sg
   cases d
   ·simp only[Bool.false_eq_true,if_false];push_cast;rw[Int.mul_comm]
   ·simp only[if_true];push_cast;rw[Int.neg_mul,Int.mul_comm]
  rw[e,Nat.add_comm,Int.pow_add,Int.mul_assoc]
 ·rw[F]
  have e:tz (val L)=k+tz (val L/2^k):=by
   conv=>lhs;rw[l]
   exact Dc _ _ (Nat.pos_of_ne_zero t)
  omega
theorem Dn(na:Bool)(ao:Option Addr)(ca:Nat)(A:List Nat)(e:Int)(w:World)(hA:af w ao ca A)(h0:A≠ [])(hc:bZ A)(la:A.length≤20000)(be:-9223372036854775808≤e∧e≤9223372036854775807):
  Calls Tryz.prog 89 #[.agg #[.bool na,.slice ao A.length ca],.int .i64 e] w fun r w'=>∃v,r=.returned v∧bc w' v (oM (aj na A)) (IntKind.i64.wrap (e+tz (aj na A).natAbs))∧Below w.heap.size w w':=by
 obtain⟨i0,hi,a7,a9,ba⟩:=info_parts Tryz.info147
 have HZ:=ac (eU na A).symm
 have hT:tz (aj na A).natAbs<18446744073709551616:=by
  rw[bh]
  have hv:val A≠0:=fun e=>h0 ((aS A hc).1 e)
  have h1:=eW A hA.2.1
  rw[show(4294967296:Nat)=2^32 by decide,←Nat.pow_mul]at h1
  have:=kK (val A) _ (by omega) h1
  omega
 generalize aj na A=z at*
 obtain⟨T,aq⟩:∃T,T=tz z.natAbs:=⟨_,rfl⟩
 have ae:=ac aq
 rw[←aq]at hT⊢
 have HM:=ac (show oM z=oM z from rfl)
 have ai:=ac h0;have HC:=ac hc
 clear h0 hc aq
 have hp:0<A.length:=List.length_pos_iff.2 (uH ai)
 have am:((A.length:Int)==0)=false:=by rw[beq_eq_false_iff_ne];omega
 go_enter Tryz.func89,Tryz.ntmps89
 go_wp2
 clear HM
 go_loopw[1] (fun i wr=>∃(x:Int) (j:Nat) (N:Bool) (a:Option Addr) (c:Nat) (L:List Nat),i=.int .i64 x∧j≤T∧Hid (x=IntKind.i64.wrap (e+j))∧Hid (AE w wr z j N a c L)) (fun i _=>T-((intOf i-e)%18446744073709551616).toNat)
 case atStart=>
  refine⟨e,0,na,ao,ca,A,rfl,Nat.zero_le _,?_,(aC.new _ _ _).old _,?_,hA.below (((Below.refl _ _).alloc (Nat.le_refl _) _).alloc (by simp) _),uH HC,uH ai,by omega,by rw[uH HZ];simp,((Below.refl _ _).alloc (Nat.le_refl _) _).alloc (by simp) _⟩
  ·unfold Hid;rw[br _ (by omega)];omega
  ·have:=a8.new (w.alloc (.cells #[.bool na,.slice ao A.length ca] 55)) (.bool false) (.slice none 0 0) (.int .i64 0)
   simpa using this
 case round=>
  obtain⟨x,j,N,a,c,L,rfl,hj,Y,X⟩:=hrel
  clear HZ HC ai hA la hp am
  obtain⟨I,J,Z,hC,hS,F,hz,G⟩:=uH X
  have hp:0<L.length:=List.length_pos_iff.2 hS
  have am:(0:Int)<(L.length:Int):=by omega
  have p0:=I.c0;have p1:=I.c1
  have ay:=Z.1
  obtain⟨b,aD,rfl,hb,ax⟩:=Z.ne hp
  have ap:=ax 0 hp
  rw[Nat.add_zero]at ap
  have M:=AF L Z.2.1
  have aI:=Z.lt 0
  by_cases hg:L[0]?.getD 0=0
  ·rw[hg]at ap M
   obtain⟨d1,d2,d3⟩:=(uH X).down 32 M
   rw[←uH ae]at d3
   have aa:=ac d1;have ad:=ac d2
   have h:=ac G;have Q:=ac I;have O:=ac J;have t:=ac F;have H:=ac (Z.below ((Below.refl _ _).drew))
   clear hz I J Z hC hS G X F ax M hg d1 d2 aI
   go_wp2
   have a4:(1:Int)≤(L.length:Int):=by omega
   have a5:(L.length:Int)≤(c:Int):=by omega
   have a6:(1:Int)≤(c:Int):=by omega
   by_cases a0:c=1
   ·subst a0
    go_region_with (go_at_call 141;refine(o7 N b aD L _ (uH H)).mono ?_;rintro e w2 ⟨v,rfl,⟨n2,a2,c2,L2,rfl,i1⟩,d⟩;have I1:=ac i1;have D:=(uH Q).drew.below d (uH Q).drew.lt;have Z1:=(uH O).drew.below d (uH O).drew.lt;have r0:=D.c0;have r1:=D.c1;have f0:=D.free 0;have f1:=D.free 1;have B2:=ac (((uH h).drew).trans (d.mono ((uH h).drew).size));have U:=ac D;have V:=ac Z1;clear i1 d D Z1)
    all_goals
     go_wp2
     go_roundw
     case rel=>exact⟨_,j+32,n2,a2,c2,L2,rfl,d3,ac (by rw[g8,uH Y,iU];congr 1;omega),AE.step (v:=val L/4294967296) (uH U) (uH V) (uH I1) rfl (uH aa) (uH ad) (by have:=uH t;omega) (uH B2)⟩
     case measure=>rw[g8,uH Y,iU];simp only[intOf];rw[fj _ e j (by omega) rfl,fj _ e (j+32) (by omega) (by congr 1;omega)];omega
   ·have a3:¬(c:Int)=1:=by omega
    go_region_with (go_at_call 141;refine(rt N b aD c L _ (uH H) (by have:=uH t;omega)).mono ?_;rintro e w2 ⟨v,rfl,⟨n2,a2,c2,L2,rfl,i1⟩,d⟩;have I1:=ac i1;have D:=(uH Q).drew.below d (uH Q).drew.lt;have Z1:=(uH O).drew.below d (uH O).drew.lt;have r0:=D.c0;have r1:=D.c1;have f0:=D.free 0;have f1:=D.free 1;have B2:=ac (((uH h).drew).trans (d.mono ((uH h).drew).size));have U:=ac D;have V:=ac Z1;clear i1 d D Z1)
    all_goals
     go_wp2
     go_roundw
     case rel=>exact⟨_,j+32,n2,a2,c2,L2,rfl,d3,ac (by rw[g8,uH Y,iU];congr 1;omega),AE.step (v:=val L/4294967296) (uH U) (uH V) (uH I1) rfl (uH aa) (uH ad) (by have:=uH t;omega) (uH B2)⟩
     case measure=>rw[g8,uH Y,iU];simp only[intOf];rw[fj _ e j (by omega) rfl,fj _ e (j+32) (by omega) (by congr 1;omega)];omega
  ·have a1:(((L[0]?.getD 0:Nat):Int)==0)=false:=by rw[beq_eq_false_iff_ne];omega
   generalize L[0]?.getD 0=y at*
   have HI:=X
   clear X I J Z hC hS F hz G ax M hg
   go_wp2
   go_loopw[1] (fun i wr=>∃(x:Int) (j:Nat) (N:Bool) (a:Option Addr) (c:Nat) (L:List Nat),i=.int .i64 x∧j≤T∧Hid (x=IntKind.i64.wrap (e+j))∧Hid (AE w wr z j N a c L)) (fun i _=>T-((intOf i-e)%18446744073709551616).toNat)
   case atStart=>exact⟨x,j,N,_,c,L,rfl,hj,Y,HI⟩
   case round=>
    clear HI p0 p1 am hp a1 ap hj Y hb ay
    obtain⟨x,j,N,a,c,L,rfl,hj,Y,X⟩:=hrel
    obtain⟨I,J,Z,hC,hS,F,hz,G⟩:=uH X
    have p0:=I.c0;have p1:=I.c1
    have Q:=ac I;have O:=ac J;have h:=ac G;have t:=ac F;have H:=ac Z
    clear I J Z hC hS F hz G
    go_wp2_with fail
    refine(Gu N a c L wr (uH H)).mono ?_
    by_cases ho:val L%2=1
    ·rw[decide_eq_true ho]
     rintro r w3 ⟨rfl,l⟩
     obtain⟨l1,l2⟩:=(uH X).last ho
     have L1:=ac (l1.below l);have L2:=ac l2
     have I:=(uH Q).all l;have J:=(uH O).all l
     have b1:=(uH h).trans (l.mono (uH h).size)
     clear X l1 l2 l ho p0 p1 Q O h H
     have p0:=I.c0;have p1:=I.c1
     have y0:=J.c0;have y1:=J.c1;have y2:=J.c2;have f0:=J.free 0;have f1:=J.free 1;have f2:=J.free 2
     have O:=ac J;have B1:=ac b1
     clear I J b1
     go_wp2
     have e1:IntKind.i64.wrap (e+(T:Int))=x:=by rw[uH Y,uH ae,←uH L2]
     rw[e1]
     have j2:bc w3 (.agg #[.bool N,.slice a L.length c,.int .i64 x]) (oM z) x:=⟨N,a,c,L,rfl,uH L1⟩
     refine bodyPost_ret (v:=.agg #[.bool N,.slice a L.length c,.int .i64 x]) (by simp[results,Tryz.results89,go_sem,y0,y1,y2]) rfl ⟨_,rfl,j2.put3 (uH O) _ _ _,bC (uH B1) (by omega) _ _ _⟩
    ·rw[decide_eq_false ho]
     rintro r w3 ⟨rfl,l⟩
     obtain⟨d1,d2,d3⟩:=(uH X).down 1 (by simp;omega)
     rw[←uH ae]at d3
     rw[Nat.pow_one]at d1 d2
     have aa:=ac d1;have ad:=ac d2
     have I:=(uH Q).all l;have J:=(uH O).all l
     have b1:=(uH h).trans (l.mono (uH h).size)
     have az:=(uH H).below l
     clear X d1 d2 l ho p0 p1 Q O h H
     have p0:=I.c0;have p1:=I.c1
     have Q:=ac I;have O:=ac J;have B1:=ac b1;have H:=ac az
     clear I J b1 az
     go_wp2_with fail
     refine(ug N a c L w3 (uH H) (by have:=uH t;omega)).mono ?_
     rintro r w2 ⟨v,rfl,⟨n2,a2,c2,L2,rfl,i1⟩,d⟩
     have I1:=ac i1
     have D:=(uH Q).all d
     have Z1:=(uH O).all d
     have r0:=D.c0;have r1:=D.c1;have f0:=D.free 0;have f1:=D.free 1
     have B2:=ac ((uH B1).trans (d.mono (uH B1).size))
     have U:=ac D;have V:=ac Z1
     clear i1 d D Z1
     go_wp2
     go_roundw
     case rel=>exact⟨_,j+1,n2,a2,c2,L2,rfl,d3,ac (by rw[g8,uH Y,iU];congr 1;omega),AE.step (v:=val L/2) (uH U) (uH V) (uH I1) rfl (uH aa) (uH ad) (by have:=uH t;omega) (uH B2)⟩
     case measure=>rw[g8,uH Y,iU];simp only[intOf];rw[fj _ e j (by omega) rfl,fj _ e (j+1) (by omega) (by congr 1;omega)];omega
theorem Do(h:Bool)(l:Option Addr)(t:Nat)(e:Int)(w:World):
  Calls Tryz.prog 89 #[.agg #[.bool h,.slice l 0 t],.int .i64 e] w fun r d=>∃v,r=.returned v∧bc d v 0 0∧Below w.heap.size w d:=by
 go_enter Tryz.func89,Tryz.ntmps89
 go_wp2
 refine bodyPost_ret (v:=.agg #[.bool false,.slice none 0 0,.int .i64 0]) (by simp[results,Tryz.results89,go_sem]) rfl ⟨_,rfl,bc.zero _ _ _,?_⟩
 exact((Below.refl w.heap.size w).alloc (Nat.le_refl _) _).alloc (by simp) _
theorem Gv{M B:Nat}{w:World}{v:Value}{z:Int}(e:Int)(I:aP M B w v z)(T:M≤20000)(J:-9223372036854775808≤e∧e≤9223372036854775807):
  Calls Tryz.prog 89 #[v,.int .i64 e] w fun r l=>∃u,r=.returned u∧bc l u (oM z) (if z=0 then 0 else IntKind.i64.wrap (e+tz z.natAbs))∧Below w.heap.size w l:=by
 obtain⟨t,D,F,A,rfl,O,U,G,Q,H,V⟩:=I
 have d:=ie Q H
 by_cases h:A= []
 ·subst h
  rw[iN]at d
  subst d
  rw[if_pos rfl,show oM 0=0 by simp[oM]]
  exact Do t D F e w
 ·have N:z≠0:=fun L=>h ((aS A G).1 (by rw[H,L];rfl))
  rw[if_neg N,←d]
  exact Dn t D F A e w O h G (by omega) J
theorem kh{M B:Nat}{w:World}{v:Value}{z:Int}(e:Int)(h:aP M B w v z)(D:M≤20000)(G:-1000000≤e∧e≤1000000):
  Calls Tryz.prog 89 #[v,.int .i64 e] w fun r l=>∃u,r=.returned u∧bc l u (oM z) (oE z e)∧Below w.heap.size w l:=by
 have d:=Gv e h D (by omega)
 have:(if z=0 then 0 else IntKind.i64.wrap (e+tz z.natAbs))=oE z e:=by
  unfold oE
  split
  ·rfl
  ·rename_i U
   have H:tz z.natAbs<32*20000:=by
    obtain⟨I,J,L,A,rfl,F,N,O,Q,t,T⟩:=h
    rw[←t]
    have h:val A≠0:=by rw[t];omega
    have d:=eW A F.2.1
    rw[show(4294967296:Nat)=2^32 by decide,←Nat.pow_mul]at d
    have:=kK (val A) _ (by omega) d
    omega
   exact bF _ (by omega)
 rwa[this]at d
def sM(n y:Int):Bool:=if n=0 then decide (y=0)else(decide (n%2=1)&&decide (-16384≤y∧y≤16384))
theorem bc.parts{w:World}{v:Value}{m e:Int}(h:bc w v m e):
  ∃(neg:Bool) (l:Option Addr) (d:Nat) (L:List Nat),v=.agg #[.bool neg,.slice l L.length d,.int .i64 e]∧af w l d L∧bZ L∧neg=decide (m<0)∧val L=m.natAbs∧L.length≤35184372088832:=by
 obtain⟨neg,l,d,L,rfl,M,N,O,z,t,D,Q,F,G,H,I⟩:=h
 simp only[Value.agg.injEq,Array.mk.injEq,List.cons.injEq,Value.bool.injEq,Value.slice.injEq,and_true]at t
 obtain⟨rfl,rfl,J,rfl⟩:=t
 exact⟨neg,l,d,z,by rw[J],D,F,G,H,I⟩
theorem uC(n:Int):(n.natAbs%2=1)↔(n%2=1):=by omega
theorem bc.right{w:World}{v:Value}{m e:Int}(h:bc w v m e)(Q:m.natAbs<eN):
  ∃(neg:Bool) (t:Option Addr) (d:Nat) (L:List Nat),v=.agg #[.bool neg,.slice t L.length d,.int .i64 e]∧af w t d L∧aE neg L=true∧aj neg L=m∧L.length≤512∧oh neg L e=sM m e:=by
 obtain⟨neg,t,d,L,rfl,z,F,H,l,X⟩:=h.parts
 have U:ar 0 w (.agg #[.bool neg,.slice t L.length d]) m:=⟨neg,t,d,L,rfl,z,bB.zero z,F,H,l,X⟩
 have V:L.length≤512:=(gj L z.2.1 F).1 (by omega)
 have G:aE neg L=true:=by
  obtain⟨I,Y,J,M,N,Z,O,e4,e5⟩:=U.right Q
  simp only[Value.agg.injEq,Array.mk.injEq,List.cons.injEq,Value.bool.injEq,Value.slice.injEq,and_true]at N
  obtain⟨rfl,rfl,o3,rfl⟩:=N
  have:L=M:=by
   refine tZ L M z.2.1 Z.2.1 F (aN O).2.1 ?_
   rw[l,←e4,bh]
  rw[this];exact O
 refine⟨neg,t,d,L,rfl,z,G,ie H l,V,?_⟩
 unfold oh sM
 rw[G,Bool.true_and,l]
 by_cases D:L.length=0
 ·have:m=0:=by
   have:L= []:=List.length_eq_zero_iff.1 D
   rw[this]at l;simp[val]at l;omega
  rw[if_pos D,if_pos this]
 ·have:m≠0:=fun T=>D (by
   have:L= []:=(aS L F).1 (by rw[l,T];rfl)
   rw[this];rfl)
  rw[if_neg D,if_neg this]
  congr 1
  rw[decide_eq_decide]
  exact uC m
theorem bc.num{w:World}{v:Value}{m e:Int}(h:bc w v m e):
  ∃(neg:Bool) (l:Option Addr) (d:Nat) (L:List Nat),v=.agg #[.bool neg,.slice l L.length d,.int .i64 e]∧ar 0 w (.agg #[.bool neg,.slice l L.length d]) m:=h
end Go.Proofs.YtmpkkhackbpflaaGreatDoor
namespace Go.Proofs.YtmpkkhackbpflaaGreatDoor
open Go.RowKit
theorem rI(z:Int):(oM z).natAbs≤z.natAbs:=by
 by_cases h:z=0
 ·subst h;simp[oM]
 ·have d:=gW z h
  have l:z.natAbs=(oM z).natAbs*2^tz z.natAbs:=by
   conv=>lhs;rw[d.1]
   rw[Int.natAbs_mul,Int.natAbs_pow]
   rfl
  rw[l]
  exact Nat.le_mul_of_pos_right _ (Nat.pow_pos (by decide))
theorem de:oM 0=0:=by simp[oM]
theorem dP(e:Int):oE 0 e=0:=by simp[oE]
theorem iB(z:Int)(h:z≠0):oM z≠0∧oM z%2=1:=by
 have d:=(gW z h).2
 exact⟨fun e=>by rw[e]at d;simp at d,d⟩
theorem d9(z e:Int)(h:z≠0):oE z e=e+tz z.natAbs:=by unfold oE;rw[if_neg h]
theorem JL(z e:Int)(d:-32768≤e∧e≤32768):sM (oM z) (oE z e)=nE z e:=by
 unfold nE sM
 rw[decide_eq_true d,Bool.true_and]
 by_cases h:z=0
 ·subst h
  rw[de,dP];simp
 ·obtain⟨l,t⟩:=iB z h
  rw[if_neg l,decide_eq_true t,d9 z e h,decide_eq_false h]
  simp
theorem AG(z e:Int)(d:-32768≤e∧e≤32768):
  (sM (oM z) (oE z e)=true→dz z e=0∧dM z e=oM z∧dX z e=oE z e)∧(sM (oM z) (oE z e)=false→dz z e=2∧dM z e=0∧dX z e=0):=by
 rw[JL z e d]
 constructor<;>intro h<;>simp[dz,dM,dX,h]
attribute [local go_sem ↓] Go.wp_at_zero Go.wp_at_succ
def up(s x l:Int):Int:=s*2^(x-l).toNat
theorem uD(d:Bool)(A:List Nat)(n:Int)(h:0≤n):qJ d A n=aj d A*2^n.toNat:=by
 rw[oF,eU]
 unfold o4
 rw[if_pos h]
 unfold sg
 cases d
 ·simp
 ·simp[Int.neg_mul]
def jp(s x l:Int):Int:=if(up s x l).natAbs<eN∧x-l≤16384 then 0 else 2
def Jf(s x l:Int):Int:=if(up s x l).natAbs<eN∧x-l≤16384 then up s x l else 0
theorem mn(d:Bool)(A:List Nat)(x l:Int)(D:aE d A=true)(h:l≤x):wI d A (x-l)=jp (aj d A) x l∧uf d A (x-l)=Jf (aj d A) x l:=by
 unfold wI uf nr jp Jf
 rw[D,uD d A (x-l) (by omega)]
 change (if(true&&decide (-16384≤x-l∧x-l≤16384))=true then bO (up (aj d A) x l)else if true=true then 2 else 1)=_∧(if(true&&decide (-16384≤x-l∧x-l≤16384))=true then eI (up (aj d A) x l)else 0)=_
 rw[Bool.true_and]
 by_cases z:x-l≤16384
 ·rw[if_pos (decide_eq_true (show-16384≤x-l∧x-l≤16384 by omega)),if_pos (decide_eq_true (show-16384≤x-l∧x-l≤16384 by omega))]
  unfold bO eI
  by_cases t:(up (aj d A) x l).natAbs<eN
  ·rw[if_pos t,if_pos t,if_pos ⟨t,z⟩,if_pos ⟨t,z⟩];exact⟨rfl,rfl⟩
  ·rw[if_neg t,if_neg t,if_neg (fun h=>t h.1),if_neg (fun h=>t h.1)];exact⟨rfl,rfl⟩
 ·have F:decide (-16384≤x-l∧x-l≤16384)=false:=decide_eq_false (by omega)
  rw[F,if_neg (show¬((up (aj d A) x l).natAbs<eN∧x-l≤16384)from fun h=>z h.2),if_neg (show¬((up (aj d A) x l).natAbs<eN∧x-l≤16384)from fun h=>z h.2)]
  exact⟨by simp,by simp⟩
theorem uE(s x l:Int):(jp s x l=0∧Jf s x l=up s x l)∨jp s x l=2:=by
 unfold jp Jf
 by_cases h:(up s x l).natAbs<eN∧x-l≤16384
 ·rw[if_pos h,if_pos h];exact .inl ⟨rfl,rfl⟩
 ·rw[if_neg h];exact .inr rfl
theorem ar.put2{B:Nat}{w:World}{v:Value}{x:Int}(h:ar B w v x){p q:Addr}(t:p.block<B)(z:q.block<B)(u u':Value):ar B ((w.setCell p u).setCell q u') v x:=by
 obtain⟨n,D,d,L,rfl,F,l,G⟩:=h
 exact⟨n,D,d,L,rfl,(F.store l t u).store l z u',l,G⟩
theorem cJ{w d:World}{B b:Nat}(h:Below B w d)(l:B≤b)(u u':Value):Below B w ((d.setCell ⟨b,0,none⟩ u).setCell ⟨b,1,none⟩ u'):=
 (h.setCell l _).setCell l _
theorem JM{w:World}{b c:Nat}{t z D F:Value}(G:aC w b t z)(H:aC w c D F)(d:b≠c)(u0 u1 h l:Value):
  aC ((((((w.setCell ⟨c,0,none⟩ h).setCell ⟨c,1,none⟩ l).setCell ⟨b,0,none⟩ u0).setCell ⟨b,1,none⟩ u1).setCell ⟨c,0,none⟩ h).setCell ⟨c,1,none⟩ l) b u0 u1∧
  aC ((((((w.setCell ⟨c,0,none⟩ h).setCell ⟨c,1,none⟩ l).setCell ⟨b,0,none⟩ u0).setCell ⟨b,1,none⟩ u1).setCell ⟨c,0,none⟩ h).setCell ⟨c,1,none⟩ l) c h l:=
 ⟨((((G.other (p:=⟨c,0,none⟩) d h).other (p:=⟨c,1,none⟩) d l).put u0 u1).other (p:=⟨c,0,none⟩) d h).other (p:=⟨c,1,none⟩) d l,
  (((H.put h l).other (p:=⟨b,0,none⟩) (Ne.symm d) u0).other (p:=⟨b,1,none⟩) (Ne.symm d) u1).put h l⟩
theorem JN{w:World}{b c:Nat}{t z D F:Value}(G:aC w b t z)(H:aC w c D F)(d:b≠c)(u0 u1 h l:Value):
  aC ((((((w.setCell ⟨b,0,none⟩ u0).setCell ⟨b,1,none⟩ u1).setCell ⟨b,0,none⟩ u0).setCell ⟨b,1,none⟩ u1).setCell ⟨c,0,none⟩ h).setCell ⟨c,1,none⟩ l) b u0 u1∧
  aC ((((((w.setCell ⟨b,0,none⟩ u0).setCell ⟨b,1,none⟩ u1).setCell ⟨b,0,none⟩ u0).setCell ⟨b,1,none⟩ u1).setCell ⟨c,0,none⟩ h).setCell ⟨c,1,none⟩ l) c h l:=
 ⟨(((G.put u0 u1).put u0 u1).other (p:=⟨c,0,none⟩) d h).other (p:=⟨c,1,none⟩) d l,
  ((((H.other (p:=⟨b,0,none⟩) (Ne.symm d) u0).other (p:=⟨b,1,none⟩) (Ne.symm d) u1).other (p:=⟨b,0,none⟩) (Ne.symm d) u0).other (p:=⟨b,1,none⟩) (Ne.symm d) u1).put h l⟩
def JO(w':World)(r:Ending)(ea eb za zb:Int):Prop:=
 ∃(n1:Bool) (a1:Option Addr) (l1 c1:Nat) (n2:Bool) (a2:Option Addr) (l2 c2:Nat) (er:Int),r=.returned (.tuple #[.agg #[.bool n1,.slice a1 l1 c1],.agg #[.bool n2,.slice a2 l2 c2],.int .i64 er])∧(ea=0→eb=0→er=0∧ar 0 w' (.agg #[.bool n1,.slice a1 l1 c1]) za∧ar 0 w' (.agg #[.bool n2,.slice a2 l2 c2]) zb)∧(¬(ea=0∧eb=0)→er=2)
theorem AH(t d:Bool)(O M:Option Addr)(Q N:Nat)(A B:List Nat)(x y l:Int)(w:World)(hA:af w O Q A)(hB:af w M N B)(ra:aE t A=true)(rb:aE d B=true)(bx:-16384≤x∧x≤16384)(aq:-16384≤y∧y≤16384)(hl:l=min x y):
  Calls Tryz.prog 265 #[.agg #[.bool t,.slice O A.length Q,.int .i64 x],.agg #[.bool d,.slice M B.length N,.int .i64 y]] w fun r I=>JO I r (jp (aj t A) x l) (jp (aj d B) y l) (up (aj t A) x l) (up (aj d B) y l)∧Below w.heap.size w I:=by
 have la:=(aN ra).1
 have lb:=(aN rb).1
 have aa:l≤x:=by omega
 have ad:l≤y:=by omega
 have CA:=ac (fun n I h (e:n=x-l)=>show Calls Tryz.prog 237 #[.agg #[.bool t,.slice O A.length Q],.int .i64 n] I fun e T=>∃v,e=.returned (.tuple #[v,.int .i64 (jp (aj t A) x l)])∧ar I.heap.size T v (Jf (aj t A) x l)∧Below I.heap.size I T by
  have:=iR t O Q A n I h (by omega) (by omega)
  rwa[e,(mn t A x l ra aa).1,(mn t A x l ra aa).2,←e]at this)
 have CB:=ac (fun n I h (e:n=y-l)=>show Calls Tryz.prog 237 #[.agg #[.bool d,.slice M B.length N],.int .i64 n] I fun e T=>∃v,e=.returned (.tuple #[v,.int .i64 (jp (aj d B) y l)])∧ar I.heap.size T v (Jf (aj d B) y l)∧Below I.heap.size I T by
  have:=iR d M N B n I h (by omega) (by omega)
  rwa[e,(mn d B y l rb ad).1,(mn d B y l rb ad).2,←e]at this)
 have HA:=ac (uE (aj t A) x l)
 have HB:=ac (uE (aj d B) y l)
 have HL:=ac hl
 clear hl ra rb aa ad
 generalize jp (aj t A) x l=ea at*
 generalize jp (aj d B) y l=eb at*
 generalize Jf (aj t A) x l=ua at*
 generalize Jf (aj d B) y l=ub at*
 generalize up (aj t A) x l=za at*
 generalize up (aj d B) y l=zb at*
 obtain⟨az,aD⟩:=bx
 obtain⟨aI,a0⟩:=aq
 have am:Below w.heap.size w ((((w.alloc (.cells #[.bool t,.slice O A.length Q,.int .i64 x] 57)).alloc (.cells #[.bool d,.slice M B.length N,.int .i64 y] 57)).alloc (.cells #[.bool false,.slice none 0 0] 55)).alloc (.cells #[.bool false,.slice none 0 0] 55)):=
  ((((Below.refl _ _).alloc (Nat.le_refl _) _).alloc (by simp) _).alloc (by simp;omega) _).alloc (by simp;omega) _
 have V:a8 ((((w.alloc (.cells #[.bool t,.slice O A.length Q,.int .i64 x] 57)).alloc (.cells #[.bool d,.slice M B.length N,.int .i64 y] 57)).alloc (.cells #[.bool false,.slice none 0 0] 55)).alloc (.cells #[.bool false,.slice none 0 0] 55)) (w.heap.size+1) (.bool d) (.slice M B.length N) (.int .i64 y):=by
  have:=((a8.new (w.alloc (.cells #[.bool t,.slice O A.length Q,.int .i64 x] 57)) (.bool d) (.slice M B.length N) (.int .i64 y)).old (.cells #[.bool false,.slice none 0 0] 55)).old (.cells #[.bool false,.slice none 0 0] 55)
  simpa using this
 have U:aC ((((w.alloc (.cells #[.bool t,.slice O A.length Q,.int .i64 x] 57)).alloc (.cells #[.bool d,.slice M B.length N,.int .i64 y] 57)).alloc (.cells #[.bool false,.slice none 0 0] 55)).alloc (.cells #[.bool false,.slice none 0 0] 55)) (w.heap.size+1+1) (.bool false) (.slice none 0 0):=by
  have:=(aC.new ((w.alloc (.cells #[.bool t,.slice O A.length Q,.int .i64 x] 57)).alloc (.cells #[.bool d,.slice M B.length N,.int .i64 y] 57)) (.bool false) (.slice none 0 0)).old (.cells #[.bool false,.slice none 0 0] 55)
  simpa using this
 have x3:aC ((((w.alloc (.cells #[.bool t,.slice O A.length Q,.int .i64 x] 57)).alloc (.cells #[.bool d,.slice M B.length N,.int .i64 y] 57)).alloc (.cells #[.bool false,.slice none 0 0] 55)).alloc (.cells #[.bool false,.slice none 0 0] 55)) (w.heap.size+1+1+1) (.bool false) (.slice none 0 0):=by
  have:=aC.new (((w.alloc (.cells #[.bool t,.slice O A.length Q,.int .i64 x] 57)).alloc (.cells #[.bool d,.slice M B.length N,.int .i64 y] 57)).alloc (.cells #[.bool false,.slice none 0 0] 55)) (.bool false) (.slice none 0 0)
  simpa using this
 have B0:=ac am;have X1:=ac V;have X2:=ac U;have X3:=ac x3
 clear am V U x3
 rcases(show x<y∨x=y∨y<x by omega)with ai|ai|ai
 all_goals
  first|subst ai|skip
  go_enter Tryz.func265,Tryz.ntmps265
  go_wp2_with fail
  refine(uH CA _ _ (hA.below (uH B0)) (by have:=uH HL;omega)).mono ?_
  rintro r w1 ⟨v1,rfl,⟨z,D,F,G,rfl,i1⟩,J⟩
  have V:=(uH X1).all J;have U:=(uH X2).all J;have x3:=(uH X3).all J
  have b1:=(uH B0).trans (J.mono (uH B0).size)
  have hs:w.heap.size+4≤w1.heap.size:=by have:=J.size;simp at this;omega
  have ap:ar (w.heap.size+4) w1 (.agg #[.bool z,.slice D G.length F]) ua:=by
   refine ar.mono ⟨z,D,F,G,rfl,i1⟩ (by simp)
  have p0:=V.c0;have p1:=V.c1;have p2:=V.c2
  have q0:=U.c0;have q1:=U.c1;have f0:=U.free 0;have f1:=U.free 1
  have ax:=ac V;have ae:=ac U;have H:=ac x3;have B1:=ac b1;have I1:=ac ap
  clear J V U x3 b1 i1 ap X1 X2 X3 B0
  have s0:=(uH H).c0;have s1:=(uH H).c1;have g0:=(uH H).free 0;have g1:=(uH H).free 1
  rcases uH HA with⟨rfl,hu⟩|rfl
  ·have HU:=ac hu
   clear HA CA hu
   go_wp2_with fail
   have b2:=cJ (uH B1) (show w.heap.size≤w.heap.size+1+1 by omega) (.bool z) (.slice D G.length F)
   refine(uH CB _ _ (hB.below b2) (by have:=uH HL;omega)).mono ?_
   rintro r w2 ⟨v2,rfl,⟨Z,a2,c2,L2,rfl,i2⟩,L⟩
   have ay:w.heap.size+4≤w2.heap.size:=by have:=L.size;simp at this;omega
   have y2:=((uH ae).put (.bool z) (.slice D G.length F)).all L
   have y3:=(((uH H).other (p:=⟨w.heap.size+1+1,0,none⟩) (by simp) (.bool z)).other (p:=⟨w.heap.size+1+1,1,none⟩) (by simp) (.slice D G.length F)).all L
   have b3:=b2.trans (L.mono b2.size)
   have j1:ar (w.heap.size+4) w2 (.agg #[.bool z,.slice D G.length F]) ua:=((uH I1).put2 (p:=⟨w.heap.size+1+1,0,none⟩) (q:=⟨w.heap.size+1+1,1,none⟩) (by simp) (by simp) (.bool z) (.slice D G.length F)).below L
   have j2:ar (w.heap.size+4) w2 (.agg #[.bool Z,.slice a2 L2.length c2]) ub:=ar.mono ⟨Z,a2,c2,L2,rfl,i2⟩ (by simp;omega)
   clear q0 q1 f0 f1 s0 s1 g0 g1 p0 p1 p2 ax ae H I1 B1 L i2 CB
   have q0:=y2.c0;have q1:=y2.c1;have f0:=y2.free 0;have f1:=y2.free 1
   have s0:=y3.c0;have s1:=y3.c1;have g0:=y3.free 0;have g1:=y3.free 1
   have B3:=ac b3;have J1:=ac j1;have J2:=ac j2
   have EE:=ac (fun u0 u1 v0 v1=>JM y2 y3 (by omega) u0 u1 v0 v1)
   clear b2 b3 y2 y3 j1 j2
   rcases uH HB with⟨rfl,hv⟩|rfl
   ·have HV:=ac hv
    clear HB hv
    go_wp2
    go_region_with fail
    all_goals
     go_wp2
     obtain⟨X,Y⟩:=uH EE (.bool z) (.slice D G.length F) (.bool Z) (.slice a2 L2.length c2)
     have z0:=X.c0;have z1:=X.c1;have z2:=Y.c0;have z3:=Y.c1
     refine bodyPost_ret (v:=.tuple #[.agg #[.bool z,.slice D G.length F],.agg #[.bool Z,.slice a2 L2.length c2],.int .i64 0]) (by simp[results,Tryz.results265,go_sem,z0,z1,z2,z3]) rfl ⟨⟨z,D,G.length,F,Z,a2,L2.length,c2,0,rfl,?_,?_⟩,?_⟩
     ·intro _ _
      rw[←uH HU,←uH HV]
      exact⟨rfl,((((((uH J1).put2 (by simp) (by simp) _ _).put2 (by simp) (by simp) _ _).put2 (by simp) (by simp) _ _).below ((Below.refl _ _).drew)).mono (Nat.zero_le _)),((((((uH J2).put2 (by simp) (by simp) _ _).put2 (by simp) (by simp) _ _).put2 (by simp) (by simp) _ _).below ((Below.refl _ _).drew)).mono (Nat.zero_le _))⟩
     ·intro h;exact absurd ⟨rfl,rfl⟩ h
     ·exact(cJ (cJ (cJ (uH B3) (by omega) _ _) (by omega) _ _) (by omega) _ _).drew
   ·clear HB
    go_wp2
    go_region_with fail
    all_goals
     go_wp2
     obtain⟨X,Y⟩:=uH EE (.bool z) (.slice D G.length F) (.bool Z) (.slice a2 L2.length c2)
     have z0:=X.c0;have z1:=X.c1;have z2:=Y.c0;have z3:=Y.c1
     refine bodyPost_ret (v:=.tuple #[.agg #[.bool z,.slice D G.length F],.agg #[.bool Z,.slice a2 L2.length c2],.int .i64 2]) (by simp[results,Tryz.results265,go_sem,z0,z1,z2,z3]) rfl ⟨⟨z,D,G.length,F,Z,a2,L2.length,c2,2,rfl,?_,fun _=>rfl⟩,?_⟩
     ·intro _ h;exact absurd h (by decide)
     ·exact(cJ (cJ (cJ (uH B3) (by omega) _ _) (by omega) _ _) (by omega) _ _).drew
  ·clear HA HB CA CB
   go_wp2
   go_region_with fail
   all_goals
    go_wp2
    obtain⟨X,Y⟩:=JN (uH ae) (uH H) (by omega) (.bool z) (.slice D G.length F) (.bool false) (.slice none 0 0)
    have z0:=X.c0;have z1:=X.c1;have z2:=Y.c0;have z3:=Y.c1
    refine bodyPost_ret (v:=.tuple #[.agg #[.bool z,.slice D G.length F],.agg #[.bool false,.slice none 0 0],.int .i64 2]) (by simp[results,Tryz.results265,go_sem,z0,z1,z2,z3]) rfl ⟨⟨z,D,G.length,F,false,none,0,0,2,rfl,?_,fun _=>rfl⟩,?_⟩
    ·intro h;exact absurd h (by decide)
    ·exact(cJ (cJ (cJ (uH B1) (by omega) _ _) (by omega) _ _) (by omega) _ _).drew
def ir(sa x sb y:Int):Int:=if sa=0 then y else if sb=0 then x else min x y
def jH(sa x sb y:Int):Int:=up sa x (ir sa x sb y)+up sb y (ir sa x sb y)
def mo(sa x sb y:Int):Bool:=decide (jp sa x (ir sa x sb y)=0∧jp sb y (ir sa x sb y)=0∧(jH sa x sb y).natAbs<eN)
def uF(sa x sb y:Int):Int:=if mo sa x sb y then dz (jH sa x sb y) (ir sa x sb y)else 2
def uG(sa x sb y:Int):Int:=if mo sa x sb y then dM (jH sa x sb y) (ir sa x sb y)else 0
def uI(sa x sb y:Int):Int:=if mo sa x sb y then dX (jH sa x sb y) (ir sa x sb y)else 0
def ow(w':World)(r:Ending)(er m e:Int):Prop:=∃v,r=.returned (.tuple #[v,.int .i64 er])∧bc w' v m e
theorem cT{n:Bool}{L:List Nat}(h:aE n L=true):aj n L=0↔L.length=0:=by
 have d:=(aN h).2.1
 constructor
 ·intro e
  have:val L=0:=by rw[←bh n L,e];rfl
  rw[(aS L d).1 this];rfl
 ·intro e
  have:L= []:=List.length_eq_zero_iff.1 e
  rw[this,iN]
theorem uJ{w:World}{t:Option Addr}{d:Nat}{n:Bool}{L:List Nat}(h:af w t d L)(l:aE n L=true):(aj n L).natAbs<eN:=by
 rw[bh];exact(gj L h.2.1 (aN l).2.1).2 (aN l).1
theorem kj(x l:Int):up 0 x l=0:=by simp[up]
theorem oH(s x:Int):up s x x=s:=by simp[up]
theorem nF(s x l:Int)(d:(up s x l).natAbs<eN)(h:x-l≤16384):jp s x l=0:=by unfold jp;rw[if_pos ⟨d,h⟩]
theorem ze{s x l:Int}(h:jp s x l=0):(up s x l).natAbs<eN:=by
 unfold jp at h
 by_cases d:(up s x l).natAbs<eN∧x-l≤16384
 ·exact d.1
 ·rw[if_neg d]at h;exact absurd h (by decide)
theorem pm(d y:Int)(D:-16384≤y∧y≤16384)(l:d.natAbs<eN):uF 0 0 d y=dz d y∧uG 0 0 d y=dM d y∧uI 0 0 d y=dX d y:=by
 have h:ir 0 0 d y=y:=by simp[ir]
 have t:jH 0 0 d y=d:=by unfold jH;rw[h,kj,oH];omega
 have z:mo 0 0 d y=true:=by
  unfold mo
  rw[h,t]
  exact decide_eq_true ⟨nF _ _ _ (by rw[kj];exact zd) (by omega),nF _ _ _ (by rw[oH];exact l) (by omega),l⟩
 unfold uF uG uI
 rw[z,h,t]
 exact⟨rfl,rfl,rfl⟩
theorem pn(d x:Int)(F:-16384≤x∧x≤16384)(l:d.natAbs<eN)(z:d≠0):uF d x 0 0=dz d x∧uG d x 0 0=dM d x∧uI d x 0 0=dX d x:=by
 have h:ir d x 0 0=x:=by simp[ir,z]
 have t:jH d x 0 0=d:=by unfold jH;rw[h,kj,oH];omega
 have D:mo d x 0 0=true:=by
  unfold mo
  rw[h,t]
  exact decide_eq_true ⟨nF _ _ _ (by rw[oH];exact l) (by omega),nF _ _ _ (by rw[kj];exact zd) (by omega),l⟩
 unfold uF uG uI
 rw[D,h,t]
 exact⟨rfl,rfl,rfl⟩
theorem zf(d x h y:Int)(l:d≠0)(t:h≠0):ir d x h y=min x y:=by unfold ir;rw[if_neg l,if_neg t]
theorem Dp(d x t y l z:Int)(G:ir d x t y=l)(H:jH d x t y=z):
  (jp d x l=0∧jp t y l=0∧z.natAbs<eN∧uF d x t y=dz z l∧uG d x t y=dM z l∧uI d x t y=dX z l)∨
  (jp d x l=0∧jp t y l=0∧¬z.natAbs<eN∧uF d x t y=2∧uG d x t y=0∧uI d x t y=0)∨
  (¬(jp d x l=0∧jp t y l=0)∧uF d x t y=2∧uG d x t y=0∧uI d x t y=0):=by
 unfold uF uG uI mo
 rw[G,H]
 by_cases D:jp d x l=0∧jp t y l=0
 ·by_cases F:z.natAbs<eN
  ·left
   rw[decide_eq_true (show jp d x l=0∧jp t y l=0∧z.natAbs<eN from⟨D.1,D.2,F⟩)]
   exact⟨D.1,D.2,F,rfl,rfl,rfl⟩
  ·right;left
   rw[decide_eq_false (show¬(jp d x l=0∧jp t y l=0∧z.natAbs<eN)from fun h=>F h.2.2)]
   exact⟨D.1,D.2,F,rfl,rfl,rfl⟩
 ·right;right
  rw[decide_eq_false (show¬(jp d x l=0∧jp t y l=0∧z.natAbs<eN)from fun h=>D ⟨h.1,h.2.1⟩)]
  exact⟨D,rfl,rfl,rfl⟩
theorem sN(H I:Bool)(ao bo:Option Addr)(ca cb:Nat)(A B:List Nat)(x y:Int)(w:World)(hA:af w ao ca A)(hB:af w bo cb B)(ra:aE H A=true)(rb:aE I B=true)(bx:-16384≤x∧x≤16384)(aI:-16384≤y∧y≤16384)(zx:A.length=0→x=0)(zy:B.length=0→y=0)(hT:c8 w):
  Calls Tryz.prog 260 #[.agg #[.bool H,.slice ao A.length ca,.int .i64 x],.agg #[.bool I,.slice bo B.length cb,.int .i64 y]] w fun r U=>ow U r (uF (aj H A) x (aj I B) y) (uG (aj H A) x (aj I B) y) (uI (aj H A) x (aj I B) y)∧Below w.heap.size w U:=by
 have ta:=uJ hA ra
 have tb:=uJ hB rb
 have a0:=ac (show A.length=0→uF (aj H A) x (aj I B) y=dz (aj I B) y∧uG (aj H A) x (aj I B) y=dM (aj I B) y∧uI (aj H A) x (aj I B) y=dX (aj I B) y from fun h=>by
  have:=(cT ra).2 h
  rw[this,zx h];exact pm _ _ aI tb)
 have a5:=ac (show A.length≠0→B.length=0→uF (aj H A) x (aj I B) y=dz (aj H A) x∧uG (aj H A) x (aj I B) y=dM (aj H A) x∧uI (aj H A) x (aj I B) y=dX (aj H A) x from fun X h=>by
  have:=(cT rb).2 h
  rw[this,zy h];exact pn _ _ bx ta (fun e=>X ((cT ra).1 e)))
 have HL:=ac (show A.length≠0→B.length≠0→ir (aj H A) x (aj I B) y=min x y from fun X h=>zf _ _ _ _ (fun e=>X ((cT ra).1 e)) (fun e=>h ((cT rb).1 e)))
 obtain⟨l,hl⟩:∃l,ir (aj H A) x (aj I B) y=l:=⟨_,rfl⟩
 obtain⟨z,hz⟩:∃z,jH (aj H A) x (aj I B) y=z:=⟨_,rfl⟩
 have HW:=ac (Dp _ _ _ _ l z hl hz)
 have aD:=ac (show z=up (aj H A) x l+up (aj I B) y l by rw[←hz,←hl];rfl)
 rw[hl]at HL
 have bb:=ac (fun U h t=>jo I bo cb B y U h rb (by omega) t)
 have a6:=ac (fun U h t=>jo H ao ca A x U h ra (by omega) t)
 have az:=ac (fun U h h' e=>AH H I ao bo ca cb A B x y l U h h' ra rb bx aI e)
 have L:=ac (fun U u v (h1:jp (aj H A) x l=0) (h2:jp (aj I B) y l=0) (Z:ar 0 U u (up (aj H A) x l)) (O:ar 0 U v (up (aj I B) y l))=>FT Z O (ze h1) (ze h2))
 rw[←uH aD]at L
 have aa:=ac (fun(Y:z.natAbs<eN) e' U u B' (he:e'=l) (Z:ar B' U u z) (t:c8 U)=>show Calls Tryz.prog 218 #[u,.int .i64 e'] U fun r ba=>∃v,r=.returned (.tuple #[v,.int .i64 (dz z l)])∧bc ba v (dM z l) (dX z l)∧Below U.heap.size U ba by
  subst he
  refine jO _ Z Y ?_ t
  have:-16384≤e'∧e'≤16384:=by
   rw[←hl];unfold ir
   split
   ·omega
   ·split<;>omega
  omega)
 have ad:=ac (fun h:z.natAbs<eN=>And.intro (gE z h) (gF z h))
 have ai:=ac (fun h:¬z.natAbs<eN=>(show bO z=2 by unfold bO;rw[if_neg h]))
 clear hl hz ta tb ra rb zx zy aD
 obtain⟨bq,bt⟩:=bx
 obtain⟨bv,bz⟩:=aI
 generalize uF (aj H A) x (aj I B) y=er at*
 generalize uG (aj H A) x (aj I B) y=am at*
 generalize uI (aj H A) x (aj I B) y=ax at*
 generalize jp (aj H A) x l=ea at*
 generalize jp (aj I B) y l=eb at*
 generalize up (aj H A) x l=za at*
 generalize up (aj I B) y l=zb at*
 have bd:Below w.heap.size w (((w.alloc (.cells #[.bool H,.slice ao A.length ca,.int .i64 x] 57)).alloc (.cells #[.bool I,.slice bo B.length cb,.int .i64 y] 57)).alloc (.cells #[.bool false,.slice none 0 0,.int .i64 0] 57)):=
  (((Below.refl _ _).alloc (Nat.le_refl _) _).alloc (by simp) _).alloc (by simp;omega) _
 have T:a8 (((w.alloc (.cells #[.bool H,.slice ao A.length ca,.int .i64 x] 57)).alloc (.cells #[.bool I,.slice bo B.length cb,.int .i64 y] 57)).alloc (.cells #[.bool false,.slice none 0 0,.int .i64 0] 57)) w.heap.size (.bool H) (.slice ao A.length ca) (.int .i64 x):=((a8.new _ _ _ _).old _).old _
 have M:a8 (((w.alloc (.cells #[.bool H,.slice ao A.length ca,.int .i64 x] 57)).alloc (.cells #[.bool I,.slice bo B.length cb,.int .i64 y] 57)).alloc (.cells #[.bool false,.slice none 0 0,.int .i64 0] 57)) (w.heap.size+1) (.bool I) (.slice bo B.length cb) (.int .i64 y):=by
  have:=(a8.new (w.alloc (.cells #[.bool H,.slice ao A.length ca,.int .i64 x] 57)) (.bool I) (.slice bo B.length cb) (.int .i64 y)).old (.cells #[.bool false,.slice none 0 0,.int .i64 0] 57)
  simpa using this
 have D:a8 (((w.alloc (.cells #[.bool H,.slice ao A.length ca,.int .i64 x] 57)).alloc (.cells #[.bool I,.slice bo B.length cb,.int .i64 y] 57)).alloc (.cells #[.bool false,.slice none 0 0,.int .i64 0] 57)) (w.heap.size+1+1) (.bool false) (.slice none 0 0) (.int .i64 0):=by
  have:=a8.new ((w.alloc (.cells #[.bool H,.slice ao A.length ca,.int .i64 x] 57)).alloc (.cells #[.bool I,.slice bo B.length cb,.int .i64 y] 57)) (.bool false) (.slice none 0 0) (.int .i64 0)
  simpa using this
 have B0:=ac bd;have X0:=ac T;have X1:=ac M;have X2:=ac D
 clear bd T M D
 go_enter Tryz.func260,Tryz.ntmps260
 go_wp2_with fail
 refine(d8 H ao ca A.length _).mono ?_
 by_cases X:A.length=0
 ·rw[decide_eq_true X]
  rintro r w1 ⟨rfl,d⟩
  obtain⟨rfl,rfl,rfl⟩:=uH a0 X
  have M:=(uH X1).all d;have D:=(uH X2).all d
  have V:=(uH B0).trans (d.mono (uH B0).size)
  have q0:=M.c0;have q1:=M.c1;have q2:=M.c2
  have F:=ac D;have G:=ac V
  clear X a0 a5 HL HW a6 az L aa ad ai d M D V X0 X1 X2 B0
  go_wp2_with fail
  refine(uH bb _ (hB.below (uH G)) (hT.all (uH G))).mono ?_
  rintro r w2 ⟨v,rfl,O,d⟩
  obtain⟨n3,a3,c3,L3,rfl,i3⟩:=O.num
  have D:=(uH F).all d
  have b2:=(uH G).trans (d.mono (uH G).size)
  have y0:=D.c0;have y1:=D.c1;have y2:=D.c2;have f0:=D.free 0;have f1:=D.free 1;have f2:=D.free 2
  have X3:=ac D;have B2:=ac b2;have IV:=ac O
  clear D b2 d O i3
  go_wp2
  refine bodyPost_ret (v:=.tuple #[.agg #[.bool n3,.slice a3 L3.length c3,.int .i64 (dX (aj I B) y)],.int .i64 (dz (aj I B) y)]) (by simp[results,Tryz.results260,go_sem,y0,y1,y2]) rfl ⟨⟨_,rfl,(uH IV).put3 (uH X3) _ _ _⟩,bC (uH B2) (by omega) _ _ _⟩
 ·rw[decide_eq_false X]
  rintro r w1 ⟨rfl,d⟩
  have T:=(uH X0).all d;have M:=(uH X1).all d;have D:=(uH X2).all d
  have V:=(uH B0).trans (d.mono (uH B0).size)
  have q0:=M.c0;have q1:=M.c1;have q2:=M.c2
  have N:=ac T;have Q:=ac M;have F:=ac D;have G:=ac V
  have ap:=ac (uH a5 X);have a7:=ac (uH HL X)
  clear X a0 a5 HL bb d T M D V X0 X1 X2 B0
  go_wp2_with fail
  refine(d8 I bo cb B.length _).mono ?_
  by_cases X:B.length=0
  ·rw[decide_eq_true X]
   rintro r w2 ⟨rfl,d⟩
   obtain⟨rfl,rfl,rfl⟩:=uH ap X
   have T:=(uH N).all d;have D:=(uH F).all d
   have V:=(uH G).trans (d.mono (uH G).size)
   clear q0 q1 q2 N Q F G
   have q0:=T.c0;have q1:=T.c1;have q2:=T.c2
   have F:=ac D;have G:=ac V
   clear X ap a7 HW az L aa ad ai d T D V
   go_wp2_with fail
   refine(uH a6 _ (hA.below (uH G)) (hT.all (uH G))).mono ?_
   rintro r w4 ⟨v,rfl,O,d⟩
   obtain⟨n3,a3,c3,L3,rfl,i3⟩:=O.num
   have D:=(uH F).all d
   have b2:=(uH G).trans (d.mono (uH G).size)
   have y0:=D.c0;have y1:=D.c1;have y2:=D.c2;have f0:=D.free 0;have f1:=D.free 1;have f2:=D.free 2
   have X3:=ac D;have B2:=ac b2;have IV:=ac O
   clear D b2 d O i3
   go_wp2
   refine bodyPost_ret (v:=.tuple #[.agg #[.bool n3,.slice a3 L3.length c3,.int .i64 (dX (aj H A) x)],.int .i64 (dz (aj H A) x)]) (by simp[results,Tryz.results260,go_sem,y0,y1,y2]) rfl ⟨⟨_,rfl,(uH IV).put3 (uH X3) _ _ _⟩,bC (uH B2) (by omega) _ _ _⟩
  ·rw[decide_eq_false X]
   rintro r w2 ⟨rfl,d⟩
   have T:=(uH N).all d;have M:=(uH Q).all d;have D:=(uH F).all d
   have V:=(uH G).trans (d.mono (uH G).size)
   have be:=uH a7 X
   clear q0 q1 q2 N Q F G
   have p0:=T.c0;have p1:=T.c1;have p2:=T.c2
   have q0:=M.c0;have q1:=M.c1;have q2:=M.c2
   have N:=ac T;have Q:=ac M;have F:=ac D;have G:=ac V;have bi:=ac be
   clear X ap a7 a6 d T M D V be
   go_wp2_with fail
   refine(uH az _ (hA.below (uH G)) (hB.below (uH G)) (uH bi)).mono ?_
   rintro r w3 ⟨⟨n1,a1,l1,c1,n2,a2,l2,c2,ae,rfl,g1,g2⟩,d⟩
   have T:=(uH N).all d;have M:=(uH Q).all d;have D:=(uH F).all d
   have V:=(uH G).trans (d.mono (uH G).size)
   have G1:=ac g1;have G2:=ac g2
   clear p0 p1 p2 q0 q1 q2 N Q F G az d g1 g2
   --the two boxes of what align answered
   have bA:Below w3.heap.size w3 ((w3.alloc (.cells #[.bool n1,.slice a1 l1 c1] 55)).alloc (.cells #[.bool n2,.slice a2 l2 c2] 55)):=((Below.refl _ _).alloc (Nat.le_refl _) _).alloc (by simp) _
   have N:=ac (T.all bA);have Q:=ac (M.all bA);have F:=ac (D.all bA);have G:=ac (V.trans (bA.mono V.size));have BA:=ac bA
   clear T M D V bA
   rcases uH HW with⟨e1,e2,Y,rfl,rfl,rfl⟩|⟨e1,e2,Y,rfl,rfl,rfl⟩|⟨bp,rfl,rfl,rfl⟩
   ·obtain⟨rfl,Z,O⟩:=uH G1 e1 e2
    obtain⟨ay,bn⟩:=uH ad Y
    have J:=ac (fun U u v Z O=>uH L U u v e1 e2 Z O)
    rw[ay,bn]at J
    have bm:=ac (uH aa Y)
    have IU:=ac (Z.below (uH BA));have aq:=ac (O.below (uH BA))
    clear HW L aa ad ai G1 G2 e1 e2 Y ay bn Z O
    go_wp2_with fail
    refine(uH J _ _ _ (uH IU) (uH aq)).mono ?_
    rintro r w5 ⟨u,rfl,⟨n4,a4,c4,L4,rfl,i4⟩,d⟩
    have T:=((uH N).all d).old (.cells #[.bool n4,.slice a4 L4.length c4] 55)
    have M:=((uH Q).all d).old (.cells #[.bool n4,.slice a4 L4.length c4] 55)
    have D:=((uH F).all d).old (.cells #[.bool n4,.slice a4 L4.length c4] 55)
    have V:=((uH G).trans (d.mono (uH G).size)).alloc ((uH G).trans (d.mono (uH G).size)).size (.cells #[.bool n4,.slice a4 L4.length c4] 55)
    have iz:ar 0 (w5.alloc (.cells #[.bool n4,.slice a4 L4.length c4] 55)) (.agg #[.bool n4,.slice a4 L4.length c4]) z:=ar.mono (ar.below ⟨n4,a4,c4,L4,rfl,i4⟩ ((Below.refl _ _).alloc (Nat.le_refl _) _)) (Nat.zero_le _)
    clear N Q F G d i4 J IU aq BA
    have p2:=T.c2;have q2:=M.c2
    have F:=ac D;have G:=ac V;have IZ:=ac iz
    clear T M D V iz
    rcases(show x<y∨x=y∨y<x by omega)with a9|a9|a9
    all_goals
     first|subst a9|skip
     go_wp2_with fail
     refine(uH bm _ _ _ _ (by have:=uH bi;omega) (uH IZ) (hT.all (uH G))).mono ?_
     rintro r w4 ⟨v,rfl,O,d⟩
     obtain⟨n3,a3,c3,L3,rfl,i3⟩:=O.num
     have D:=(uH F).all d
     have b2:=(uH G).trans (d.mono (uH G).size)
     have y0:=D.c0;have y1:=D.c1;have y2:=D.c2;have f0:=D.free 0;have f1:=D.free 1;have f2:=D.free 2
     have X3:=ac D;have B2:=ac b2;have IV:=ac O
     clear D b2 d O i3
     go_wp2
     refine bodyPost_ret (v:=.tuple #[.agg #[.bool n3,.slice a3 L3.length c3,.int .i64 (dX z l)],.int .i64 (dz z l)]) (by simp[results,Tryz.results260,go_sem,y0,y1,y2]) rfl ⟨⟨_,rfl,(uH IV).put3 (uH X3) _ _ _⟩,bC (uH B2) (by omega) _ _ _⟩
   ·obtain⟨rfl,Z,O⟩:=uH G1 e1 e2
    have ay:=uH ai Y
    have J:=ac (fun U u v Z O=>uH L U u v e1 e2 Z O)
    rw[ay]at J
    have IU:=ac (Z.below (uH BA));have aq:=ac (O.below (uH BA))
    clear HW L aa ad ai G1 G2 e1 e2 Y ay Z O
    go_wp2_with fail
    refine(uH J _ _ _ (uH IU) (uH aq)).mono ?_
    rintro r w5 ⟨u,rfl,⟨n4,a4,c4,L4,rfl,i4⟩,d⟩
    have D:=((uH F).all d).old (.cells #[.bool n4,.slice a4 L4.length c4] 55)
    have V:=((uH G).trans (d.mono (uH G).size)).alloc ((uH G).trans (d.mono (uH G).size)).size (.cells #[.bool n4,.slice a4 L4.length c4] 55)
    have y0:=D.c0;have y1:=D.c1;have y2:=D.c2;have f0:=D.free 0;have f1:=D.free 1;have f2:=D.free 2
    have B2:=ac V
    clear N Q F G d i4 J IU aq BA D V
    go_wp2
    refine bodyPost_ret (v:=.tuple #[.agg #[.bool false,.slice none 0 0,.int .i64 0],.int .i64 (2)]) (by simp[results,Tryz.results260,go_sem,y0,y1,y2]) rfl ⟨⟨_,rfl,bc.zero _ _ _⟩,bC (uH B2) (by omega) _ _ _⟩
   ·have ha:=uH G2 bp
    subst ha
    have D:=uH F
    have y0:=D.c0;have y1:=D.c1;have y2:=D.c2;have f0:=D.free 0;have f1:=D.free 1;have f2:=D.free 2
    have B2:=G
    clear HW L aa ad ai G1 G2 bp D N Q F BA G
    go_wp2
    refine bodyPost_ret (v:=.tuple #[.agg #[.bool false,.slice none 0 0,.int .i64 0],.int .i64 (2)]) (by simp[results,Tryz.results260,go_sem,y0,y1,y2]) rfl ⟨⟨_,rfl,bc.zero _ _ _⟩,bC (uH B2) (by omega) _ _ _⟩
end Go.Proofs.YtmpkkhackbpflaaGreatDoor
