/- Part 9 of the texts. -/
import Derived.Test.YtcbcmlaogehimaaGreatDoorPartr08
set_option maxHeartbeats 4000000
set_option maxRecDepth 20000
namespace Go.Proofs.YtcbcmlaogehimaaGreatDoor
open Go.RowKit
theorem aY(x:Int)(h:-9000000000000000000≤x∧x≤9000000000000000000):IntKind.i64.wrap x=x:=by
 simp only[IntKind.wrap,IntKind.signed,IntKind.bits]
 simp
 omega
theorem Ay(L:List Nat):ai L%2=L[0]?.getD 0%2:=by
 cases L with
 |nil=>rfl
 |cons x r=>simp[ai];omega
theorem EZ(neg:Bool)(F:Option Addr)(u:Nat)(L:List Nat)(w:World)(h:ag w F u L):
  Calls Tryz.prog 66 #[.agg #[.bool neg,.slice F L.length u]] w fun e I=>e=.returned (.bool (decide (ai L%2=1)))∧Below w.heap.size w I:=by
 by_cases z:L= []
 ·subst z
  go_enter Tryz.func66,Tryz.ntmps66
  go_wp2
  go_ret
  exact⟨rfl,(Below.refl _ _).alloc (Nat.le_refl _) _⟩
 obtain⟨b,O,rfl,X,H⟩:=h.ne (List.length_pos_iff.2 z)
 have J:0<L.length:=List.length_pos_iff.2 z
 have K:(0:Int)<(L.length:Int):=by omega
 have A:=H 0 J
 have U:=h.lt 0
 have G:=h.1
 rw[Ay]
 generalize L[0]?.getD 0=x at*
 clear H h z
 rw[Nat.add_zero]at A
 generalize Q:L.length=n at*
 clear Q
 by_cases d:x%2=1
 ·have N:(((x:Int)%2)==1)=true:=by rw[beq_iff_eq];omega
  have D:=ac (decide_eq_true d)
  clear d
  go_enter Tryz.func66,Tryz.ntmps66
  go_wp2
  go_ret
  exact⟨jc (uH D).symm,(Below.refl _ _).alloc (Nat.le_refl _) _⟩
 ·have N:(((x:Int)%2)==1)=false:=by rw[beq_eq_false_iff_ne];omega
  have D:=ac (decide_eq_false d)
  clear d
  go_enter Tryz.func66,Tryz.ntmps66
  go_wp2
  go_ret
  exact⟨jc (uH D).symm,(Below.refl _ _).alloc (Nat.le_refl _) _⟩
theorem kE(neg:Bool)(z:Option Addr)(d:Nat)(L:List Nat)(e:Int)(w:World)(h:ag w z d L)(Q:L.length≤35184372088830):
  Calls Tryz.prog 169 #[.agg #[.bool neg,.slice z L.length d,.int .i64 e]] w fun r u=>r=.returned (.int .i64 (IntKind.i64.wrap (dL L+e)))∧Below w.heap.size w u:=by
 have X:=ac (fun u U=>qC neg z d L u U Q)
 generalize dL L=n at*
 have F:Below w.heap.size w (w.alloc (.cells #[.bool neg,.slice z L.length d,.int .i64 e] 35)):=(Below.refl _ _).alloc (Nat.le_refl _) _
 have D:=ak.new w (.bool neg) (.slice z L.length d) (.int .i64 e)
 have I:=ac D;have J:=ac F
 clear D F
 go_enter Tryz.func169,Tryz.ntmps169
 go_wp2
 refine al (fun W=>Below w.heap.size w W∧ak W w.heap.size (.bool neg) (.slice z L.length d) (.int .i64 e)) ⟨uH J,uH I⟩ ?_
 rintro A ⟨H,D⟩
 have K:∀u,Below A.heap.size A u→Below A.heap.size A u∧u.cell? ⟨w.heap.size,0,none⟩=some (.bool neg)∧u.cell? ⟨w.heap.size,1,none⟩=some (.slice z L.length d)∧u.cell? ⟨w.heap.size,2,none⟩=some (.int .i64 e):=fun u h=>
  ⟨h,(D.all h).c0,(D.all h).c1,(D.all h).c2⟩
 have N:=ac K
 have Y:=ac (h.below H);have O:=ac H
 clear K D H h I J
 go_region_held3(fun u=>Below A.heap.size A u∧u.cell? ⟨w.heap.size,0,none⟩=some (.bool neg)∧u.cell? ⟨w.heap.size,1,none⟩=some (.slice z L.length d)∧u.cell? ⟨w.heap.size,2,none⟩=some (.int .i64 e))
  (first|exact uH N _ (Below.refl _ _).drew|exact uH N _ (by assumption))
  (first|(go_at_call 208;refine(uH X _ ((uH Y).below (And.left (by assumption)))).mono ?_;rintro e w1 ⟨rfl,G⟩;have Z:Below A.heap.size A w1:=Below.trans (And.left (by assumption)) (G.mono (Below.size (And.left (by assumption))));clear G))
 go_wp2
 go_ret
 exact⟨rfl,(uH O).trans (Below.mono (And.left (by assumption)) (uH O).size)⟩
def g7(L:List Nat)(e:Int):Int:=if L.length=0 then 0 else dL L+e
theorem nQ(neg:Bool)(z:Option Addr)(d:Nat)(L:List Nat)(e:Int)(w:World)(h:ag w z d L)(hl:L.length≤1073741824)(he:-100000≤e∧e≤100000):
  Calls Tryz.prog 69 #[.agg #[.bool neg,.slice z L.length d,.int .i64 e]] w fun r u=>r=.returned (.int .i64 (g7 L e))∧Below w.heap.size w u:=by
 have U:=ac (fun u h'=>ve neg z d L u h' (by omega))
 have J:L.length≠0→0≤dL L∧dL L≤40000000000:=fun D=>by
  unfold dL
  rw[if_neg D]
  have:=lN (L[L.length-1]?.getD 0)
  omega
 have I:=ac (show(L.length=0→g7 L e=0)∧(L.length≠0→g7 L e=dL L+e) by unfold g7;constructor<;>intro h<;>simp[h])
 generalize g7 L e=t at*
 generalize dL L=n at*
 have G:Below w.heap.size w (w.alloc (.cells #[.bool neg,.slice z L.length d,.int .i64 e] 35)):=(Below.refl _ _).alloc (Nat.le_refl _) _
 have F:=ak.new w (.bool neg) (.slice z L.length d) (.int .i64 e)
 have X:=ac F;have K:=ac G
 clear F G
 by_cases D:L.length=0
 ·have N:=(uH I).1 D
  subst N
  have O:((L.length:Int)==0)=true:=by rw[beq_iff_eq];omega
  clear I J U D
  go_enter Tryz.func69,Tryz.ntmps69
  go_wp2
  go_ret
  exact⟨rfl,uH K⟩
 have N:=(uH I).2 D
 subst N
 obtain⟨ae,ah⟩:=J D
 have O:((L.length:Int)==0)=false:=by rw[beq_eq_false_iff_ne];omega
 clear I J D
 go_enter Tryz.func69,Tryz.ntmps69
 go_wp2
 refine al (fun W=>Below w.heap.size w W∧ak W w.heap.size (.bool neg) (.slice z L.length d) (.int .i64 e)) ⟨uH K,uH X⟩ ?_
 rintro A ⟨Q,F⟩
 have Y:∀u,Below A.heap.size A u→Below A.heap.size A u∧u.cell? ⟨w.heap.size,0,none⟩=some (.bool neg)∧u.cell? ⟨w.heap.size,1,none⟩=some (.slice z L.length d)∧u.cell? ⟨w.heap.size,2,none⟩=some (.int .i64 e):=fun u h=>
  ⟨h,(F.all h).c0,(F.all h).c1,(F.all h).c2⟩
 have Z:=ac Y
 have HA:=ac (h.below Q);have BB:=ac Q
 clear Y F Q h X K
 go_region_held3(fun u=>Below A.heap.size A u∧u.cell? ⟨w.heap.size,0,none⟩=some (.bool neg)∧u.cell? ⟨w.heap.size,1,none⟩=some (.slice z L.length d)∧u.cell? ⟨w.heap.size,2,none⟩=some (.int .i64 e))
  (first|exact uH Z _ (Below.refl _ _).drew|exact uH Z _ (by assumption))
  (first|(go_at_call 127;refine(uH U _ ((uH HA).below (And.left (by assumption)))).mono ?_;rintro e w1 ⟨rfl,H⟩;have aa:Below A.heap.size A w1:=Below.trans (And.left (by assumption)) (H.mono (Below.size (And.left (by assumption))));clear H))
 go_wp2
 go_ret
 exact⟨aU (aY _ (by omega)),(uH BB).trans (Below.mono (And.left (by assumption)) (uH BB).size)⟩
def vj(neg:Bool)(n:Nat):Int:=if neg then-1 else if n=0 then 0 else 1
theorem lT(neg:Bool)(F:Option Addr)(z:Nat)(n:Nat)(e:Int)(w:World):
  Calls Tryz.prog 68 #[.agg #[.bool neg,.slice F n z,.int .i64 e]] w fun r G=>r=.returned (.int .i64 (vj neg n))∧Below w.heap.size w G:=by
 have d:=ac (show vj neg n=if neg then-1 else if n=0 then 0 else 1 from rfl)
 generalize vj neg n=s at*
 have A:Below w.heap.size w (w.alloc (.cells #[.bool neg,.slice F n z,.int .i64 e] 35)):=(Below.refl _ _).alloc (Nat.le_refl _) _
 have D:=ac A
 clear A
 cases neg
 ·rcases(show n=0∨n=1∨2≤n by omega)with rfl|rfl|h
  ·have u:s=0:=by rw[uH d];rfl
   subst u
   clear d
   go_enter Tryz.func68,Tryz.ntmps68
   go_wp2
   go_ret
   exact⟨rfl,uH D⟩
  ·have u:s=1:=by rw[uH d];rfl
   subst u
   clear d
   go_enter Tryz.func68,Tryz.ntmps68
   go_wp2
   go_ret
   exact⟨rfl,uH D⟩
  ·have u:s=1:=by rw[uH d,if_neg (by decide),if_neg (by omega)]
   subst u
   have H:(1:Int)<(n:Int):=by omega
   clear d
   go_enter Tryz.func68,Tryz.ntmps68
   go_wp2
   go_ret
   exact⟨rfl,uH D⟩
 ·have u:s= -1:=by rw[uH d];rfl
  subst u
  clear d
  go_enter Tryz.func68,Tryz.ntmps68
  go_wp2
  go_ret
  exact⟨rfl,uH D⟩
attribute [local go_sem ↓] Go.wp_at_zero Go.wp_at_succ
theorem ii(x k:Int):IntKind.i64.wrap (IntKind.i64.wrap x+k)=IntKind.i64.wrap (x+k):=by
 simp only[IntKind.wrap,IntKind.signed,IntKind.bits]
 simp
 split<;>split<;>split<;>omega
theorem ej(x:Int):wrap64 x=IntKind.i64.wrap x:=by
 simp only[IntKind.wrap,IntKind.signed,IntKind.bits,wrap64]
 simp
 split<;>omega
theorem d7(x:Int)(h:-9223372036854775808≤x∧x≤9223372036854775807):IntKind.i64.wrap x=x:=by
 simp only[IntKind.wrap,IntKind.signed,IntKind.bits]
 simp
 omega
theorem et(x e:Int)(j:Nat)(d:j<18446744073709551616)(h:x=IntKind.i64.wrap (e+j)):((x-e)%18446744073709551616).toNat=j:=by
 subst h
 simp only[IntKind.wrap,IntKind.signed,IntKind.bits]
 simp
 split<;>omega
theorem Ib(x:Int):sg (decide (x<0)) x.natAbs=x:=by
 unfold sg
 by_cases h:x<0
 ·rw[decide_eq_true h];simp;omega
 ·rw[decide_eq_false h];simp;omega
def yw(w wr:World)(z:Int)(j:Nat)(nn:Bool)(a:Option Addr)(c:Nat)(L:List Nat):Prop:=
 aA wr w.heap.size (.bool nn) (.slice a L.length c)∧ak wr (w.heap.size+1) (.bool false) (.slice none 0 0) (.int .i64 0)∧ag wr a c L∧bO L∧L≠ []∧L.length≤30000∧sg nn (ai L)*2^j=z∧Below w.heap.size w wr
theorem yw.step{w h:World}{z x:Int}{G K A:Bool}{L D:Option Addr}{N O F v M B j:Nat}{d:List Nat}
  (H:aA h w.heap.size (.bool K) (.slice L N O)) (Q:ak h (w.heap.size+1) (.bool false) (.slice none 0 0) (.int .i64 0))
  (i:ag h D F d∧bC B D d∧bO d∧A=decide (x<0)∧ai d=x.natAbs∧d.length≤M) (I:x=sg G v) (hv:v≠0) (U:sg G v*2^j=z) (hl:M≤30000) (u:Below w.heap.size w h):
  yw w ((h.setCell ⟨w.heap.size,0,none⟩ (.bool A)).setCell ⟨w.heap.size,1,none⟩ (.slice D d.length F)) z j A D F d:=by
 obtain⟨Y,i2,Z,i4,J,i6⟩:=i
 have X:sg A (ai d)=x:=by rw[i4,J,Ib]
 refine⟨H.put _ _,(Q.other (by simp) _).other (by simp) _,Y.box H _ _,Z,?_,by omega,?_,(u.setCell (by simp) _).setCell (by simp) _⟩
 ·rintro rfl
  simp[ai]at J
  have:x.natAbs=v:=by rw[I,jA]
  omega
 ·rw[X,I];exact U
theorem yw.tzs{w wr:World}{z:Int}{j:Nat}{d:Bool}{a:Option Addr}{c:Nat}{L:List Nat}(h:yw w wr z j d a c L):ai L≠0∧tz z.natAbs=j+tz (ai L):=by
 obtain⟨G,H,I,A,D,J,F,K⟩:=h
 have u:ai L≠0:=fun e=>D ((aQ L A).1 e)
 refine⟨u,?_⟩
 rw[←Ag (ai L) j (by omega),←F,Int.natAbs_mul,jA,Int.natAbs_pow,Nat.mul_comm]
 rfl
theorem yw.last{w wr:World}{z:Int}{j:Nat}{d:Bool}{a:Option Addr}{c:Nat}{L:List Nat}(h:yw w wr z j d a c L)(J:ai L%2=1):au 0 wr (.agg #[.bool d,.slice a L.length c]) (oM z)∧j=tz z.natAbs:=by
 obtain⟨K,N,u,D,F,O,G,Q⟩:=h
 have A:ia z (sg d (ai L)) j:=⟨G.symm,by unfold sg;cases d<;>simp<;>omega⟩
 obtain⟨U,H,I⟩:=A.eq
 rw[←H,←dH]
 exact⟨au.mk u (bC.zero u) D F (by omega),I⟩
theorem yx(L:List Nat)(d:bh L):ai L%4294967296=L[0]?.getD 0:=by
 cases L with
 |nil=>rfl
 |cons x r=>
  have:=d x (by simp)
  simp[ai]
  omega
theorem yw.down{w wr:World}{z:Int}{j:Nat}{d:Bool}{a:Option Addr}{c:Nat}{L:List Nat}(h:yw w wr z j d a c L)(k:Nat)(H:ai L%2^k=0):ai L/2^k≠0∧sg d (ai L/2^k)*2^(j+k)=z∧j+k≤tz z.natAbs:=by
 obtain⟨D,F⟩:=h.tzs
 obtain⟨I,J,K,N,O,Q,G,U⟩:=h
 have u:ai L=2^k*(ai L/2^k):=by have:=Nat.div_add_mod (ai L) (2^k);omega
 have A:ai L/2^k≠0:=fun e=>D (by rw[u,e];simp)
 refine⟨A,?_,?_⟩
 ·rw[←G]
  conv=>rhs;rw[u]
  generalize ai L/2^k=q
  have e:sg d (2^k*q)=sg d q*2^k:=by
   unfold sg
   cases d
   ·simp only[Bool.false_eq_true,if_false];push_cast;rw[Int.mul_comm]
   ·simp only[if_true];push_cast;rw[Int.neg_mul,Int.mul_comm]
  rw[e,Nat.add_comm,Int.pow_add,Int.mul_assoc]
 ·rw[F]
  have e:tz (ai L)=k+tz (ai L/2^k):=by
   conv=>lhs;rw[u]
   exact Ag _ _ (Nat.pos_of_ne_zero A)
  omega
theorem Az(na:Bool)(ao:Option Addr)(ca:Nat)(A:List Nat)(e:Int)(w:World)(hA:ag w ao ca A)(h0:A≠ [])(hc:bO A)(la:A.length≤20000)(be:-9223372036854775808≤e∧e≤9223372036854775807):
  Calls Tryz.prog 27 #[.agg #[.bool na,.slice ao A.length ca],.int .i64 e] w fun r w'=>∃v,r=.returned v∧aB w' v (oM (af na A)) (IntKind.i64.wrap (e+tz (af na A).natAbs))∧Below w.heap.size w w':=by
 obtain⟨i0,hi,bb,bd,bg⟩:=info_parts Tryz.info84
 have HZ:=ac (dH na A).symm
 have hT:tz (af na A).natAbs<18446744073709551616:=by
  rw[aM]
  have hv:ai A≠0:=fun e=>h0 ((aQ A hc).1 e)
  have h1:=ew A hA.2.1
  rw[show(4294967296:Nat)=2^32 by decide,←Nat.pow_mul]at h1
  have:=jP (ai A) _ (by omega) h1
  omega
 generalize af na A=z at*
 obtain⟨T,ax⟩:∃T,T=tz z.natAbs:=⟨_,rfl⟩
 have ah:=ac ax
 rw[←ax]at hT⊢
 have HM:=ac (show oM z=oM z from rfl)
 have am:=ac h0;have HC:=ac hc
 clear h0 hc ax
 have hp:0<A.length:=List.length_pos_iff.2 (uH am)
 have an:((A.length:Int)==0)=false:=by rw[beq_eq_false_iff_ne];omega
 go_enter Tryz.func27,Tryz.ntmps27
 go_wp2
 clear HM
 go_loopw[1] (fun i wr=>∃(x:Int) (j:Nat) (O:Bool) (a:Option Addr) (c:Nat) (L:List Nat),i=.int .i64 x∧j≤T∧Hid (x=IntKind.i64.wrap (e+j))∧Hid (yw w wr z j O a c L)) (fun i _=>T-((intOf i-e)%18446744073709551616).toNat)
 case atStart=>
  refine⟨e,0,na,ao,ca,A,rfl,Nat.zero_le _,?_,(aA.new _ _ _).old _,?_,hA.below (((Below.refl _ _).alloc (Nat.le_refl _) _).alloc (by simp) _),uH HC,uH am,by omega,by rw[uH HZ];simp,((Below.refl _ _).alloc (Nat.le_refl _) _).alloc (by simp) _⟩
  ·unfold Hid;rw[d7 _ (by omega)];omega
  ·have:=ak.new (w.alloc (.cells #[.bool na,.slice ao A.length ca] 33)) (.bool false) (.slice none 0 0) (.int .i64 0)
   simpa using this
 case round=>
  obtain⟨x,j,O,a,c,L,rfl,hj,hx,Z⟩:=hrel
  clear HZ HC am hA la hp an
  obtain⟨J,K,hL,hC,hS,G,hz,H⟩:=uH Z
  have hp:0<L.length:=List.length_pos_iff.2 hS
  have an:(0:Int)<(L.length:Int):=by omega
  have p0:=J.c0;have p1:=J.c1
  have aI:=hL.1
  obtain⟨b,a1,rfl,hb,az⟩:=hL.ne hp
  have ar:=az 0 hp
  rw[Nat.add_zero]at ar
  have N:=yx L hL.2.1
  have a3:=hL.lt 0
  by_cases hg:L[0]?.getD 0=0
  ·rw[hg]at ar N
   obtain⟨d1,d2,d3⟩:=(uH Z).down 32 N
   rw[←uH ah]at d3
   have aa:=ac d1;have ae:=ac d2
   have h:=ac H;have U:=ac J;have Q:=ac K;have D:=ac G;have I:=ac (hL.below ((Below.refl _ _).drew))
   clear hz J K hL hC hS H Z G az N hg d1 d2 a3
   go_wp2
   have a7:(1:Int)≤(L.length:Int):=by omega
   have a9:(L.length:Int)≤(c:Int):=by omega
   have ba:(1:Int)≤(c:Int):=by omega
   by_cases a4:c=1
   ·subst a4
    go_region_with (go_at_call 65;refine(nL O b a1 L _ (uH I)).mono ?_;rintro e w2 ⟨v,rfl,⟨n2,a2,c2,L2,rfl,i1⟩,d⟩;have I1:=ac i1;have F:=(uH U).drew.below d (uH U).drew.lt;have Z1:=(uH Q).drew.below d (uH Q).drew.lt;have r0:=F.c0;have r1:=F.c1;have f0:=F.free 0;have f1:=F.free 1;have B2:=ac (((uH h).drew).trans (d.mono ((uH h).drew).size));have X:=ac F;have Y:=ac Z1;clear i1 d F Z1)
    all_goals
     go_wp2
     go_roundw
     case rel=>exact⟨_,j+32,n2,a2,c2,L2,rfl,d3,ac (by rw[ej,uH hx,ii];congr 1;omega),yw.step (v:=ai L/4294967296) (uH X) (uH Y) (uH I1) rfl (uH aa) (uH ae) (by have:=uH D;omega) (uH B2)⟩
     case measure=>rw[ej,uH hx,ii];simp only[intOf];rw[et _ e j (by omega) rfl,et _ e (j+32) (by omega) (by congr 1;omega)];omega
   ·have a6:¬(c:Int)=1:=by omega
    go_region_with (go_at_call 65;refine(p7 O b a1 c L _ (uH I) (by have:=uH D;omega)).mono ?_;rintro e w2 ⟨v,rfl,⟨n2,a2,c2,L2,rfl,i1⟩,d⟩;have I1:=ac i1;have F:=(uH U).drew.below d (uH U).drew.lt;have Z1:=(uH Q).drew.below d (uH Q).drew.lt;have r0:=F.c0;have r1:=F.c1;have f0:=F.free 0;have f1:=F.free 1;have B2:=ac (((uH h).drew).trans (d.mono ((uH h).drew).size));have X:=ac F;have Y:=ac Z1;clear i1 d F Z1)
    all_goals
     go_wp2
     go_roundw
     case rel=>exact⟨_,j+32,n2,a2,c2,L2,rfl,d3,ac (by rw[ej,uH hx,ii];congr 1;omega),yw.step (v:=ai L/4294967296) (uH X) (uH Y) (uH I1) rfl (uH aa) (uH ae) (by have:=uH D;omega) (uH B2)⟩
     case measure=>rw[ej,uH hx,ii];simp only[intOf];rw[et _ e j (by omega) rfl,et _ e (j+32) (by omega) (by congr 1;omega)];omega
  ·have a5:(((L[0]?.getD 0:Nat):Int)==0)=false:=by rw[beq_eq_false_iff_ne];omega
   generalize L[0]?.getD 0=y at*
   have HI:=Z
   clear Z J K hL hC hS G hz H az N hg
   go_wp2
   go_loopw[1] (fun i wr=>∃(x:Int) (j:Nat) (O:Bool) (a:Option Addr) (c:Nat) (L:List Nat),i=.int .i64 x∧j≤T∧Hid (x=IntKind.i64.wrap (e+j))∧Hid (yw w wr z j O a c L)) (fun i _=>T-((intOf i-e)%18446744073709551616).toNat)
   case atStart=>exact⟨x,j,O,_,c,L,rfl,hj,hx,HI⟩
   case round=>
    clear HI p0 p1 an hp a5 ar hj hx hb aI
    obtain⟨x,j,O,a,c,L,rfl,hj,hx,Z⟩:=hrel
    obtain⟨J,K,hL,hC,hS,G,hz,H⟩:=uH Z
    have p0:=J.c0;have p1:=J.c1
    have U:=ac J;have Q:=ac K;have h:=ac H;have D:=ac G;have I:=ac hL
    clear J K hL hC hS G hz H
    go_wp2_with fail
    refine(EZ O a c L wr (uH I)).mono ?_
    by_cases ho:ai L%2=1
    ·rw[decide_eq_true ho]
     rintro r w3 ⟨rfl,u⟩
     obtain⟨l1,l2⟩:=(uH Z).last ho
     have L1:=ac (l1.below u);have L2:=ac l2
     have J:=(uH U).all u;have K:=(uH Q).all u
     have b1:=(uH h).trans (u.mono (uH h).size)
     clear Z l1 l2 u ho p0 p1 U Q h I
     have p0:=J.c0;have p1:=J.c1
     have y0:=K.c0;have y1:=K.c1;have y2:=K.c2;have f0:=K.free 0;have f1:=K.free 1;have f2:=K.free 2
     have Q:=ac K;have B1:=ac b1
     clear J K b1
     go_wp2
     have e1:IntKind.i64.wrap (e+(T:Int))=x:=by rw[uH hx,uH ah,←uH L2]
     rw[e1]
     have j2:aB w3 (.agg #[.bool O,.slice a L.length c,.int .i64 x]) (oM z) x:=⟨O,a,c,L,rfl,uH L1⟩
     refine bodyPost_ret (v:=.agg #[.bool O,.slice a L.length c,.int .i64 x]) (by simp[results,Tryz.results27,go_sem,y0,y1,y2]) rfl ⟨_,rfl,j2.put3 (uH Q) _ _ _,aC (uH B1) (by omega) _ _ _⟩
    ·rw[decide_eq_false ho]
     rintro r w3 ⟨rfl,u⟩
     obtain⟨d1,d2,d3⟩:=(uH Z).down 1 (by simp;omega)
     rw[←uH ah]at d3
     rw[Nat.pow_one]at d1 d2
     have aa:=ac d1;have ae:=ac d2
     have J:=(uH U).all u;have K:=(uH Q).all u
     have b1:=(uH h).trans (u.mono (uH h).size)
     have a0:=(uH I).below u
     clear Z d1 d2 u ho p0 p1 U Q h I
     have p0:=J.c0;have p1:=J.c1
     have U:=ac J;have Q:=ac K;have B1:=ac b1;have I:=ac a0
     clear J K b1 a0
     go_wp2_with fail
     refine(sG O a c L w3 (uH I) (by have:=uH D;omega)).mono ?_
     rintro r w2 ⟨v,rfl,⟨n2,a2,c2,L2,rfl,i1⟩,d⟩
     have I1:=ac i1
     have F:=(uH U).all d
     have Z1:=(uH Q).all d
     have r0:=F.c0;have r1:=F.c1;have f0:=F.free 0;have f1:=F.free 1
     have B2:=ac ((uH B1).trans (d.mono (uH B1).size))
     have X:=ac F;have Y:=ac Z1
     clear i1 d F Z1
     go_wp2
     go_roundw
     case rel=>exact⟨_,j+1,n2,a2,c2,L2,rfl,d3,ac (by rw[ej,uH hx,ii];congr 1;omega),yw.step (v:=ai L/2) (uH X) (uH Y) (uH I1) rfl (uH aa) (uH ae) (by have:=uH D;omega) (uH B2)⟩
     case measure=>rw[ej,uH hx,ii];simp only[intOf];rw[et _ e j (by omega) rfl,et _ e (j+1) (by omega) (by congr 1;omega)];omega
theorem AH(h:Bool)(u:Option Addr)(z:Nat)(e:Int)(w:World):
  Calls Tryz.prog 27 #[.agg #[.bool h,.slice u 0 z],.int .i64 e] w fun r d=>∃v,r=.returned v∧aB d v 0 0∧Below w.heap.size w d:=by
 go_enter Tryz.func27,Tryz.ntmps27
 go_wp2
 refine bodyPost_ret (v:=.agg #[.bool false,.slice none 0 0,.int .i64 0]) (by simp[results,Tryz.results27,go_sem]) rfl ⟨_,rfl,aB.zero _ _ _,?_⟩
 exact((Below.refl w.heap.size w).alloc (Nat.le_refl _) _).alloc (by simp) _
theorem qH{M B:Nat}{w:World}{v:Value}{z:Int}(e:Int)(K:aJ M B w v z)(X:M≤20000)(L:-9223372036854775808≤e∧e≤9223372036854775807):
  Calls Tryz.prog 27 #[v,.int .i64 e] w fun r D=>∃u,r=.returned u∧aB D u (oM z) (if z=0 then 0 else IntKind.i64.wrap (e+tz z.natAbs))∧Below w.heap.size w D:=by
 obtain⟨F,G,H,A,rfl,Q,Y,I,U,J,Z⟩:=K
 have d:=j0 U J
 by_cases h:A= []
 ·subst h
  rw[h9]at d
  subst d
  rw[if_pos rfl,show oM 0=0 by simp[oM]]
  exact AH F G H e w
 ·have O:z≠0:=fun N=>h ((aQ A I).1 (by rw[J,N];rfl))
  rw[if_neg O,←d]
  exact Az F G H A e w Q h I (by omega) L
theorem fu{M B:Nat}{w:World}{v:Value}{z:Int}(e:Int)(h:aJ M B w v z)(G:M≤20000)(I:-1000000≤e∧e≤1000000):
  Calls Tryz.prog 27 #[v,.int .i64 e] w fun r D=>∃u,r=.returned u∧aB D u (oM z) (oE z e)∧Below w.heap.size w D:=by
 have d:=qH e h G (by omega)
 have:(if z=0 then 0 else IntKind.i64.wrap (e+tz z.natAbs))=oE z e:=by
  unfold oE
  split
  ·rfl
  ·rename_i Y
   have J:tz z.natAbs<32*20000:=by
    obtain⟨K,L,N,A,rfl,H,O,Q,U,F,X⟩:=h
    rw[←F]
    have h:ai A≠0:=by rw[F];omega
    have d:=ew A H.2.1
    rw[show(4294967296:Nat)=2^32 by decide,←Nat.pow_mul]at d
    have:=jP (ai A) _ (by omega) d
    omega
   exact aY _ (by omega)
 rwa[this]at d
def px(n y:Int):Bool:=if n=0 then decide (y=0)else(decide (n%2=1)&&decide (-16384≤y∧y≤16384))
theorem aB.parts{w:World}{v:Value}{m e:Int}(h:aB w v m e):
  ∃(neg:Bool) (u:Option Addr) (d:Nat) (L:List Nat),v=.agg #[.bool neg,.slice u L.length d,.int .i64 e]∧ag w u d L∧bO L∧neg=decide (m<0)∧ai L=m.natAbs∧L.length≤35184372088832:=by
 obtain⟨neg,u,d,L,rfl,K,N,O,A,z,D,Q,F,G,H,I⟩:=h
 simp only[Value.agg.injEq,Array.mk.injEq,List.cons.injEq,Value.bool.injEq,Value.slice.injEq,and_true]at z
 obtain⟨rfl,rfl,J,rfl⟩:=z
 exact⟨neg,u,d,A,by rw[J],D,F,G,H,I⟩
theorem sJ(n:Int):(n.natAbs%2=1)↔(n%2=1):=by omega
theorem aB.right{w:World}{v:Value}{m e:Int}(h:aB w v m e)(Q:m.natAbs<dl):
  ∃(neg:Bool) (z:Option Addr) (d:Nat) (L:List Nat),v=.agg #[.bool neg,.slice z L.length d,.int .i64 e]∧ag w z d L∧av neg L=true∧af neg L=m∧L.length≤512∧kt neg L e=px m e:=by
 obtain⟨neg,z,d,L,rfl,A,F,H,u,Z⟩:=h.parts
 have X:au 0 w (.agg #[.bool neg,.slice z L.length d]) m:=⟨neg,z,d,L,rfl,A,bC.zero A,F,H,u,Z⟩
 have Y:L.length≤512:=(dr L A.2.1 F).1 (by omega)
 have G:av neg L=true:=by
  obtain⟨I,aa,J,K,N,e2,O,e4,e5⟩:=X.right Q
  simp only[Value.agg.injEq,Array.mk.injEq,List.cons.injEq,Value.bool.injEq,Value.slice.injEq,and_true]at N
  obtain⟨rfl,rfl,o3,rfl⟩:=N
  have:L=K:=by
   refine sf L K A.2.1 e2.2.1 F (ay O).2.1 ?_
   rw[u,←e4,aM]
  rw[this];exact O
 refine⟨neg,z,d,L,rfl,A,G,j0 H u,Y,?_⟩
 unfold kt px
 rw[G,Bool.true_and,u]
 by_cases D:L.length=0
 ·have:m=0:=by
   have:L= []:=List.length_eq_zero_iff.1 D
   rw[this]at u;simp[ai]at u;omega
  rw[if_pos D,if_pos this]
 ·have:m≠0:=fun U=>D (by
   have:L= []:=(aQ L F).1 (by rw[u,U];rfl)
   rw[this];rfl)
  rw[if_neg D,if_neg this]
  congr 1
  rw[decide_eq_decide]
  exact sJ m
theorem aB.num{w:World}{v:Value}{m e:Int}(h:aB w v m e):
  ∃(neg:Bool) (u:Option Addr) (d:Nat) (L:List Nat),v=.agg #[.bool neg,.slice u L.length d,.int .i64 e]∧au 0 w (.agg #[.bool neg,.slice u L.length d]) m:=h
end Go.Proofs.YtcbcmlaogehimaaGreatDoor
namespace Go.Proofs.YtcbcmlaogehimaaGreatDoor
open Go.RowKit
theorem qa(z:Int):(oM z).natAbs≤z.natAbs:=by
 by_cases h:z=0
 ·subst h;simp[oM]
 ·have d:=eE z h
  have u:z.natAbs=(oM z).natAbs*2^tz z.natAbs:=by
   conv=>lhs;rw[d.1]
   rw[Int.natAbs_mul,Int.natAbs_pow]
   rfl
  rw[u]
  exact Nat.le_mul_of_pos_right _ (Nat.pow_pos (by decide))
theorem aW:oM 0=0:=by simp[oM]
theorem bf(e:Int):oE 0 e=0:=by simp[oE]
theorem fi(z:Int)(h:z≠0):oM z≠0∧oM z%2=1:=by
 have d:=(eE z h).2
 exact⟨fun e=>by rw[e]at d;simp at d,d⟩
theorem cq(z e:Int)(h:z≠0):oE z e=e+tz z.natAbs:=by unfold oE;rw[if_neg h]
theorem Ic(z e:Int)(d:-32768≤e∧e≤32768):px (oM z) (oE z e)=lP z e:=by
 unfold lP px
 rw[decide_eq_true d,Bool.true_and]
 by_cases h:z=0
 ·subst h
  rw[aW,bf];simp
 ·obtain⟨u,A⟩:=fi z h
  rw[if_neg u,decide_eq_true A,cq z e h,decide_eq_false h]
  simp
theorem yz(z e:Int)(d:-32768≤e∧e≤32768):
  (px (oM z) (oE z e)=true→cR z e=0∧dM z e=oM z∧dX z e=oE z e)∧(px (oM z) (oE z e)=false→cR z e=2∧dM z e=0∧dX z e=0):=by
 rw[Ic z e d]
 constructor<;>intro h<;>simp[cR,dM,dX,h]
attribute [local go_sem ↓] Go.wp_at_zero Go.wp_at_succ
def up(s x l:Int):Int:=s*2^(x-l).toNat
theorem sK(d:Bool)(A:List Nat)(n:Int)(h:0≤n):pn d A n=af d A*2^n.toNat:=by
 rw[nd,dH]
 unfold nJ
 rw[if_pos h]
 unfold sg
 cases d
 ·simp
 ·simp[Int.neg_mul]
def d8(s x l:Int):Int:=if(up s x l).natAbs<dl∧x-l≤16384 then 0 else 2
def G8(s x l:Int):Int:=if(up s x l).natAbs<dl∧x-l≤16384 then up s x l else 0
theorem kF(d:Bool)(A:List Nat)(x l:Int)(D:av d A=true)(h:l≤x):uT d A (x-l)=d8 (af d A) x l∧sE d A (x-l)=G8 (af d A) x l:=by
 unfold uT sE lO d8 G8
 rw[D,sK d A (x-l) (by omega)]
 change (if(true&&decide (-16384≤x-l∧x-l≤16384))=true then bD (up (af d A) x l)else if true=true then 2 else 1)=_∧(if(true&&decide (-16384≤x-l∧x-l≤16384))=true then dJ (up (af d A) x l)else 0)=_
 rw[Bool.true_and]
 by_cases z:x-l≤16384
 ·rw[if_pos (decide_eq_true (show-16384≤x-l∧x-l≤16384 by omega)),if_pos (decide_eq_true (show-16384≤x-l∧x-l≤16384 by omega))]
  unfold bD dJ
  by_cases u:(up (af d A) x l).natAbs<dl
  ·rw[if_pos u,if_pos u,if_pos ⟨u,z⟩,if_pos ⟨u,z⟩];exact⟨rfl,rfl⟩
  ·rw[if_neg u,if_neg u,if_neg (fun h=>u h.1),if_neg (fun h=>u h.1)];exact⟨rfl,rfl⟩
 ·have F:decide (-16384≤x-l∧x-l≤16384)=false:=decide_eq_false (by omega)
  rw[F,if_neg (show¬((up (af d A) x l).natAbs<dl∧x-l≤16384)from fun h=>z h.2),if_neg (show¬((up (af d A) x l).natAbs<dl∧x-l≤16384)from fun h=>z h.2)]
  exact⟨by simp,by simp⟩
theorem sL(s x l:Int):(d8 s x l=0∧G8 s x l=up s x l)∨d8 s x l=2:=by
 unfold d8 G8
 by_cases h:(up s x l).natAbs<dl∧x-l≤16384
 ·rw[if_pos h,if_pos h];exact .inl ⟨rfl,rfl⟩
 ·rw[if_neg h];exact .inr rfl
theorem au.put2{B:Nat}{w:World}{v:Value}{x:Int}(h:au B w v x){p q:Addr}(D:p.block<B)(F:q.block<B)(u A:Value):au B ((w.setCell p u).setCell q A) v x:=by
 obtain⟨n,G,d,L,rfl,H,z,I⟩:=h
 exact⟨n,G,d,L,rfl,(H.store z D u).store z F A,z,I⟩
theorem bU{w d:World}{B b:Nat}(h:Below B w d)(z:B≤b)(u A:Value):Below B w ((d.setCell ⟨b,0,none⟩ u).setCell ⟨b,1,none⟩ A):=
 (h.setCell z _).setCell z _
theorem Ie{w:World}{b c:Nat}{z A D F:Value}(G:aA w b z A)(H:aA w c D F)(d:b≠c)(u0 u1 h u:Value):
  aA ((((((w.setCell ⟨c,0,none⟩ h).setCell ⟨c,1,none⟩ u).setCell ⟨b,0,none⟩ u0).setCell ⟨b,1,none⟩ u1).setCell ⟨c,0,none⟩ h).setCell ⟨c,1,none⟩ u) b u0 u1∧
  aA ((((((w.setCell ⟨c,0,none⟩ h).setCell ⟨c,1,none⟩ u).setCell ⟨b,0,none⟩ u0).setCell ⟨b,1,none⟩ u1).setCell ⟨c,0,none⟩ h).setCell ⟨c,1,none⟩ u) c h u:=
 ⟨((((G.other (p:=⟨c,0,none⟩) d h).other (p:=⟨c,1,none⟩) d u).put u0 u1).other (p:=⟨c,0,none⟩) d h).other (p:=⟨c,1,none⟩) d u,
  (((H.put h u).other (p:=⟨b,0,none⟩) (Ne.symm d) u0).other (p:=⟨b,1,none⟩) (Ne.symm d) u1).put h u⟩
theorem Ig{w:World}{b c:Nat}{z A D F:Value}(G:aA w b z A)(H:aA w c D F)(d:b≠c)(u0 u1 h u:Value):
  aA ((((((w.setCell ⟨b,0,none⟩ u0).setCell ⟨b,1,none⟩ u1).setCell ⟨b,0,none⟩ u0).setCell ⟨b,1,none⟩ u1).setCell ⟨c,0,none⟩ h).setCell ⟨c,1,none⟩ u) b u0 u1∧
  aA ((((((w.setCell ⟨b,0,none⟩ u0).setCell ⟨b,1,none⟩ u1).setCell ⟨b,0,none⟩ u0).setCell ⟨b,1,none⟩ u1).setCell ⟨c,0,none⟩ h).setCell ⟨c,1,none⟩ u) c h u:=
 ⟨(((G.put u0 u1).put u0 u1).other (p:=⟨c,0,none⟩) d h).other (p:=⟨c,1,none⟩) d u,
  ((((H.other (p:=⟨b,0,none⟩) (Ne.symm d) u0).other (p:=⟨b,1,none⟩) (Ne.symm d) u1).other (p:=⟨b,0,none⟩) (Ne.symm d) u0).other (p:=⟨b,1,none⟩) (Ne.symm d) u1).put h u⟩
def Ih(w':World)(r:Ending)(ea eb za zb:Int):Prop:=
 ∃(n1:Bool) (a1:Option Addr) (l1 c1:Nat) (n2:Bool) (a2:Option Addr) (l2 c2:Nat) (er:Int),r=.returned (.tuple #[.agg #[.bool n1,.slice a1 l1 c1],.agg #[.bool n2,.slice a2 l2 c2],.int .i64 er])∧(ea=0→eb=0→er=0∧au 0 w' (.agg #[.bool n1,.slice a1 l1 c1]) za∧au 0 w' (.agg #[.bool n2,.slice a2 l2 c2]) zb)∧(¬(ea=0∧eb=0)→er=2)
theorem yA(u d:Bool)(O L:Option Addr)(Q N:Nat)(A B:List Nat)(x y l:Int)(w:World)(hA:ag w O Q A)(hB:ag w L N B)(ra:av u A=true)(rb:av d B=true)(bx:-16384≤x∧x≤16384)(ax:-16384≤y∧y≤16384)(hl:l=min x y):
  Calls Tryz.prog 294 #[.agg #[.bool u,.slice O A.length Q,.int .i64 x],.agg #[.bool d,.slice L B.length N,.int .i64 y]] w fun r I=>Ih I r (d8 (af u A) x l) (d8 (af d B) y l) (up (af u A) x l) (up (af d B) y l)∧Below w.heap.size w I:=by
 have la:=(ay ra).1
 have lb:=(ay rb).1
 have aa:l≤x:=by omega
 have ae:l≤y:=by omega
 have CA:=ac (fun n I h (e:n=x-l)=>show Calls Tryz.prog 238 #[.agg #[.bool u,.slice O A.length Q],.int .i64 n] I fun e U=>∃v,e=.returned (.tuple #[v,.int .i64 (d8 (af u A) x l)])∧au I.heap.size U v (G8 (af u A) x l)∧Below I.heap.size I U by
  have:=ig u O Q A n I h (by omega) (by omega)
  rwa[e,(kF u A x l ra aa).1,(kF u A x l ra aa).2,←e]at this)
 have CB:=ac (fun n I h (e:n=y-l)=>show Calls Tryz.prog 238 #[.agg #[.bool d,.slice L B.length N],.int .i64 n] I fun e U=>∃v,e=.returned (.tuple #[v,.int .i64 (d8 (af d B) y l)])∧au I.heap.size U v (G8 (af d B) y l)∧Below I.heap.size I U by
  have:=ig d L N B n I h (by omega) (by omega)
  rwa[e,(kF d B y l rb ae).1,(kF d B y l rb ae).2,←e]at this)
 have HA:=ac (sL (af u A) x l)
 have HB:=ac (sL (af d B) y l)
 have HL:=ac hl
 clear hl ra rb aa ae
 generalize d8 (af u A) x l=ea at*
 generalize d8 (af d B) y l=eb at*
 generalize G8 (af u A) x l=ua at*
 generalize G8 (af d B) y l=ub at*
 generalize up (af u A) x l=za at*
 generalize up (af d B) y l=zb at*
 obtain⟨a0,a3⟩:=bx
 obtain⟨a4,a5⟩:=ax
 have an:Below w.heap.size w ((((w.alloc (.cells #[.bool u,.slice O A.length Q,.int .i64 x] 35)).alloc (.cells #[.bool d,.slice L B.length N,.int .i64 y] 35)).alloc (.cells #[.bool false,.slice none 0 0] 33)).alloc (.cells #[.bool false,.slice none 0 0] 33)):=
  ((((Below.refl _ _).alloc (Nat.le_refl _) _).alloc (by simp) _).alloc (by simp;omega) _).alloc (by simp;omega) _
 have Y:ak ((((w.alloc (.cells #[.bool u,.slice O A.length Q,.int .i64 x] 35)).alloc (.cells #[.bool d,.slice L B.length N,.int .i64 y] 35)).alloc (.cells #[.bool false,.slice none 0 0] 33)).alloc (.cells #[.bool false,.slice none 0 0] 33)) (w.heap.size+1) (.bool d) (.slice L B.length N) (.int .i64 y):=by
  have:=((ak.new (w.alloc (.cells #[.bool u,.slice O A.length Q,.int .i64 x] 35)) (.bool d) (.slice L B.length N) (.int .i64 y)).old (.cells #[.bool false,.slice none 0 0] 33)).old (.cells #[.bool false,.slice none 0 0] 33)
  simpa using this
 have X:aA ((((w.alloc (.cells #[.bool u,.slice O A.length Q,.int .i64 x] 35)).alloc (.cells #[.bool d,.slice L B.length N,.int .i64 y] 35)).alloc (.cells #[.bool false,.slice none 0 0] 33)).alloc (.cells #[.bool false,.slice none 0 0] 33)) (w.heap.size+1+1) (.bool false) (.slice none 0 0):=by
  have:=(aA.new ((w.alloc (.cells #[.bool u,.slice O A.length Q,.int .i64 x] 35)).alloc (.cells #[.bool d,.slice L B.length N,.int .i64 y] 35)) (.bool false) (.slice none 0 0)).old (.cells #[.bool false,.slice none 0 0] 33)
  simpa using this
 have x3:aA ((((w.alloc (.cells #[.bool u,.slice O A.length Q,.int .i64 x] 35)).alloc (.cells #[.bool d,.slice L B.length N,.int .i64 y] 35)).alloc (.cells #[.bool false,.slice none 0 0] 33)).alloc (.cells #[.bool false,.slice none 0 0] 33)) (w.heap.size+1+1+1) (.bool false) (.slice none 0 0):=by
  have:=aA.new (((w.alloc (.cells #[.bool u,.slice O A.length Q,.int .i64 x] 35)).alloc (.cells #[.bool d,.slice L B.length N,.int .i64 y] 35)).alloc (.cells #[.bool false,.slice none 0 0] 33)) (.bool false) (.slice none 0 0)
  simpa using this
 have B0:=ac an;have X1:=ac Y;have X2:=ac X;have X3:=ac x3
 clear an Y X x3
 rcases(show x<y∨x=y∨y<x by omega)with am|am|am
 all_goals
  first|subst am|skip
  go_enter Tryz.func294,Tryz.ntmps294
  go_wp2_with fail
  refine(uH CA _ _ (hA.below (uH B0)) (by have:=uH HL;omega)).mono ?_
  rintro r w1 ⟨v1,rfl,⟨z,D,F,G,rfl,i1⟩,J⟩
  have Y:=(uH X1).all J;have X:=(uH X2).all J;have x3:=(uH X3).all J
  have b1:=(uH B0).trans (J.mono (uH B0).size)
  have hs:w.heap.size+4≤w1.heap.size:=by have:=J.size;simp at this;omega
  have ar:au (w.heap.size+4) w1 (.agg #[.bool z,.slice D G.length F]) ua:=by
   refine au.mono ⟨z,D,F,G,rfl,i1⟩ (by simp)
  have p0:=Y.c0;have p1:=Y.c1;have p2:=Y.c2
  have q0:=X.c0;have q1:=X.c1;have f0:=X.free 0;have f1:=X.free 1
  have az:=ac Y;have ah:=ac X;have H:=ac x3;have B1:=ac b1;have I1:=ac ar
  clear J Y X x3 b1 i1 ar X1 X2 X3 B0
  have s0:=(uH H).c0;have s1:=(uH H).c1;have g0:=(uH H).free 0;have g1:=(uH H).free 1
  rcases uH HA with⟨rfl,hu⟩|rfl
  ·have HU:=ac hu
   clear HA CA hu
   go_wp2_with fail
   have b2:=bU (uH B1) (show w.heap.size≤w.heap.size+1+1 by omega) (.bool z) (.slice D G.length F)
   refine(uH CB _ _ (hB.below b2) (by have:=uH HL;omega)).mono ?_
   rintro r w2 ⟨v2,rfl,⟨n2,a2,c2,L2,rfl,i2⟩,K⟩
   have aI:w.heap.size+4≤w2.heap.size:=by have:=K.size;simp at this;omega
   have y2:=((uH ah).put (.bool z) (.slice D G.length F)).all K
   have y3:=(((uH H).other (p:=⟨w.heap.size+1+1,0,none⟩) (by simp) (.bool z)).other (p:=⟨w.heap.size+1+1,1,none⟩) (by simp) (.slice D G.length F)).all K
   have b3:=b2.trans (K.mono b2.size)
   have j1:au (w.heap.size+4) w2 (.agg #[.bool z,.slice D G.length F]) ua:=((uH I1).put2 (p:=⟨w.heap.size+1+1,0,none⟩) (q:=⟨w.heap.size+1+1,1,none⟩) (by simp) (by simp) (.bool z) (.slice D G.length F)).below K
   have j2:au (w.heap.size+4) w2 (.agg #[.bool n2,.slice a2 L2.length c2]) ub:=au.mono ⟨n2,a2,c2,L2,rfl,i2⟩ (by simp;omega)
   clear q0 q1 f0 f1 s0 s1 g0 g1 p0 p1 p2 az ah H I1 B1 K i2 CB
   have q0:=y2.c0;have q1:=y2.c1;have f0:=y2.free 0;have f1:=y2.free 1
   have s0:=y3.c0;have s1:=y3.c1;have g0:=y3.free 0;have g1:=y3.free 1
   have B3:=ac b3;have J1:=ac j1;have J2:=ac j2
   have EE:=ac (fun u0 u1 v0 v1=>Ie y2 y3 (by omega) u0 u1 v0 v1)
   clear b2 b3 y2 y3 j1 j2
   rcases uH HB with⟨rfl,hv⟩|rfl
   ·have HV:=ac hv
    clear HB hv
    go_wp2
    go_region_with fail
    all_goals
     go_wp2
     obtain⟨Z,E2⟩:=uH EE (.bool z) (.slice D G.length F) (.bool n2) (.slice a2 L2.length c2)
     have z0:=Z.c0;have z1:=Z.c1;have z2:=E2.c0;have z3:=E2.c1
     refine bodyPost_ret (v:=.tuple #[.agg #[.bool z,.slice D G.length F],.agg #[.bool n2,.slice a2 L2.length c2],.int .i64 0]) (by simp[results,Tryz.results294,go_sem,z0,z1,z2,z3]) rfl ⟨⟨z,D,G.length,F,n2,a2,L2.length,c2,0,rfl,?_,?_⟩,?_⟩
     ·intro _ _
      rw[←uH HU,←uH HV]
      exact⟨rfl,((((((uH J1).put2 (by simp) (by simp) _ _).put2 (by simp) (by simp) _ _).put2 (by simp) (by simp) _ _).below ((Below.refl _ _).drew)).mono (Nat.zero_le _)),((((((uH J2).put2 (by simp) (by simp) _ _).put2 (by simp) (by simp) _ _).put2 (by simp) (by simp) _ _).below ((Below.refl _ _).drew)).mono (Nat.zero_le _))⟩
     ·intro h;exact absurd ⟨rfl,rfl⟩ h
     ·exact(bU (bU (bU (uH B3) (by omega) _ _) (by omega) _ _) (by omega) _ _).drew
   ·clear HB
    go_wp2
    go_region_with fail
    all_goals
     go_wp2
     obtain⟨Z,E2⟩:=uH EE (.bool z) (.slice D G.length F) (.bool n2) (.slice a2 L2.length c2)
     have z0:=Z.c0;have z1:=Z.c1;have z2:=E2.c0;have z3:=E2.c1
     refine bodyPost_ret (v:=.tuple #[.agg #[.bool z,.slice D G.length F],.agg #[.bool n2,.slice a2 L2.length c2],.int .i64 2]) (by simp[results,Tryz.results294,go_sem,z0,z1,z2,z3]) rfl ⟨⟨z,D,G.length,F,n2,a2,L2.length,c2,2,rfl,?_,fun _=>rfl⟩,?_⟩
     ·intro _ h;exact absurd h (by decide)
     ·exact(bU (bU (bU (uH B3) (by omega) _ _) (by omega) _ _) (by omega) _ _).drew
  ·clear HA HB CA CB
   go_wp2
   go_region_with fail
   all_goals
    go_wp2
    obtain⟨Z,E2⟩:=Ig (uH ah) (uH H) (by omega) (.bool z) (.slice D G.length F) (.bool false) (.slice none 0 0)
    have z0:=Z.c0;have z1:=Z.c1;have z2:=E2.c0;have z3:=E2.c1
    refine bodyPost_ret (v:=.tuple #[.agg #[.bool z,.slice D G.length F],.agg #[.bool false,.slice none 0 0],.int .i64 2]) (by simp[results,Tryz.results294,go_sem,z0,z1,z2,z3]) rfl ⟨⟨z,D,G.length,F,false,none,0,0,2,rfl,?_,fun _=>rfl⟩,?_⟩
    ·intro h;exact absurd h (by decide)
    ·exact(bU (bU (bU (uH B1) (by omega) _ _) (by omega) _ _) (by omega) _ _).drew
def bL(sa x sb y:Int):Int:=if sa=0 then y else if sb=0 then x else min x y
def cS(sa x sb y:Int):Int:=up sa x (bL sa x sb y)+up sb y (bL sa x sb y)
def kG(sa x sb y:Int):Bool:=decide (d8 sa x (bL sa x sb y)=0∧d8 sb y (bL sa x sb y)=0∧(cS sa x sb y).natAbs<dl)
def sM(sa x sb y:Int):Int:=if kG sa x sb y then cR (cS sa x sb y) (bL sa x sb y)else 2
def sN(sa x sb y:Int):Int:=if kG sa x sb y then dM (cS sa x sb y) (bL sa x sb y)else 0
def sO(sa x sb y:Int):Int:=if kG sa x sb y then dX (cS sa x sb y) (bL sa x sb y)else 0
def mO(w':World)(r:Ending)(er m e:Int):Prop:=∃v,r=.returned (.tuple #[v,.int .i64 er])∧aB w' v m e
theorem aP{n:Bool}{L:List Nat}(h:av n L=true):af n L=0↔L.length=0:=by
 have d:=(ay h).2.1
 constructor
 ·intro e
  have:ai L=0:=by rw[←aM n L,e];rfl
  rw[(aQ L d).1 this];rfl
 ·intro e
  have:L= []:=List.length_eq_zero_iff.1 e
  rw[this,h9]
theorem kH{w:World}{z:Option Addr}{d:Nat}{n:Bool}{L:List Nat}(h:ag w z d L)(u:av n L=true):(af n L).natAbs<dl:=by
 rw[aM];exact(dr L h.2.1 (ay u).2.1).2 (ay u).1
theorem d9(x l:Int):up 0 x l=0:=by simp[up]
theorem nf(s x:Int):up s x x=s:=by simp[up]
theorem dN(s x l:Int)(d:(up s x l).natAbs<dl)(h:x-l≤16384):d8 s x l=0:=by unfold d8;rw[if_pos ⟨d,h⟩]
theorem kI{s x l:Int}(h:d8 s x l=0):(up s x l).natAbs<dl:=by
 unfold d8 at h
 by_cases d:(up s x l).natAbs<dl∧x-l≤16384
 ·exact d.1
 ·rw[if_neg d]at h;exact absurd h (by decide)
theorem nR(d y:Int)(D:-16384≤y∧y≤16384)(u:d.natAbs<dl):sM 0 0 d y=cR d y∧sN 0 0 d y=dM d y∧sO 0 0 d y=dX d y:=by
 have h:bL 0 0 d y=y:=by simp[bL]
 have z:cS 0 0 d y=d:=by unfold cS;rw[h,d9,nf];omega
 have A:kG 0 0 d y=true:=by
  unfold kG
  rw[h,z]
  exact decide_eq_true ⟨dN _ _ _ (by rw[d9];exact iN) (by omega),dN _ _ _ (by rw[nf];exact u) (by omega),u⟩
 unfold sM sN sO
 rw[A,h,z]
 exact⟨rfl,rfl,rfl⟩
theorem nU(d x:Int)(F:-16384≤x∧x≤16384)(u:d.natAbs<dl)(A:d≠0):sM d x 0 0=cR d x∧sN d x 0 0=dM d x∧sO d x 0 0=dX d x:=by
 have h:bL d x 0 0=x:=by simp[bL,A]
 have z:cS d x 0 0=d:=by unfold cS;rw[h,d9,nf];omega
 have D:kG d x 0 0=true:=by
  unfold kG
  rw[h,z]
  exact decide_eq_true ⟨dN _ _ _ (by rw[nf];exact u) (by omega),dN _ _ _ (by rw[d9];exact iN) (by omega),u⟩
 unfold sM sN sO
 rw[D,h,z]
 exact⟨rfl,rfl,rfl⟩
theorem iP(d x h y:Int)(u:d≠0)(z:h≠0):bL d x h y=min x y:=by unfold bL;rw[if_neg u,if_neg z]
theorem AJ(d x u y l z:Int)(F:bL d x u y=l)(G:cS d x u y=z):
  (d8 d x l=0∧d8 u y l=0∧z.natAbs<dl∧sM d x u y=cR z l∧sN d x u y=dM z l∧sO d x u y=dX z l)∨
  (d8 d x l=0∧d8 u y l=0∧¬z.natAbs<dl∧sM d x u y=2∧sN d x u y=0∧sO d x u y=0)∨
  (¬(d8 d x l=0∧d8 u y l=0)∧sM d x u y=2∧sN d x u y=0∧sO d x u y=0):=by
 unfold sM sN sO kG
 rw[F,G]
 by_cases A:d8 d x l=0∧d8 u y l=0
 ·by_cases D:z.natAbs<dl
  ·left
   rw[decide_eq_true (show d8 d x l=0∧d8 u y l=0∧z.natAbs<dl from⟨A.1,A.2,D⟩)]
   exact⟨A.1,A.2,D,rfl,rfl,rfl⟩
  ·right;left
   rw[decide_eq_false (show¬(d8 d x l=0∧d8 u y l=0∧z.natAbs<dl)from fun h=>D h.2.2)]
   exact⟨A.1,A.2,D,rfl,rfl,rfl⟩
 ·right;right
  rw[decide_eq_false (show¬(d8 d x l=0∧d8 u y l=0∧z.natAbs<dl)from fun h=>A ⟨h.1,h.2.1⟩)]
  exact⟨A,rfl,rfl,rfl⟩
theorem qI(H I:Bool)(ao bo:Option Addr)(ca cb:Nat)(A B:List Nat)(x y:Int)(w:World)(hA:ag w ao ca A)(hB:ag w bo cb B)(ra:av H A=true)(rb:av I B=true)(bx:-16384≤x∧x≤16384)(a7:-16384≤y∧y≤16384)(zx:A.length=0→x=0)(zy:B.length=0→y=0)(hT:ch w):
  Calls Tryz.prog 289 #[.agg #[.bool H,.slice ao A.length ca,.int .i64 x],.agg #[.bool I,.slice bo B.length cb,.int .i64 y]] w fun r X=>mO X r (sM (af H A) x (af I B) y) (sN (af H A) x (af I B) y) (sO (af H A) x (af I B) y)∧Below w.heap.size w X:=by
 have ta:=kH hA ra
 have tb:=kH hB rb
 have a9:=ac (show A.length=0→sM (af H A) x (af I B) y=cR (af I B) y∧sN (af H A) x (af I B) y=dM (af I B) y∧sO (af H A) x (af I B) y=dX (af I B) y from fun h=>by
  have:=(aP ra).2 h
  rw[this,zx h];exact nR _ _ a7 tb)
 have ba:=ac (show A.length≠0→B.length=0→sM (af H A) x (af I B) y=cR (af H A) x∧sN (af H A) x (af I B) y=dM (af H A) x∧sO (af H A) x (af I B) y=dX (af H A) x from fun Z h=>by
  have:=(aP rb).2 h
  rw[this,zy h];exact nU _ _ bx ta (fun e=>Z ((aP ra).1 e)))
 have HL:=ac (show A.length≠0→B.length≠0→bL (af H A) x (af I B) y=min x y from fun Z h=>iP _ _ _ _ (fun e=>Z ((aP ra).1 e)) (fun e=>h ((aP rb).1 e)))
 obtain⟨l,hl⟩:∃l,bL (af H A) x (af I B) y=l:=⟨_,rfl⟩
 obtain⟨z,hz⟩:∃z,cS (af H A) x (af I B) y=z:=⟨_,rfl⟩
 have HW:=ac (AJ _ _ _ _ l z hl hz)
 have a6:=ac (show z=up (af H A) x l+up (af I B) y l by rw[←hz,←hl];rfl)
 rw[hl]at HL
 have bi:=ac (fun X h t=>iO I bo cb B y X h rb (by omega) t)
 have bb:=ac (fun X h t=>iO H ao ca A x X h ra (by omega) t)
 have a5:=ac (fun X h h' e=>yA H I ao bo ca cb A B x y l X h h' ra rb bx a7 e)
 have K:=ac (fun X u v (h1:d8 (af H A) x l=0) (h2:d8 (af I B) y l=0) (iu:au 0 X u (up (af H A) x l)) (O:au 0 X v (up (af I B) y l))=>ER iu O (kI h1) (kI h2))
 rw[←uH a6]at K
 have ah:=ac (fun(aa:z.natAbs<dl) e' X u B' (he:e'=l) (iu:au B' X u z) (t:ch X)=>show Calls Tryz.prog 206 #[u,.int .i64 e'] X fun r bg=>∃v,r=.returned (.tuple #[v,.int .i64 (cR z l)])∧aB bg v (dM z l) (dX z l)∧Below X.heap.size X bg by
  subst he
  refine jg _ iu aa ?_ t
  have:-16384≤e'∧e'≤16384:=by
   rw[←hl];unfold bL
   split
   ·omega
   ·split<;>omega
  omega)
 have an:=ac (fun h:z.natAbs<dl=>And.intro (fU z h) (fY z h))
 have ar:=ac (fun h:¬z.natAbs<dl=>(show bD z=2 by unfold bD;rw[if_neg h]))
 clear hl hz ta tb ra rb zx zy a6
 obtain⟨bz,bE⟩:=bx
 obtain⟨bR,b0⟩:=a7
 generalize sM (af H A) x (af I B) y=er at*
 generalize sN (af H A) x (af I B) y=am at*
 generalize sO (af H A) x (af I B) y=ax at*
 generalize d8 (af H A) x l=ea at*
 generalize d8 (af I B) y l=eb at*
 generalize up (af H A) x l=za at*
 generalize up (af I B) y l=zb at*
 have bn:Below w.heap.size w (((w.alloc (.cells #[.bool H,.slice ao A.length ca,.int .i64 x] 35)).alloc (.cells #[.bool I,.slice bo B.length cb,.int .i64 y] 35)).alloc (.cells #[.bool false,.slice none 0 0,.int .i64 0] 35)):=
  (((Below.refl _ _).alloc (Nat.le_refl _) _).alloc (by simp) _).alloc (by simp;omega) _
 have U:ak (((w.alloc (.cells #[.bool H,.slice ao A.length ca,.int .i64 x] 35)).alloc (.cells #[.bool I,.slice bo B.length cb,.int .i64 y] 35)).alloc (.cells #[.bool false,.slice none 0 0,.int .i64 0] 35)) w.heap.size (.bool H) (.slice ao A.length ca) (.int .i64 x):=((ak.new _ _ _ _).old _).old _
 have L:ak (((w.alloc (.cells #[.bool H,.slice ao A.length ca,.int .i64 x] 35)).alloc (.cells #[.bool I,.slice bo B.length cb,.int .i64 y] 35)).alloc (.cells #[.bool false,.slice none 0 0,.int .i64 0] 35)) (w.heap.size+1) (.bool I) (.slice bo B.length cb) (.int .i64 y):=by
  have:=(ak.new (w.alloc (.cells #[.bool H,.slice ao A.length ca,.int .i64 x] 35)) (.bool I) (.slice bo B.length cb) (.int .i64 y)).old (.cells #[.bool false,.slice none 0 0,.int .i64 0] 35)
  simpa using this
 have D:ak (((w.alloc (.cells #[.bool H,.slice ao A.length ca,.int .i64 x] 35)).alloc (.cells #[.bool I,.slice bo B.length cb,.int .i64 y] 35)).alloc (.cells #[.bool false,.slice none 0 0,.int .i64 0] 35)) (w.heap.size+1+1) (.bool false) (.slice none 0 0) (.int .i64 0):=by
  have:=ak.new ((w.alloc (.cells #[.bool H,.slice ao A.length ca,.int .i64 x] 35)).alloc (.cells #[.bool I,.slice bo B.length cb,.int .i64 y] 35)) (.bool false) (.slice none 0 0) (.int .i64 0)
  simpa using this
 have B0:=ac bn;have X0:=ac U;have X1:=ac L;have X2:=ac D
 clear bn U L D
 go_enter Tryz.func289,Tryz.ntmps289
 go_wp2_with fail
 refine(dw H ao ca A.length _).mono ?_
 by_cases Z:A.length=0
 ·rw[decide_eq_true Z]
  rintro r w1 ⟨rfl,d⟩
  obtain⟨rfl,rfl,rfl⟩:=uH a9 Z
  have L:=(uH X1).all d;have D:=(uH X2).all d
  have Y:=(uH B0).trans (d.mono (uH B0).size)
  have q0:=L.c0;have q1:=L.c1;have q2:=L.c2
  have F:=ac D;have G:=ac Y
  clear Z a9 ba HL HW bb a5 K ah an ar d L D Y X0 X1 X2 B0
  go_wp2_with fail
  refine(uH bi _ (hB.below (uH G)) (hT.all (uH G))).mono ?_
  rintro r w2 ⟨v,rfl,O,d⟩
  obtain⟨n3,a3,c3,L3,rfl,i3⟩:=O.num
  have D:=(uH F).all d
  have b2:=(uH G).trans (d.mono (uH G).size)
  have y0:=D.c0;have y1:=D.c1;have y2:=D.c2;have f0:=D.free 0;have f1:=D.free 1;have f2:=D.free 2
  have X3:=ac D;have B2:=ac b2;have IV:=ac O
  clear D b2 d O i3
  go_wp2
  refine bodyPost_ret (v:=.tuple #[.agg #[.bool n3,.slice a3 L3.length c3,.int .i64 (dX (af I B) y)],.int .i64 (cR (af I B) y)]) (by simp[results,Tryz.results289,go_sem,y0,y1,y2]) rfl ⟨⟨_,rfl,(uH IV).put3 (uH X3) _ _ _⟩,aC (uH B2) (by omega) _ _ _⟩
 ·rw[decide_eq_false Z]
  rintro r w1 ⟨rfl,d⟩
  have U:=(uH X0).all d;have L:=(uH X1).all d;have D:=(uH X2).all d
  have Y:=(uH B0).trans (d.mono (uH B0).size)
  have q0:=L.c0;have q1:=L.c1;have q2:=L.c2
  have N:=ac U;have Q:=ac L;have F:=ac D;have G:=ac Y
  have az:=ac (uH ba Z);have bd:=ac (uH HL Z)
  clear Z a9 ba HL bi d U L D Y X0 X1 X2 B0
  go_wp2_with fail
  refine(dw I bo cb B.length _).mono ?_
  by_cases Z:B.length=0
  ·rw[decide_eq_true Z]
   rintro r w2 ⟨rfl,d⟩
   obtain⟨rfl,rfl,rfl⟩:=uH az Z
   have U:=(uH N).all d;have D:=(uH F).all d
   have Y:=(uH G).trans (d.mono (uH G).size)
   clear q0 q1 q2 N Q F G
   have q0:=U.c0;have q1:=U.c1;have q2:=U.c2
   have F:=ac D;have G:=ac Y
   clear Z az bd HW a5 K ah an ar d U D Y
   go_wp2_with fail
   refine(uH bb _ (hA.below (uH G)) (hT.all (uH G))).mono ?_
   rintro r w4 ⟨v,rfl,O,d⟩
   obtain⟨n3,a3,c3,L3,rfl,i3⟩:=O.num
   have D:=(uH F).all d
   have b2:=(uH G).trans (d.mono (uH G).size)
   have y0:=D.c0;have y1:=D.c1;have y2:=D.c2;have f0:=D.free 0;have f1:=D.free 1;have f2:=D.free 2
   have X3:=ac D;have B2:=ac b2;have IV:=ac O
   clear D b2 d O i3
   go_wp2
   refine bodyPost_ret (v:=.tuple #[.agg #[.bool n3,.slice a3 L3.length c3,.int .i64 (dX (af H A) x)],.int .i64 (cR (af H A) x)]) (by simp[results,Tryz.results289,go_sem,y0,y1,y2]) rfl ⟨⟨_,rfl,(uH IV).put3 (uH X3) _ _ _⟩,aC (uH B2) (by omega) _ _ _⟩
  ·rw[decide_eq_false Z]
   rintro r w2 ⟨rfl,d⟩
   have U:=(uH N).all d;have L:=(uH Q).all d;have D:=(uH F).all d
   have Y:=(uH G).trans (d.mono (uH G).size)
   have bp:=uH bd Z
   clear q0 q1 q2 N Q F G
   have p0:=U.c0;have p1:=U.c1;have p2:=U.c2
   have q0:=L.c0;have q1:=L.c1;have q2:=L.c2
   have N:=ac U;have Q:=ac L;have F:=ac D;have G:=ac Y;have bq:=ac bp
   clear Z az bd bb d U L D Y bp
   go_wp2_with fail
   refine(uH a5 _ (hA.below (uH G)) (hB.below (uH G)) (uH bq)).mono ?_
   rintro r w3 ⟨⟨n1,a1,l1,c1,n2,a2,l2,c2,ae,rfl,g1,g2⟩,d⟩
   have U:=(uH N).all d;have L:=(uH Q).all d;have D:=(uH F).all d
   have Y:=(uH G).trans (d.mono (uH G).size)
   have G1:=ac g1;have G2:=ac g2
   clear p0 p1 p2 q0 q1 q2 N Q F G a5 d g1 g2
   --the two boxes of what align answered
   have bA:Below w3.heap.size w3 ((w3.alloc (.cells #[.bool n1,.slice a1 l1 c1] 33)).alloc (.cells #[.bool n2,.slice a2 l2 c2] 33)):=((Below.refl _ _).alloc (Nat.le_refl _) _).alloc (by simp) _
   have N:=ac (U.all bA);have Q:=ac (L.all bA);have F:=ac (D.all bA);have G:=ac (Y.trans (bA.mono Y.size));have BA:=ac bA
   clear U L D Y bA
   rcases uH HW with⟨e1,e2,aa,rfl,rfl,rfl⟩|⟨e1,e2,aa,rfl,rfl,rfl⟩|⟨bw,rfl,rfl,rfl⟩
   ·obtain⟨rfl,iu,O⟩:=uH G1 e1 e2
    obtain⟨a0,bv⟩:=uH an aa
    have J:=ac (fun X u v iu O=>uH K X u v e1 e2 iu O)
    rw[a0,bv]at J
    have bs:=ac (uH ah aa)
    have IU:=ac (iu.below (uH BA));have aI:=ac (O.below (uH BA))
    clear HW K ah an ar G1 G2 e1 e2 aa a0 bv iu O
    go_wp2_with fail
    refine(uH J _ _ _ (uH IU) (uH aI)).mono ?_
    rintro r w5 ⟨u,rfl,⟨n4,a4,c4,L4,rfl,i4⟩,d⟩
    have U:=((uH N).all d).old (.cells #[.bool n4,.slice a4 L4.length c4] 33)
    have L:=((uH Q).all d).old (.cells #[.bool n4,.slice a4 L4.length c4] 33)
    have D:=((uH F).all d).old (.cells #[.bool n4,.slice a4 L4.length c4] 33)
    have Y:=((uH G).trans (d.mono (uH G).size)).alloc ((uH G).trans (d.mono (uH G).size)).size (.cells #[.bool n4,.slice a4 L4.length c4] 33)
    have iz:au 0 (w5.alloc (.cells #[.bool n4,.slice a4 L4.length c4] 33)) (.agg #[.bool n4,.slice a4 L4.length c4]) z:=au.mono (au.below ⟨n4,a4,c4,L4,rfl,i4⟩ ((Below.refl _ _).alloc (Nat.le_refl _) _)) (Nat.zero_le _)
    clear N Q F G d i4 J IU aI BA
    have p2:=U.c2;have q2:=L.c2
    have F:=ac D;have G:=ac Y;have IZ:=ac iz
    clear U L D Y iz
    rcases(show x<y∨x=y∨y<x by omega)with be|be|be
    all_goals
     first|subst be|skip
     go_wp2_with fail
     refine(uH bs _ _ _ _ (by have:=uH bq;omega) (uH IZ) (hT.all (uH G))).mono ?_
     rintro r w4 ⟨v,rfl,O,d⟩
     obtain⟨n3,a3,c3,L3,rfl,i3⟩:=O.num
     have D:=(uH F).all d
     have b2:=(uH G).trans (d.mono (uH G).size)
     have y0:=D.c0;have y1:=D.c1;have y2:=D.c2;have f0:=D.free 0;have f1:=D.free 1;have f2:=D.free 2
     have X3:=ac D;have B2:=ac b2;have IV:=ac O
     clear D b2 d O i3
     go_wp2
     refine bodyPost_ret (v:=.tuple #[.agg #[.bool n3,.slice a3 L3.length c3,.int .i64 (dX z l)],.int .i64 (cR z l)]) (by simp[results,Tryz.results289,go_sem,y0,y1,y2]) rfl ⟨⟨_,rfl,(uH IV).put3 (uH X3) _ _ _⟩,aC (uH B2) (by omega) _ _ _⟩
   ·obtain⟨rfl,iu,O⟩:=uH G1 e1 e2
    have a0:=uH ar aa
    have J:=ac (fun X u v iu O=>uH K X u v e1 e2 iu O)
    rw[a0]at J
    have IU:=ac (iu.below (uH BA));have aI:=ac (O.below (uH BA))
    clear HW K ah an ar G1 G2 e1 e2 aa a0 iu O
    go_wp2_with fail
    refine(uH J _ _ _ (uH IU) (uH aI)).mono ?_
    rintro r w5 ⟨u,rfl,⟨n4,a4,c4,L4,rfl,i4⟩,d⟩
    have D:=((uH F).all d).old (.cells #[.bool n4,.slice a4 L4.length c4] 33)
    have Y:=((uH G).trans (d.mono (uH G).size)).alloc ((uH G).trans (d.mono (uH G).size)).size (.cells #[.bool n4,.slice a4 L4.length c4] 33)
    have y0:=D.c0;have y1:=D.c1;have y2:=D.c2;have f0:=D.free 0;have f1:=D.free 1;have f2:=D.free 2
    have B2:=ac Y
    clear N Q F G d i4 J IU aI BA D Y
    go_wp2
    refine bodyPost_ret (v:=.tuple #[.agg #[.bool false,.slice none 0 0,.int .i64 0],.int .i64 (2)]) (by simp[results,Tryz.results289,go_sem,y0,y1,y2]) rfl ⟨⟨_,rfl,aB.zero _ _ _⟩,aC (uH B2) (by omega) _ _ _⟩
   ·have ha:=uH G2 bw
    subst ha
    have D:=uH F
    have y0:=D.c0;have y1:=D.c1;have y2:=D.c2;have f0:=D.free 0;have f1:=D.free 1;have f2:=D.free 2
    have B2:=G
    clear HW K ah an ar G1 G2 bw D N Q F BA G
    go_wp2
    refine bodyPost_ret (v:=.tuple #[.agg #[.bool false,.slice none 0 0,.int .i64 0],.int .i64 (2)]) (by simp[results,Tryz.results289,go_sem,y0,y1,y2]) rfl ⟨⟨_,rfl,aB.zero _ _ _⟩,aC (uH B2) (by omega) _ _ _⟩
theorem bV{neg:Bool}{L:List Nat}{e:Int}(h:kt neg L e=true):av neg L=true∧L.length≤512∧-16384≤e∧e≤16384∧(L.length=0→e=0):=by
 unfold kt at h
 rw[Bool.and_eq_true]at h
 obtain⟨z,d⟩:=h
 refine⟨z,(ay z).1,?_⟩
 by_cases u:L.length=0
 ·rw[if_pos u]at d
  have:=of_decide_eq_true d
  omega
 ·rw[if_neg u,Bool.and_eq_true]at d
  have:=of_decide_eq_true d.2
  omega
end Go.Proofs.YtcbcmlaogehimaaGreatDoor
