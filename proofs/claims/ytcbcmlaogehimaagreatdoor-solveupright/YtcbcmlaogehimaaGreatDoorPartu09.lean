/- Part 9 of the texts. -/
import Derived.Test.YtcbcmlaogehimaaGreatDoorPartu08
set_option maxHeartbeats 4000000
set_option maxRecDepth 20000
namespace Go.Proofs.YtcbcmlaogehimaaGreatDoor
open Go.RowKit
theorem bC(x:Int)(h:-9000000000000000000<=x/\x<=9000000000000000000):IntKind.i64.wrap x=x:=by
 simp only[IntKind.wrap,IntKind.signed,IntKind.bits]
 simp
 omega
theorem EY(L:H3):aj L%2=L[0]?.getD 0%2:=by
 cases L with
 |nil=>rfl
 |cons x r=>simp[aj];omega
theorem Jx(neg:Bool)(ao:GY)(cap:Nat)(L:H3)(w:World)(h:ai w ao cap L):
  BS 66 #[.agg #[.bool neg,.slice ao L.length cap]] w (.bool (decide (aj L%2=1))):=by
 by_cases t:L= []
 ·subst t
  go_enter Tryz.func66,Tryz.ntmps66
  go_wp2
  go_ret
  exact⟨rfl,(Below.refl _ _).alloc (Nat.le_refl _) _⟩
 obtain⟨b,N,rfl,U,H⟩:=h.ne (List.length_pos_iff.2 t);have J:0<L.length:=List.length_pos_iff.2 t;have K:(0:Int)<(L.length:Int):=by omega
 have D:=H 0 J;have Q:=h.lt 0;have G:=h.1;rw[EY];generalize L[0]?.getD 0=x at*;clear H h t;rw[Nat.add_zero]at D;generalize O:L.length=n at*;clear O
 by_cases l:x%2=1
 ·have M:(((x:Int)%2)==1)=true:=by rw[beq_iff_eq];omega
  have F:=ac (decide_eq_true l);clear l
  go_enter Tryz.func66,Tryz.ntmps66
  go_wp2
  go_ret
  exact⟨kC (uH F).symm,(Below.refl _ _).alloc (Nat.le_refl _) _⟩
 ·have M:(((x:Int)%2)==1)=false:=by rw[beq_eq_false_iff_ne];omega
  have F:=ac (decide_eq_false l);clear l
  go_enter Tryz.func66,Tryz.ntmps66
  go_wp2
  go_ret
  exact⟨kC (uH F).symm,(Below.refl _ _).alloc (Nat.le_refl _) _⟩
theorem nF(neg:Bool)(ao:GY)(cap:Nat)(L:H3)(e:Int)(w:World)(h:ai w ao cap L)(O:L.length<=35184372088830):
  BS 169 #[.agg #[.bool neg,.slice ao L.length cap,C0 e]] w (C0 (IntKind.i64.wrap (fH L+e))):=by
 have U:=ac (fun l Q=>ut neg ao cap L l Q O);generalize fH L=n at*;have F:H8 w (w.alloc (.cells #[.bool neg,.slice ao L.length cap,C0 e] 35)):=(Below.refl _ _).alloc (Nat.le_refl _) _;have D:=ar.new w (.bool neg) (.slice ao L.length cap) (C0 e);have I:=ac D;have J:=ac F;clear D F
 go_enter Tryz.func169,Tryz.ntmps169
 go_wp2
 refine aB (fun W=>H8 w W/\ar W w.heap.size (.bool neg) (.slice ao L.length cap) (C0 e)) ⟨uH J,uH I⟩ ?_;rintro t ⟨H,D⟩;have K:∀l,H8 t l->H8 t l/\l.cell? ⟨w.heap.size,0,none⟩=some (.bool neg)/\l.cell? ⟨w.heap.size,1,none⟩=some (.slice ao L.length cap)/\l.cell? ⟨w.heap.size,2,none⟩=some (C0 e):=fun l h=>
  ⟨h,(D.all h).c0,(D.all h).c1,(D.all h).c2⟩
 have M:=ac K;have Z:=ac (h.below H);have N:=ac H;clear K D H h I J
 go_region_held3(fun l=>H8 t l/\l.cell? ⟨w.heap.size,0,none⟩=some (.bool neg)/\l.cell? ⟨w.heap.size,1,none⟩=some (.slice ao L.length cap)/\l.cell? ⟨w.heap.size,2,none⟩=some (C0 e))
  (first|exact uH M _ (Below.refl _ _).drew|exact uH M _ (by assumption))
  (first|(go_at_call 208;refine(uH U _ ((uH Z).below (And.left (by assumption)))).mono ?_;rintro e w1 ⟨rfl,G⟩;have aa:H8 t w1:=Below.trans (And.left (by assumption)) (G.mono (Below.size (And.left (by assumption))));clear G))
 go_wp2
 go_ret
 exact⟨rfl,(uH N).trans (Below.mono (And.left (by assumption)) (uH N).size)⟩
def jw(L:H3)(e:Int):Int:=if L.length=0 then 0 else fH L+e
theorem qN(neg:Bool)(ao:GY)(cap:Nat)(L:H3)(e:Int)(w:World)(h:ai w ao cap L)(hl:L.length<=1073741824)(he:-100000<=e/\e<=100000):
  BS 69 #[.agg #[.bool neg,.slice ao L.length cap,C0 e]] w (C0 (jw L e)):=by
 have U:=ac (fun l h'=>yK neg ao cap L l h' (by omega));have K:L.length≠0->0<=fH L/\fH L<=40000000000:=fun F=>by
  unfold fH;rw[if_neg F];have:=oI (L[L.length-1]?.getD 0);omega
 have J:=ac (show(L.length=0->jw L e=0)/\(L.length≠0->jw L e=fH L+e) by unfold jw;constructor<;>intro h<;>simp[h]);generalize jw L e=t at*;generalize fH L=n at*;have H:H8 w (w.alloc (.cells #[.bool neg,.slice ao L.length cap,C0 e] 35)):=(Below.refl _ _).alloc (Nat.le_refl _) _;have G:=ar.new w (.bool neg) (.slice ao L.length cap) (C0 e);have Z:=ac G;have M:=ac H;clear G H
 by_cases F:L.length=0
 ·have N:=(uH J).1 F
  subst N;have O:((L.length:Int)==0)=true:=by rw[beq_iff_eq];omega
  clear J K U F
  go_enter Tryz.func69,Tryz.ntmps69
  go_wp2
  go_ret
  exact⟨rfl,uH M⟩
 have N:=(uH J).2 F;subst N;obtain⟨ae,am⟩:=K F;have O:((L.length:Int)==0)=false:=by rw[beq_eq_false_iff_ne];omega
 clear J K F
 go_enter Tryz.func69,Tryz.ntmps69
 go_wp2
 refine aB (fun W=>H8 w W/\ar W w.heap.size (.bool neg) (.slice ao L.length cap) (C0 e)) ⟨uH M,uH Z⟩ ?_;rintro D ⟨Q,G⟩;have hK:∀l,H8 D l->H8 D l/\l.cell? ⟨w.heap.size,0,none⟩=some (.bool neg)/\l.cell? ⟨w.heap.size,1,none⟩=some (.slice ao L.length cap)/\l.cell? ⟨w.heap.size,2,none⟩=some (C0 e):=fun l h=>
  ⟨h,(G.all h).c0,(G.all h).c1,(G.all h).c2⟩
 have HK:=ac hK;have HA:=ac (h.below Q);have BB:=ac Q;clear hK G Q h Z M
 go_region_held3(fun l=>H8 D l/\l.cell? ⟨w.heap.size,0,none⟩=some (.bool neg)/\l.cell? ⟨w.heap.size,1,none⟩=some (.slice ao L.length cap)/\l.cell? ⟨w.heap.size,2,none⟩=some (C0 e))
  (first|exact uH HK _ (Below.refl _ _).drew|exact uH HK _ (by assumption))
  (first|(go_at_call 127;refine(uH U _ ((uH HA).below (And.left (by assumption)))).mono ?_;rintro e w1 ⟨rfl,I⟩;have aa:H8 D w1:=Below.trans (And.left (by assumption)) (I.mono (Below.size (And.left (by assumption))));clear I))
 go_wp2
 go_ret
 exact⟨bh (bC _ (by omega)),(uH BB).trans (Below.mono (And.left (by assumption)) (uH BB).size)⟩
def yP(neg:Bool)(n:Nat):Int:=if neg then-1 else if n=0 then 0 else 1
theorem oL(neg:Bool)(ao:GY)(cap:Nat)(n:Nat)(e:Int)(w:World):
  BS 68 #[.agg #[.bool neg,.slice ao n cap,C0 e]] w (C0 (yP neg n)):=by
 have l:=ac (show yP neg n=if neg then-1 else if n=0 then 0 else 1 from rfl);generalize yP neg n=s at*;have D:H8 w (w.alloc (.cells #[.bool neg,.slice ao n cap,C0 e] 35)):=(Below.refl _ _).alloc (Nat.le_refl _) _;have F:=ac D;clear D
 cases neg
 ·rcases(show n=0\/n=1\/2<=n by omega)with rfl|rfl|h
  ·have t:s=0:=by rw[uH l];rfl
   subst t;clear l
   go_enter Tryz.func68,Tryz.ntmps68
   go_wp2
   go_ret
   exact⟨rfl,uH F⟩
  ·have t:s=1:=by rw[uH l];rfl
   subst t;clear l
   go_enter Tryz.func68,Tryz.ntmps68
   go_wp2
   go_ret
   exact⟨rfl,uH F⟩
  ·have t:s=1:=by rw[uH l,if_neg (by decide),if_neg (by omega)]
   subst t;have H:(1:Int)<(n:Int):=by omega
   clear l
   go_enter Tryz.func68,Tryz.ntmps68
   go_wp2
   go_ret
   exact⟨rfl,uH F⟩
 ·have t:s= -1:=by rw[uH l];rfl
  subst t;clear l
  go_enter Tryz.func68,Tryz.ntmps68
  go_wp2
  go_ret
  exact⟨rfl,uH F⟩
attribute [local go_sem ↓] Go.wp_at_zero Go.wp_at_succ
theorem jJ(x k:Int):IntKind.i64.wrap (IntKind.i64.wrap x+k)=IntKind.i64.wrap (x+k):=by
 simp only[IntKind.wrap,IntKind.signed,IntKind.bits]
 simp
 split<;>split<;>split<;>omega
theorem gF(x:Int):wrap64 x=IntKind.i64.wrap x:=by
 simp only[IntKind.wrap,IntKind.signed,IntKind.bits,wrap64]
 simp
 split<;>omega
theorem bF(x:Int)(h:-9223372036854775808<=x/\x<=9223372036854775807):IntKind.i64.wrap x=x:=by
 simp only[IntKind.wrap,IntKind.signed,IntKind.bits]
 simp
 omega
theorem gG(x e:Int)(j:Nat)(l:j<18446744073709551616)(h:x=IntKind.i64.wrap (e+j)):((x-e)%18446744073709551616).toNat=j:=by
 subst h;simp only[IntKind.wrap,IntKind.signed,IntKind.bits]
 simp
 split<;>omega
theorem Nj(x:Int):sg (decide (x<0)) x.natAbs=x:=by
 unfold sg
 by_cases h:x<0
 ·rw[decide_eq_true h];simp;omega
 ·rw[decide_eq_false h];simp;omega
def Cq(w wr:World)(z:Int)(j:Nat)(nn:Bool)(a:GY)(c:Nat)(L:H3):Prop:=
 aK wr w.heap.size (.bool nn) (.slice a L.length c)/\ar wr (w.heap.size+1) (.bool false) (.slice none 0 0) (C0 0)/\ai wr a c L/\cL L/\L≠ []/\L.length<=30000/\sg nn (aj L)*2^j=z/\H8 w wr
theorem Cq.step{w l:World}{z x:Int}{H L D:Bool}{N F:GY}{O Q G v M B j:Nat}{h:H3}
  (I:aK l w.heap.size (.bool L) (.slice N O Q)) (U:ar l (w.heap.size+1) (.bool false) (.slice none 0 0) (C0 0))
  (i:ai l F G h/\cj B F h/\cL h/\D=decide (x<0)/\aj h=x.natAbs/\h.length<=M) (J:x=sg H v) (hv:v≠0) (Z:sg H v*2^j=z) (hl:M<=30000) (t:H8 w l):
  Cq w ((l.setCell ⟨w.heap.size,0,none⟩ (.bool D)).setCell ⟨w.heap.size,1,none⟩ (.slice F h.length G)) z j D F G h:=by
 obtain⟨i1,i2,i3,i4,K,i6⟩:=i;have hs:sg D (aj h)=x:=by rw[i4,K,Nj]
 refine⟨I.put _ _,(U.other (by simp) _).other (by simp) _,i1.box I _ _,i3,?_,by omega,?_,(t.setCell (by simp) _).setCell (by simp) _⟩
 ·rintro rfl
  simp[aj]at K
  have:x.natAbs=v:=by rw[J,lH]
  omega
 ·rw[hs,J];exact Z
theorem Cq.tzs{w wr:World}{z:Int}{j:Nat}{l:Bool}{a:GY}{c:Nat}{L:H3}(h:Cq w wr z j l a c L):aj L≠0/\tz z.natAbs=j+tz (aj L):=by
 obtain⟨H,I,J,D,F,K,G,M⟩:=h;have t:aj L≠0:=fun e=>F ((aY L D).1 e)
 refine⟨t,?_⟩;rw[<-Ex (aj L) j (by omega),<-G,Int.natAbs_mul,lH,Int.natAbs_pow,Nat.mul_comm];rfl
theorem Cq.last{w wr:World}{z:Int}{j:Nat}{l:Bool}{a:GY}{c:Nat}{L:H3}(h:Cq w wr z j l a c L)(K:aj L%2=1):aA 0 wr (.agg #[.bool l,.slice a L.length c]) (oM z)/\j=tz z.natAbs:=by
 obtain⟨M,N,t,F,G,O,H,Q⟩:=h;have D:jE z (sg l (aj L)) j:=⟨H.symm,by unfold sg;cases l<;>simp<;>omega⟩;obtain⟨U,I,J⟩:=D.eq;rw[<-I,<-fm];exact⟨aA.mk t (cj.zero t) F G (by omega),J⟩
theorem Cr(L:H3)(h:bQ L):aj L%4294967296=L[0]?.getD 0:=by
 cases L with
 |nil=>rfl
 |cons x r=>
  have:=h x (by simp)
  simp[aj]
  omega
theorem Cq.down{w wr:World}{z:Int}{j:Nat}{l:Bool}{a:GY}{c:Nat}{L:H3}(h:Cq w wr z j l a c L)(k:Nat)(I:aj L%2^k=0):aj L/2^k≠0/\sg l (aj L/2^k)*2^(j+k)=z/\j+k<=tz z.natAbs:=by
 obtain⟨F,G⟩:=h.tzs;obtain⟨J,K,M,N,O,Q,H,U⟩:=h;have t:aj L=2^k*(aj L/2^k):=by have:=Nat.div_add_mod (aj L) (2^k);omega
 have D:aj L/2^k≠0:=fun e=>F (by rw[t,e];simp)
 refine⟨D,?_,?_⟩
 ·rw[<-H]
  conv=>rhs;rw[t]
  generalize aj L/2^k=q;have e:sg l (2^k*q)=sg l q*2^k:=by
   unfold sg
   cases l
   ·simp only[Bool.false_eq_true,if_false];push_cast;rw[Int.mul_comm]
   ·simp only[if_true];push_cast;rw[Int.neg_mul,Int.mul_comm]
  rw[e,Nat.add_comm,Int.pow_add,Int.mul_assoc]
 ·rw[G]
  have e:tz (aj L)=k+tz (aj L/2^k):=by
   conv=>lhs;rw[t]
   exact Ex _ _ (Nat.pos_of_ne_zero D)
  omega
theorem EZ(na:Bool)(ao:GY)(ca:Nat)(A:H3)(e:Int)(w:World)(hA:ai w ao ca A)(h0:A≠ [])(hc:cL A)(la:A.length<=20000)(be:-9223372036854775808<=e/\e<=9223372036854775807):
  GF 27 #[.agg #[.bool na,.slice ao A.length ca],C0 e] w fun r w'=>∃v,r=.returned v/\aH w' v (oM (af na A)) (IntKind.i64.wrap (e+tz (af na A).natAbs))/\H8 w w':=by
 obtain⟨i0,hi,bi,bm,bn⟩:=info_parts Tryz.info84;have HZ:=ac (fm na A).symm;have hT:tz (af na A).natAbs<18446744073709551616:=by
  rw[aU];have hv:aj A≠0:=fun e=>h0 ((aY A hc).1 e)
  have h1:=gK A hA.2.1;rw[show(4294967296:Nat)=2^32 by decide,<-Nat.pow_mul]at h1;have:=mr (aj A) _ (by omega) h1;omega
 generalize af na A=z at*;obtain⟨T,a0⟩:∃T,T=tz z.natAbs:=⟨_,rfl⟩;have am:=ac a0;rw[<-a0]at hT⊢;have HM:=ac (show oM z=oM z from rfl);have ap:=ac h0;have HC:=ac hc;clear h0 hc a0;have hp:0<A.length:=List.length_pos_iff.2 (uH ap);have ax:((A.length:Int)==0)=false:=by rw[beq_eq_false_iff_ne];omega
 go_enter Tryz.func27,Tryz.ntmps27
 go_wp2
 clear HM
 go_loopw[1] (fun i wr=>∃(x:Int) (j:Nat) (N:Bool) (a:GY) (c:Nat) (L:H3),i=.int .i64 x/\j<=T/\Hid (x=IntKind.i64.wrap (e+j))/\Hid (Cq w wr z j N a c L)) (fun i _=>T-((intOf i-e)%18446744073709551616).toNat)
 case atStart=>
  refine⟨e,0,na,ao,ca,A,rfl,Nat.zero_le _,?_,(aK.new _ _ _).old _,?_,hA.below (((Below.refl _ _).alloc (Nat.le_refl _) _).alloc (by simp) _),uH HC,uH ap,by omega,by rw[uH HZ];simp,((Below.refl _ _).alloc (Nat.le_refl _) _).alloc (by simp) _⟩
  ·unfold Hid;rw[bF _ (by omega)];omega
  ·have:=ar.new (w.alloc (.cells #[.bool na,.slice ao A.length ca] 33)) (.bool false) (.slice none 0 0) (C0 0)
   simpa using this
 case round=>
  obtain⟨x,j,N,a,c,L,rfl,hj,hx,hI⟩:=hrel;clear HZ HC ap hA la hp ax;obtain⟨J,K,hL,hC,hS,G,hz,H⟩:=uH hI;have hp:0<L.length:=List.length_pos_iff.2 hS;have ax:(0:Int)<(L.length:Int):=by omega
  have p0:=J.c0;have p1:=J.c1;have a3:=hL.1;obtain⟨b,a5,rfl,hb,a1⟩:=hL.ne hp;have aI:=a1 0 hp;rw[Nat.add_zero]at aI;have M:=Cr L hL.2.1;have a6:=hL.lt 0
  by_cases hg:L[0]?.getD 0=0
  ·rw[hg]at aI M
   obtain⟨d1,d2,d3⟩:=(uH hI).down 32 M;rw[<-uH am]at d3;have aa:=ac d1;have ae:=ac d2;have l:=ac H;have Q:=ac J;have O:=ac K;have D:=ac G;have I:=ac (hL.below ((Below.refl _ _).drew));clear hz J K hL hC hS H hI G a1 M hg d1 d2 a6
   go_wp2
   have bb:(1:Int)<=(L.length:Int):=by omega
   have bc:(L.length:Int)<=(c:Int):=by omega
   have bd:(1:Int)<=(c:Int):=by omega
   by_cases a7:c=1
   ·subst a7
    go_region_with (go_at_call 65;refine(qG N b a5 L _ (uH I)).mono ?_;rintro e w2 ⟨v,rfl,⟨n2,a2,c2,L2,rfl,i1⟩,h⟩;have I1:=ac i1;have F:=(uH Q).drew.below h (uH Q).drew.lt;have Z1:=(uH O).drew.below h (uH O).drew.lt;have r0:=F.c0;have r1:=F.c1;have f0:=F.free 0;have f1:=F.free 1;have B2:=ac (((uH l).drew).trans (h.mono ((uH l).drew).size));have U:=ac F;have Z:=ac Z1;clear i1 h F Z1)
    all_goals
     go_wp2
     go_roundw
     case rel=>exact⟨_,j+32,n2,a2,c2,L2,rfl,d3,ac (by rw[gF,uH hx,jJ];congr 1;omega),Cq.step (v:=aj L/4294967296) (uH U) (uH Z) (uH I1) rfl (uH aa) (uH ae) (by have:=uH D;omega) (uH B2)⟩
     case measure=>rw[gF,uH hx,jJ];simp only[intOf];rw[gG _ e j (by omega) rfl,gG _ e (j+32) (by omega) (by congr 1;omega)];omega
   ·have ba:¬(c:Int)=1:=by omega
    go_region_with (go_at_call 65;refine(tK N b a5 c L _ (uH I) (by have:=uH D;omega)).mono ?_;rintro e w2 ⟨v,rfl,⟨n2,a2,c2,L2,rfl,i1⟩,h⟩;have I1:=ac i1;have F:=(uH Q).drew.below h (uH Q).drew.lt;have Z1:=(uH O).drew.below h (uH O).drew.lt;have r0:=F.c0;have r1:=F.c1;have f0:=F.free 0;have f1:=F.free 1;have B2:=ac (((uH l).drew).trans (h.mono ((uH l).drew).size));have U:=ac F;have Z:=ac Z1;clear i1 h F Z1)
    all_goals
     go_wp2
     go_roundw
     case rel=>exact⟨_,j+32,n2,a2,c2,L2,rfl,d3,ac (by rw[gF,uH hx,jJ];congr 1;omega),Cq.step (v:=aj L/4294967296) (uH U) (uH Z) (uH I1) rfl (uH aa) (uH ae) (by have:=uH D;omega) (uH B2)⟩
     case measure=>rw[gF,uH hx,jJ];simp only[intOf];rw[gG _ e j (by omega) rfl,gG _ e (j+32) (by omega) (by congr 1;omega)];omega
  ·have a9:(((L[0]?.getD 0:Nat):Int)==0)=false:=by rw[beq_eq_false_iff_ne];omega
   generalize L[0]?.getD 0=y at*;have HI:=hI;clear hI J K hL hC hS G hz H a1 M hg
   go_wp2
   go_loopw[1] (fun i wr=>∃(x:Int) (j:Nat) (N:Bool) (a:GY) (c:Nat) (L:H3),i=.int .i64 x/\j<=T/\Hid (x=IntKind.i64.wrap (e+j))/\Hid (Cq w wr z j N a c L)) (fun i _=>T-((intOf i-e)%18446744073709551616).toNat)
   case atStart=>exact⟨x,j,N,_,c,L,rfl,hj,hx,HI⟩
   case round=>
    clear HI p0 p1 ax hp a9 aI hj hx hb a3;obtain⟨x,j,N,a,c,L,rfl,hj,hx,hI⟩:=hrel;obtain⟨J,K,hL,hC,hS,G,hz,H⟩:=uH hI;have p0:=J.c0;have p1:=J.c1;have Q:=ac J;have O:=ac K;have l:=ac H;have D:=ac G;have I:=ac hL;clear J K hL hC hS G hz H;go_wp2_with fail;refine(Jx N a c L wr (uH I)).mono ?_
    by_cases ho:aj L%2=1
    ·rw[decide_eq_true ho]
     rintro r w3 ⟨rfl,t⟩;obtain⟨l1,l2⟩:=(uH hI).last ho;have L1:=ac (l1.below t);have L2:=ac l2;have J:=(uH Q).all t;have K:=(uH O).all t;have b1:=(uH l).trans (t.mono (uH l).size);clear hI l1 l2 t ho p0 p1 Q O l I;have p0:=J.c0;have p1:=J.c1;have y0:=K.c0;have y1:=K.c1;have y2:=K.c2;have f0:=K.free 0;have f1:=K.free 1;have f2:=K.free 2;have O:=ac K;have B1:=ac b1;clear J K b1
     go_wp2
     have e1:IntKind.i64.wrap (e+(T:Int))=x:=by rw[uH hx,uH am,<-uH L2]
     rw[e1];have j2:aH w3 (.agg #[.bool N,.slice a L.length c,C0 x]) (oM z) x:=⟨N,a,c,L,rfl,uH L1⟩;refine bodyPost_ret (v:=.agg #[.bool N,.slice a L.length c,C0 x]) (by simp[results,Tryz.results27,go_sem,y0,y1,y2]) rfl ⟨_,rfl,j2.put3 (uH O) _ _ _,aJ (uH B1) (by omega) _ _ _⟩
    ·rw[decide_eq_false ho]
     rintro r w3 ⟨rfl,t⟩;obtain⟨d1,d2,d3⟩:=(uH hI).down 1 (by simp;omega);rw[<-uH am]at d3;rw[Nat.pow_one]at d1 d2;have aa:=ac d1;have ae:=ac d2;have J:=(uH Q).all t;have K:=(uH O).all t;have b1:=(uH l).trans (t.mono (uH l).size);have a4:=(uH I).below t;clear hI d1 d2 t ho p0 p1 Q O l I;have p0:=J.c0;have p1:=J.c1;have Q:=ac J;have O:=ac K;have B1:=ac b1;have I:=ac a4;clear J K b1 a4;go_wp2_with fail;refine(vT N a c L w3 (uH I) (by have:=uH D;omega)).mono ?_;rintro r w2 ⟨v,rfl,⟨n2,a2,c2,L2,rfl,i1⟩,h⟩;have I1:=ac i1;have F:=(uH Q).all h;have Z1:=(uH O).all h;have r0:=F.c0;have r1:=F.c1;have f0:=F.free 0;have f1:=F.free 1;have B2:=ac ((uH B1).trans (h.mono (uH B1).size));have U:=ac F;have Z:=ac Z1;clear i1 h F Z1
     go_wp2
     go_roundw
     case rel=>exact⟨_,j+1,n2,a2,c2,L2,rfl,d3,ac (by rw[gF,uH hx,jJ];congr 1;omega),Cq.step (v:=aj L/2) (uH U) (uH Z) (uH I1) rfl (uH aa) (uH ae) (by have:=uH D;omega) (uH B2)⟩
     case measure=>rw[gF,uH hx,jJ];simp only[intOf];rw[gG _ e j (by omega) rfl,gG _ e (j+1) (by omega) (by congr 1;omega)];omega
theorem E7(l:Bool)(ao:GY)(t:Nat)(e:Int)(w:World):
  GF 27 #[.agg #[.bool l,.slice ao 0 t],C0 e] w fun r h=>∃v,r=.returned v/\aH h v 0 0/\H8 w h:=by
 go_enter Tryz.func27,Tryz.ntmps27
 go_wp2
 refine bodyPost_ret (v:=.agg #[.bool false,.slice none 0 0,C0 0]) (by simp[results,Tryz.results27,go_sem]) rfl ⟨_,rfl,aH.zero _ _ _,?_⟩;exact((Below.refl w.heap.size w).alloc (Nat.le_refl _) _).alloc (by simp) _
theorem uy{M B:Nat}{w:World}{v:Value}{z:Int}(e:Int)(I:aS M B w v z)(Q:M<=20000)(J:-9223372036854775808<=e/\e<=9223372036854775807):
  GF 27 #[v,C0 e] w fun r t=>∃u,r=.returned u/\aH t u (oM z) (if z=0 then 0 else IntKind.i64.wrap (e+tz z.natAbs))/\H8 w t:=by
 obtain⟨D,ao,F,A,rfl,N,U,G,O,H,Z⟩:=I;have h:=mI O H
 by_cases l:A= []
 ·subst l
  rw[jD]at h;subst h;rw[if_pos rfl,show oM 0=0 by simp[oM]];exact E7 D ao F e w
 ·have L:z≠0:=fun K=>l ((aY A G).1 (by rw[H,K];rfl))
  rw[if_neg L,<-h];exact EZ D ao F A e w N l G (by omega) J
theorem ic{M B:Nat}{w:World}{v:Value}{z:Int}(e:Int)(l:aS M B w v z)(F:M<=20000)(H:-1000000<=e/\e<=1000000):
  GF 27 #[v,C0 e] w fun r t=>∃u,r=.returned u/\aH t u (oM z) (oE z e)/\H8 w t:=by
 have h:=uy e l F (by omega);have:(if z=0 then 0 else IntKind.i64.wrap (e+tz z.natAbs))=oE z e:=by
  unfold oE
  split
  ·rfl
  ·rename_i U
   have I:tz z.natAbs<32*20000:=by
    obtain⟨J,ao,K,A,rfl,G,L,N,O,D,Q⟩:=l;rw[<-D];have l:aj A≠0:=by rw[D];omega
    have h:=gK A G.2.1;rw[show(4294967296:Nat)=2^32 by decide,<-Nat.pow_mul]at h;have:=mr (aj A) _ (by omega) h;omega
   exact bC _ (by omega)
 rwa[this]at h
def sR(n y:Int):Bool:=if n=0 then decide (y=0)else(decide (n%2=1)&&decide (-16384<=y/\y<=16384))
theorem aH.parts{w:World}{v:Value}{m e:Int}(h:aH w v m e):
  ∃(neg:Bool) (ao:GY) (cap:Nat) (L:H3),v=.agg #[.bool neg,.slice ao L.length cap,C0 e]/\ai w ao cap L/\cL L/\neg=decide (m<0)/\aj L=m.natAbs/\L.length<=35184372088832:=by
 obtain⟨neg,ao,cap,L,rfl,K,M,N,t,l,D,O,F,G,H,I⟩:=h;simp only[Value.agg.injEq,Array.mk.injEq,List.cons.injEq,Value.bool.injEq,Value.slice.injEq,and_true]at l;obtain⟨rfl,rfl,J,rfl⟩:=l;exact⟨neg,ao,cap,t,by rw[J],D,F,G,H,I⟩
theorem vW(n:Int):(n.natAbs%2=1)↔(n%2=1):=by omega
theorem aH.right{w:World}{v:Value}{m e:Int}(h:aH w v m e)(O:m.natAbs<eE):
  ∃(neg:Bool) (ao:GY) (cap:Nat) (L:H3),v=.agg #[.bool neg,.slice ao L.length cap,C0 e]/\ai w ao cap L/\aD neg L=true/\af neg L=m/\L.length<=512/\np neg L e=sR m e:=by
 obtain⟨neg,ao,cap,L,rfl,t,F,H,l,h5⟩:=h.parts;have U:aA 0 w (.agg #[.bool neg,.slice ao L.length cap]) m:=⟨neg,ao,cap,L,rfl,t,cj.zero t,F,H,l,h5⟩;have Z:L.length<=512:=(eO L t.2.1 F).1 (by omega);have G:aD neg L=true:=by
  obtain⟨I,aa,J,K,M,e2,N,e4,e5⟩:=U.right O;simp only[Value.agg.injEq,Array.mk.injEq,List.cons.injEq,Value.bool.injEq,Value.slice.injEq,and_true]at M;obtain⟨rfl,rfl,o3,rfl⟩:=M;have:L=K:=by
   refine vH L K t.2.1 e2.2.1 F (aG N).2.1 ?_;rw[l,<-e4,aU]
  rw[this];exact N
 refine⟨neg,ao,cap,L,rfl,t,G,mI H l,Z,?_⟩;unfold np sR;rw[G,Bool.true_and,l]
 by_cases D:L.length=0
 ·have:m=0:=by
   have:L= []:=List.length_eq_zero_iff.1 D;rw[this]at l;simp[aj]at l;omega
  rw[if_pos D,if_pos this]
 ·have:m≠0:=fun Q=>D (by
   have:L= []:=(aY L F).1 (by rw[l,Q];rfl);rw[this];rfl)
  rw[if_neg D,if_neg this]
  congr 1
  rw[decide_eq_decide];exact vW m
theorem aH.num{w:World}{v:Value}{m e:Int}(h:aH w v m e):
  ∃(neg:Bool) (ao:GY) (cap:Nat) (L:H3),v=.agg #[.bool neg,.slice ao L.length cap,C0 e]/\aA 0 w (.agg #[.bool neg,.slice ao L.length cap]) m:=h
end Go.Proofs.YtcbcmlaogehimaaGreatDoor
namespace Go.Proofs.YtcbcmlaogehimaaGreatDoor
open Go.RowKit
theorem tO(z:Int):(oM z).natAbs<=z.natAbs:=by
 by_cases h:z=0
 ·subst h;simp[oM]
 ·have l:=gN z h
  have t:z.natAbs=(oM z).natAbs*2^tz z.natAbs:=by
   conv=>lhs;rw[l.1]
   rw[Int.natAbs_mul,Int.natAbs_pow];rfl
  rw[t];exact Nat.le_mul_of_pos_right _ (Nat.pow_pos (by decide))
theorem bj:oM 0=0:=by simp[oM]
theorem bL(e:Int):oE 0 e=0:=by simp[oE]
theorem g6(z:Int)(h:z≠0):oM z≠0/\oM z%2=1:=by
 have l:=(gN z h).2;exact⟨fun e=>by rw[e]at l;simp at l,l⟩
theorem dc(z e:Int)(h:z≠0):oE z e=e+tz z.natAbs:=by unfold oE;rw[if_neg h]
theorem Nk(z e:Int)(l:-32768<=e/\e<=32768):sR (oM z) (oE z e)=oK z e:=by
 unfold oK sR;rw[decide_eq_true l,Bool.true_and]
 by_cases h:z=0
 ·subst h
  rw[bj,bL];simp
 ·obtain⟨t,D⟩:=g6 z h
  rw[if_neg t,decide_eq_true D,dc z e h,decide_eq_false h]
  simp
theorem Cs(z e:Int)(l:-32768<=e/\e<=32768):
  (sR (oM z) (oE z e)=true->dU z e=0/\dM z e=oM z/\dX z e=oE z e)/\(sR (oM z) (oE z e)=false->dU z e=2/\dM z e=0/\dX z e=0):=by
 rw[Nk z e l]
 constructor<;>intro h<;>simp[dU,dM,dX,h]
attribute [local go_sem ↓] Go.wp_at_zero Go.wp_at_succ
def up(s x l:Int):Int:=s*2^(x-l).toNat
theorem vX(l:Bool)(A:H3)(n:Int)(h:0<=n):sM l A n=af l A*2^n.toNat:=by
 rw[p5,fm];unfold qD;rw[if_pos h];unfold sg
 cases l
 ·simp
 ·simp[Int.neg_mul]
def gr(s x l:Int):Int:=if(up s x l).natAbs<eE/\x-l<=16384 then 0 else 2
def Mp(s x l:Int):Int:=if(up s x l).natAbs<eE/\x-l<=16384 then up s x l else 0
theorem nG(t:Bool)(A:H3)(x l:Int)(G:aD t A=true)(h:l<=x):yz t A (x-l)=gr (af t A) x l/\vS t A (x-l)=Mp (af t A) x l:=by
 unfold yz vS oJ gr Mp;rw[G,vX t A (x-l) (by omega)]
 change (if(true&&decide (-16384<=x-l/\x-l<=16384))=true then cn (up (af t A) x l)else if true=true then 2 else 1)=_/\(if(true&&decide (-16384<=x-l/\x-l<=16384))=true then fG (up (af t A) x l)else 0)=_
 rw[Bool.true_and]
 by_cases F:x-l<=16384
 ·rw[if_pos (decide_eq_true (show-16384<=x-l/\x-l<=16384 by omega)),if_pos (decide_eq_true (show-16384<=x-l/\x-l<=16384 by omega))]
  unfold cn fG
  by_cases D:(up (af t A) x l).natAbs<eE
  ·rw[if_pos D,if_pos D,if_pos ⟨D,F⟩,if_pos ⟨D,F⟩];exact⟨rfl,rfl⟩
  ·rw[if_neg D,if_neg D,if_neg (fun h=>D h.1),if_neg (fun h=>D h.1)];exact⟨rfl,rfl⟩
 ·have H:decide (-16384<=x-l/\x-l<=16384)=false:=decide_eq_false (by omega)
  rw[H,if_neg (show¬((up (af t A) x l).natAbs<eE/\x-l<=16384)from fun h=>F h.2),if_neg (show¬((up (af t A) x l).natAbs<eE/\x-l<=16384)from fun h=>F h.2)];exact⟨by simp,by simp⟩
theorem vY(s x l:Int):(gr s x l=0/\Mp s x l=up s x l)\/gr s x l=2:=by
 unfold gr Mp
 by_cases h:(up s x l).natAbs<eE/\x-l<=16384
 ·rw[if_pos h,if_pos h];exact .inl ⟨rfl,rfl⟩
 ·rw[if_neg h];exact .inr rfl
theorem aA.put2{B:Nat}{w:World}{v:Value}{x:Int}(h:aA B w v x){p q:Addr}(t:p.block<B)(D:q.block<B)(u u':Value):aA B ((w.setCell p u).setCell q u') v x:=by
 obtain⟨n,ao,cap,L,rfl,F,l,G⟩:=h;exact⟨n,ao,cap,L,rfl,(F.store l t u).store l D u',l,G⟩
theorem cR{w l:World}{B b:Nat}(h:Below B w l)(t:B<=b)(u u':Value):Below B w ((l.setCell ⟨b,0,none⟩ u).setCell ⟨b,1,none⟩ u'):=
 (h.setCell t _).setCell t _
theorem Nl{w:World}{b c:Nat}{D F G H:Value}(I:aK w b D F)(J:aK w c G H)(h:b≠c)(u0 u1 l t:Value):
  aK ((((((w.setCell ⟨c,0,none⟩ l).setCell ⟨c,1,none⟩ t).setCell ⟨b,0,none⟩ u0).setCell ⟨b,1,none⟩ u1).setCell ⟨c,0,none⟩ l).setCell ⟨c,1,none⟩ t) b u0 u1/\
  aK ((((((w.setCell ⟨c,0,none⟩ l).setCell ⟨c,1,none⟩ t).setCell ⟨b,0,none⟩ u0).setCell ⟨b,1,none⟩ u1).setCell ⟨c,0,none⟩ l).setCell ⟨c,1,none⟩ t) c l t:=
 ⟨((((I.other (p:=⟨c,0,none⟩) h l).other (p:=⟨c,1,none⟩) h t).put u0 u1).other (p:=⟨c,0,none⟩) h l).other (p:=⟨c,1,none⟩) h t,
  (((J.put l t).other (p:=⟨b,0,none⟩) (Ne.symm h) u0).other (p:=⟨b,1,none⟩) (Ne.symm h) u1).put l t⟩
theorem Nn{w:World}{b c:Nat}{D F G H:Value}(I:aK w b D F)(J:aK w c G H)(h:b≠c)(u0 u1 l t:Value):
  aK ((((((w.setCell ⟨b,0,none⟩ u0).setCell ⟨b,1,none⟩ u1).setCell ⟨b,0,none⟩ u0).setCell ⟨b,1,none⟩ u1).setCell ⟨c,0,none⟩ l).setCell ⟨c,1,none⟩ t) b u0 u1/\
  aK ((((((w.setCell ⟨b,0,none⟩ u0).setCell ⟨b,1,none⟩ u1).setCell ⟨b,0,none⟩ u0).setCell ⟨b,1,none⟩ u1).setCell ⟨c,0,none⟩ l).setCell ⟨c,1,none⟩ t) c l t:=
 ⟨(((I.put u0 u1).put u0 u1).other (p:=⟨c,0,none⟩) h l).other (p:=⟨c,1,none⟩) h t,
  ((((J.other (p:=⟨b,0,none⟩) (Ne.symm h) u0).other (p:=⟨b,1,none⟩) (Ne.symm h) u1).other (p:=⟨b,0,none⟩) (Ne.symm h) u0).other (p:=⟨b,1,none⟩) (Ne.symm h) u1).put l t⟩
def Np(w':World)(r:Ending)(ea eb za zb:Int):Prop:=
 ∃(n1:Bool) (a1:GY) (l1 c1:Nat) (n2:Bool) (a2:GY) (l2 c2:Nat) (er:Int),r=.returned (.tuple #[.agg #[.bool n1,.slice a1 l1 c1],.agg #[.bool n2,.slice a2 l2 c2],C0 er])/\(ea=0->eb=0->er=0/\aA 0 w' (.agg #[.bool n1,.slice a1 l1 c1]) za/\aA 0 w' (.agg #[.bool n2,.slice a2 l2 c2]) zb)/\(¬(ea=0/\eb=0)->er=2)
theorem Ct(D t:Bool)(ao N:GY)(Q O:Nat)(A B:H3)(x y l:Int)(w:World)(hA:ai w ao Q A)(hB:ai w N O B)(ra:aD D A=true)(rb:aD t B=true)(bx:-16384<=x/\x<=16384)(a0:-16384<=y/\y<=16384)(hl:l=min x y):
  GF 294 #[.agg #[.bool D,.slice ao A.length Q,C0 x],.agg #[.bool t,.slice N B.length O,C0 y]] w fun r K=>Np K r (gr (af D A) x l) (gr (af t B) y l) (up (af D A) x l) (up (af t B) y l)/\H8 w K:=by
 have la:=(aG ra).1;have lb:=(aG rb).1;have aa:l<=x:=by omega
 have ae:l<=y:=by omega
 have CA:=ac (fun n K h (e:n=x-l)=>show GF 238 #[.agg #[.bool D,.slice ao A.length Q],C0 n] K fun e U=>∃v,e=.returned (.tuple #[v,C0 (gr (af D A) x l)])/\aA K.heap.size U v (Mp (af D A) x l)/\H8 K U by
  have:=jI D ao Q A n K h (by omega) (by omega)
  rwa[e,(nG D A x l ra aa).1,(nG D A x l ra aa).2,<-e]at this)
 have CB:=ac (fun n K h (e:n=y-l)=>show GF 238 #[.agg #[.bool t,.slice N B.length O],C0 n] K fun e U=>∃v,e=.returned (.tuple #[v,C0 (gr (af t B) y l)])/\aA K.heap.size U v (Mp (af t B) y l)/\H8 K U by
  have:=jI t N O B n K h (by omega) (by omega)
  rwa[e,(nG t B y l rb ae).1,(nG t B y l rb ae).2,<-e]at this)
 have HA:=ac (vY (af D A) x l);have HB:=ac (vY (af t B) y l);have HL:=ac hl;clear hl ra rb aa ae;generalize gr (af D A) x l=ea at*;generalize gr (af t B) y l=eb at*;generalize Mp (af D A) x l=ua at*;generalize Mp (af t B) y l=ub at*;generalize up (af D A) x l=za at*;generalize up (af t B) y l=zb at*;obtain⟨a5,a6⟩:=bx;obtain⟨a7,a9⟩:=a0;have ax:H8 w ((((w.alloc (.cells #[.bool D,.slice ao A.length Q,C0 x] 35)).alloc (.cells #[.bool t,.slice N B.length O,C0 y] 35)).alloc (.cells #[.bool false,.slice none 0 0] 33)).alloc (.cells #[.bool false,.slice none 0 0] 33)):=
  ((((Below.refl _ _).alloc (Nat.le_refl _) _).alloc (by simp) _).alloc (by simp;omega) _).alloc (by simp;omega) _
 have x1:ar ((((w.alloc (.cells #[.bool D,.slice ao A.length Q,C0 x] 35)).alloc (.cells #[.bool t,.slice N B.length O,C0 y] 35)).alloc (.cells #[.bool false,.slice none 0 0] 33)).alloc (.cells #[.bool false,.slice none 0 0] 33)) (w.heap.size+1) (.bool t) (.slice N B.length O) (C0 y):=by
  have:=((ar.new (w.alloc (.cells #[.bool D,.slice ao A.length Q,C0 x] 35)) (.bool t) (.slice N B.length O) (C0 y)).old (.cells #[.bool false,.slice none 0 0] 33)).old (.cells #[.bool false,.slice none 0 0] 33)
  simpa using this
 have Z:aK ((((w.alloc (.cells #[.bool D,.slice ao A.length Q,C0 x] 35)).alloc (.cells #[.bool t,.slice N B.length O,C0 y] 35)).alloc (.cells #[.bool false,.slice none 0 0] 33)).alloc (.cells #[.bool false,.slice none 0 0] 33)) (w.heap.size+1+1) (.bool false) (.slice none 0 0):=by
  have:=(aK.new ((w.alloc (.cells #[.bool D,.slice ao A.length Q,C0 x] 35)).alloc (.cells #[.bool t,.slice N B.length O,C0 y] 35)) (.bool false) (.slice none 0 0)).old (.cells #[.bool false,.slice none 0 0] 33)
  simpa using this
 have x3:aK ((((w.alloc (.cells #[.bool D,.slice ao A.length Q,C0 x] 35)).alloc (.cells #[.bool t,.slice N B.length O,C0 y] 35)).alloc (.cells #[.bool false,.slice none 0 0] 33)).alloc (.cells #[.bool false,.slice none 0 0] 33)) (w.heap.size+1+1+1) (.bool false) (.slice none 0 0):=by
  have:=aK.new (((w.alloc (.cells #[.bool D,.slice ao A.length Q,C0 x] 35)).alloc (.cells #[.bool t,.slice N B.length O,C0 y] 35)).alloc (.cells #[.bool false,.slice none 0 0] 33)) (.bool false) (.slice none 0 0)
  simpa using this
 have B0:=ac ax;have X1:=ac x1;have X2:=ac Z;have X3:=ac x3;clear ax x1 Z x3;rcases(show x<y\/x=y\/y<x by omega)with ap|ap|ap
 all_goals
  first|subst ap|skip
  go_enter Tryz.func294,Tryz.ntmps294
  go_wp2_with fail;refine(uH CA _ _ (hA.below (uH B0)) (by have:=uH HL;omega)).mono ?_;rintro r w1 ⟨v1,rfl,⟨F,G,H,I,rfl,i1⟩,L⟩;have x1:=(uH X1).all L;have Z:=(uH X2).all L;have x3:=(uH X3).all L;have b1:=(uH B0).trans (L.mono (uH B0).size);have hs:w.heap.size+4<=w1.heap.size:=by have:=L.size;simp at this;omega
  have aI:aA (w.heap.size+4) w1 (.agg #[.bool F,.slice G I.length H]) ua:=by
   refine aA.mono ⟨F,G,H,I,rfl,i1⟩ (by simp)
  have p0:=x1.c0;have p1:=x1.c1;have p2:=x1.c2;have q0:=Z.c0;have q1:=Z.c1;have f0:=Z.free 0;have f1:=Z.free 1;have a3:=ac x1;have am:=ac Z;have J:=ac x3;have B1:=ac b1;have I1:=ac aI;clear L x1 Z x3 b1 i1 aI X1 X2 X3 B0;have s0:=(uH J).c0;have s1:=(uH J).c1;have g0:=(uH J).free 0;have g1:=(uH J).free 1;rcases uH HA with⟨rfl,hu⟩|rfl
  ·have HU:=ac hu
   clear HA CA hu;go_wp2_with fail;have b2:=cR (uH B1) (show w.heap.size<=w.heap.size+1+1 by omega) (.bool F) (.slice G I.length H);refine(uH CB _ _ (hB.below b2) (by have:=uH HL;omega)).mono ?_;rintro r w2 ⟨v2,rfl,⟨n2,a2,c2,L2,rfl,i2⟩,M⟩;have a4:w.heap.size+4<=w2.heap.size:=by have:=M.size;simp at this;omega
   have y2:=((uH am).put (.bool F) (.slice G I.length H)).all M;have y3:=(((uH J).other (p:=⟨w.heap.size+1+1,0,none⟩) (by simp) (.bool F)).other (p:=⟨w.heap.size+1+1,1,none⟩) (by simp) (.slice G I.length H)).all M;have b3:=b2.trans (M.mono b2.size);have j1:aA (w.heap.size+4) w2 (.agg #[.bool F,.slice G I.length H]) ua:=((uH I1).put2 (p:=⟨w.heap.size+1+1,0,none⟩) (q:=⟨w.heap.size+1+1,1,none⟩) (by simp) (by simp) (.bool F) (.slice G I.length H)).below M;have j2:aA (w.heap.size+4) w2 (.agg #[.bool n2,.slice a2 L2.length c2]) ub:=aA.mono ⟨n2,a2,c2,L2,rfl,i2⟩ (by simp;omega);clear q0 q1 f0 f1 s0 s1 g0 g1 p0 p1 p2 a3 am J I1 B1 M i2 CB;have q0:=y2.c0;have q1:=y2.c1;have f0:=y2.free 0;have f1:=y2.free 1;have s0:=y3.c0;have s1:=y3.c1;have g0:=y3.free 0;have g1:=y3.free 1;have B3:=ac b3;have J1:=ac j1;have J2:=ac j2;have EE:=ac (fun u0 u1 v0 v1=>Nl y2 y3 (by omega) u0 u1 v0 v1);clear b2 b3 y2 y3 j1 j2;rcases uH HB with⟨rfl,hv⟩|rfl
   ·have HV:=ac hv
    clear HB hv
    go_wp2
    go_region_with fail
    all_goals
     go_wp2
     obtain⟨E1,E2⟩:=uH EE (.bool F) (.slice G I.length H) (.bool n2) (.slice a2 L2.length c2);have z0:=E1.c0;have z1:=E1.c1;have z2:=E2.c0;have z3:=E2.c1;refine bodyPost_ret (v:=.tuple #[.agg #[.bool F,.slice G I.length H],.agg #[.bool n2,.slice a2 L2.length c2],C0 0]) (by simp[results,Tryz.results294,go_sem,z0,z1,z2,z3]) rfl ⟨⟨F,G,I.length,H,n2,a2,L2.length,c2,0,rfl,?_,?_⟩,?_⟩
     ·intro _ _
      rw[<-uH HU,<-uH HV];exact⟨rfl,((((((uH J1).put2 (by simp) (by simp) _ _).put2 (by simp) (by simp) _ _).put2 (by simp) (by simp) _ _).below ((Below.refl _ _).drew)).mono (Nat.zero_le _)),((((((uH J2).put2 (by simp) (by simp) _ _).put2 (by simp) (by simp) _ _).put2 (by simp) (by simp) _ _).below ((Below.refl _ _).drew)).mono (Nat.zero_le _))⟩
     ·intro h;exact absurd ⟨rfl,rfl⟩ h
     ·exact(cR (cR (cR (uH B3) (by omega) _ _) (by omega) _ _) (by omega) _ _).drew
   ·clear HB
    go_wp2
    go_region_with fail
    all_goals
     go_wp2
     obtain⟨E1,E2⟩:=uH EE (.bool F) (.slice G I.length H) (.bool n2) (.slice a2 L2.length c2);have z0:=E1.c0;have z1:=E1.c1;have z2:=E2.c0;have z3:=E2.c1;refine bodyPost_ret (v:=.tuple #[.agg #[.bool F,.slice G I.length H],.agg #[.bool n2,.slice a2 L2.length c2],C0 2]) (by simp[results,Tryz.results294,go_sem,z0,z1,z2,z3]) rfl ⟨⟨F,G,I.length,H,n2,a2,L2.length,c2,2,rfl,?_,fun _=>rfl⟩,?_⟩
     ·intro _ h;exact absurd h (by decide)
     ·exact(cR (cR (cR (uH B3) (by omega) _ _) (by omega) _ _) (by omega) _ _).drew
  ·clear HA HB CA CB
   go_wp2
   go_region_with fail
   all_goals
    go_wp2
    obtain⟨E1,E2⟩:=Nn (uH am) (uH J) (by omega) (.bool F) (.slice G I.length H) (.bool false) (.slice none 0 0);have z0:=E1.c0;have z1:=E1.c1;have z2:=E2.c0;have z3:=E2.c1;refine bodyPost_ret (v:=.tuple #[.agg #[.bool F,.slice G I.length H],.agg #[.bool false,.slice none 0 0],C0 2]) (by simp[results,Tryz.results294,go_sem,z0,z1,z2,z3]) rfl ⟨⟨F,G,I.length,H,false,none,0,0,2,rfl,?_,fun _=>rfl⟩,?_⟩
    ·intro h;exact absurd h (by decide)
    ·exact(cR (cR (cR (uH B1) (by omega) _ _) (by omega) _ _) (by omega) _ _).drew
def cE(sa x sb y:Int):Int:=if sa=0 then y else if sb=0 then x else min x y
def dW(sa x sb y:Int):Int:=up sa x (cE sa x sb y)+up sb y (cE sa x sb y)
def nH(sa x sb y:Int):Bool:=decide (gr sa x (cE sa x sb y)=0/\gr sb y (cE sa x sb y)=0/\(dW sa x sb y).natAbs<eE)
def vZ(sa x sb y:Int):Int:=if nH sa x sb y then dU (dW sa x sb y) (cE sa x sb y)else 2
def v4(sa x sb y:Int):Int:=if nH sa x sb y then dM (dW sa x sb y) (cE sa x sb y)else 0
def wg(sa x sb y:Int):Int:=if nH sa x sb y then dX (dW sa x sb y) (cE sa x sb y)else 0
def pG(w':World)(r:Ending)(er m e:Int):Prop:=∃v,r=.returned (.tuple #[v,C0 er])/\aH w' v m e
theorem aW{n:Bool}{L:H3}(h:aD n L=true):af n L=0↔L.length=0:=by
 have l:=(aG h).2.1
 constructor
 ·intro e
  have:aj L=0:=by rw[<-aU n L,e];rfl
  rw[(aY L l).1 this];rfl
 ·intro e
  have:L= []:=List.length_eq_zero_iff.1 e;rw[this,jD]
theorem nI{w:World}{ao:GY}{cap:Nat}{n:Bool}{L:H3}(h:ai w ao cap L)(l:aD n L=true):(af n L).natAbs<eE:=by
 rw[aU];exact(eO L h.2.1 (aG l).2.1).2 (aG l).1
theorem gt(x l:Int):up 0 x l=0:=by simp[up]
theorem p7(s x:Int):up s x x=s:=by simp[up]
theorem fL(s x l:Int)(h:(up s x l).natAbs<eE)(t:x-l<=16384):gr s x l=0:=by unfold gr;rw[if_pos ⟨h,t⟩]
theorem nJ{s x l:Int}(h:gr s x l=0):(up s x l).natAbs<eE:=by
 unfold gr at h
 by_cases t:(up s x l).natAbs<eE/\x-l<=16384
 ·exact t.1
 ·rw[if_neg t]at h;exact absurd h (by decide)
theorem qO(h y:Int)(G:-16384<=y/\y<=16384)(t:h.natAbs<eE):vZ 0 0 h y=dU h y/\v4 0 0 h y=dM h y/\wg 0 0 h y=dX h y:=by
 have l:cE 0 0 h y=y:=by simp[cE]
 have D:dW 0 0 h y=h:=by unfold dW;rw[l,gt,p7];omega
 have F:nH 0 0 h y=true:=by
  unfold nH;rw[l,D];exact decide_eq_true ⟨fL _ _ _ (by rw[gt];exact j5) (by omega),fL _ _ _ (by rw[p7];exact t) (by omega),t⟩
 unfold vZ v4 wg;rw[F,l,D];exact⟨rfl,rfl,rfl⟩
theorem qP(h x:Int)(H:-16384<=x/\x<=16384)(t:h.natAbs<eE)(F:h≠0):vZ h x 0 0=dU h x/\v4 h x 0 0=dM h x/\wg h x 0 0=dX h x:=by
 have l:cE h x 0 0=x:=by simp[cE,F]
 have D:dW h x 0 0=h:=by unfold dW;rw[l,gt,p7];omega
 have G:nH h x 0 0=true:=by
  unfold nH;rw[l,D];exact decide_eq_true ⟨fL _ _ _ (by rw[p7];exact t) (by omega),fL _ _ _ (by rw[gt];exact j5) (by omega),t⟩
 unfold vZ v4 wg;rw[G,l,D];exact⟨rfl,rfl,rfl⟩
theorem j7(h x l y:Int)(t:h≠0)(D:l≠0):cE h x l y=min x y:=by unfold cE;rw[if_neg t,if_neg D]
theorem E8(t x D y l z:Int)(H:cE t x D y=l)(I:dW t x D y=z):
  (gr t x l=0/\gr D y l=0/\z.natAbs<eE/\vZ t x D y=dU z l/\v4 t x D y=dM z l/\wg t x D y=dX z l)\/
  (gr t x l=0/\gr D y l=0/\¬z.natAbs<eE/\vZ t x D y=2/\v4 t x D y=0/\wg t x D y=0)\/
  (¬(gr t x l=0/\gr D y l=0)/\vZ t x D y=2/\v4 t x D y=0/\wg t x D y=0):=by
 unfold vZ v4 wg nH;rw[H,I]
 by_cases F:gr t x l=0/\gr D y l=0
 ·by_cases G:z.natAbs<eE
  ·left
   rw[decide_eq_true (show gr t x l=0/\gr D y l=0/\z.natAbs<eE from⟨F.1,F.2,G⟩)];exact⟨F.1,F.2,G,rfl,rfl,rfl⟩
  ·right;left
   rw[decide_eq_false (show¬(gr t x l=0/\gr D y l=0/\z.natAbs<eE)from fun h=>G h.2.2)];exact⟨F.1,F.2,G,rfl,rfl,rfl⟩
 ·right;right
  rw[decide_eq_false (show¬(gr t x l=0/\gr D y l=0/\z.natAbs<eE)from fun h=>F ⟨h.1,h.2.1⟩)];exact⟨F,rfl,rfl,rfl⟩
theorem uz(I J:Bool)(ao bo:GY)(ca cb:Nat)(A B:H3)(x y:Int)(w:World)(hA:ai w ao ca A)(hB:ai w bo cb B)(ra:aD I A=true)(rb:aD J B=true)(bx:-16384<=x/\x<=16384)(bb:-16384<=y/\y<=16384)(zx:A.length=0->x=0)(zy:B.length=0->y=0)(hT:cX w):
  GF 289 #[.agg #[.bool I,.slice ao A.length ca,C0 x],.agg #[.bool J,.slice bo B.length cb,C0 y]] w fun r Z=>pG Z r (vZ (af I A) x (af J B) y) (v4 (af I A) x (af J B) y) (wg (af I A) x (af J B) y)/\H8 w Z:=by
 have ta:=nI hA ra;have tb:=nI hB rb;have bc:=ac (show A.length=0->vZ (af I A) x (af J B) y=dU (af J B) y/\v4 (af I A) x (af J B) y=dM (af J B) y/\wg (af I A) x (af J B) y=dX (af J B) y from fun h=>by
  have:=(aW ra).2 h;rw[this,zx h];exact qO _ _ bb tb)
 have bd:=ac (show A.length≠0->B.length=0->vZ (af I A) x (af J B) y=dU (af I A) x/\v4 (af I A) x (af J B) y=dM (af I A) x/\wg (af I A) x (af J B) y=dX (af I A) x from fun h0 h=>by
  have:=(aW rb).2 h;rw[this,zy h];exact qP _ _ bx ta (fun e=>h0 ((aW ra).1 e)))
 have HL:=ac (show A.length≠0->B.length≠0->cE (af I A) x (af J B) y=min x y from fun h0 h=>j7 _ _ _ _ (fun e=>h0 ((aW ra).1 e)) (fun e=>h ((aW rb).1 e)));obtain⟨l,hl⟩:∃l,cE (af I A) x (af J B) y=l:=⟨_,rfl⟩;obtain⟨z,hz⟩:∃z,dW (af I A) x (af J B) y=z:=⟨_,rfl⟩;have HW:=ac (E8 _ _ _ _ l z hl hz);have ba:=ac (show z=up (af I A) x l+up (af J B) y l by rw[<-hz,<-hl];rfl);rw[hl]at HL;have bp:=ac (fun Z h t=>j6 J bo cb B y Z h rb (by omega) t);have be:=ac (fun Z h t=>j6 I ao ca A x Z h ra (by omega) t);have a9:=ac (fun Z h h' e=>Ct I J ao bo ca cb A B x y l Z h h' ra rb bx bb e);have L:=ac (fun Z u v (h1:gr (af I A) x l=0) (h2:gr (af J B) y l=0) (iu:aA 0 Z u (up (af I A) x l)) (O:aA 0 Z v (up (af J B) y l))=>Jp iu O (nJ h1) (nJ h2));rw[<-uH ba]at L;have ap:=ac (fun(aa:z.natAbs<eE) e' Z u B' (he:e'=l) (iu:aA B' Z u z) (t:cX Z)=>show GF 206 #[u,C0 e'] Z fun r bn=>∃v,r=.returned (.tuple #[v,C0 (dU z l)])/\aH bn v (dM z l) (dX z l)/\H8 Z bn by
  subst he;refine kH _ iu aa ?_ t;have:-16384<=e'/\e'<=16384:=by
   rw[<-hl];unfold cE
   split
   ·omega
   ·split<;>omega
  omega)
 have aI:=ac (fun h:z.natAbs<eE=>And.intro (iq z h) (ir z h));have a0:=ac (fun h:¬z.natAbs<eE=>(show cn z=2 by unfold cn;rw[if_neg h]));clear hl hz ta tb ra rb zx zy ba;obtain⟨bz,bE⟩:=bx;obtain⟨bG,bI⟩:=bb;generalize vZ (af I A) x (af J B) y=er at*;generalize v4 (af I A) x (af J B) y=am at*;generalize wg (af I A) x (af J B) y=ax at*;generalize gr (af I A) x l=ea at*;generalize gr (af J B) y l=eb at*;generalize up (af I A) x l=za at*;generalize up (af J B) y l=zb at*;have bq:H8 w (((w.alloc (.cells #[.bool I,.slice ao A.length ca,C0 x] 35)).alloc (.cells #[.bool J,.slice bo B.length cb,C0 y] 35)).alloc (.cells #[.bool false,.slice none 0 0,C0 0] 35)):=
  (((Below.refl _ _).alloc (Nat.le_refl _) _).alloc (by simp) _).alloc (by simp;omega) _
 have U:ar (((w.alloc (.cells #[.bool I,.slice ao A.length ca,C0 x] 35)).alloc (.cells #[.bool J,.slice bo B.length cb,C0 y] 35)).alloc (.cells #[.bool false,.slice none 0 0,C0 0] 35)) w.heap.size (.bool I) (.slice ao A.length ca) (C0 x):=((ar.new _ _ _ _).old _).old _;have M:ar (((w.alloc (.cells #[.bool I,.slice ao A.length ca,C0 x] 35)).alloc (.cells #[.bool J,.slice bo B.length cb,C0 y] 35)).alloc (.cells #[.bool false,.slice none 0 0,C0 0] 35)) (w.heap.size+1) (.bool J) (.slice bo B.length cb) (C0 y):=by
  have:=(ar.new (w.alloc (.cells #[.bool I,.slice ao A.length ca,C0 x] 35)) (.bool J) (.slice bo B.length cb) (C0 y)).old (.cells #[.bool false,.slice none 0 0,C0 0] 35)
  simpa using this
 have F:ar (((w.alloc (.cells #[.bool I,.slice ao A.length ca,C0 x] 35)).alloc (.cells #[.bool J,.slice bo B.length cb,C0 y] 35)).alloc (.cells #[.bool false,.slice none 0 0,C0 0] 35)) (w.heap.size+1+1) (.bool false) (.slice none 0 0) (C0 0):=by
  have:=ar.new ((w.alloc (.cells #[.bool I,.slice ao A.length ca,C0 x] 35)).alloc (.cells #[.bool J,.slice bo B.length cb,C0 y] 35)) (.bool false) (.slice none 0 0) (C0 0)
  simpa using this
 have B0:=ac bq;have X0:=ac U;have X1:=ac M;have X2:=ac F;clear bq U M F
 go_enter Tryz.func289,Tryz.ntmps289
 go_wp2_with fail;refine(e9 I ao ca A.length _).mono ?_
 by_cases h0:A.length=0
 ·rw[decide_eq_true h0]
  rintro r w1 ⟨rfl,D⟩;obtain⟨rfl,rfl,rfl⟩:=uH bc h0;have M:=(uH X1).all D;have F:=(uH X2).all D;have b1:=(uH B0).trans (D.mono (uH B0).size);have q0:=M.c0;have q1:=M.c1;have q2:=M.c2;have G:=ac F;have H:=ac b1;clear h0 bc bd HL HW be a9 L ap aI a0 D M F b1 X0 X1 X2 B0;go_wp2_with fail;refine(uH bp _ (hB.below (uH H)) (hT.all (uH H))).mono ?_;rintro r w2 ⟨v,rfl,O,D⟩;obtain⟨n3,a3,c3,L3,rfl,i3⟩:=O.num;have F:=(uH G).all D;have b2:=(uH H).trans (D.mono (uH H).size);have y0:=F.c0;have y1:=F.c1;have y2:=F.c2;have f0:=F.free 0;have f1:=F.free 1;have f2:=F.free 2;have X3:=ac F;have B2:=ac b2;have IV:=ac O;clear F b2 D O i3
  go_wp2
  refine bodyPost_ret (v:=.tuple #[.agg #[.bool n3,.slice a3 L3.length c3,C0 (dX (af J B) y)],C0 (dU (af J B) y)]) (by simp[results,Tryz.results289,go_sem,y0,y1,y2]) rfl ⟨⟨_,rfl,(uH IV).put3 (uH X3) _ _ _⟩,aJ (uH B2) (by omega) _ _ _⟩
 ·rw[decide_eq_false h0]
  rintro r w1 ⟨rfl,D⟩;have U:=(uH X0).all D;have M:=(uH X1).all D;have F:=(uH X2).all D;have b1:=(uH B0).trans (D.mono (uH B0).size);have q0:=M.c0;have q1:=M.c1;have q2:=M.c2;have N:=ac U;have Q:=ac M;have G:=ac F;have H:=ac b1;have a5:=ac (uH bd h0);have bi:=ac (uH HL h0);clear h0 bc bd HL bp D U M F b1 X0 X1 X2 B0;go_wp2_with fail;refine(e9 J bo cb B.length _).mono ?_
  by_cases h0:B.length=0
  ·rw[decide_eq_true h0]
   rintro r w2 ⟨rfl,D⟩;obtain⟨rfl,rfl,rfl⟩:=uH a5 h0;have U:=(uH N).all D;have F:=(uH G).all D;have b1:=(uH H).trans (D.mono (uH H).size);clear q0 q1 q2 N Q G H;have q0:=U.c0;have q1:=U.c1;have q2:=U.c2;have G:=ac F;have H:=ac b1;clear h0 a5 bi HW a9 L ap aI a0 D U F b1;go_wp2_with fail;refine(uH be _ (hA.below (uH H)) (hT.all (uH H))).mono ?_;rintro r w4 ⟨v,rfl,O,D⟩;obtain⟨n3,a3,c3,L3,rfl,i3⟩:=O.num;have F:=(uH G).all D;have b2:=(uH H).trans (D.mono (uH H).size);have y0:=F.c0;have y1:=F.c1;have y2:=F.c2;have f0:=F.free 0;have f1:=F.free 1;have f2:=F.free 2;have X3:=ac F;have B2:=ac b2;have IV:=ac O;clear F b2 D O i3
   go_wp2
   refine bodyPost_ret (v:=.tuple #[.agg #[.bool n3,.slice a3 L3.length c3,C0 (dX (af I A) x)],C0 (dU (af I A) x)]) (by simp[results,Tryz.results289,go_sem,y0,y1,y2]) rfl ⟨⟨_,rfl,(uH IV).put3 (uH X3) _ _ _⟩,aJ (uH B2) (by omega) _ _ _⟩
  ·rw[decide_eq_false h0]
   rintro r w2 ⟨rfl,D⟩;have U:=(uH N).all D;have M:=(uH Q).all D;have F:=(uH G).all D;have b1:=(uH H).trans (D.mono (uH H).size);have br:=uH bi h0;clear q0 q1 q2 N Q G H;have p0:=U.c0;have p1:=U.c1;have p2:=U.c2;have q0:=M.c0;have q1:=M.c1;have q2:=M.c2;have N:=ac U;have Q:=ac M;have G:=ac F;have H:=ac b1;have bs:=ac br;clear h0 a5 bi be D U M F b1 br;go_wp2_with fail;refine(uH a9 _ (hA.below (uH H)) (hB.below (uH H)) (uH bs)).mono ?_;rintro r w3 ⟨⟨n1,a1,l1,c1,n2,a2,l2,c2,ae,rfl,g1,g2⟩,D⟩;have U:=(uH N).all D;have M:=(uH Q).all D;have F:=(uH G).all D;have b1:=(uH H).trans (D.mono (uH H).size);have G1:=ac g1;have G2:=ac g2;clear p0 p1 p2 q0 q1 q2 N Q G H a9 D g1 g2
   --the two boxes of what align answered
   have bA:H8 w3 ((w3.alloc (.cells #[.bool n1,.slice a1 l1 c1] 33)).alloc (.cells #[.bool n2,.slice a2 l2 c2] 33)):=((Below.refl _ _).alloc (Nat.le_refl _) _).alloc (by simp) _;have N:=ac (U.all bA);have Q:=ac (M.all bA);have G:=ac (F.all bA);have H:=ac (b1.trans (bA.mono b1.size));have BA:=ac bA;clear U M F b1 bA;rcases uH HW with⟨e1,e2,aa,rfl,rfl,rfl⟩|⟨e1,e2,aa,rfl,rfl,rfl⟩|⟨bw,rfl,rfl,rfl⟩
   ·obtain⟨rfl,iu,O⟩:=uH G1 e1 e2
    obtain⟨a7,bv⟩:=uH aI aa;have K:=ac (fun Z u v iu O=>uH L Z u v e1 e2 iu O);rw[a7,bv]at K;have bt:=ac (uH ap aa);have IU:=ac (iu.below (uH BA));have a6:=ac (O.below (uH BA));clear HW L ap aI a0 G1 G2 e1 e2 aa a7 bv iu O;go_wp2_with fail;refine(uH K _ _ _ (uH IU) (uH a6)).mono ?_;rintro r w5 ⟨u,rfl,⟨n4,a4,c4,L4,rfl,i4⟩,D⟩;have U:=((uH N).all D).old (.cells #[.bool n4,.slice a4 L4.length c4] 33);have M:=((uH Q).all D).old (.cells #[.bool n4,.slice a4 L4.length c4] 33);have F:=((uH G).all D).old (.cells #[.bool n4,.slice a4 L4.length c4] 33);have b1:=((uH H).trans (D.mono (uH H).size)).alloc ((uH H).trans (D.mono (uH H).size)).size (.cells #[.bool n4,.slice a4 L4.length c4] 33);have iz:aA 0 (w5.alloc (.cells #[.bool n4,.slice a4 L4.length c4] 33)) (.agg #[.bool n4,.slice a4 L4.length c4]) z:=aA.mono (aA.below ⟨n4,a4,c4,L4,rfl,i4⟩ ((Below.refl _ _).alloc (Nat.le_refl _) _)) (Nat.zero_le _);clear N Q G H D i4 K IU a6 BA;have p2:=U.c2;have q2:=M.c2;have G:=ac F;have H:=ac b1;have IZ:=ac iz;clear U M F b1 iz;rcases(show x<y\/x=y\/y<x by omega)with bm|bm|bm
    all_goals
     first|subst bm|skip
     go_wp2_with fail;refine(uH bt _ _ _ _ (by have:=uH bs;omega) (uH IZ) (hT.all (uH H))).mono ?_;rintro r w4 ⟨v,rfl,O,D⟩;obtain⟨n3,a3,c3,L3,rfl,i3⟩:=O.num;have F:=(uH G).all D;have b2:=(uH H).trans (D.mono (uH H).size);have y0:=F.c0;have y1:=F.c1;have y2:=F.c2;have f0:=F.free 0;have f1:=F.free 1;have f2:=F.free 2;have X3:=ac F;have B2:=ac b2;have IV:=ac O;clear F b2 D O i3
     go_wp2
     refine bodyPost_ret (v:=.tuple #[.agg #[.bool n3,.slice a3 L3.length c3,C0 (dX z l)],C0 (dU z l)]) (by simp[results,Tryz.results289,go_sem,y0,y1,y2]) rfl ⟨⟨_,rfl,(uH IV).put3 (uH X3) _ _ _⟩,aJ (uH B2) (by omega) _ _ _⟩
   ·obtain⟨rfl,iu,O⟩:=uH G1 e1 e2
    have a7:=uH a0 aa;have K:=ac (fun Z u v iu O=>uH L Z u v e1 e2 iu O);rw[a7]at K;have IU:=ac (iu.below (uH BA));have a6:=ac (O.below (uH BA));clear HW L ap aI a0 G1 G2 e1 e2 aa a7 iu O;go_wp2_with fail;refine(uH K _ _ _ (uH IU) (uH a6)).mono ?_;rintro r w5 ⟨u,rfl,⟨n4,a4,c4,L4,rfl,i4⟩,D⟩;have F:=((uH G).all D).old (.cells #[.bool n4,.slice a4 L4.length c4] 33);have b1:=((uH H).trans (D.mono (uH H).size)).alloc ((uH H).trans (D.mono (uH H).size)).size (.cells #[.bool n4,.slice a4 L4.length c4] 33);have y0:=F.c0;have y1:=F.c1;have y2:=F.c2;have f0:=F.free 0;have f1:=F.free 1;have f2:=F.free 2;have B2:=ac b1;clear N Q G H D i4 K IU a6 BA F b1
    go_wp2
    refine bodyPost_ret (v:=.tuple #[.agg #[.bool false,.slice none 0 0,C0 0],C0 (2)]) (by simp[results,Tryz.results289,go_sem,y0,y1,y2]) rfl ⟨⟨_,rfl,aH.zero _ _ _⟩,aJ (uH B2) (by omega) _ _ _⟩
   ·have ha:=uH G2 bw
    subst ha;have F:=uH G;have y0:=F.c0;have y1:=F.c1;have y2:=F.c2;have f0:=F.free 0;have f1:=F.free 1;have f2:=F.free 2;have B2:=H;clear HW L ap aI a0 G1 G2 bw F N Q G BA H
    go_wp2
    refine bodyPost_ret (v:=.tuple #[.agg #[.bool false,.slice none 0 0,C0 0],C0 (2)]) (by simp[results,Tryz.results289,go_sem,y0,y1,y2]) rfl ⟨⟨_,rfl,aH.zero _ _ _⟩,aJ (uH B2) (by omega) _ _ _⟩
theorem cS{neg:Bool}{L:H3}{e:Int}(h:np neg L e=true):aD neg L=true/\L.length<=512/\-16384<=e/\e<=16384/\(L.length=0->e=0):=by
 unfold np at h;rw[Bool.and_eq_true]at h;obtain⟨D,l⟩:=h;refine⟨D,(aG D).1,?_⟩
 by_cases t:L.length=0
 ·rw[if_pos t]at l
  have:=of_decide_eq_true l;omega
 ·rw[if_neg t,Bool.and_eq_true]at l
  have:=of_decide_eq_true l.2;omega
end Go.Proofs.YtcbcmlaogehimaaGreatDoor
