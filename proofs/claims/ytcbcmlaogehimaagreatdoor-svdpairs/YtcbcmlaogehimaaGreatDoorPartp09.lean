/- Part 9 of the texts. -/
import Derived.Test.YtcbcmlaogehimaaGreatDoorPartp08
set_option maxHeartbeats 4000000
set_option maxRecDepth 20000
namespace Go.Proofs.YtcbcmlaogehimaaGreatDoor
open Go.RowKit
theorem a8(x:Int)(h:-9000000000000000000≤x∧x≤9000000000000000000):IntKind.i64.wrap x=x:=by
 simp only[IntKind.wrap,IntKind.signed,IntKind.bits]
 simp
 omega
theorem Ce(L:List Nat):aj L%2=L[0]?.getD 0%2:=by
 cases L with
 |nil=>rfl
 |cons x r=>simp[aj];omega
theorem Gf(neg:Bool)(F:Option Addr)(u:Nat)(L:List Nat)(w:World)(h:ag w F u L):
  Calls Tryz.prog 66 #[.agg #[.bool neg,.slice F L.length u]] w fun e I=>e=.returned (.bool (decide (aj L%2=1)))∧Below w.heap.size w I:=by
 by_cases z:L= []
 ·subst z
  go_enter Tryz.func66,Tryz.ntmps66
  go_wp2
  go_ret
  exact⟨rfl,(Below.refl _ _).alloc (Nat.le_refl _) _⟩
 obtain⟨b,Q,rfl,Y,H⟩:=h.ne (List.length_pos_iff.2 z)
 have J:0<L.length:=List.length_pos_iff.2 z
 have K:(0:Int)<(L.length:Int):=by omega
 have A:=H 0 J
 have X:=h.lt 0
 have G:=h.1
 rw[Ce]
 generalize L[0]?.getD 0=x at*
 clear H h z
 rw[Nat.add_zero]at A
 generalize U:L.length=n at*
 clear U
 by_cases d:x%2=1
 ·have O:(((x:Int)%2)==1)=true:=by rw[beq_iff_eq];omega
  have D:=ac (decide_eq_true d)
  clear d
  go_enter Tryz.func66,Tryz.ntmps66
  go_wp2
  go_ret
  exact⟨jp (uH D).symm,(Below.refl _ _).alloc (Nat.le_refl _) _⟩
 ·have O:(((x:Int)%2)==1)=false:=by rw[beq_eq_false_iff_ne];omega
  have D:=ac (decide_eq_false d)
  clear d
  go_enter Tryz.func66,Tryz.ntmps66
  go_wp2
  go_ret
  exact⟨jp (uH D).symm,(Below.refl _ _).alloc (Nat.le_refl _) _⟩
theorem lf(neg:Bool)(z:Option Addr)(d:Nat)(L:List Nat)(e:Int)(w:World)(h:ag w z d L)(U:L.length≤35184372088830):
  Calls Tryz.prog 169 #[.agg #[.bool neg,.slice z L.length d,.int .i64 e]] w fun r u=>r=.returned (.int .i64 (IntKind.i64.wrap (dU L+e)))∧Below w.heap.size w u:=by
 have Y:=ac (fun u X=>rA neg z d L u X U)
 generalize dU L=n at*
 have F:Below w.heap.size w (w.alloc (.cells #[.bool neg,.slice z L.length d,.int .i64 e] 35)):=(Below.refl _ _).alloc (Nat.le_refl _) _
 have D:=al.new w (.bool neg) (.slice z L.length d) (.int .i64 e)
 have I:=ac D;have J:=ac F
 clear D F
 go_enter Tryz.func169,Tryz.ntmps169
 go_wp2
 refine ap (fun W=>Below w.heap.size w W∧al W w.heap.size (.bool neg) (.slice z L.length d) (.int .i64 e)) ⟨uH J,uH I⟩ ?_
 rintro A ⟨H,D⟩
 have K:∀u,Below A.heap.size A u→Below A.heap.size A u∧u.cell? ⟨w.heap.size,0,none⟩=some (.bool neg)∧u.cell? ⟨w.heap.size,1,none⟩=some (.slice z L.length d)∧u.cell? ⟨w.heap.size,2,none⟩=some (.int .i64 e):=fun u h=>
  ⟨h,(D.all h).c0,(D.all h).c1,(D.all h).c2⟩
 have O:=ac K
 have Z:=ac (h.below H);have Q:=ac H
 clear K D H h I J
 go_region_held3(fun u=>Below A.heap.size A u∧u.cell? ⟨w.heap.size,0,none⟩=some (.bool neg)∧u.cell? ⟨w.heap.size,1,none⟩=some (.slice z L.length d)∧u.cell? ⟨w.heap.size,2,none⟩=some (.int .i64 e))
  (first|exact uH O _ (Below.refl _ _).drew|exact uH O _ (by assumption))
  (first|(go_at_call 208;refine(uH Y _ ((uH Z).below (And.left (by assumption)))).mono ?_;rintro e w1 ⟨rfl,G⟩;have aa:Below A.heap.size A w1:=Below.trans (And.left (by assumption)) (G.mono (Below.size (And.left (by assumption))));clear G))
 go_wp2
 go_ret
 exact⟨rfl,(uH Q).trans (Below.mono (And.left (by assumption)) (uH Q).size)⟩
def ik(L:List Nat)(e:Int):Int:=if L.length=0 then 0 else dU L+e
theorem oT(neg:Bool)(z:Option Addr)(d:Nat)(L:List Nat)(e:Int)(w:World)(h:ag w z d L)(hl:L.length≤1073741824)(he:-100000≤e∧e≤100000):
  Calls Tryz.prog 69 #[.agg #[.bool neg,.slice z L.length d,.int .i64 e]] w fun r u=>r=.returned (.int .i64 (ik L e))∧Below w.heap.size w u:=by
 have X:=ac (fun u h'=>ww neg z d L u h' (by omega))
 have J:L.length≠0→0≤dU L∧dU L≤40000000000:=fun D=>by
  unfold dU
  rw[if_neg D]
  have:=mC (L[L.length-1]?.getD 0)
  omega
 have I:=ac (show(L.length=0→ik L e=0)∧(L.length≠0→ik L e=dU L+e) by unfold ik;constructor<;>intro h<;>simp[h])
 generalize ik L e=t at*
 generalize dU L=n at*
 have G:Below w.heap.size w (w.alloc (.cells #[.bool neg,.slice z L.length d,.int .i64 e] 35)):=(Below.refl _ _).alloc (Nat.le_refl _) _
 have F:=al.new w (.bool neg) (.slice z L.length d) (.int .i64 e)
 have Y:=ac F;have K:=ac G
 clear F G
 by_cases D:L.length=0
 ·have O:=(uH I).1 D
  subst O
  have Q:((L.length:Int)==0)=true:=by rw[beq_iff_eq];omega
  clear I J X D
  go_enter Tryz.func69,Tryz.ntmps69
  go_wp2
  go_ret
  exact⟨rfl,uH K⟩
 have O:=(uH I).2 D
 subst O
 obtain⟨ae,ah⟩:=J D
 have Q:((L.length:Int)==0)=false:=by rw[beq_eq_false_iff_ne];omega
 clear I J D
 go_enter Tryz.func69,Tryz.ntmps69
 go_wp2
 refine ap (fun W=>Below w.heap.size w W∧al W w.heap.size (.bool neg) (.slice z L.length d) (.int .i64 e)) ⟨uH K,uH Y⟩ ?_
 rintro A ⟨U,F⟩
 have Z:∀u,Below A.heap.size A u→Below A.heap.size A u∧u.cell? ⟨w.heap.size,0,none⟩=some (.bool neg)∧u.cell? ⟨w.heap.size,1,none⟩=some (.slice z L.length d)∧u.cell? ⟨w.heap.size,2,none⟩=some (.int .i64 e):=fun u h=>
  ⟨h,(F.all h).c0,(F.all h).c1,(F.all h).c2⟩
 have HK:=ac Z
 have HA:=ac (h.below U);have BB:=ac U
 clear Z F U h Y K
 go_region_held3(fun u=>Below A.heap.size A u∧u.cell? ⟨w.heap.size,0,none⟩=some (.bool neg)∧u.cell? ⟨w.heap.size,1,none⟩=some (.slice z L.length d)∧u.cell? ⟨w.heap.size,2,none⟩=some (.int .i64 e))
  (first|exact uH HK _ (Below.refl _ _).drew|exact uH HK _ (by assumption))
  (first|(go_at_call 127;refine(uH X _ ((uH HA).below (And.left (by assumption)))).mono ?_;rintro e w1 ⟨rfl,H⟩;have aa:Below A.heap.size A w1:=Below.trans (And.left (by assumption)) (H.mono (Below.size (And.left (by assumption))));clear H))
 go_wp2
 go_ret
 exact⟨aW (a8 _ (by omega)),(uH BB).trans (Below.mono (And.left (by assumption)) (uH BB).size)⟩
def wC(neg:Bool)(n:Nat):Int:=if neg then-1 else if n=0 then 0 else 1
theorem mG(neg:Bool)(F:Option Addr)(z:Nat)(n:Nat)(e:Int)(w:World):
  Calls Tryz.prog 68 #[.agg #[.bool neg,.slice F n z,.int .i64 e]] w fun r G=>r=.returned (.int .i64 (wC neg n))∧Below w.heap.size w G:=by
 have d:=ac (show wC neg n=if neg then-1 else if n=0 then 0 else 1 from rfl)
 generalize wC neg n=s at*
 have A:Below w.heap.size w (w.alloc (.cells #[.bool neg,.slice F n z,.int .i64 e] 35)):=(Below.refl _ _).alloc (Nat.le_refl _) _
 have D:=ac A
 clear A
 cases neg
 ·rcases(show n=0∨n=1∨2≤n by omega)with rfl|rfl|h
  ·have u:s=0:=by rw[uH d];rfl
   subst u
   clear d
   go_enter Tryz.func68,Tryz.ntmps68
   go_wp2
   go_ret
   exact⟨rfl,uH D⟩
  ·have u:s=1:=by rw[uH d];rfl
   subst u
   clear d
   go_enter Tryz.func68,Tryz.ntmps68
   go_wp2
   go_ret
   exact⟨rfl,uH D⟩
  ·have u:s=1:=by rw[uH d,if_neg (by decide),if_neg (by omega)]
   subst u
   have H:(1:Int)<(n:Int):=by omega
   clear d
   go_enter Tryz.func68,Tryz.ntmps68
   go_wp2
   go_ret
   exact⟨rfl,uH D⟩
 ·have u:s= -1:=by rw[uH d];rfl
  subst u
  clear d
  go_enter Tryz.func68,Tryz.ntmps68
  go_wp2
  go_ret
  exact⟨rfl,uH D⟩
attribute [local go_sem ↓] Go.wp_at_zero Go.wp_at_succ
theorem iB(x k:Int):IntKind.i64.wrap (IntKind.i64.wrap x+k)=IntKind.i64.wrap (x+k):=by
 simp only[IntKind.wrap,IntKind.signed,IntKind.bits]
 simp
 split<;>split<;>split<;>omega
theorem eG(x:Int):wrap64 x=IntKind.i64.wrap x:=by
 simp only[IntKind.wrap,IntKind.signed,IntKind.bits,wrap64]
 simp
 split<;>omega
theorem ef(x:Int)(h:-9223372036854775808≤x∧x≤9223372036854775807):IntKind.i64.wrap x=x:=by
 simp only[IntKind.wrap,IntKind.signed,IntKind.bits]
 simp
 omega
theorem eH(x e:Int)(j:Nat)(d:j<18446744073709551616)(h:x=IntKind.i64.wrap (e+j)):((x-e)%18446744073709551616).toNat=j:=by
 subst h
 simp only[IntKind.wrap,IntKind.signed,IntKind.bits]
 simp
 split<;>omega
theorem Jx(x:Int):sg (decide (x<0)) x.natAbs=x:=by
 unfold sg
 by_cases h:x<0
 ·rw[decide_eq_true h];simp;omega
 ·rw[decide_eq_false h];simp;omega
def zQ(w wr:World)(z:Int)(j:Nat)(nn:Bool)(a:Option Addr)(c:Nat)(L:List Nat):Prop:=
 aB wr w.heap.size (.bool nn) (.slice a L.length c)∧al wr (w.heap.size+1) (.bool false) (.slice none 0 0) (.int .i64 0)∧ag wr a c L∧bT L∧L≠ []∧L.length≤30000∧sg nn (aj L)*2^j=z∧Below w.heap.size w wr
theorem zQ.step{w h:World}{z x:Int}{G K A:Bool}{L D:Option Addr}{O Q F v M B j:Nat}{d:List Nat}
  (H:aB h w.heap.size (.bool K) (.slice L O Q)) (U:al h (w.heap.size+1) (.bool false) (.slice none 0 0) (.int .i64 0))
  (i:ag h D F d∧bI B D d∧bT d∧A=decide (x<0)∧aj d=x.natAbs∧d.length≤M) (I:x=sg G v) (hv:v≠0) (X:sg G v*2^j=z) (hl:M≤30000) (u:Below w.heap.size w h):
  zQ w ((h.setCell ⟨w.heap.size,0,none⟩ (.bool A)).setCell ⟨w.heap.size,1,none⟩ (.slice D d.length F)) z j A D F d:=by
 obtain⟨Z,i2,i3,i4,J,i6⟩:=i
 have Y:sg A (aj d)=x:=by rw[i4,J,Jx]
 refine⟨H.put _ _,(U.other (by simp) _).other (by simp) _,Z.box H _ _,i3,?_,by omega,?_,(u.setCell (by simp) _).setCell (by simp) _⟩
 ·rintro rfl
  simp[aj]at J
  have:x.natAbs=v:=by rw[I,jR]
  omega
 ·rw[Y,I];exact X
theorem zQ.tzs{w wr:World}{z:Int}{j:Nat}{d:Bool}{a:Option Addr}{c:Nat}{L:List Nat}(h:zQ w wr z j d a c L):aj L≠0∧tz z.natAbs=j+tz (aj L):=by
 obtain⟨G,H,I,A,D,J,F,K⟩:=h
 have u:aj L≠0:=fun e=>D ((aT L A).1 e)
 refine⟨u,?_⟩
 rw[←BI (aj L) j (by omega),←F,Int.natAbs_mul,jR,Int.natAbs_pow,Nat.mul_comm]
 rfl
theorem zQ.last{w wr:World}{z:Int}{j:Nat}{d:Bool}{a:Option Addr}{c:Nat}{L:List Nat}(h:zQ w wr z j d a c L)(J:aj L%2=1):au 0 wr (.agg #[.bool d,.slice a L.length c]) (oM z)∧j=tz z.natAbs:=by
 obtain⟨K,O,u,D,F,Q,G,U⟩:=h
 have A:iq z (sg d (aj L)) j:=⟨G.symm,by unfold sg;cases d<;>simp<;>omega⟩
 obtain⟨X,H,I⟩:=A.eq
 rw[←H,←dN]
 exact⟨au.mk u (bI.zero u) D F (by omega),I⟩
theorem zR(L:List Nat)(d:bm L):aj L%4294967296=L[0]?.getD 0:=by
 cases L with
 |nil=>rfl
 |cons x r=>
  have:=d x (by simp)
  simp[aj]
  omega
theorem zQ.down{w wr:World}{z:Int}{j:Nat}{d:Bool}{a:Option Addr}{c:Nat}{L:List Nat}(h:zQ w wr z j d a c L)(k:Nat)(H:aj L%2^k=0):aj L/2^k≠0∧sg d (aj L/2^k)*2^(j+k)=z∧j+k≤tz z.natAbs:=by
 obtain⟨D,F⟩:=h.tzs
 obtain⟨I,J,K,O,Q,U,G,X⟩:=h
 have u:aj L=2^k*(aj L/2^k):=by have:=Nat.div_add_mod (aj L) (2^k);omega
 have A:aj L/2^k≠0:=fun e=>D (by rw[u,e];simp)
 refine⟨A,?_,?_⟩
 ·rw[←G]
  conv=>rhs;rw[u]
  generalize aj L/2^k=q
  have e:sg d (2^k*q)=sg d q*2^k:=by
   unfold sg
   cases d
   ·simp only[Bool.false_eq_true,if_false];push_cast;rw[Int.mul_comm]
   ·simp only[if_true];push_cast;rw[Int.neg_mul,Int.mul_comm]
  rw[e,Nat.add_comm,Int.pow_add,Int.mul_assoc]
 ·rw[F]
  have e:tz (aj L)=k+tz (aj L/2^k):=by
   conv=>lhs;rw[u]
   exact BI _ _ (Nat.pos_of_ne_zero A)
  omega
theorem Cf(na:Bool)(ao:Option Addr)(ca:Nat)(A:List Nat)(e:Int)(w:World)(hA:ag w ao ca A)(h0:A≠ [])(hc:bT A)(la:A.length≤20000)(be:-9223372036854775808≤e∧e≤9223372036854775807):
  Calls Tryz.prog 27 #[.agg #[.bool na,.slice ao A.length ca],.int .i64 e] w fun r w'=>∃v,r=.returned v∧aC w' v (oM (af na A)) (IntKind.i64.wrap (e+tz (af na A).natAbs))∧Below w.heap.size w w':=by
 obtain⟨i0,hi,bb,bd,bg⟩:=info_parts Tryz.info84
 have HZ:=ac (dN na A).symm
 have hT:tz (af na A).natAbs<18446744073709551616:=by
  rw[aQ]
  have hv:aj A≠0:=fun e=>h0 ((aT A hc).1 e)
  have h1:=eO A hA.2.1
  rw[show(4294967296:Nat)=2^32 by decide,←Nat.pow_mul]at h1
  have:=kf (aj A) _ (by omega) h1
  omega
 generalize af na A=z at*
 obtain⟨T,ax⟩:∃T,T=tz z.natAbs:=⟨_,rfl⟩
 have ah:=ac ax
 rw[←ax]at hT⊢
 have HM:=ac (show oM z=oM z from rfl)
 have am:=ac h0;have HC:=ac hc
 clear h0 hc ax
 have hp:0<A.length:=List.length_pos_iff.2 (uH am)
 have an:((A.length:Int)==0)=false:=by rw[beq_eq_false_iff_ne];omega
 go_enter Tryz.func27,Tryz.ntmps27
 go_wp2
 clear HM
 go_loopw[1] (fun i wr=>∃(x:Int) (j:Nat) (Q:Bool) (a:Option Addr) (c:Nat) (L:List Nat),i=.int .i64 x∧j≤T∧Hid (x=IntKind.i64.wrap (e+j))∧Hid (zQ w wr z j Q a c L)) (fun i _=>T-((intOf i-e)%18446744073709551616).toNat)
 case atStart=>
  refine⟨e,0,na,ao,ca,A,rfl,Nat.zero_le _,?_,(aB.new _ _ _).old _,?_,hA.below (((Below.refl _ _).alloc (Nat.le_refl _) _).alloc (by simp) _),uH HC,uH am,by omega,by rw[uH HZ];simp,((Below.refl _ _).alloc (Nat.le_refl _) _).alloc (by simp) _⟩
  ·unfold Hid;rw[ef _ (by omega)];omega
  ·have:=al.new (w.alloc (.cells #[.bool na,.slice ao A.length ca] 33)) (.bool false) (.slice none 0 0) (.int .i64 0)
   simpa using this
 case round=>
  obtain⟨x,j,Q,a,c,L,rfl,hj,hx,hI⟩:=hrel
  clear HZ HC am hA la hp an
  obtain⟨J,K,hL,hC,hS,G,hz,H⟩:=uH hI
  have hp:0<L.length:=List.length_pos_iff.2 hS
  have an:(0:Int)<(L.length:Int):=by omega
  have p0:=J.c0;have p1:=J.c1
  have aI:=hL.1
  obtain⟨b,a1,rfl,hb,az⟩:=hL.ne hp
  have ar:=az 0 hp
  rw[Nat.add_zero]at ar
  have O:=zR L hL.2.1
  have a3:=hL.lt 0
  by_cases hg:L[0]?.getD 0=0
  ·rw[hg]at ar O
   obtain⟨d1,d2,d3⟩:=(uH hI).down 32 O
   rw[←uH ah]at d3
   have aa:=ac d1;have ae:=ac d2
   have h:=ac H;have X:=ac J;have U:=ac K;have D:=ac G;have I:=ac (hL.below ((Below.refl _ _).drew))
   clear hz J K hL hC hS H hI G az O hg d1 d2 a3
   go_wp2
   have a7:(1:Int)≤(L.length:Int):=by omega
   have a9:(L.length:Int)≤(c:Int):=by omega
   have ba:(1:Int)≤(c:Int):=by omega
   by_cases a4:c=1
   ·subst a4
    go_region_with (go_at_call 65;refine(oO Q b a1 L _ (uH I)).mono ?_;rintro e w2 ⟨v,rfl,⟨n2,a2,c2,L2,rfl,i1⟩,d⟩;have I1:=ac i1;have F:=(uH X).drew.below d (uH X).drew.lt;have Z1:=(uH U).drew.below d (uH U).drew.lt;have r0:=F.c0;have r1:=F.c1;have f0:=F.free 0;have f1:=F.free 1;have B2:=ac (((uH h).drew).trans (d.mono ((uH h).drew).size));have Y:=ac F;have Z:=ac Z1;clear i1 d F Z1)
    all_goals
     go_wp2
     go_roundw
     case rel=>exact⟨_,j+32,n2,a2,c2,L2,rfl,d3,ac (by rw[eG,uH hx,iB];congr 1;omega),zQ.step (v:=aj L/4294967296) (uH Y) (uH Z) (uH I1) rfl (uH aa) (uH ae) (by have:=uH D;omega) (uH B2)⟩
     case measure=>rw[eG,uH hx,iB];simp only[intOf];rw[eH _ e j (by omega) rfl,eH _ e (j+32) (by omega) (by congr 1;omega)];omega
   ·have a6:¬(c:Int)=1:=by omega
    go_region_with (go_at_call 65;refine(qK Q b a1 c L _ (uH I) (by have:=uH D;omega)).mono ?_;rintro e w2 ⟨v,rfl,⟨n2,a2,c2,L2,rfl,i1⟩,d⟩;have I1:=ac i1;have F:=(uH X).drew.below d (uH X).drew.lt;have Z1:=(uH U).drew.below d (uH U).drew.lt;have r0:=F.c0;have r1:=F.c1;have f0:=F.free 0;have f1:=F.free 1;have B2:=ac (((uH h).drew).trans (d.mono ((uH h).drew).size));have Y:=ac F;have Z:=ac Z1;clear i1 d F Z1)
    all_goals
     go_wp2
     go_roundw
     case rel=>exact⟨_,j+32,n2,a2,c2,L2,rfl,d3,ac (by rw[eG,uH hx,iB];congr 1;omega),zQ.step (v:=aj L/4294967296) (uH Y) (uH Z) (uH I1) rfl (uH aa) (uH ae) (by have:=uH D;omega) (uH B2)⟩
     case measure=>rw[eG,uH hx,iB];simp only[intOf];rw[eH _ e j (by omega) rfl,eH _ e (j+32) (by omega) (by congr 1;omega)];omega
  ·have a5:(((L[0]?.getD 0:Nat):Int)==0)=false:=by rw[beq_eq_false_iff_ne];omega
   generalize L[0]?.getD 0=y at*
   have HI:=hI
   clear hI J K hL hC hS G hz H az O hg
   go_wp2
   go_loopw[1] (fun i wr=>∃(x:Int) (j:Nat) (Q:Bool) (a:Option Addr) (c:Nat) (L:List Nat),i=.int .i64 x∧j≤T∧Hid (x=IntKind.i64.wrap (e+j))∧Hid (zQ w wr z j Q a c L)) (fun i _=>T-((intOf i-e)%18446744073709551616).toNat)
   case atStart=>exact⟨x,j,Q,_,c,L,rfl,hj,hx,HI⟩
   case round=>
    clear HI p0 p1 an hp a5 ar hj hx hb aI
    obtain⟨x,j,Q,a,c,L,rfl,hj,hx,hI⟩:=hrel
    obtain⟨J,K,hL,hC,hS,G,hz,H⟩:=uH hI
    have p0:=J.c0;have p1:=J.c1
    have X:=ac J;have U:=ac K;have h:=ac H;have D:=ac G;have I:=ac hL
    clear J K hL hC hS G hz H
    go_wp2_with fail
    refine(Gf Q a c L wr (uH I)).mono ?_
    by_cases ho:aj L%2=1
    ·rw[decide_eq_true ho]
     rintro r w3 ⟨rfl,u⟩
     obtain⟨l1,l2⟩:=(uH hI).last ho
     have L1:=ac (l1.below u);have L2:=ac l2
     have J:=(uH X).all u;have K:=(uH U).all u
     have b1:=(uH h).trans (u.mono (uH h).size)
     clear hI l1 l2 u ho p0 p1 X U h I
     have p0:=J.c0;have p1:=J.c1
     have y0:=K.c0;have y1:=K.c1;have y2:=K.c2;have f0:=K.free 0;have f1:=K.free 1;have f2:=K.free 2
     have U:=ac K;have B1:=ac b1
     clear J K b1
     go_wp2
     have e1:IntKind.i64.wrap (e+(T:Int))=x:=by rw[uH hx,uH ah,←uH L2]
     rw[e1]
     have j2:aC w3 (.agg #[.bool Q,.slice a L.length c,.int .i64 x]) (oM z) x:=⟨Q,a,c,L,rfl,uH L1⟩
     refine bodyPost_ret (v:=.agg #[.bool Q,.slice a L.length c,.int .i64 x]) (by simp[results,Tryz.results27,go_sem,y0,y1,y2]) rfl ⟨_,rfl,j2.put3 (uH U) _ _ _,aD (uH B1) (by omega) _ _ _⟩
    ·rw[decide_eq_false ho]
     rintro r w3 ⟨rfl,u⟩
     obtain⟨d1,d2,d3⟩:=(uH hI).down 1 (by simp;omega)
     rw[←uH ah]at d3
     rw[Nat.pow_one]at d1 d2
     have aa:=ac d1;have ae:=ac d2
     have J:=(uH X).all u;have K:=(uH U).all u
     have b1:=(uH h).trans (u.mono (uH h).size)
     have a0:=(uH I).below u
     clear hI d1 d2 u ho p0 p1 X U h I
     have p0:=J.c0;have p1:=J.c1
     have X:=ac J;have U:=ac K;have B1:=ac b1;have I:=ac a0
     clear J K b1 a0
     go_wp2_with fail
     refine(tQ Q a c L w3 (uH I) (by have:=uH D;omega)).mono ?_
     rintro r w2 ⟨v,rfl,⟨n2,a2,c2,L2,rfl,i1⟩,d⟩
     have I1:=ac i1
     have F:=(uH X).all d
     have Z1:=(uH U).all d
     have r0:=F.c0;have r1:=F.c1;have f0:=F.free 0;have f1:=F.free 1
     have B2:=ac ((uH B1).trans (d.mono (uH B1).size))
     have Y:=ac F;have Z:=ac Z1
     clear i1 d F Z1
     go_wp2
     go_roundw
     case rel=>exact⟨_,j+1,n2,a2,c2,L2,rfl,d3,ac (by rw[eG,uH hx,iB];congr 1;omega),zQ.step (v:=aj L/2) (uH Y) (uH Z) (uH I1) rfl (uH aa) (uH ae) (by have:=uH D;omega) (uH B2)⟩
     case measure=>rw[eG,uH hx,iB];simp only[intOf];rw[eH _ e j (by omega) rfl,eH _ e (j+1) (by omega) (by congr 1;omega)];omega
theorem Cg(h:Bool)(u:Option Addr)(z:Nat)(e:Int)(w:World):
  Calls Tryz.prog 27 #[.agg #[.bool h,.slice u 0 z],.int .i64 e] w fun r d=>∃v,r=.returned v∧aC d v 0 0∧Below w.heap.size w d:=by
 go_enter Tryz.func27,Tryz.ntmps27
 go_wp2
 refine bodyPost_ret (v:=.agg #[.bool false,.slice none 0 0,.int .i64 0]) (by simp[results,Tryz.results27,go_sem]) rfl ⟨_,rfl,aC.zero _ _ _,?_⟩
 exact((Below.refl w.heap.size w).alloc (Nat.le_refl _) _).alloc (by simp) _
theorem rE{M B:Nat}{w:World}{v:Value}{z:Int}(e:Int)(K:aJ M B w v z)(Y:M≤20000)(L:-9223372036854775808≤e∧e≤9223372036854775807):
  Calls Tryz.prog 27 #[v,.int .i64 e] w fun r D=>∃u,r=.returned u∧aC D u (oM z) (if z=0 then 0 else IntKind.i64.wrap (e+tz z.natAbs))∧Below w.heap.size w D:=by
 obtain⟨F,G,H,A,rfl,U,Z,I,X,J,a6⟩:=K
 have d:=kx X J
 by_cases h:A= []
 ·subst h
  rw[ip]at d
  subst d
  rw[if_pos rfl,show oM 0=0 by simp[oM]]
  exact Cg F G H e w
 ·have Q:z≠0:=fun O=>h ((aT A I).1 (by rw[J,O];rfl))
  rw[if_neg Q,←d]
  exact Cf F G H A e w U h I (by omega) L
theorem f8{M B:Nat}{w:World}{v:Value}{z:Int}(e:Int)(h:aJ M B w v z)(G:M≤20000)(I:-1000000≤e∧e≤1000000):
  Calls Tryz.prog 27 #[v,.int .i64 e] w fun r D=>∃u,r=.returned u∧aC D u (oM z) (oE z e)∧Below w.heap.size w D:=by
 have d:=rE e h G (by omega)
 have:(if z=0 then 0 else IntKind.i64.wrap (e+tz z.natAbs))=oE z e:=by
  unfold oE
  split
  ·rfl
  ·rename_i Z
   have J:tz z.natAbs<32*20000:=by
    obtain⟨K,L,O,A,rfl,H,Q,U,X,F,Y⟩:=h
    rw[←F]
    have h:aj A≠0:=by rw[F];omega
    have d:=eO A H.2.1
    rw[show(4294967296:Nat)=2^32 by decide,←Nat.pow_mul]at d
    have:=kf (aj A) _ (by omega) d
    omega
   exact a8 _ (by omega)
 rwa[this]at d
def qh(n y:Int):Bool:=if n=0 then decide (y=0)else(decide (n%2=1)&&decide (-16384≤y∧y≤16384))
theorem aC.parts{w:World}{v:Value}{m e:Int}(h:aC w v m e):
  ∃(neg:Bool) (u:Option Addr) (d:Nat) (L:List Nat),v=.agg #[.bool neg,.slice u L.length d,.int .i64 e]∧ag w u d L∧bT L∧neg=decide (m<0)∧aj L=m.natAbs∧L.length≤35184372088832:=by
 obtain⟨neg,u,d,L,rfl,K,O,Q,A,z,D,U,F,G,H,I⟩:=h
 simp only[Value.agg.injEq,Array.mk.injEq,List.cons.injEq,Value.bool.injEq,Value.slice.injEq,and_true]at z
 obtain⟨rfl,rfl,J,rfl⟩:=z
 exact⟨neg,u,d,A,by rw[J],D,F,G,H,I⟩
theorem tU(n:Int):(n.natAbs%2=1)↔(n%2=1):=by omega
theorem aC.right{w:World}{v:Value}{m e:Int}(h:aC w v m e)(U:m.natAbs<du):
  ∃(neg:Bool) (z:Option Addr) (d:Nat) (L:List Nat),v=.agg #[.bool neg,.slice z L.length d,.int .i64 e]∧ag w z d L∧aw neg L=true∧af neg L=m∧L.length≤512∧kQ neg L e=qh m e:=by
 obtain⟨neg,z,d,L,rfl,A,F,H,u,h5⟩:=h.parts
 have Y:au 0 w (.agg #[.bool neg,.slice z L.length d]) m:=⟨neg,z,d,L,rfl,A,bI.zero A,F,H,u,h5⟩
 have Z:L.length≤512:=(dC L A.2.1 F).1 (by omega)
 have G:aw neg L=true:=by
  obtain⟨I,aa,J,K,O,e2,Q,e4,e5⟩:=Y.right U
  simp only[Value.agg.injEq,Array.mk.injEq,List.cons.injEq,Value.bool.injEq,Value.slice.injEq,and_true]at O
  obtain⟨rfl,rfl,o3,rfl⟩:=O
  have:L=K:=by
   refine tD L K A.2.1 e2.2.1 F (ay Q).2.1 ?_
   rw[u,←e4,aQ]
  rw[this];exact Q
 refine⟨neg,z,d,L,rfl,A,G,kx H u,Z,?_⟩
 unfold kQ qh
 rw[G,Bool.true_and,u]
 by_cases D:L.length=0
 ·have:m=0:=by
   have:L= []:=List.length_eq_zero_iff.1 D
   rw[this]at u;simp[aj]at u;omega
  rw[if_pos D,if_pos this]
 ·have:m≠0:=fun X=>D (by
   have:L= []:=(aT L F).1 (by rw[u,X];rfl)
   rw[this];rfl)
  rw[if_neg D,if_neg this]
  congr 1
  rw[decide_eq_decide]
  exact tU m
theorem aC.num{w:World}{v:Value}{m e:Int}(h:aC w v m e):
  ∃(neg:Bool) (u:Option Addr) (d:Nat) (L:List Nat),v=.agg #[.bool neg,.slice u L.length d,.int .i64 e]∧au 0 w (.agg #[.bool neg,.slice u L.length d]) m:=h
end Go.Proofs.YtcbcmlaogehimaaGreatDoor
namespace Go.Proofs.YtcbcmlaogehimaaGreatDoor
open Go.RowKit
theorem qO(z:Int):(oM z).natAbs≤z.natAbs:=by
 by_cases h:z=0
 ·subst h;simp[oM]
 ·have d:=eR z h
  have u:z.natAbs=(oM z).natAbs*2^tz z.natAbs:=by
   conv=>lhs;rw[d.1]
   rw[Int.natAbs_mul,Int.natAbs_pow]
   rfl
  rw[u]
  exact Nat.le_mul_of_pos_right _ (Nat.pow_pos (by decide))
theorem aX:oM 0=0:=by simp[oM]
theorem bf(e:Int):oE 0 e=0:=by simp[oE]
theorem fH(z:Int)(h:z≠0):oM z≠0∧oM z%2=1:=by
 have d:=(eR z h).2
 exact⟨fun e=>by rw[e]at d;simp at d,d⟩
theorem cw(z e:Int)(h:z≠0):oE z e=e+tz z.natAbs:=by unfold oE;rw[if_neg h]
theorem Jy(z e:Int)(d:-32768≤e∧e≤32768):qh (oM z) (oE z e)=mE z e:=by
 unfold mE qh
 rw[decide_eq_true d,Bool.true_and]
 by_cases h:z=0
 ·subst h
  rw[aX,bf];simp
 ·obtain⟨u,A⟩:=fH z h
  rw[if_neg u,decide_eq_true A,cw z e h,decide_eq_false h]
  simp
theorem zS(z e:Int)(d:-32768≤e∧e≤32768):
  (qh (oM z) (oE z e)=true→cU z e=0∧dM z e=oM z∧dX z e=oE z e)∧(qh (oM z) (oE z e)=false→cU z e=2∧dM z e=0∧dX z e=0):=by
 rw[Jy z e d]
 constructor<;>intro h<;>simp[cU,dM,dX,h]
attribute [local go_sem ↓] Go.wp_at_zero Go.wp_at_succ
def up(s x l:Int):Int:=s*2^(x-l).toNat
theorem tW(d:Bool)(A:List Nat)(n:Int)(h:0≤n):qa d A n=af d A*2^n.toNat:=by
 rw[nP,dN]
 unfold oL
 rw[if_pos h]
 unfold sg
 cases d
 ·simp
 ·simp[Int.neg_mul]
def eh(s x l:Int):Int:=if(up s x l).natAbs<du∧x-l≤16384 then 0 else 2
def IM(s x l:Int):Int:=if(up s x l).natAbs<du∧x-l≤16384 then up s x l else 0
theorem lh(d:Bool)(A:List Nat)(x l:Int)(D:aw d A=true)(h:l≤x):vT d A (x-l)=eh (af d A) x l∧tP d A (x-l)=IM (af d A) x l:=by
 unfold vT tP mD eh IM
 rw[D,tW d A (x-l) (by omega)]
 change (if(true&&decide (-16384≤x-l∧x-l≤16384))=true then bJ (up (af d A) x l)else if true=true then 2 else 1)=_∧(if(true&&decide (-16384≤x-l∧x-l≤16384))=true then dP (up (af d A) x l)else 0)=_
 rw[Bool.true_and]
 by_cases z:x-l≤16384
 ·rw[if_pos (decide_eq_true (show-16384≤x-l∧x-l≤16384 by omega)),if_pos (decide_eq_true (show-16384≤x-l∧x-l≤16384 by omega))]
  unfold bJ dP
  by_cases u:(up (af d A) x l).natAbs<du
  ·rw[if_pos u,if_pos u,if_pos ⟨u,z⟩,if_pos ⟨u,z⟩];exact⟨rfl,rfl⟩
  ·rw[if_neg u,if_neg u,if_neg (fun h=>u h.1),if_neg (fun h=>u h.1)];exact⟨rfl,rfl⟩
 ·have F:decide (-16384≤x-l∧x-l≤16384)=false:=decide_eq_false (by omega)
  rw[F,if_neg (show¬((up (af d A) x l).natAbs<du∧x-l≤16384)from fun h=>z h.2),if_neg (show¬((up (af d A) x l).natAbs<du∧x-l≤16384)from fun h=>z h.2)]
  exact⟨by simp,by simp⟩
theorem tX(s x l:Int):(eh s x l=0∧IM s x l=up s x l)∨eh s x l=2:=by
 unfold eh IM
 by_cases h:(up s x l).natAbs<du∧x-l≤16384
 ·rw[if_pos h,if_pos h];exact .inl ⟨rfl,rfl⟩
 ·rw[if_neg h];exact .inr rfl
theorem au.put2{B:Nat}{w:World}{v:Value}{x:Int}(h:au B w v x){p q:Addr}(D:p.block<B)(F:q.block<B)(u A:Value):au B ((w.setCell p u).setCell q A) v x:=by
 obtain⟨n,G,d,L,rfl,H,z,I⟩:=h
 exact⟨n,G,d,L,rfl,(H.store z D u).store z F A,z,I⟩
theorem bZ{w d:World}{B b:Nat}(h:Below B w d)(z:B≤b)(u A:Value):Below B w ((d.setCell ⟨b,0,none⟩ u).setCell ⟨b,1,none⟩ A):=
 (h.setCell z _).setCell z _
theorem Jz{w:World}{b c:Nat}{z A D F:Value}(G:aB w b z A)(H:aB w c D F)(d:b≠c)(u0 u1 h u:Value):
  aB ((((((w.setCell ⟨c,0,none⟩ h).setCell ⟨c,1,none⟩ u).setCell ⟨b,0,none⟩ u0).setCell ⟨b,1,none⟩ u1).setCell ⟨c,0,none⟩ h).setCell ⟨c,1,none⟩ u) b u0 u1∧
  aB ((((((w.setCell ⟨c,0,none⟩ h).setCell ⟨c,1,none⟩ u).setCell ⟨b,0,none⟩ u0).setCell ⟨b,1,none⟩ u1).setCell ⟨c,0,none⟩ h).setCell ⟨c,1,none⟩ u) c h u:=
 ⟨((((G.other (p:=⟨c,0,none⟩) d h).other (p:=⟨c,1,none⟩) d u).put u0 u1).other (p:=⟨c,0,none⟩) d h).other (p:=⟨c,1,none⟩) d u,
  (((H.put h u).other (p:=⟨b,0,none⟩) (Ne.symm d) u0).other (p:=⟨b,1,none⟩) (Ne.symm d) u1).put h u⟩
theorem JA{w:World}{b c:Nat}{z A D F:Value}(G:aB w b z A)(H:aB w c D F)(d:b≠c)(u0 u1 h u:Value):
  aB ((((((w.setCell ⟨b,0,none⟩ u0).setCell ⟨b,1,none⟩ u1).setCell ⟨b,0,none⟩ u0).setCell ⟨b,1,none⟩ u1).setCell ⟨c,0,none⟩ h).setCell ⟨c,1,none⟩ u) b u0 u1∧
  aB ((((((w.setCell ⟨b,0,none⟩ u0).setCell ⟨b,1,none⟩ u1).setCell ⟨b,0,none⟩ u0).setCell ⟨b,1,none⟩ u1).setCell ⟨c,0,none⟩ h).setCell ⟨c,1,none⟩ u) c h u:=
 ⟨(((G.put u0 u1).put u0 u1).other (p:=⟨c,0,none⟩) d h).other (p:=⟨c,1,none⟩) d u,
  ((((H.other (p:=⟨b,0,none⟩) (Ne.symm d) u0).other (p:=⟨b,1,none⟩) (Ne.symm d) u1).other (p:=⟨b,0,none⟩) (Ne.symm d) u0).other (p:=⟨b,1,none⟩) (Ne.symm d) u1).put h u⟩
def JB(w':World)(r:Ending)(ea eb za zb:Int):Prop:=
 ∃(n1:Bool) (a1:Option Addr) (l1 c1:Nat) (n2:Bool) (a2:Option Addr) (l2 c2:Nat) (er:Int),r=.returned (.tuple #[.agg #[.bool n1,.slice a1 l1 c1],.agg #[.bool n2,.slice a2 l2 c2],.int .i64 er])∧(ea=0→eb=0→er=0∧au 0 w' (.agg #[.bool n1,.slice a1 l1 c1]) za∧au 0 w' (.agg #[.bool n2,.slice a2 l2 c2]) zb)∧(¬(ea=0∧eb=0)→er=2)
theorem zT(u d:Bool)(Q L:Option Addr)(U O:Nat)(A B:List Nat)(x y l:Int)(w:World)(hA:ag w Q U A)(hB:ag w L O B)(ra:aw u A=true)(rb:aw d B=true)(bx:-16384≤x∧x≤16384)(ax:-16384≤y∧y≤16384)(hl:l=min x y):
  Calls Tryz.prog 294 #[.agg #[.bool u,.slice Q A.length U,.int .i64 x],.agg #[.bool d,.slice L B.length O,.int .i64 y]] w fun r I=>JB I r (eh (af u A) x l) (eh (af d B) y l) (up (af u A) x l) (up (af d B) y l)∧Below w.heap.size w I:=by
 have la:=(ay ra).1
 have lb:=(ay rb).1
 have aa:l≤x:=by omega
 have ae:l≤y:=by omega
 have CA:=ac (fun n I h (e:n=x-l)=>show Calls Tryz.prog 238 #[.agg #[.bool u,.slice Q A.length U],.int .i64 n] I fun e X=>∃v,e=.returned (.tuple #[v,.int .i64 (eh (af u A) x l)])∧au I.heap.size X v (IM (af u A) x l)∧Below I.heap.size I X by
  have:=iA u Q U A n I h (by omega) (by omega)
  rwa[e,(lh u A x l ra aa).1,(lh u A x l ra aa).2,←e]at this)
 have CB:=ac (fun n I h (e:n=y-l)=>show Calls Tryz.prog 238 #[.agg #[.bool d,.slice L B.length O],.int .i64 n] I fun e X=>∃v,e=.returned (.tuple #[v,.int .i64 (eh (af d B) y l)])∧au I.heap.size X v (IM (af d B) y l)∧Below I.heap.size I X by
  have:=iA d L O B n I h (by omega) (by omega)
  rwa[e,(lh d B y l rb ae).1,(lh d B y l rb ae).2,←e]at this)
 have HA:=ac (tX (af u A) x l)
 have HB:=ac (tX (af d B) y l)
 have HL:=ac hl
 clear hl ra rb aa ae
 generalize eh (af u A) x l=ea at*
 generalize eh (af d B) y l=eb at*
 generalize IM (af u A) x l=ua at*
 generalize IM (af d B) y l=ub at*
 generalize up (af u A) x l=za at*
 generalize up (af d B) y l=zb at*
 obtain⟨a0,a3⟩:=bx
 obtain⟨a4,a5⟩:=ax
 have an:Below w.heap.size w ((((w.alloc (.cells #[.bool u,.slice Q A.length U,.int .i64 x] 35)).alloc (.cells #[.bool d,.slice L B.length O,.int .i64 y] 35)).alloc (.cells #[.bool false,.slice none 0 0] 33)).alloc (.cells #[.bool false,.slice none 0 0] 33)):=
  ((((Below.refl _ _).alloc (Nat.le_refl _) _).alloc (by simp) _).alloc (by simp;omega) _).alloc (by simp;omega) _
 have Z:al ((((w.alloc (.cells #[.bool u,.slice Q A.length U,.int .i64 x] 35)).alloc (.cells #[.bool d,.slice L B.length O,.int .i64 y] 35)).alloc (.cells #[.bool false,.slice none 0 0] 33)).alloc (.cells #[.bool false,.slice none 0 0] 33)) (w.heap.size+1) (.bool d) (.slice L B.length O) (.int .i64 y):=by
  have:=((al.new (w.alloc (.cells #[.bool u,.slice Q A.length U,.int .i64 x] 35)) (.bool d) (.slice L B.length O) (.int .i64 y)).old (.cells #[.bool false,.slice none 0 0] 33)).old (.cells #[.bool false,.slice none 0 0] 33)
  simpa using this
 have Y:aB ((((w.alloc (.cells #[.bool u,.slice Q A.length U,.int .i64 x] 35)).alloc (.cells #[.bool d,.slice L B.length O,.int .i64 y] 35)).alloc (.cells #[.bool false,.slice none 0 0] 33)).alloc (.cells #[.bool false,.slice none 0 0] 33)) (w.heap.size+1+1) (.bool false) (.slice none 0 0):=by
  have:=(aB.new ((w.alloc (.cells #[.bool u,.slice Q A.length U,.int .i64 x] 35)).alloc (.cells #[.bool d,.slice L B.length O,.int .i64 y] 35)) (.bool false) (.slice none 0 0)).old (.cells #[.bool false,.slice none 0 0] 33)
  simpa using this
 have x3:aB ((((w.alloc (.cells #[.bool u,.slice Q A.length U,.int .i64 x] 35)).alloc (.cells #[.bool d,.slice L B.length O,.int .i64 y] 35)).alloc (.cells #[.bool false,.slice none 0 0] 33)).alloc (.cells #[.bool false,.slice none 0 0] 33)) (w.heap.size+1+1+1) (.bool false) (.slice none 0 0):=by
  have:=aB.new (((w.alloc (.cells #[.bool u,.slice Q A.length U,.int .i64 x] 35)).alloc (.cells #[.bool d,.slice L B.length O,.int .i64 y] 35)).alloc (.cells #[.bool false,.slice none 0 0] 33)) (.bool false) (.slice none 0 0)
  simpa using this
 have B0:=ac an;have X1:=ac Z;have X2:=ac Y;have X3:=ac x3
 clear an Z Y x3
 rcases(show x<y∨x=y∨y<x by omega)with am|am|am
 all_goals
  first|subst am|skip
  go_enter Tryz.func294,Tryz.ntmps294
  go_wp2_with fail
  refine(uH CA _ _ (hA.below (uH B0)) (by have:=uH HL;omega)).mono ?_
  rintro r w1 ⟨v1,rfl,⟨z,D,F,G,rfl,i1⟩,J⟩
  have Z:=(uH X1).all J;have Y:=(uH X2).all J;have x3:=(uH X3).all J
  have b1:=(uH B0).trans (J.mono (uH B0).size)
  have hs:w.heap.size+4≤w1.heap.size:=by have:=J.size;simp at this;omega
  have ar:au (w.heap.size+4) w1 (.agg #[.bool z,.slice D G.length F]) ua:=by
   refine au.mono ⟨z,D,F,G,rfl,i1⟩ (by simp)
  have p0:=Z.c0;have p1:=Z.c1;have p2:=Z.c2
  have q0:=Y.c0;have q1:=Y.c1;have f0:=Y.free 0;have f1:=Y.free 1
  have az:=ac Z;have ah:=ac Y;have H:=ac x3;have B1:=ac b1;have I1:=ac ar
  clear J Z Y x3 b1 i1 ar X1 X2 X3 B0
  have s0:=(uH H).c0;have s1:=(uH H).c1;have g0:=(uH H).free 0;have g1:=(uH H).free 1
  rcases uH HA with⟨rfl,hu⟩|rfl
  ·have HU:=ac hu
   clear HA CA hu
   go_wp2_with fail
   have b2:=bZ (uH B1) (show w.heap.size≤w.heap.size+1+1 by omega) (.bool z) (.slice D G.length F)
   refine(uH CB _ _ (hB.below b2) (by have:=uH HL;omega)).mono ?_
   rintro r w2 ⟨v2,rfl,⟨n2,a2,c2,L2,rfl,i2⟩,K⟩
   have aI:w.heap.size+4≤w2.heap.size:=by have:=K.size;simp at this;omega
   have y2:=((uH ah).put (.bool z) (.slice D G.length F)).all K
   have y3:=(((uH H).other (p:=⟨w.heap.size+1+1,0,none⟩) (by simp) (.bool z)).other (p:=⟨w.heap.size+1+1,1,none⟩) (by simp) (.slice D G.length F)).all K
   have b3:=b2.trans (K.mono b2.size)
   have j1:au (w.heap.size+4) w2 (.agg #[.bool z,.slice D G.length F]) ua:=((uH I1).put2 (p:=⟨w.heap.size+1+1,0,none⟩) (q:=⟨w.heap.size+1+1,1,none⟩) (by simp) (by simp) (.bool z) (.slice D G.length F)).below K
   have j2:au (w.heap.size+4) w2 (.agg #[.bool n2,.slice a2 L2.length c2]) ub:=au.mono ⟨n2,a2,c2,L2,rfl,i2⟩ (by simp;omega)
   clear q0 q1 f0 f1 s0 s1 g0 g1 p0 p1 p2 az ah H I1 B1 K i2 CB
   have q0:=y2.c0;have q1:=y2.c1;have f0:=y2.free 0;have f1:=y2.free 1
   have s0:=y3.c0;have s1:=y3.c1;have g0:=y3.free 0;have g1:=y3.free 1
   have B3:=ac b3;have J1:=ac j1;have J2:=ac j2
   have EE:=ac (fun u0 u1 v0 v1=>Jz y2 y3 (by omega) u0 u1 v0 v1)
   clear b2 b3 y2 y3 j1 j2
   rcases uH HB with⟨rfl,hv⟩|rfl
   ·have HV:=ac hv
    clear HB hv
    go_wp2
    go_region_with fail
    all_goals
     go_wp2
     obtain⟨E1,E2⟩:=uH EE (.bool z) (.slice D G.length F) (.bool n2) (.slice a2 L2.length c2)
     have z0:=E1.c0;have z1:=E1.c1;have z2:=E2.c0;have z3:=E2.c1
     refine bodyPost_ret (v:=.tuple #[.agg #[.bool z,.slice D G.length F],.agg #[.bool n2,.slice a2 L2.length c2],.int .i64 0]) (by simp[results,Tryz.results294,go_sem,z0,z1,z2,z3]) rfl ⟨⟨z,D,G.length,F,n2,a2,L2.length,c2,0,rfl,?_,?_⟩,?_⟩
     ·intro _ _
      rw[←uH HU,←uH HV]
      exact⟨rfl,((((((uH J1).put2 (by simp) (by simp) _ _).put2 (by simp) (by simp) _ _).put2 (by simp) (by simp) _ _).below ((Below.refl _ _).drew)).mono (Nat.zero_le _)),((((((uH J2).put2 (by simp) (by simp) _ _).put2 (by simp) (by simp) _ _).put2 (by simp) (by simp) _ _).below ((Below.refl _ _).drew)).mono (Nat.zero_le _))⟩
     ·intro h;exact absurd ⟨rfl,rfl⟩ h
     ·exact(bZ (bZ (bZ (uH B3) (by omega) _ _) (by omega) _ _) (by omega) _ _).drew
   ·clear HB
    go_wp2
    go_region_with fail
    all_goals
     go_wp2
     obtain⟨E1,E2⟩:=uH EE (.bool z) (.slice D G.length F) (.bool n2) (.slice a2 L2.length c2)
     have z0:=E1.c0;have z1:=E1.c1;have z2:=E2.c0;have z3:=E2.c1
     refine bodyPost_ret (v:=.tuple #[.agg #[.bool z,.slice D G.length F],.agg #[.bool n2,.slice a2 L2.length c2],.int .i64 2]) (by simp[results,Tryz.results294,go_sem,z0,z1,z2,z3]) rfl ⟨⟨z,D,G.length,F,n2,a2,L2.length,c2,2,rfl,?_,fun _=>rfl⟩,?_⟩
     ·intro _ h;exact absurd h (by decide)
     ·exact(bZ (bZ (bZ (uH B3) (by omega) _ _) (by omega) _ _) (by omega) _ _).drew
  ·clear HA HB CA CB
   go_wp2
   go_region_with fail
   all_goals
    go_wp2
    obtain⟨E1,E2⟩:=JA (uH ah) (uH H) (by omega) (.bool z) (.slice D G.length F) (.bool false) (.slice none 0 0)
    have z0:=E1.c0;have z1:=E1.c1;have z2:=E2.c0;have z3:=E2.c1
    refine bodyPost_ret (v:=.tuple #[.agg #[.bool z,.slice D G.length F],.agg #[.bool false,.slice none 0 0],.int .i64 2]) (by simp[results,Tryz.results294,go_sem,z0,z1,z2,z3]) rfl ⟨⟨z,D,G.length,F,false,none,0,0,2,rfl,?_,fun _=>rfl⟩,?_⟩
    ·intro h;exact absurd h (by decide)
    ·exact(bZ (bZ (bZ (uH B1) (by omega) _ _) (by omega) _ _) (by omega) _ _).drew
def bP(sa x sb y:Int):Int:=if sa=0 then y else if sb=0 then x else min x y
def cV(sa x sb y:Int):Int:=up sa x (bP sa x sb y)+up sb y (bP sa x sb y)
def li(sa x sb y:Int):Bool:=decide (eh sa x (bP sa x sb y)=0∧eh sb y (bP sa x sb y)=0∧(cV sa x sb y).natAbs<du)
def tY(sa x sb y:Int):Int:=if li sa x sb y then cU (cV sa x sb y) (bP sa x sb y)else 2
def tZ(sa x sb y:Int):Int:=if li sa x sb y then dM (cV sa x sb y) (bP sa x sb y)else 0
def t7(sa x sb y:Int):Int:=if li sa x sb y then dX (cV sa x sb y) (bP sa x sb y)else 0
def nF(w':World)(r:Ending)(er m e:Int):Prop:=∃v,r=.returned (.tuple #[v,.int .i64 er])∧aC w' v m e
theorem aS{n:Bool}{L:List Nat}(h:aw n L=true):af n L=0↔L.length=0:=by
 have d:=(ay h).2.1
 constructor
 ·intro e
  have:aj L=0:=by rw[←aQ n L,e];rfl
  rw[(aT L d).1 this];rfl
 ·intro e
  have:L= []:=List.length_eq_zero_iff.1 e
  rw[this,ip]
theorem lj{w:World}{z:Option Addr}{d:Nat}{n:Bool}{L:List Nat}(h:ag w z d L)(u:aw n L=true):(af n L).natAbs<du:=by
 rw[aQ];exact(dC L h.2.1 (ay u).2.1).2 (ay u).1
theorem ei(x l:Int):up 0 x l=0:=by simp[up]
theorem nQ(s x:Int):up s x x=s:=by simp[up]
theorem dW(s x l:Int)(d:(up s x l).natAbs<du)(h:x-l≤16384):eh s x l=0:=by unfold eh;rw[if_pos ⟨d,h⟩]
theorem lk{s x l:Int}(h:eh s x l=0):(up s x l).natAbs<du:=by
 unfold eh at h
 by_cases d:(up s x l).natAbs<du∧x-l≤16384
 ·exact d.1
 ·rw[if_neg d]at h;exact absurd h (by decide)
theorem oU(d y:Int)(D:-16384≤y∧y≤16384)(u:d.natAbs<du):tY 0 0 d y=cU d y∧tZ 0 0 d y=dM d y∧t7 0 0 d y=dX d y:=by
 have h:bP 0 0 d y=y:=by simp[bP]
 have z:cV 0 0 d y=d:=by unfold cV;rw[h,ei,nQ];omega
 have A:li 0 0 d y=true:=by
  unfold li
  rw[h,z]
  exact decide_eq_true ⟨dW _ _ _ (by rw[ei];exact iV) (by omega),dW _ _ _ (by rw[nQ];exact u) (by omega),u⟩
 unfold tY tZ t7
 rw[A,h,z]
 exact⟨rfl,rfl,rfl⟩
theorem oV(d x:Int)(F:-16384≤x∧x≤16384)(u:d.natAbs<du)(A:d≠0):tY d x 0 0=cU d x∧tZ d x 0 0=dM d x∧t7 d x 0 0=dX d x:=by
 have h:bP d x 0 0=x:=by simp[bP,A]
 have z:cV d x 0 0=d:=by unfold cV;rw[h,ei,nQ];omega
 have D:li d x 0 0=true:=by
  unfold li
  rw[h,z]
  exact decide_eq_true ⟨dW _ _ _ (by rw[nQ];exact u) (by omega),dW _ _ _ (by rw[ei];exact iV) (by omega),u⟩
 unfold tY tZ t7
 rw[D,h,z]
 exact⟨rfl,rfl,rfl⟩
theorem iX(d x h y:Int)(u:d≠0)(z:h≠0):bP d x h y=min x y:=by unfold bP;rw[if_neg u,if_neg z]
theorem Ch(d x u y l z:Int)(F:bP d x u y=l)(G:cV d x u y=z):
  (eh d x l=0∧eh u y l=0∧z.natAbs<du∧tY d x u y=cU z l∧tZ d x u y=dM z l∧t7 d x u y=dX z l)∨
  (eh d x l=0∧eh u y l=0∧¬z.natAbs<du∧tY d x u y=2∧tZ d x u y=0∧t7 d x u y=0)∨
  (¬(eh d x l=0∧eh u y l=0)∧tY d x u y=2∧tZ d x u y=0∧t7 d x u y=0):=by
 unfold tY tZ t7 li
 rw[F,G]
 by_cases A:eh d x l=0∧eh u y l=0
 ·by_cases D:z.natAbs<du
  ·left
   rw[decide_eq_true (show eh d x l=0∧eh u y l=0∧z.natAbs<du from⟨A.1,A.2,D⟩)]
   exact⟨A.1,A.2,D,rfl,rfl,rfl⟩
  ·right;left
   rw[decide_eq_false (show¬(eh d x l=0∧eh u y l=0∧z.natAbs<du)from fun h=>D h.2.2)]
   exact⟨A.1,A.2,D,rfl,rfl,rfl⟩
 ·right;right
  rw[decide_eq_false (show¬(eh d x l=0∧eh u y l=0∧z.natAbs<du)from fun h=>A ⟨h.1,h.2.1⟩)]
  exact⟨A,rfl,rfl,rfl⟩
theorem rF(H I:Bool)(ao bo:Option Addr)(ca cb:Nat)(A B:List Nat)(x y:Int)(w:World)(hA:ag w ao ca A)(hB:ag w bo cb B)(ra:aw H A=true)(rb:aw I B=true)(bx:-16384≤x∧x≤16384)(a7:-16384≤y∧y≤16384)(zx:A.length=0→x=0)(zy:B.length=0→y=0)(hT:cr w):
  Calls Tryz.prog 289 #[.agg #[.bool H,.slice ao A.length ca,.int .i64 x],.agg #[.bool I,.slice bo B.length cb,.int .i64 y]] w fun r Y=>nF Y r (tY (af H A) x (af I B) y) (tZ (af H A) x (af I B) y) (t7 (af H A) x (af I B) y)∧Below w.heap.size w Y:=by
 have ta:=lj hA ra
 have tb:=lj hB rb
 have a9:=ac (show A.length=0→tY (af H A) x (af I B) y=cU (af I B) y∧tZ (af H A) x (af I B) y=dM (af I B) y∧t7 (af H A) x (af I B) y=dX (af I B) y from fun h=>by
  have:=(aS ra).2 h
  rw[this,zx h];exact oU _ _ a7 tb)
 have ba:=ac (show A.length≠0→B.length=0→tY (af H A) x (af I B) y=cU (af H A) x∧tZ (af H A) x (af I B) y=dM (af H A) x∧t7 (af H A) x (af I B) y=dX (af H A) x from fun h0 h=>by
  have:=(aS rb).2 h
  rw[this,zy h];exact oV _ _ bx ta (fun e=>h0 ((aS ra).1 e)))
 have HL:=ac (show A.length≠0→B.length≠0→bP (af H A) x (af I B) y=min x y from fun h0 h=>iX _ _ _ _ (fun e=>h0 ((aS ra).1 e)) (fun e=>h ((aS rb).1 e)))
 obtain⟨l,hl⟩:∃l,bP (af H A) x (af I B) y=l:=⟨_,rfl⟩
 obtain⟨z,hz⟩:∃z,cV (af H A) x (af I B) y=z:=⟨_,rfl⟩
 have HW:=ac (Ch _ _ _ _ l z hl hz)
 have a6:=ac (show z=up (af H A) x l+up (af I B) y l by rw[←hz,←hl];rfl)
 rw[hl]at HL
 have bi:=ac (fun Y h t=>iW I bo cb B y Y h rb (by omega) t)
 have bb:=ac (fun Y h t=>iW H ao ca A x Y h ra (by omega) t)
 have a5:=ac (fun Y h h' e=>zT H I ao bo ca cb A B x y l Y h h' ra rb bx a7 e)
 have K:=ac (fun Y u v (h1:eh (af H A) x l=0) (h2:eh (af I B) y l=0) (iu:au 0 Y u (up (af H A) x l)) (Q:au 0 Y v (up (af I B) y l))=>F6 iu Q (lk h1) (lk h2))
 rw[←uH a6]at K
 have ah:=ac (fun(aa:z.natAbs<du) e' Y u B' (he:e'=l) (iu:au B' Y u z) (t:cr Y)=>show Calls Tryz.prog 206 #[u,.int .i64 e'] Y fun r bg=>∃v,r=.returned (.tuple #[v,.int .i64 (cU z l)])∧aC bg v (dM z l) (dX z l)∧Below Y.heap.size Y bg by
  subst he
  refine jt _ iu aa ?_ t
  have:-16384≤e'∧e'≤16384:=by
   rw[←hl];unfold bP
   split
   ·omega
   ·split<;>omega
  omega)
 have an:=ac (fun h:z.natAbs<du=>And.intro (gq z h) (gr z h))
 have ar:=ac (fun h:¬z.natAbs<du=>(show bJ z=2 by unfold bJ;rw[if_neg h]))
 clear hl hz ta tb ra rb zx zy a6
 obtain⟨bz,bE⟩:=bx
 obtain⟨bG,bR⟩:=a7
 generalize tY (af H A) x (af I B) y=er at*
 generalize tZ (af H A) x (af I B) y=am at*
 generalize t7 (af H A) x (af I B) y=ax at*
 generalize eh (af H A) x l=ea at*
 generalize eh (af I B) y l=eb at*
 generalize up (af H A) x l=za at*
 generalize up (af I B) y l=zb at*
 have bn:Below w.heap.size w (((w.alloc (.cells #[.bool H,.slice ao A.length ca,.int .i64 x] 35)).alloc (.cells #[.bool I,.slice bo B.length cb,.int .i64 y] 35)).alloc (.cells #[.bool false,.slice none 0 0,.int .i64 0] 35)):=
  (((Below.refl _ _).alloc (Nat.le_refl _) _).alloc (by simp) _).alloc (by simp;omega) _
 have X:al (((w.alloc (.cells #[.bool H,.slice ao A.length ca,.int .i64 x] 35)).alloc (.cells #[.bool I,.slice bo B.length cb,.int .i64 y] 35)).alloc (.cells #[.bool false,.slice none 0 0,.int .i64 0] 35)) w.heap.size (.bool H) (.slice ao A.length ca) (.int .i64 x):=((al.new _ _ _ _).old _).old _
 have L:al (((w.alloc (.cells #[.bool H,.slice ao A.length ca,.int .i64 x] 35)).alloc (.cells #[.bool I,.slice bo B.length cb,.int .i64 y] 35)).alloc (.cells #[.bool false,.slice none 0 0,.int .i64 0] 35)) (w.heap.size+1) (.bool I) (.slice bo B.length cb) (.int .i64 y):=by
  have:=(al.new (w.alloc (.cells #[.bool H,.slice ao A.length ca,.int .i64 x] 35)) (.bool I) (.slice bo B.length cb) (.int .i64 y)).old (.cells #[.bool false,.slice none 0 0,.int .i64 0] 35)
  simpa using this
 have D:al (((w.alloc (.cells #[.bool H,.slice ao A.length ca,.int .i64 x] 35)).alloc (.cells #[.bool I,.slice bo B.length cb,.int .i64 y] 35)).alloc (.cells #[.bool false,.slice none 0 0,.int .i64 0] 35)) (w.heap.size+1+1) (.bool false) (.slice none 0 0) (.int .i64 0):=by
  have:=al.new ((w.alloc (.cells #[.bool H,.slice ao A.length ca,.int .i64 x] 35)).alloc (.cells #[.bool I,.slice bo B.length cb,.int .i64 y] 35)) (.bool false) (.slice none 0 0) (.int .i64 0)
  simpa using this
 have B0:=ac bn;have X0:=ac X;have X1:=ac L;have X2:=ac D
 clear bn X L D
 go_enter Tryz.func289,Tryz.ntmps289
 go_wp2_with fail
 refine(dE H ao ca A.length _).mono ?_
 by_cases h0:A.length=0
 ·rw[decide_eq_true h0]
  rintro r w1 ⟨rfl,d⟩
  obtain⟨rfl,rfl,rfl⟩:=uH a9 h0
  have L:=(uH X1).all d;have D:=(uH X2).all d
  have Z:=(uH B0).trans (d.mono (uH B0).size)
  have q0:=L.c0;have q1:=L.c1;have q2:=L.c2
  have F:=ac D;have G:=ac Z
  clear h0 a9 ba HL HW bb a5 K ah an ar d L D Z X0 X1 X2 B0
  go_wp2_with fail
  refine(uH bi _ (hB.below (uH G)) (hT.all (uH G))).mono ?_
  rintro r w2 ⟨v,rfl,Q,d⟩
  obtain⟨n3,a3,c3,L3,rfl,i3⟩:=Q.num
  have D:=(uH F).all d
  have b2:=(uH G).trans (d.mono (uH G).size)
  have y0:=D.c0;have y1:=D.c1;have y2:=D.c2;have f0:=D.free 0;have f1:=D.free 1;have f2:=D.free 2
  have X3:=ac D;have B2:=ac b2;have IV:=ac Q
  clear D b2 d Q i3
  go_wp2
  refine bodyPost_ret (v:=.tuple #[.agg #[.bool n3,.slice a3 L3.length c3,.int .i64 (dX (af I B) y)],.int .i64 (cU (af I B) y)]) (by simp[results,Tryz.results289,go_sem,y0,y1,y2]) rfl ⟨⟨_,rfl,(uH IV).put3 (uH X3) _ _ _⟩,aD (uH B2) (by omega) _ _ _⟩
 ·rw[decide_eq_false h0]
  rintro r w1 ⟨rfl,d⟩
  have X:=(uH X0).all d;have L:=(uH X1).all d;have D:=(uH X2).all d
  have Z:=(uH B0).trans (d.mono (uH B0).size)
  have q0:=L.c0;have q1:=L.c1;have q2:=L.c2
  have O:=ac X;have U:=ac L;have F:=ac D;have G:=ac Z
  have az:=ac (uH ba h0);have bd:=ac (uH HL h0)
  clear h0 a9 ba HL bi d X L D Z X0 X1 X2 B0
  go_wp2_with fail
  refine(dE I bo cb B.length _).mono ?_
  by_cases h0:B.length=0
  ·rw[decide_eq_true h0]
   rintro r w2 ⟨rfl,d⟩
   obtain⟨rfl,rfl,rfl⟩:=uH az h0
   have X:=(uH O).all d;have D:=(uH F).all d
   have Z:=(uH G).trans (d.mono (uH G).size)
   clear q0 q1 q2 O U F G
   have q0:=X.c0;have q1:=X.c1;have q2:=X.c2
   have F:=ac D;have G:=ac Z
   clear h0 az bd HW a5 K ah an ar d X D Z
   go_wp2_with fail
   refine(uH bb _ (hA.below (uH G)) (hT.all (uH G))).mono ?_
   rintro r w4 ⟨v,rfl,Q,d⟩
   obtain⟨n3,a3,c3,L3,rfl,i3⟩:=Q.num
   have D:=(uH F).all d
   have b2:=(uH G).trans (d.mono (uH G).size)
   have y0:=D.c0;have y1:=D.c1;have y2:=D.c2;have f0:=D.free 0;have f1:=D.free 1;have f2:=D.free 2
   have X3:=ac D;have B2:=ac b2;have IV:=ac Q
   clear D b2 d Q i3
   go_wp2
   refine bodyPost_ret (v:=.tuple #[.agg #[.bool n3,.slice a3 L3.length c3,.int .i64 (dX (af H A) x)],.int .i64 (cU (af H A) x)]) (by simp[results,Tryz.results289,go_sem,y0,y1,y2]) rfl ⟨⟨_,rfl,(uH IV).put3 (uH X3) _ _ _⟩,aD (uH B2) (by omega) _ _ _⟩
  ·rw[decide_eq_false h0]
   rintro r w2 ⟨rfl,d⟩
   have X:=(uH O).all d;have L:=(uH U).all d;have D:=(uH F).all d
   have Z:=(uH G).trans (d.mono (uH G).size)
   have bp:=uH bd h0
   clear q0 q1 q2 O U F G
   have p0:=X.c0;have p1:=X.c1;have p2:=X.c2
   have q0:=L.c0;have q1:=L.c1;have q2:=L.c2
   have O:=ac X;have U:=ac L;have F:=ac D;have G:=ac Z;have bq:=ac bp
   clear h0 az bd bb d X L D Z bp
   go_wp2_with fail
   refine(uH a5 _ (hA.below (uH G)) (hB.below (uH G)) (uH bq)).mono ?_
   rintro r w3 ⟨⟨n1,a1,l1,c1,n2,a2,l2,c2,ae,rfl,g1,g2⟩,d⟩
   have X:=(uH O).all d;have L:=(uH U).all d;have D:=(uH F).all d
   have Z:=(uH G).trans (d.mono (uH G).size)
   have G1:=ac g1;have G2:=ac g2
   clear p0 p1 p2 q0 q1 q2 O U F G a5 d g1 g2
   --the two boxes of what align answered
   have bA:Below w3.heap.size w3 ((w3.alloc (.cells #[.bool n1,.slice a1 l1 c1] 33)).alloc (.cells #[.bool n2,.slice a2 l2 c2] 33)):=((Below.refl _ _).alloc (Nat.le_refl _) _).alloc (by simp) _
   have O:=ac (X.all bA);have U:=ac (L.all bA);have F:=ac (D.all bA);have G:=ac (Z.trans (bA.mono Z.size));have BA:=ac bA
   clear X L D Z bA
   rcases uH HW with⟨e1,e2,aa,rfl,rfl,rfl⟩|⟨e1,e2,aa,rfl,rfl,rfl⟩|⟨bw,rfl,rfl,rfl⟩
   ·obtain⟨rfl,iu,Q⟩:=uH G1 e1 e2
    obtain⟨a0,bv⟩:=uH an aa
    have J:=ac (fun Y u v iu Q=>uH K Y u v e1 e2 iu Q)
    rw[a0,bv]at J
    have bs:=ac (uH ah aa)
    have IU:=ac (iu.below (uH BA));have aI:=ac (Q.below (uH BA))
    clear HW K ah an ar G1 G2 e1 e2 aa a0 bv iu Q
    go_wp2_with fail
    refine(uH J _ _ _ (uH IU) (uH aI)).mono ?_
    rintro r w5 ⟨u,rfl,⟨n4,a4,c4,L4,rfl,i4⟩,d⟩
    have X:=((uH O).all d).old (.cells #[.bool n4,.slice a4 L4.length c4] 33)
    have L:=((uH U).all d).old (.cells #[.bool n4,.slice a4 L4.length c4] 33)
    have D:=((uH F).all d).old (.cells #[.bool n4,.slice a4 L4.length c4] 33)
    have Z:=((uH G).trans (d.mono (uH G).size)).alloc ((uH G).trans (d.mono (uH G).size)).size (.cells #[.bool n4,.slice a4 L4.length c4] 33)
    have iz:au 0 (w5.alloc (.cells #[.bool n4,.slice a4 L4.length c4] 33)) (.agg #[.bool n4,.slice a4 L4.length c4]) z:=au.mono (au.below ⟨n4,a4,c4,L4,rfl,i4⟩ ((Below.refl _ _).alloc (Nat.le_refl _) _)) (Nat.zero_le _)
    clear O U F G d i4 J IU aI BA
    have p2:=X.c2;have q2:=L.c2
    have F:=ac D;have G:=ac Z;have IZ:=ac iz
    clear X L D Z iz
    rcases(show x<y∨x=y∨y<x by omega)with be|be|be
    all_goals
     first|subst be|skip
     go_wp2_with fail
     refine(uH bs _ _ _ _ (by have:=uH bq;omega) (uH IZ) (hT.all (uH G))).mono ?_
     rintro r w4 ⟨v,rfl,Q,d⟩
     obtain⟨n3,a3,c3,L3,rfl,i3⟩:=Q.num
     have D:=(uH F).all d
     have b2:=(uH G).trans (d.mono (uH G).size)
     have y0:=D.c0;have y1:=D.c1;have y2:=D.c2;have f0:=D.free 0;have f1:=D.free 1;have f2:=D.free 2
     have X3:=ac D;have B2:=ac b2;have IV:=ac Q
     clear D b2 d Q i3
     go_wp2
     refine bodyPost_ret (v:=.tuple #[.agg #[.bool n3,.slice a3 L3.length c3,.int .i64 (dX z l)],.int .i64 (cU z l)]) (by simp[results,Tryz.results289,go_sem,y0,y1,y2]) rfl ⟨⟨_,rfl,(uH IV).put3 (uH X3) _ _ _⟩,aD (uH B2) (by omega) _ _ _⟩
   ·obtain⟨rfl,iu,Q⟩:=uH G1 e1 e2
    have a0:=uH ar aa
    have J:=ac (fun Y u v iu Q=>uH K Y u v e1 e2 iu Q)
    rw[a0]at J
    have IU:=ac (iu.below (uH BA));have aI:=ac (Q.below (uH BA))
    clear HW K ah an ar G1 G2 e1 e2 aa a0 iu Q
    go_wp2_with fail
    refine(uH J _ _ _ (uH IU) (uH aI)).mono ?_
    rintro r w5 ⟨u,rfl,⟨n4,a4,c4,L4,rfl,i4⟩,d⟩
    have D:=((uH F).all d).old (.cells #[.bool n4,.slice a4 L4.length c4] 33)
    have Z:=((uH G).trans (d.mono (uH G).size)).alloc ((uH G).trans (d.mono (uH G).size)).size (.cells #[.bool n4,.slice a4 L4.length c4] 33)
    have y0:=D.c0;have y1:=D.c1;have y2:=D.c2;have f0:=D.free 0;have f1:=D.free 1;have f2:=D.free 2
    have B2:=ac Z
    clear O U F G d i4 J IU aI BA D Z
    go_wp2
    refine bodyPost_ret (v:=.tuple #[.agg #[.bool false,.slice none 0 0,.int .i64 0],.int .i64 (2)]) (by simp[results,Tryz.results289,go_sem,y0,y1,y2]) rfl ⟨⟨_,rfl,aC.zero _ _ _⟩,aD (uH B2) (by omega) _ _ _⟩
   ·have ha:=uH G2 bw
    subst ha
    have D:=uH F
    have y0:=D.c0;have y1:=D.c1;have y2:=D.c2;have f0:=D.free 0;have f1:=D.free 1;have f2:=D.free 2
    have B2:=G
    clear HW K ah an ar G1 G2 bw D O U F BA G
    go_wp2
    refine bodyPost_ret (v:=.tuple #[.agg #[.bool false,.slice none 0 0,.int .i64 0],.int .i64 (2)]) (by simp[results,Tryz.results289,go_sem,y0,y1,y2]) rfl ⟨⟨_,rfl,aC.zero _ _ _⟩,aD (uH B2) (by omega) _ _ _⟩
theorem cd{neg:Bool}{L:List Nat}{e:Int}(h:kQ neg L e=true):aw neg L=true∧L.length≤512∧-16384≤e∧e≤16384∧(L.length=0→e=0):=by
 unfold kQ at h
 rw[Bool.and_eq_true]at h
 obtain⟨z,d⟩:=h
 refine⟨z,(ay z).1,?_⟩
 by_cases u:L.length=0
 ·rw[if_pos u]at d
  have:=of_decide_eq_true d
  omega
 ·rw[if_neg u,Bool.and_eq_true]at d
  have:=of_decide_eq_true d.2
  omega
end Go.Proofs.YtcbcmlaogehimaaGreatDoor
