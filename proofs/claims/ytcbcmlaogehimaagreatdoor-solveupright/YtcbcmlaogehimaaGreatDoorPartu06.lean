/- Part 6 of the texts. -/
import Derived.Test.YtcbcmlaogehimaaGreatDoorPartu05
set_option maxHeartbeats 2000000
namespace Go.Proofs.YtcbcmlaogehimaaGreatDoor
open Go.RowKit
theorem Ck(x p:Nat)(l:x<4294967296)(t:p<=31):IntKind.u64.wrap ((x:Int)*2^p)=((x*2^p:Nat):Int):=by
 have h:=uk x p l t;have e:(x:Int)*2^p=((x*2^p:Nat):Int):=by simp
 rw[e];clear e;generalize x*2^p=z at*;simp only[IntKind.wrap,IntKind.signed,IntKind.bits]
 simp
 omega
theorem Jm(x p s:Nat)(t:x<4294967296)(D:p<=31)(F:s<2^p):
  bits BinOp.or IntKind.u32 (s:Int) (IntKind.u64.wrap ((x:Int)*2^p)%4294967296)=((s+(x*2^p)%4294967296:Nat):Int)/\IntKind.u64.wrap ((x:Int)*2^p)/4294967296%4294967296=(((x*2^p)/4294967296:Nat):Int)/\s+(x*2^p)%4294967296<4294967296:=by
 have h:=uk x p t D;have l:s<4294967296:=Nat.lt_of_lt_of_le F (by have:=Nat.pow_le_pow_right (n:=2) (by decide) (show p<=32 by omega);simpa using this);have e:=IM s ((x*2^p)%4294967296) p F (Ev x p (by omega));have H:s|||(x*2^p)%4294967296<2^32:=Nat.or_lt_two_pow (by omega) (by omega);rw[Ck x p t D];generalize x*2^p=z at*;have G:((z:Nat):Int)%4294967296=((z%4294967296:Nat):Int):=by omega
 rw[G,u32_or_nat s (z%4294967296) l (by omega),e];refine⟨rfl,by omega,by omega⟩
theorem vR(ao:GY)(ca:Nat)(A:H3)(l p:Nat)(m:Int)(w:World)(hA:ai w ao ca A)(la:A.length<=1073741824)(hm:m=32*(l:Int)+(p:Int))(hp:p<=31)(hl:l<=1073741824):
  GF 268 #[.slice ao A.length ca,C0 m] w fun e w'=>∃N J Z,e=.returned (.slice N Z.length J)/\ai w' N J Z/\cj w.heap.size N Z/\Z.length=A.length+l+1/\aj Z=4294967296^l*2^p*aj A/\H8 w w':=by
 obtain⟨i0,hi,a6,a7,a9⟩:=info_parts Tryz.info84;have hd:m/32=(l:Int):=by omega
 have hr:m%32=(p:Int):=by omega
 have bc:0<=m:=by omega
 have bd:m<=68719476735:=by omega
 clear hm
 go_enter Tryz.func268,Tryz.ntmps268
 go_wp2_with(at_make;refine wpList_make_full _ rfl _ _ 31 rfl w.heap.size 84 i0 (.int .u32 0) 1 Tryz.underlying31 hi a6 a7 .i64 .i64 _ _ (A.length+l+1) rfl rfl (by omega) (by omega) (by rw[a9];omega) (by unfold maxLen;omega) (Nat.le_refl _) ?_;intro w1 M I)
 have aa:=cP.made M;have a1:H8 w w1:=(Below.refl _ _).grown I (Nat.le_refl _) (fun k h=>by simp at h);clear M I
 go_wp2
 go_loopw[22] (fun c wr=>∃(i:Nat) (S:H3),i<=A.length/\c=.int .i64 i/\cP wr w.heap.size S/\S.length=A.length+l+1/\bQ S/\H8 w wr/\Hid (aj S=4294967296^l*2^p*aj (A.take i))/\Hid (S[i+l]?.getD 0<2^p)/\Hid (∀j,i+l<j->S[j]?.getD 0=0))
  (fun c _=>A.length-(intOf c).toNat)
 case atStart=>
  refine⟨0,List.replicate (A.length+l+1) 0,Nat.zero_le _,rfl,aa,by simp,bQ.zeros _,a1,?_,?_,?_⟩
  ·unfold Hid
   have:∀k,aj (List.replicate k 0)=0:=by intro k;induction k with|zero=>rfl|succ k ih=>simp[List.replicate_succ,aj,ih]
   rw[this];simp[aj]
  ·unfold Hid
   have:(List.replicate (A.length+l+1) 0)[0+l]?.getD 0=0:=by rw[List.getElem?_replicate];split<;>rfl
   rw[this];exact Nat.pow_pos (by decide)
  ·intro j _
   rw[List.getElem?_replicate];split<;>rfl
 case round=>
  obtain⟨i,S,be,rfl,t,U,hf,F,hv,G,H⟩:=hrel
  by_cases a2:i<A.length
  ·obtain⟨x,hx⟩:∃x,A[i]?.getD 0=x:=⟨_,rfl⟩
   have bx:x<4294967296:=by rw[<-hx];exact hA.lt i
   obtain⟨s,hs⟩:∃s,S[i+l]?.getD 0=s:=⟨_,rfl⟩;obtain⟨b1,o1,ba,aI,a0⟩:=hA.ne (by omega);have O:=a0 i a2;rw[hx]at O;have dA:wr.cell? ⟨b1,o1+i,none⟩=some (.int .u32 (x:Int)):=by rw[F.cell (p:=⟨b1,o1+i,none⟩) aI];exact O
   have dS:=t.cell (i+l) (by omega);rw[hs]at dS;have dT:=t.cell (i+l+1) (by omega);rw[H.out _ (by omega)]at dT;have ae:s<2^p:=by rw[<-hs];exact G.out
   obtain⟨u1,u2,u3⟩:=Jm x p s bx hp ae;have am:=IQ A S i l p x s (by omega) hx hs (H.out _ (by omega)) hv.out;have ap:=Cg x p bx hp;have D:((S.set (i+l) (s+(x*2^p)%4294967296)).set (i+l+1) ((x*2^p)/4294967296))[i+1+l]?.getD 0<2^p:=by
    rw[show i+1+l=i+l+1 by omega,List.getElem?_set_self (by simp;omega)];exact ap
   have K:∀j,i+1+l<j->((S.set (i+l) (s+(x*2^p)%4294967296)).set (i+l+1) ((x*2^p)/4294967296))[j]?.getD 0=0:=fun j hj=>by
    rw[im _ _ _ _ (by omega),im _ _ _ _ (by omega)];exact H.out j (by omega)
   have L:(x*2^p)/4294967296<4294967296:=by have:=uk x p bx hp;omega
   have U1:=ac u1;have U2:=ac u2;have U3:=ac u3;have a3:=ac am;have a4:=ac D;have a5:=ac K;have HH:=ac L;have fS:=t.free (i+l);have fT:=t.free (i+l+1);have HR:=ac t;clear u1 u2 u3 am D K ap L ae hx hs t hv G H a0 O;subst ba;have bb:(i:Int)<(A.length:Int):=by omega
   go_wp2
   have r1:=((uH HR).set (i+l) (s+(x*2^p)%4294967296)).set (i+l+1) ((x*2^p)/4294967296);rw[<-uH U1,<-uH U2]at r1
   go_roundw
   case rel=>exact⟨i+1,_,by omega,by go_num,r1,by simpa using U,(hf.set _ _ (uH U3)).set _ _ (uH HH),(F.setCell (by simp) _).setCell (by simp) _,uH a3,uH a4,uH a5⟩
   case measure=>simp[intOf];omega
  ·have ax:i=A.length:=by omega
   have Q:=hv.out;rw[ax,List.take_length]at Q;have HV:=ac Q;have HR:=ac t;clear Q hv H t ax G
   go_wp2
   go_ret
   exact⟨some ⟨w.heap.size,0,none⟩,A.length+l+1,S,by rw[U];rfl,(uH HR).limbs hf _ (by omega),.inr ⟨_,_,rfl,Nat.le_refl _⟩,U,uH HV,F⟩
theorem EI(t l p:Nat)(D:t<4294967296)(F:l<4294967296):
  bits BinOp.or IntKind.u64 (t:Int) ((l:Int)*4294967296)/2^p%4294967296=(((t+4294967296*l)/2^p%4294967296:Nat):Int):=by
 have e:(l:Int)*4294967296=((l*2^32:Nat):Int):=by simp
 have h:=Nat.two_pow_add_eq_or_of_lt (i:=32) (b:=t) (by omega) l;rw[e,u64_or_nat t (l*2^32) (by omega) (by omega),Nat.or_comm,Nat.mul_comm l,<-h];rw[show 2^32*l+t=t+4294967296*l by omega]
 simp
theorem sL(ao:GY)(ca:Nat)(A:H3)(l p:Nat)(m:Int)(w:World)(M:ai w ao ca A)(la:A.length<=1073741824)(hm:m=32*(l:Int)+(p:Int))(hp:p<=31)(hl:l<=1073741824):
  GF 267 #[.slice ao A.length ca,C0 m] w fun e w'=>∃N K L',e=.returned (.slice N L'.length K)/\ai w' N K L'/\cj w.heap.size N L'/\L'.length<=A.length/\aj L'=aj A/(4294967296^l*2^p)/\H8 w w':=by
 obtain⟨i0,hi,a7,a9,ba⟩:=info_parts Tryz.info84;have hd:m/32=(l:Int):=by omega
 have hr:m%32=(p:Int):=by omega
 have bm:0<=m:=by omega
 have bn:m<=68719476735:=by omega
 clear hm
 by_cases aa:A.length<=l
 ·have hz:aj A/(4294967296^l*2^p)=0:=by
   apply Nat.div_eq_of_lt
   have h1:=gK A M.2.1;have h2:(4294967296:Nat)^A.length<=4294967296^l:=Nat.pow_le_pow_right (by decide) aa;have h3:=Nat.mul_le_mul_left (4294967296^l) (show 1<=2^p from Nat.pow_pos (by decide));omega
  have HZ:=ac hz;generalize aj A/(4294967296^l*2^p)=q at*;clear hz;have a3:(A.length:Int)<=(l:Int):=by omega
  go_enter Tryz.func267,Tryz.ntmps267
  go_wp2
  go_ret
  exact⟨none,0,[],rfl,ai.nil _ _ _,.inl rfl,by simp,by rw[uH HZ];rfl,Below.refl _ _⟩
 obtain⟨n,hn⟩:∃n,n+l=A.length:=⟨A.length-l,by omega⟩;have a3:¬(A.length:Int)<=(l:Int):=by omega
 have ae:=fun(S:H3) (k I J:Nat)=>tw A S M.2.1 k l p I J hp
 have am:=fun(S:H3)=>vJ A S M.2.1 l p
 have O:=ac ae;have Q:=ac am;clear ae am;have n1:n<=1073741824:=by omega
 have n2:n+l<=A.length:=by omega
 have n3:A.length<=n+l:=by omega
 clear hn aa
 go_enter Tryz.func267,Tryz.ntmps267
 go_wp2_with(at_make;refine wpList_make_full _ rfl _ _ 31 rfl w.heap.size 84 i0 (.int .u32 0) 1 Tryz.underlying31 hi a7 a9 .i64 .i64 _ _ n rfl rfl (by omega) (by omega) (by rw[ba];omega) (by unfold maxLen;omega) (Nat.le_refl _) ?_;intro w1 L F)
 have ap:=cP.made L;have a4:H8 w w1:=(Below.refl _ _).grown F (Nat.le_refl _) (fun k h=>by simp at h);clear L F
 go_wp2
 go_loopw[25] (fun c wr=>∃(i:Nat) (S:H3),i<=n/\c=.int .i64 i/\cP wr w.heap.size S/\S.length=n/\bQ S/\H8 w wr/\Hid (aj (S.take i)=(aj A/(4294967296^l*2^p))%4294967296^i))
  (fun c _=>n-(intOf c).toNat)
 case atStart=>exact⟨0,List.replicate n 0,Nat.zero_le _,rfl,ap,by simp,bQ.zeros _,a4,by unfold Hid;simp[aj,Nat.mod_one]⟩
 case round=>
  obtain⟨i,S,bp,rfl,D,Z,hf,t,hv⟩:=hrel
  by_cases bo:i<n
  ·obtain⟨I,G⟩:∃x,A[i+l]?.getD 0=x:=⟨_,rfl⟩
   obtain⟨J,H⟩:∃x,A[i+l+1]?.getD 0=x:=⟨_,rfl⟩;have b0:I<4294967296:=by rw[<-G];exact M.lt _
   have a5:J<4294967296:=by rw[<-H];exact M.lt _
   obtain⟨b1,o1,bb,a1,a2⟩:=M.ne (by omega);have U:=a2 (i+l) (by omega);rw[G]at U;have dA:wr.cell? ⟨b1,o1+(i+l),none⟩=some (.int .u32 (I:Int)):=by rw[t.cell (p:=⟨b1,o1+(i+l),none⟩) a1];exact U
   have cA:=M.below t;have dS:=D.cell i (by omega);have fS:=D.free i;generalize bc:S[i]?.getD 0=s at*;have ax:=ac (uH O S i I J (by omega) G H hv.out);have a6:=ac H;have HR:=ac D;clear G H a2 U D hv bc O Q;have bd:(i:Int)+(l:Int)<(A.length:Int):=by omega
   have be:(0:Int)<=(i:Int)+(l:Int):=by omega
   have bi:(i:Int)<(n:Int):=by omega
   subst bb
   go_wp2
   go_quiet ((go_at_call 285;exact kF (jF (some ⟨b1,o1,none⟩) ca A _ (i+l+1) J _ (cA.below (below_drewN (Below.refl _ _) _)) (by omega) (by omega) a6)))
   go_wp2
   have e:=EI I J p b0 a5;have r1:=((uH HR).drewN nq).set i (((I+4294967296*J)/2^p)%4294967296);rw[<-e]at r1;have aI:((I+4294967296*J)/2^p)%4294967296<4294967296:=Nat.mod_lt _ (by decide)
   go_roundw
   case rel=>exact⟨i+1,_,by omega,by go_num,r1,by simpa using Z,hf.set _ _ aI,(below_drewN t nq).setCell (by simp) _,uH ax⟩
   case measure=>simp[intOf];omega
  ·have a0:=uH Q S (by omega) (by rw[Z,show n=i by omega];exact hv.out)
   have HV:=ac a0;have HR:=ac D;clear a0 hv D O Q
   go_wp2
   go_ret
   exact⟨some ⟨w.heap.size,0,none⟩,n,S,by rw[Z];rfl,(uH HR).limbs hf _ (by omega),.inr ⟨_,_,rfl,Nat.le_refl _⟩,by omega,uH HV,t⟩
attribute [local go_sem ↓] Go.wp_at_zero Go.wp_at_succ
def sg(neg:Bool)(v:Nat):Int:=if neg then-(v:Int)else(v:Int)
theorem fm(neg:Bool)(L:H3):af neg L=sg neg (aj L):=rfl
def sM(neg:Bool)(L:H3)(n:Int):Int:=sg neg (if 0<=n then aj L*2^n.toNat else aj L/2^(-n).toNat)
def oJ(neg:Bool)(L:H3)(n:Int):Bool:=aD neg L&&decide (-16384<=n/\n<=16384)
def yz(neg:Bool)(L:H3)(n:Int):Int:=if oJ neg L n then cn (sM neg L n)else if aD neg L then 2 else 1
def vS(neg:Bool)(L:H3)(n:Int):Int:=if oJ neg L n then fG (sM neg L n)else 0
theorem Nh(neg:Bool)(A L:H3)(l p:Nat)(n:Int)(t:n=32*(l:Int)+(p:Int))(h:aj L=4294967296^l*2^p*aj A):af neg L=sM neg A n:=by
 rw[fm,h,mE];unfold sM;rw[if_pos (by omega),show n.toNat=32*l+p by omega,Nat.mul_comm]
theorem EJ(neg:Bool)(A L:H3)(l p:Nat)(n:Int)(t:n<0)(D:-n=32*(l:Int)+(p:Int))(h:aj L=aj A/(4294967296^l*2^p)):af neg L=sM neg A n:=by
 rw[fm,h,mE];unfold sM;rw[if_neg (by omega),show(-n).toNat=32*l+p by omega]
theorem jI(t:Bool)(ao:GY)(I:Nat)(A:H3)(n:Int)(w:World)(hA:ai w ao I A)(la:A.length<=35184372088830)(bn:-9223372036854775808<=n/\n<=9223372036854775807):
  GF 238 #[.agg #[.bool t,.slice ao A.length I],C0 n] w fun e G=>∃v,e=.returned (.tuple #[v,C0 (yz t A n)])/\aA w.heap.size G v (vS t A n)/\H8 w G:=by
 have a1:aD t A=false->gL t A=1/\yz t A n=1/\vS t A n=0:=fun h=>by simp[gL,yz,vS,oJ,h]
 have a3:aD t A=true->¬(-16384<=n/\n<=16384)->gL t A=0/\yz t A n=2/\vS t A n=0:=fun h h'=>by simp only[gL,yz,vS,oJ,h,decide_eq_false h'];simp
 have a4:aD t A=true->(-16384<=n/\n<=16384)->gL t A=0/\A.length<=512/\yz t A n=cn (sM t A n)/\vS t A n=fG (sM t A n):=fun h h'=>by
  refine⟨by simp[gL,h],(aG h).1,?_,?_⟩
  ·unfold yz oJ;rw[h,decide_eq_true h',Bool.and_self,if_pos rfl]
  ·unfold vS oJ;rw[h,decide_eq_true h',Bool.and_self,if_pos rfl]
 have a5:=fun(L:H3) (l p:Nat)=>Nh t A L l p n
 have a6:=fun(L:H3) (l p:Nat)=>EJ t A L l p n
 have Z:=ac a1;have aa:=ac a3;have ae:=ac a4;have K:=ac a5;have M:=ac a6;have a7:=fun G h'=>gC t ao I A G h' la
 have a9:=ac a7;clear a1 a3 a4 a5 a6 a7;generalize sM t A n=z at*;generalize yz t A n=er at*;generalize vS t A n=nu at*;generalize gL t A=ck at*;generalize aD t A=rb at*
 go_enter Tryz.func238,Tryz.ntmps238
 go_wp2_with fail;have am:H8 w ((w.alloc (.cells #[.bool t,.slice ao A.length I] 33)).alloc (.cells #[.bool false,.slice none 0 0] 33)):=((Below.refl _ _).alloc (Nat.le_refl _) _).alloc (by simp) _;refine(uH a9 _ (hA.below am)).mono ?_;rintro e w1 ⟨rfl,F⟩;have bd:w.heap.size+2<=w1.heap.size:=by have:=F.size;simpa using this
 have D:H8 w w1:=am.trans (F.mono (by simp;omega));have x0:aK w1 w.heap.size (.bool t) (.slice ao A.length I):=((aK.new _ _ _).old _).below F (by simp;omega);have J:aK w1 (w.heap.size+1) (.bool false) (.slice none 0 0):=by
  have:=aK.new (w.alloc (.cells #[.bool t,.slice ao A.length I] 33)) (.bool false) (.slice none 0 0);exact aK.below (by simpa using this) F (by simp)
 have p0:=x0.c0;have p1:=x0.c1;clear F am a9
 cases rb
 ·obtain⟨c1,H,c3⟩:=uH Z rfl
  have U:=ac (And.intro H c3);rw[c1];have y0:=J.c0;have y1:=J.c1;have f0:=J.free 0;have f1:=J.free 1;clear Z aa ae K M c1 H c3
  go_wp2
  refine bodyPost_ret (v:=.tuple #[.agg #[.bool false,.slice none 0 0],C0 1]) (by simp[results,Tryz.results238,go_sem,y0,y1]) rfl ⟨.agg #[.bool false,.slice none 0 0],by rw[(uH U).1],by rw[(uH U).2];exact aA.zero _ _ _ _,?_⟩;exact(D.setCell (by simp) _).setCell (by simp) _
 by_cases ap:-16384<=n/\n<=16384
 case neg=>
  obtain⟨c1,H,c3⟩:=uH aa rfl ap;have U:=ac (And.intro H c3);rw[c1];have y0:=J.c0;have y1:=J.c1;have f0:=J.free 0;have f1:=J.free 1;clear Z aa ae K M c1 H c3;rcases(show n< -16384\/(¬n< -16384/\16384<n) by omega)with hx|⟨hx,bo⟩
  all_goals
   go_wp2
   refine bodyPost_ret (v:=.tuple #[.agg #[.bool false,.slice none 0 0],C0 2]) (by simp[results,Tryz.results238,go_sem,y0,y1]) rfl ⟨.agg #[.bool false,.slice none 0 0],by rw[(uH U).1],by rw[(uH U).2];exact aA.zero _ _ _ _,?_⟩;exact(D.setCell (by simp) _).setCell (by simp) _
 obtain⟨c1,c4,H,c3⟩:=uH ae rfl ap;have U:=ac (And.intro H c3);rw[c1];obtain⟨bi,bm⟩:=ap;clear Z aa ae c1 H c3
 by_cases ba:n<0
 ·obtain⟨l,hl⟩:∃l:Nat,(l:Int)=(-n)/32:=⟨((-n)/32).toNat,by omega⟩
  obtain⟨p,hp⟩:∃p:Nat,(p:Int)=(-n)%32:=⟨((-n)%32).toNat,by omega⟩;have q1:-n=32*(l:Int)+(p:Int):=by omega
  have ax:=ac (fun L h=>uH M L l p ba q1 h);have q2:p<=31:=by omega
  have q3:l<=512:=by omega
  have q4:n= -(32*(l:Int)+(p:Int)):=by omega
  have Q4:=ac q4;have be:IntKind.i64.wrap (-n)= -n:=by
   simp only[IntKind.wrap,IntKind.signed,IntKind.bits]
   simp
   omega
  clear K M hl hp q1 q4
  go_wp2
  refine aB (fun W=>W=w1) rfl ?_;rintro Q e0;subst e0;have hK:∀G,Below (w.heap.size+1) Q G->Below (w.heap.size+1) Q G/\G.cell? ⟨w.heap.size,0,none⟩=some (.bool t)/\G.cell? ⟨w.heap.size,1,none⟩=some (.slice ao A.length I):=fun G h=>
   ⟨h,(x0.below h (by omega)).c0,(x0.below h (by omega)).c1⟩
  have HK:=ac hK;have HA:=ac (hA.below D);have X2:=ac J;have aI:=ac D;clear hK hA x0 J D p0 p1
  go_region_held3(fun G=>Below (w.heap.size+1) Q G/\G.cell? ⟨w.heap.size,0,none⟩=some (.bool t)/\G.cell? ⟨w.heap.size,1,none⟩=some (.slice ao A.length I))
   (first|exact uH HK _ (Below.refl _ _).drew|exact uH HK _ (by assumption)|exact uH HK _ ((N.setCell (by simp) _).setCell (by simp) _))
   (first|(go_at_call 267;refine(sL ao I A l p _ _ ((uH HA).below ((Below.refl _ _).drew)) (by omega) (by have:=uH Q4;omega) (by omega) (by omega)).mono ?_;rintro e w3 ⟨bc,bb,L',rfl,g1,g2,g3,g4,F⟩;have a0:Below (w.heap.size+1) Q w3:=((Below.refl _ _).drew).trans (F.mono (by simp;omega));have X3:=ac ((uH X2).drew.below F (by simp;omega));have G1:=ac g1;have G2:=ac g2;have G4:=ac g4;have L4:L'.length<=35184372088832:=(by omega);have s1:=F.size;clear g1 g2 g4 g3 F)|(go_at_call 266;refine(ly _ t _ _ _ _ (uH G1) (uH G2) L4).mono ?_;rintro e w4 ⟨v,rfl,⟨n2,a2,H,L2,rfl,i1⟩,D⟩;have N:Below (w.heap.size+1) Q w4:=a0.trans (D.mono (by simp at s1;omega));have O:=(uH X3).below D (by simp at s1;omega);have y0:=O.c0;have y1:=O.c1;have f0:=O.free 0;have f1:=O.free 1;have I1:=ac i1;clear i1 D O))
  have hz:=uH ax L' (uH G4);have HI:=ac (hz▸uH I1);have HE:=ac (show cn (af t L')=cn z by rw[hz]);clear hz
  go_wp2
  refine bodyPost_ret (v:=.tuple #[.agg #[.bool n2,.slice a2 L2.length H],C0 (cn (af t L'))]) (by simp[results,Tryz.results238,go_sem,y0,y1]) rfl ⟨.agg #[.bool n2,.slice a2 L2.length H],?_,?_,?_⟩
  ·rw[(uH U).1,uH HE]
  ·rw[(uH U).2];exact aA.stored (uH HI) (by simp;omega) (by simp;omega) (by simp;omega) _ _
  ·exact(((uH aI).trans (N.mono (by omega))).setCell (by simp) _).setCell (by simp) _
 ·obtain⟨l,hl⟩:∃l:Nat,(l:Int)=n/32:=⟨(n/32).toNat,by omega⟩
  obtain⟨p,hp⟩:∃p:Nat,(p:Int)=n%32:=⟨(n%32).toNat,by omega⟩;have q1:n=32*(l:Int)+(p:Int):=by omega
  have ax:=ac (fun L h=>uH K L l p q1 h);have q2:p<=31:=by omega
  have q3:l<=512:=by omega
  have Q4:=ac q1;clear K M hl hp q1
  go_wp2
  refine aB (fun W=>W=w1) rfl ?_;rintro Q e0;subst e0;have hK:∀G,Below (w.heap.size+1) Q G->Below (w.heap.size+1) Q G/\G.cell? ⟨w.heap.size,0,none⟩=some (.bool t)/\G.cell? ⟨w.heap.size,1,none⟩=some (.slice ao A.length I):=fun G h=>
   ⟨h,(x0.below h (by omega)).c0,(x0.below h (by omega)).c1⟩
  have HK:=ac hK;have HA:=ac (hA.below D);have X2:=ac J;have aI:=ac D;clear hK hA x0 J D p0 p1
  go_region_held3(fun G=>Below (w.heap.size+1) Q G/\G.cell? ⟨w.heap.size,0,none⟩=some (.bool t)/\G.cell? ⟨w.heap.size,1,none⟩=some (.slice ao A.length I))
   (first|exact uH HK _ (Below.refl _ _).drew|exact uH HK _ (by assumption)|exact uH HK _ ((N.setCell (by simp) _).setCell (by simp) _))
   (first|(go_at_call 268;refine(vR ao I A l p _ _ ((uH HA).below ((Below.refl _ _).drew)) (by omega) (by have:=uH Q4;omega) (by omega) (by omega)).mono ?_;rintro e w3 ⟨bc,bb,L',rfl,g1,g2,g3,g4,F⟩;have a0:Below (w.heap.size+1) Q w3:=((Below.refl _ _).drew).trans (F.mono (by simp;omega));have X3:=ac ((uH X2).drew.below F (by simp;omega));have G1:=ac g1;have G2:=ac g2;have G4:=ac g4;have L4:L'.length<=35184372088832:=(by omega);have s1:=F.size;clear g1 g2 g4 g3 F)|(go_at_call 266;refine(ly _ t _ _ _ _ (uH G1) (uH G2) L4).mono ?_;rintro e w4 ⟨v,rfl,⟨n2,a2,H,L2,rfl,i1⟩,D⟩;have N:Below (w.heap.size+1) Q w4:=a0.trans (D.mono (by simp at s1;omega));have O:=(uH X3).below D (by simp at s1;omega);have y0:=O.c0;have y1:=O.c1;have f0:=O.free 0;have f1:=O.free 1;have I1:=ac i1;clear i1 D O))
  have hz:=uH ax L' (uH G4);have HI:=ac (hz▸uH I1);have HE:=ac (show cn (af t L')=cn z by rw[hz]);clear hz
  go_wp2
  refine bodyPost_ret (v:=.tuple #[.agg #[.bool n2,.slice a2 L2.length H],C0 (cn (af t L'))]) (by simp[results,Tryz.results238,go_sem,y0,y1]) rfl ⟨.agg #[.bool n2,.slice a2 L2.length H],?_,?_,?_⟩
  ·rw[(uH U).1,uH HE]
  ·rw[(uH U).2];exact aA.stored (uH HI) (by simp;omega) (by simp;omega) (by simp;omega) _ _
  ·exact(((uH aI).trans (N.mono (by omega))).setCell (by simp) _).setCell (by simp) _
end Go.Proofs.YtcbcmlaogehimaaGreatDoor
namespace Go.Proofs.YtcbcmlaogehimaaGreatDoor
open Go.RowKit
theorem uu(ao bo:GY)(ca cb:Nat)(A B:H3)(w:World)(hA:ai w ao ca A)(hB:ai w bo cb B)(la:A.length<=1073741824)(lb:B.length<=1073741824):
  GF 297 #[.slice ao A.length ca,.slice bo B.length cb] w fun e w'=>∃aa M L',e=.returned (.slice aa L'.length M)/\ai w' aa M L'/\cj w.heap.size aa L'/\L'.length=A.length+B.length/\aj L'=aj A*aj B/\H8 w w':=by
 obtain⟨i0,hi,F,bs,bt⟩:=info_parts Tryz.info84;obtain⟨n,hn⟩:∃n,n=A.length+B.length:=⟨_,rfl⟩;have HN:=ac hn;have n1:n<=2147483648:=by omega
 have n2:A.length+B.length<=n:=by omega
 clear hn
 go_enter Tryz.func297,Tryz.ntmps297
 go_wp2_with(at_make;have hn:=uH HN;refine wpList_make_full _ rfl _ _ 31 rfl w.heap.size 84 i0 (.int .u32 0) 1 Tryz.underlying31 hi F bs .i64 .i64 _ _ n rfl rfl (by omega) (by omega) (by rw[bt];omega) (by unfold maxLen;omega) (Nat.le_refl _) ?_;clear hn;intro w1 Z I)
 have N:=cP.made Z;have a2:H8 w w1:=(Below.refl _ _).grown I (Nat.le_refl _) (fun k h=>by simp at h);clear Z I
 go_wp2
 go_loopw[17] (fun c wr=>∃(i:Nat) (P:H3),i<=A.length/\c=.int .i64 i/\cP wr w.heap.size P/\P.length=n/\bQ P/\H8 w wr/\Hid (aj P=aj (A.take i)*aj B)/\Hid (∀j,i+B.length<=j->P[j]?.getD 0=0))
  (fun c _=>A.length-(intOf c).toNat)
 case atStart=>
  refine⟨0,List.replicate n 0,Nat.zero_le _,rfl,N,by simp,bQ.zeros _,a2,?_,?_⟩
  ·unfold Hid
   have:∀k,aj (List.replicate k 0)=0:=by intro k;induction k with|zero=>rfl|succ k ih=>simp[List.replicate_succ,aj,ih]
   rw[this];simp[aj]
  ·intro j _
   rw[List.getElem?_replicate];split<;>rfl
 case round=>
  obtain⟨i,P,bU,rfl,hr,a0,hf,U,hv,K⟩:=hrel
  by_cases a3:i<A.length
  ·obtain⟨x,hx⟩:∃x,A[i]?.getD 0=x:=⟨_,rfl⟩
   have bx:x<4294967296:=by rw[<-hx];exact hA.lt i
   obtain⟨b1,o1,bv,bb,bc⟩:=hA.ne (by omega);have ae:=bc i a3;rw[hx]at ae;have HX:=ac hx;have a4:=ac ae;have HR:=ac hr;have bI:=ac a3;clear hx bc ae hr N a2;subst bv;have bA:(i:Int)<(A.length:Int):=by omega
   go_wp2
   go_loopw[7,22] (fun c k wq=>∃(y:Nat) (l:Nat) (Q:H3),l<=B.length/\k=.int .i64 l/\c=.int .u64 y/\y<4294967296/\cP wq w.heap.size Q/\Q.length=n/\bQ Q/\H8 w wq/\Hid (aj Q+4294967296^(i+l)*y=aj (A.take i)*aj B+4294967296^i*x*aj (B.take l))/\Hid (∀j,i+B.length<=j->Q[j]?.getD 0=0))
    (fun _ k _=>B.length-(intOf k).toNat)
   case atStart=>exact⟨0,0,P,Nat.zero_le _,rfl,rfl,by omega,uH HR,a0,hf,U,by unfold Hid;simp[aj];exact hv.out,K⟩
   case round=>
    obtain⟨y,l,Q,bV,rfl,rfl,hy,t,bd,a1,L,G,H⟩:=hrel
    by_cases bm:l<B.length
    ·obtain⟨z,hz⟩:∃z,B[l]?.getD 0=z:=⟨_,rfl⟩
     have bz:z<4294967296:=by rw[<-hz];exact hB.lt l
     obtain⟨q,hq⟩:∃q,Q[i+l]?.getD 0=q:=⟨_,rfl⟩;obtain⟨b2,o2,bw,be,bi⟩:=hB.ne (by omega);have am:=bi l bm;rw[hz]at am;have bq:q<4294967296:=by
      rw[<-hq]
      by_cases hh:i+l<Q.length
      ·rw[List.getElem?_eq_getElem hh];exact a1 _ (List.getElem_mem hh)
      ·rw[List.getElem?_eq_none (by omega)];decide
     have dA:wr.cell? ⟨b1,o1+i,none⟩=some (.int .u32 (x:Int)):=by rw[L.cell (p:=⟨b1,o1+i,none⟩) bb];exact uH a4
     have dB:wr.cell? ⟨b2,o2+l,none⟩=some (.int .u32 (z:Int)):=by rw[L.cell (p:=⟨b2,o2+l,none⟩) be];exact am
     have dQ:=t.cell (i+l) (by omega);rw[hq]at dQ;have fQ:=t.free (i+l);have bn:=yD x z bx bz;obtain⟨bE,bG⟩:=AU x z bx bz;have a5:=Eu B Q (aj (A.take i)*aj B) x i l y z q (by omega) hz hq G.out;have D:∀j,i+B.length<=j->(Q.set (i+l) ((y+(x*z+q))%4294967296))[j]?.getD 0=0:=fun j hj=>by rw[im _ _ _ _ (by omega)];exact H.out j hj
     have bp:=ac a5;have ap:=ac D;have ax:=ac t;obtain⟨ec,ed⟩:=Cf x y z q;have EC:=ac ec;have ED:=ac ed;have a6:(y+(x*z+q))/4294967296<4294967296:=by omega
     have BY:=ac a6;clear a5 D t ec ed hz hq bi am G H a6 bn hv K;subst bw;have bJ:(l:Int)<(B.length:Int):=by omega
     have br:(i:Int)+(l:Int)<(n:Int):=by omega
     go_wp2
     go_quiet (fail)
     go_wp2
     have J:=((uH ax).drewN nq).set (i+l) ((y+(x*z+q))%4294967296);rw[uH EC]at J
     go_roundw
     case rel=>exact⟨(y+(x*z+q))/4294967296,l+1,Q.set (i+l) ((y+(x*z+q))%4294967296),by omega,by go_num,dG (uH ED).symm,uH BY,J,by simpa using bd,a1.set _ _ (by omega),(below_drewN L nq).setCell (by simp) _,uH bp,uH ap⟩
     case measure=>simp[intOf];omega
    ·have a7:l=B.length:=by omega
     rw[a7]at G;have F:=H.out (i+B.length) (by omega);have O:=IL A B Q x i y (by omega) (uH HX) F G.out;have D:∀j,i+1+B.length<=j->(Q.set (i+B.length) y)[j]?.getD 0=0:=fun j hj=>by rw[im _ _ _ _ (by omega)];exact H.out j (by omega)
     have dQ:=t.cell (i+B.length) (by omega);rw[F]at dQ;have fQ:=t.free (i+B.length);have a9:=ac O;have ap:=ac D;have ax:=ac t;have br:(i:Int)+(B.length:Int)<(n:Int):=by omega
     clear O D t G H F a7 hv K a4
     go_wp2
     have J:=(uH ax).set (i+B.length) y
     go_roundw
     case rel=>exact⟨i+1,Q.set (i+B.length) y,by omega,by go_num,J,by simpa using bd,a1.set _ _ hy,L.setCell (by simp) _,uH a9,uH ap⟩
     case measure=>simp[intOf];omega
  ·have ba:i=A.length:=by omega
   have aI:=hv.out;rw[ba,List.take_length]at aI;have HV:=ac aI;have HR:=ac hr;clear aI hv K hr ba
   go_wp2
   go_ret
   exact⟨some ⟨w.heap.size,0,none⟩,n,P,by rw[a0];rfl,(uH HR).limbs hf _ (by omega),.inr ⟨_,_,rfl,Nat.le_refl _⟩,by rw[a0];exact uH HN,uH HV,U⟩
attribute [local go_sem ↓] Go.wp_at_zero Go.wp_at_succ
theorem Jn(A B:H3)(l:cL A)(cB:cL B)(I:A.length<=512)(J:B.length<=512)(h:512<A.length+B.length-1):¬aj A*aj B<eE:=by
 have t:A≠ []:=by rintro rfl;simp at h;omega
 have D:B≠ []:=by rintro rfl;simp at h;omega
 have F:=oC A (l.resolve_left t);have G:=oC B (cB.resolve_left D);have H:=Nat.mul_le_mul F G;rw[<-Nat.pow_add]at H;have K:eE<=4294967296^(A.length-1+(B.length-1)):=by
  unfold eE;exact Nat.pow_le_pow_right (by decide) (show oD<=A.length-1+(B.length-1) by unfold oD;omega)
 omega
theorem Jo(t D:Bool)(ao I:GY)(J K:Nat)(A B:H3)(w:World)(hA:ai w ao J A)(hB:ai w I K B)(la:A.length<=35184372088830)(lb:B.length<=35184372088830):
  GF 291 #[.agg #[.bool t,.slice ao A.length J],.agg #[.bool D,.slice I B.length K]] w fun e G=>∃v,e=.returned (.tuple #[v,C0 (tI (aD t A&&aD D B) (af t A*af D B))])/\aA w.heap.size G v (tJ (aD t A&&aD D B) (af t A*af D B))/\H8 w G:=by
 have hC:(aD t A&&aD D B)=true->cL A/\cL B:=fun h=>by
  simp only[Bool.and_eq_true]at h;exact⟨(aG h.1).2.1,(aG h.2).2.1⟩
 have hL:(aD t A&&aD D B)=true->A.length<=512/\B.length<=512/\(512<A.length+B.length-1->cn (af t A*af D B)=2/\fG (af t A*af D B)=0):=fun h=>by
  simp only[Bool.and_eq_true]at h;have r1:=aG h.1;have H:=aG h.2;refine⟨r1.1,H.1,fun hb=>?_⟩;have aa:¬(af t A*af D B).natAbs<eE:=by
   rw[Int.natAbs_mul,aU,aU];exact Jn A B r1.2.1 H.2.1 r1.1 H.1 hb
  constructor
  ·unfold cn;rw[if_neg aa]
  ·unfold fG;rw[if_neg aa]
 have ae:∀L:H3,aj L=aj A*aj B->af (t != D) L=af t A*af D B:=by
  intro L h;unfold af;rw[h];cases t<;>cases D<;>simp[Int.neg_mul,Int.mul_neg]
 have HC:=ac hC;have HL:=ac hL;have ax:=ac ae;clear hL ae;have H2:=ac (show yJ t A D B=if(aD t A&&aD D B)then 0 else 1 from rfl);clear hC;generalize a1:(aD t A&&aD D B)=ok at*;generalize af t A*af D B=z at*;clear a1
 go_enter Tryz.func291,Tryz.ntmps291
 go_wp2_with fail;have O:H8 w (((w.alloc (.cells #[.bool t,.slice ao A.length J] 33)).alloc (.cells #[.bool D,.slice I B.length K] 33)).alloc (.cells #[.bool false,.slice none 0 0] 33)):=
  (((Below.refl _ _).alloc (Nat.le_refl _) _).alloc (by simp) _).alloc (by simp;omega) _
 refine(mt t D ao I J K A B _ (hA.below O) (hB.below O) la lb).mono ?_;rintro e N ⟨rfl,l⟩;have a4:w.heap.size+3<=N.heap.size:=by have:=l.size;simpa using this
 have F:H8 w N:=O.trans (l.mono (by simp;omega));have p0:N.cell? ⟨w.heap.size,0,none⟩=some (.bool t):=by rw[l.cell (p:=⟨w.heap.size,0,none⟩) (by simp;omega)];simp[go_sem]
 have p1:N.cell? ⟨w.heap.size,1,none⟩=some (.slice ao A.length J):=by rw[l.cell (p:=⟨w.heap.size,1,none⟩) (by simp;omega)];simp[go_sem]
 have q0:N.cell? ⟨w.heap.size+1,0,none⟩=some (.bool D):=by rw[l.cell (p:=⟨w.heap.size+1,0,none⟩) (by simp)];simp[go_sem]
 have q1:N.cell? ⟨w.heap.size+1,1,none⟩=some (.slice I B.length K):=by rw[l.cell (p:=⟨w.heap.size+1,1,none⟩) (by simp)];simp[go_sem]
 have H:aK N (w.heap.size+2) (.bool false) (.slice none 0 0):=by
  have:=aK.new ((w.alloc (.cells #[.bool t,.slice ao A.length J] 33)).alloc (.cells #[.bool D,.slice I B.length K] 33)) (.bool false) (.slice none 0 0);exact aK.below (by simpa using this) l (by simp)
 have PA:Hid (aK N w.heap.size (.bool t) (.slice ao A.length J)):=(((aK.new _ _ _).old _).old _).below l (by simp;omega);have PB:Hid (aK N (w.heap.size+1) (.bool D) (.slice I B.length K)):=by
  have:=(aK.new (w.alloc (.cells #[.bool t,.slice ao A.length J] 33)) (.bool D) (.slice I B.length K)).old (.cells #[.bool false,.slice none 0 0] 33);exact aK.below (by simpa using this) l (by simp)
 rw[uH H2];clear l H2 O
 cases ok
 ·simp only[Bool.false_eq_true,if_false]
  have y0:=H.c0;have y1:=H.c1;have f0:=H.free 0;have f1:=H.free 1
  go_wp2
  refine bodyPost_ret (v:=.tuple #[.agg #[.bool false,.slice none 0 0],C0 1]) (by simp[results,Tryz.results291,go_sem,y0,y1]) rfl ⟨.agg #[.bool false,.slice none 0 0],by rw[ph],by rw[pi];exact aA.zero _ _ _ _,?_⟩;exact(F.setCell (by simp;omega) _).setCell (by simp;omega) _
 ·obtain⟨cA,cB⟩:=uH HC rfl
  obtain⟨l1,l2,Q⟩:=uH HL rfl;have M:=ac Q;clear cA cB Q HC HL;simp only[if_true]
  by_cases am:512<A.length+B.length-1
  ·have hE:=ac (uH M am)
   have y0:=H.c0;have y1:=H.c1;have f0:=H.free 0;have f1:=H.free 1;have U:(512:Int)<(A.length:Int)+(B.length:Int)-1:=by omega
   clear M
   go_wp2
   refine bodyPost_ret (v:=.tuple #[.agg #[.bool false,.slice none 0 0],C0 2]) (by simp[results,Tryz.results291,go_sem,y0,y1]) rfl ⟨.agg #[.bool false,.slice none 0 0],by rw[ja,(uH hE).1],by rw[jb,(uH hE).2];exact aA.zero _ _ _ _,?_⟩;exact(F.setCell (by simp;omega) _).setCell (by simp;omega) _
  have U:¬(512:Int)<(A.length:Int)+(B.length:Int)-1:=by omega
  clear M
  go_wp2
  refine aB (fun W=>W=N) rfl ?_;rintro Z e0;subst e0;have x0:aK Z w.heap.size (.bool t) (.slice ao A.length J):=uH PA;have x1:aK Z (w.heap.size+1) (.bool D) (.slice I B.length K):=uH PB;have hK:∀G,Below (w.heap.size+2) Z G->Below (w.heap.size+2) Z G/\G.cell? ⟨w.heap.size,0,none⟩=some (.bool t)/\G.cell? ⟨w.heap.size+1,0,none⟩=some (.bool D)/\G.cell? ⟨w.heap.size,1,none⟩=some (.slice ao A.length J)/\G.cell? ⟨w.heap.size+1,1,none⟩=some (.slice I B.length K):=fun G h=>
   ⟨h,(x0.below h (by omega)).c0,(x1.below h (by omega)).c0,(x0.below h (by omega)).c1,(x1.below h (by omega)).c1⟩
  have HK:=ac hK;have HA:=ac (hA.below F);have HB:=ac (hB.below F);have X2:=ac H;have aI:=ac F;clear hK hA hB x0 x1 H F p0 p1 q0 q1 PA PB
  go_region_held3(fun G=>Below (w.heap.size+2) Z G/\G.cell? ⟨w.heap.size,0,none⟩=some (.bool t)/\G.cell? ⟨w.heap.size+1,0,none⟩=some (.bool D)/\G.cell? ⟨w.heap.size,1,none⟩=some (.slice ao A.length J)/\G.cell? ⟨w.heap.size+1,1,none⟩=some (.slice I B.length K))
   (first|exact uH HK _ (Below.refl _ _).drew|exact uH HK _ (by assumption)|exact uH HK _ ((ap.setCell (by simp) _).setCell (by simp) _))
   (first|(go_at_call 297;refine(uu ao I J K A B _ ((uH HA).below ((Below.refl _ _).drew)) ((uH HB).below ((Below.refl _ _).drew)) (by omega) (by omega)).mono ?_;rintro e w3 ⟨a5,a3,L',rfl,g1,g2,g3,g4,l⟩;have a0:Below (w.heap.size+2) Z w3:=((Below.refl _ _).drew).trans (l.mono (by simp;omega));have X3:=ac ((uH X2).drew.below l (by simp;omega));have G1:=ac g1;have G2:=ac g2;have G4:=ac g4;have L4:L'.length<=35184372088832:=(by omega);have s1:=l.size;clear g1 g2 g4 g3 l)|(go_at_call 266;refine(ly _ (t != D) _ _ _ _ (uH G1) (uH G2) L4).mono ?_;rintro e w4 ⟨v,rfl,⟨n2,a2,c2,L2,rfl,i1⟩,F⟩;have ap:Below (w.heap.size+2) Z w4:=a0.trans (F.mono (by simp at s1;omega));have X4:=(uH X3).below F (by simp at s1;omega);have y0:=X4.c0;have y1:=X4.c1;have f0:=X4.free 0;have f1:=X4.free 1;have I1:=ac i1;clear i1 F X4))
  have hz:=uH ax L' (uH G4);have HI:=ac (hz▸uH I1);have HE:=ac (show cn (af (t != D) L')=cn z by rw[hz]);clear hz
  go_wp2
  refine bodyPost_ret (v:=.tuple #[.agg #[.bool n2,.slice a2 L2.length c2],C0 (cn (af (t != D) L'))]) (by simp[results,Tryz.results291,go_sem,y0,y1]) rfl ⟨.agg #[.bool n2,.slice a2 L2.length c2],?_,?_,?_⟩
  ·rw[ja,uH HE]
  ·rw[jb];exact aA.stored (uH HI) (by simp;omega) (by simp;omega) (by simp;omega) _ _
  ·exact(((uH aI).trans (ap.mono (by omega))).setCell (by simp;omega) _).setCell (by simp;omega) _
end Go.Proofs.YtcbcmlaogehimaaGreatDoor
namespace Go.Proofs.YtcbcmlaogehimaaGreatDoor
open Go.RowKit
theorem lF(w:World)(g:Nat)(a b:Int)(lo h:Nat)(l:w.heap.size=g)(t:a=(lo:Int))(D:b=(h:Int)):
  cP (w.alloc (.cells #[.int .u32 a,.int .u32 b] 84)) g [lo,h]:=by
 subst l;subst t;subst D;exact heap_alloc_new w _
theorem EK(n:Int)(h:-9223372036854775808<=n)(l:n<0):IntKind.u64.wrap (-IntKind.u64.wrap n)= -n:=by
 simp only[IntKind.wrap,IntKind.signed,IntKind.bits]
 simp
 omega
theorem pZ(m:Nat):aj [m%4294967296,m/4294967296]=m:=by simp only[aj];omega
theorem yL(n:Int)(w:World)(h0:-9223372036854775808<=n)(h1:n<=9223372036854775807):
  GF 207 #[C0 n] w fun e L=>∃v,e=.returned v/\aA w.heap.size L v n/\H8 w L:=by
 obtain⟨m,t⟩:∃m,m=n.natAbs:=⟨_,rfl⟩;have hf:bQ [m%4294967296,m/4294967296]:=by intro x hx;simp at hx;omega
 have M:=ac hf;have D:=ac t;clear hf t
 by_cases hn:n<0
 ·have hw:=EK n h0 hn
  have N:=ac hw;clear hw
  go_enter Tryz.func207,Tryz.ntmps207
  go_wp2_with fail;have t:=uH D;have G:=lF (w.alloc (.cells #[.bool false,.slice none 0 0] 33)) (w.heap.size+1) (IntKind.u64.wrap (-IntKind.u64.wrap n)%4294967296) (IntKind.u64.wrap (-IntKind.u64.wrap n)/4294967296%4294967296) (m%4294967296) (m/4294967296) (by simp) (by rw[uH N];omega) (by rw[uH N];omega);refine(qu (some ⟨w.heap.size+1,0,none⟩) 2 [m%4294967296,m/4294967296] _ (G.limbs (uH M) 2 (by simp)) (by simp)).mono ?_;rintro e L ⟨v,rfl,⟨l,h,F,rfl,H,I,g3,J,K⟩,rfl⟩;have O:=ac J;have Q:=ac H;have U:=ac I;have Z:=ac K;clear H I J K G t
  go_wp2
  refine bodyPost_ret (v:=.agg #[.bool true,.slice l F.length h]) (by simp[results,Tryz.results207,go_sem]) rfl ⟨.agg #[.bool true,.slice l F.length h],rfl,⟨true,l,h,F,rfl,uH O _ ?_,uH Z _ (.inr ⟨_,_,rfl,by omega⟩),uH Q,by simp[hn],?_⟩,?_⟩
  ·refine(lF _ (w.heap.size+1) _ _ _ _ (by simp) ?_ ?_).limbs (uH M) 2 (by simp)
   ·have t:=uH D;rw[uH N];omega
   ·have t:=uH D;rw[uH N];omega
  ·exact⟨by rw[uH U,pZ];exact uH D,by simp at g3;omega⟩
  ·exact((Below.refl _ _).alloc (Nat.le_refl _) _).alloc (by simp) _
 ·go_enter Tryz.func207,Tryz.ntmps207
  go_wp2_with fail;have t:=uH D;have G:=lF (w.alloc (.cells #[.bool false,.slice none 0 0] 33)) (w.heap.size+1) (n%4294967296) (n/4294967296) (m%4294967296) (m/4294967296) (by simp) (by omega) (by omega);refine(qu (some ⟨w.heap.size+1,0,none⟩) 2 [m%4294967296,m/4294967296] _ (G.limbs (uH M) 2 (by simp)) (by simp)).mono ?_;rintro e L ⟨v,rfl,⟨l,h,F,rfl,H,I,g3,J,K⟩,rfl⟩;have O:=ac J;have Q:=ac H;have U:=ac I;have Z:=ac K;clear H I J K G t
  go_wp2
  refine bodyPost_ret (v:=.agg #[.bool false,.slice l F.length h]) (by simp[results,Tryz.results207,go_sem]) rfl ⟨.agg #[.bool false,.slice l F.length h],rfl,⟨false,l,h,F,rfl,uH O _ ?_,uH Z _ (.inr ⟨_,_,rfl,by omega⟩),uH Q,by simp;omega,?_⟩,?_⟩
  ·refine(lF _ (w.heap.size+1) _ _ _ _ (by simp) ?_ ?_).limbs (uH M) 2 (by simp)
   ·have t:=uH D;omega
   ·have t:=uH D;omega
  ·exact⟨by rw[uH U,pZ];exact uH D,by simp at g3;omega⟩
  ·exact((Below.refl _ _).alloc (Nat.le_refl _) _).alloc (by simp) _
theorem aA.right{B:Nat}{w:World}{v:Value}{x:Int}(h:aA B w v x)(K:x.natAbs<eE):
  ∃neg ao cap L,v=.agg #[.bool neg,.slice ao L.length cap]/\ai w ao cap L/\aD neg L=true/\af neg L=x/\L.length<=512:=by
 obtain⟨neg,ao,cap,L,rfl,D,M,F,G,J,N⟩:=h;have t:L.length<=512:=(eO L D.2.1 F).1 (by omega);refine⟨neg,ao,cap,L,rfl,D,?_,?_,t⟩
 ·have H:L.length=0->neg=false:=fun e=>by
   have:L= []:=List.length_eq_zero_iff.1 e;subst this;rw[G];simp[aj]at J;simp;omega
  have I:L.length=0\/L[L.length-1]?.getD 0≠0:=by
   rcases F with h|h
   ·left;rw[h];rfl
   ·exact .inr h
  simp only[aD,Bool.and_eq_true,decide_eq_true_eq,Bool.not_eq_true',Bool.and_eq_false_iff,decide_eq_false_iff_not,Bool.or_eq_true];refine⟨⟨t,?_⟩,I⟩
  by_cases e:L.length=0
  ·exact .inr (H e)
  ·exact .inl e
 ·unfold af
  rw[G]
  by_cases l:x<0
  ·simp[l];omega
  ·simp[l];omega
theorem Jp{B l:Nat}{w:World}{v u:Value}{x y:Int}(t:aA B w v x)(D:aA l w u y)(F:x.natAbs<eE)(G:y.natAbs<eE):
  GF 295 #[v,u] w fun e h=>∃r,e=.returned (.tuple #[r,C0 (cn (x+y))])/\aA w.heap.size h r (fG (x+y))/\H8 w h:=by
 obtain⟨H,ao,I,A,rfl,J,K,L,a4⟩:=t.right F;obtain⟨M,N,O,C,rfl,Q,U,Z,b4⟩:=D.right G;have:=Jl H M ao N I O A C w J Q (by omega) (by omega)
 rwa[K,U,L,Z,Bool.and_self,ja,jb]at this
theorem df(x:Nat)(h:x<18446744073709551616):x<eE:=by
 have:(4294967296^2:Nat)<=4294967296^oD:=Nat.pow_le_pow_right (by decide) (by decide);unfold eE;omega
theorem iq(x:Int)(h:x.natAbs<eE):cn x=0:=by unfold cn;rw[if_pos h]
theorem ir(x:Int)(h:x.natAbs<eE):fG x=x:=by unfold fG;rw[if_pos h]
end Go.Proofs.YtcbcmlaogehimaaGreatDoor
