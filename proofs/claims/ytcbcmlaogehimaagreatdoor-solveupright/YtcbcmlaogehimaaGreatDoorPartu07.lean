/- Part 7 of the texts. -/
import Derived.Test.YtcbcmlaogehimaaGreatDoorPartu06
import Derived.Deep.AppendLies
import Derived.Deep.RegionLaw
set_option maxHeartbeats 4000000
set_option maxRecDepth 4000
namespace Go.Proofs.YtcbcmlaogehimaaGreatDoor
open Go.RowKit
attribute [local go_sem ↓] Go.wp_at_zero Go.wp_at_succ
theorem yM(t:Bool)(ao:GY)(F:Nat)(A:H3)(w:World)(hA:ai w ao F A)(la:A.length<=35184372088830):
  GF 166 #[.agg #[.bool t,.slice ao A.length F]] w fun e l=>∃v,e=.returned v/\aS (A.length+1) w.heap.size l v (sg t (aj A+aj A))/\H8 w l:=by
 have G:∀L:H3,aj L=aj A+aj A->af t L=sg t (aj A+aj A):=by
  intro L h;rw[fm,h]
 have HS:=ac G;clear G;generalize sg t (aj A+aj A)=z at*
 go_enter Tryz.func166,Tryz.ntmps166
 go_wp2
 refine aB (fun W=>H8 w W/\W.heap.size=w.heap.size+2/\aK W w.heap.size (.bool t) (.slice ao A.length F)/\aK W (w.heap.size+1) (.bool false) (.slice none 0 0)) ?_ ?_
 ·refine⟨((Below.refl _ _).alloc (Nat.le_refl _) _).alloc (by simp) _,by simp,(aK.new _ _ _).old _,?_⟩
  have:=aK.new (w.alloc (.cells #[.bool t,.slice ao A.length F] 33)) (.bool false) (.slice none 0 0)
  simpa using this
 rintro M ⟨H,N,Z,x2⟩;have hK:∀l,Below (w.heap.size+1) M l->Below (w.heap.size+1) M l/\l.cell? ⟨w.heap.size,0,none⟩=some (.bool t)/\l.cell? ⟨w.heap.size,1,none⟩=some (.slice ao A.length F):=fun l h=>
  ⟨h,(Z.below h (by omega)).c0,(Z.below h (by omega)).c1⟩
 have O:=ac hK;have HA:=ac (hA.below H);have X2:=ac x2;have Q:=ac H;clear hK hA Z x2 H
 go_region_held3(fun l=>Below (w.heap.size+1) M l/\l.cell? ⟨w.heap.size,0,none⟩=some (.bool t)/\l.cell? ⟨w.heap.size,1,none⟩=some (.slice ao A.length F))
  (first|exact uH O _ (Below.refl _ _).drew|exact uH O _ (by assumption)|exact uH O _ ((J.setCell (by simp) _).setCell (by simp) _))
  (first|(go_at_call 107;refine(qw ao ao F F A A _ ((uH HA).below ((Below.refl _ _).drew)) ((uH HA).below ((Below.refl _ _).drew)) la la).mono ?_;rintro e w1 ⟨ae,aa,L',rfl,g1,g2,g3,g4,D⟩;have U:Below (w.heap.size+1) M w1:=((Below.refl _ _).drew).trans (D.mono (by simp[N]));have X3:=ac ((uH X2).drew.below D (by simp[N]));have G1:=ac g1;have G2:=ac g2;have G4:=ac g4;have L4:L'.length<=35184372088832:=(by omega);have L5:L'.length<=A.length+1:=(by omega);have s1:=D.size;clear g1 g2 g4 g3 D)|(go_at_call 65;refine(dZ _ t _ _ _ _ (uH G1) (uH G2) L4).mono ?_;rintro e w2 ⟨v,rfl,⟨n2,a2,c2,L2,rfl,i1⟩,I⟩;have J:Below (w.heap.size+1) M w2:=U.trans (I.mono (by simp at s1;omega));have K:=(uH X3).below I (by simp at s1;omega);have y0:=K.c0;have y1:=K.c1;have f0:=K.free 0;have f1:=K.free 1;have I1:=ac i1;clear i1 I K))
 have hz:=uH HS L' (uH G4);have HI:=ac (hz▸uH I1);clear hz
 go_wp2
 refine bodyPost_ret (v:=.agg #[.bool n2,.slice a2 L2.length c2]) (by simp[results,Tryz.results166,go_sem,y0,y1]) rfl ⟨.agg #[.bool n2,.slice a2 L2.length c2],rfl,?_,?_⟩
 ·exact(aS.stored (uH HI) (by simp;omega) (by simp;omega) (by simp;omega) _ _).more (by have:=L5;omega)
 ·exact(((uH Q).trans (J.mono (by omega))).setCell (by simp) _).setCell (by simp) _
theorem aK.other{w:World}{b:Nat}{x y:Value}(h:aK w b x y){p:Addr}(l:b≠p.block)(u:Value):aK (w.setCell p u) b x y:=(Below.heap_setCell w p u b l).trans h
theorem Cl(h l:Nat):((l%2*4294967296+h)/2)%4294967296=((h+4294967296*l)/2^1)%4294967296:=by omega
theorem vT(J:Bool)(ao:GY)(K:Nat)(A:H3)(w:World)(hA:ai w ao K A)(la:A.length<=1073741824):
  GF 67 #[.agg #[.bool J,.slice ao A.length K]] w fun e D=>∃v,e=.returned v/\aS A.length w.heap.size D v (sg J (aj A/2))/\H8 w D:=by
 obtain⟨i0,hi,ba,bb,bc⟩:=info_parts Tryz.info84;have aI:∀(S:H3) (k H I:Nat),k<S.length->A[k]?.getD 0=H->A[k+1]?.getD 0=I->aj (S.take k)=(aj A/(4294967296^0*2^1))%4294967296^k->aj ((S.set k (((I%2*4294967296+H)/2)%4294967296)).take (k+1))=(aj A/(4294967296^0*2^1))%4294967296^(k+1):=by
  intro S k H I h1 h2 h3 h4;rw[Cl];exact tw A S hA.2.1 k 0 1 H I (by omega) h1 h2 h3 h4
 have a0:∀(S:H3),S.length=A.length->aj (S.take S.length)=(aj A/(4294967296^0*2^1))%4294967296^S.length->af J S=sg J (aj A/2):=by
  intro S h1 h2;have:=vJ A S hA.2.1 0 1 (by omega) h2;rw[fm,this]
 have aa:=ac aI;have ae:=ac a0;clear aI a0;generalize sg J (aj A/2)=z at*
 go_enter Tryz.func67,Tryz.ntmps67
 go_wp2_with(at_make;refine wpList_make_full _ rfl _ _ 31 rfl (w.heap.size+2) 84 i0 (.int .u32 0) 1 Tryz.underlying31 hi ba bb .i64 .i64 _ _ A.length rfl rfl (by omega) (by omega) (by rw[bc];omega) (by unfold maxLen;omega) (by simp) ?_;intro w1 Z l)
 have L:=cP.made Z;have M:cP w1 (w.heap.size+1+1) (List.replicate A.length 0):=by simpa using L
 clear L;have a1:H8 w ((w.alloc (.cells #[.bool J,.slice ao A.length K] 33)).alloc (.cells #[.bool false,.slice none 0 0] 33)):=((Below.refl _ _).alloc (Nat.le_refl _) _).alloc (by simp) _;have am:H8 w w1:=a1.grown l (by simp;omega) (fun k h=>by simp at h);have x0:aK w1 w.heap.size (.bool J) (.slice ao A.length K):=(l.block w.heap.size (by simp;omega) (by simp)).trans ((aK.new _ _ _).old _);have x1:aK w1 (w.heap.size+1) (.bool false) (.slice none 0 0):=by
  have h:=aK.new (w.alloc (.cells #[.bool J,.slice ao A.length K] 33)) (.bool false) (.slice none 0 0);have h':aK ((w.alloc (.cells #[.bool J,.slice ao A.length K] 33)).alloc (.cells #[.bool false,.slice none 0 0] 33)) (w.heap.size+1) (.bool false) (.slice none 0 0):=by simpa using h
  exact(l.block (w.heap.size+1) (by simp) (by simp)).trans h'
 clear Z l a1
 go_loopw[4] (fun c wr=>∃(i:Nat) (S:H3),i<=A.length/\c=.int .i64 i/\cP wr (w.heap.size+1+1) S/\aK wr w.heap.size (.bool J) (.slice ao A.length K)/\aK wr (w.heap.size+1) (.bool false) (.slice none 0 0)/\S.length=A.length/\bQ S/\H8 w wr/\Hid (aj (S.take i)=(aj A/(4294967296^0*2^1))%4294967296^i))
  (fun c _=>A.length-(intOf c).toNat)
 case atStart=>exact⟨0,List.replicate A.length 0,Nat.zero_le _,rfl,M,x0,x1,by simp,bQ.zeros _,am,by unfold Hid;simp[aj,Nat.mod_one]⟩
 case round=>
  obtain⟨i,S,br,rfl,G,z0,z1,N,hf,t,hv⟩:=hrel;have p0:=z0.c0;have p1:=z0.c1
  by_cases bi:i<A.length
  ·obtain⟨H,O⟩:∃x,A[i]?.getD 0=x:=⟨_,rfl⟩
   obtain⟨I,Q⟩:∃x,A[i+1]?.getD 0=x:=⟨_,rfl⟩;have b0:H<4294967296:=by rw[<-O];exact hA.lt _
   have bm:I<4294967296:=by rw[<-Q];exact hA.lt _
   have cA:=(hA.below t).below ((Below.refl _ _).drew);have dS:=G.cell i (by omega);have fS:=G.free i;generalize bd:S[i]?.getD 0=s at*;have a3:=ac (uH aa S i H I (by omega) O Q hv.out);have a6:=ac O;have a4:=ac Q;have HR:=ac G;have Z0:=ac z0;have Z1:=ac z1;have ap:=ac t;have CA:=ac cA;clear O Q G hv bd aa ae x0 x1 M am z0 z1 t cA hA;have be:(i:Int)<(A.length:Int):=by omega
   have bn:IntKind.i64.wrap ((i:Int)+1)=(i:Int)+1:=by
    simp only[IntKind.wrap,IntKind.signed,IntKind.bits]
    simp
    omega
   have hK:∀D,D=wr.drew\/(∃u,D=(wr.drew).setCell ⟨w.heap.size+1+1,i,none⟩ u)->(D=wr.drew\/(∃u,D=(wr.drew).setCell ⟨w.heap.size+1+1,i,none⟩ u))/\D.cell? ⟨w.heap.size,1,none⟩=some (.slice ao A.length K):=fun D h=>by
    refine⟨h,?_⟩;rcases h with rfl|⟨u,rfl⟩
    ·exact(uH Z0).drew.c1
    ·exact((uH Z0).drew.other (by simp;omega) u).c1
   have HK:=ac hK;clear hK
   go_wp2
   go_region_held3(fun D=>(D=wr.drew\/(∃u,D=(wr.drew).setCell ⟨w.heap.size+1+1,i,none⟩ u))/\D.cell? ⟨w.heap.size,1,none⟩=some (.slice ao A.length K))
    (first|exact uH HK _ (.inl rfl)|exact uH HK _ (.inr ⟨_,rfl⟩))
    (first|(go_at_call 126;have hq:=a4;clear a4;refine(iK ao K A _ (i+1) I _ (uH CA) (by omega) (by omega) hq).mono ?_;rintro e D ⟨rfl,rfl⟩;clear hq)|(go_at_call 126;refine(iK ao K A _ i H _ (uH CA) (by omega) rfl a6).mono ?_;rintro e D ⟨rfl,rfl⟩))
   have r1:=(uH HR).set i (((I%2*4294967296+H)/2)%4294967296);rw[show(((I%2*4294967296+H)/2%4294967296:Nat):Int)=((I:Int)%2*4294967296+(H:Int))/2 by omega]at r1;have U:((I%2*4294967296+H)/2)%4294967296<4294967296:=Nat.mod_lt _ (by decide);have R1:=ac r1;have HM:=ac U;clear r1 U
   go_wp2
   go_roundw
   case rel=>exact⟨i+1,S.set i (((I%2*4294967296+H)/2)%4294967296),by omega,by go_num,(uH R1:_),(uH Z0).other (by simp;omega) _,(uH Z1).other (by simp) _,by simpa using N,hf.set _ _ (uH HM),((uH ap).setCell (by simp;omega) _).drew,uH a3⟩
   case measure=>simp[intOf];omega
  ·have a7:i=A.length:=by omega
   have a5:=uH ae S N (by rw[N,<-a7];exact hv.out);have HR:=ac (G.limbs hf A.length (by omega));have HV:=ac a5;have Z1:=ac z1;have ap:=ac t;have bo:¬(i:Int)<(A.length:Int):=by omega
   have HL:=ac N;have bp:=z1.lt;have bq:=G.lt;clear a5 hv G aa ae x0 x1 M am z1 t hA z0;go_wp2_with fail;have hN:cj (w.heap.size+1+1) (some ⟨w.heap.size+1+1,0,none⟩) S:=.inr ⟨_,_,rfl,Nat.le_refl _⟩;have F:=dZ (w.heap.size+1+1) J (some ⟨w.heap.size+1+1,0,none⟩) A.length S wr (uH HR) hN (by omega);rw[uH HV,uH HL]at F;refine F.mono ?_;rintro e w2 ⟨v,rfl,⟨n2,a2,c2,L2,rfl,i1⟩,ax⟩;have X4:=(uH Z1).below ax (uH Z1).lt;have y0:=X4.c0;have y1:=X4.c1;have f0:=X4.free 0;have f1:=X4.free 1;have a9:=ac ((uH ap).trans (ax.mono (by omega)));have I1:=ac i1;clear F X4 ax i1 hN
   go_wp2
   refine bodyPost_ret (v:=.agg #[.bool n2,.slice a2 L2.length c2]) (by simp[results,Tryz.results67,go_sem,y0,y1]) rfl ⟨.agg #[.bool n2,.slice a2 L2.length c2],rfl,?_,?_⟩
   ·exact aS.stored (uH I1) (by simp) (by simp) (by omega) _ _
   ·exact((uH a9).setCell (by simp) _).setCell (by simp) _
end Go.Proofs.YtcbcmlaogehimaaGreatDoor
namespace Go.Proofs.YtcbcmlaogehimaaGreatDoor
open Go.RowKit
theorem bits_nat(a b:Int):∃y:Nat,y<4294967296/\bits BinOp.xor IntKind.u32 a b=(y:Int):=by
 refine⟨(bits BinOp.xor IntKind.u32 a b).toNat,?_,?_⟩
 all_goals
  have h:0<=bits BinOp.xor IntKind.u32 a b/\bits BinOp.xor IntKind.u32 a b<4294967296:=by
   simp only[bits,IntKind.wrap,IntKind.signed,IntKind.bits]
   simp
   omega
  omega
theorem Ni{w:World}{l g n c:Nat}{S:H3}(h:w.ownsRow l 84 1 (.slice (some ⟨g,0,none⟩) n c) n (S.map eM))(D:bQ S):ai w (some ⟨g,0,none⟩) c S/\S.length=n/\l<=g/\g<w.heap.size:=by
 obtain⟨ao,cap,t,F,H,G⟩:=jG h D;simp only[Value.slice.injEq]at t;obtain⟨rfl,_,rfl⟩:=t;exact⟨F,G,h.lt g rfl⟩
def qD(v:Nat)(m:Int):Nat:=if 0<=m then v*2^m.toNat else v/2^(-m).toNat
theorem p5(neg:Bool)(L:H3)(n:Int):sM neg L n=sg neg (qD (aj L) n):=rfl
theorem qE(m:Int):qD 0 m=0:=by unfold qD;split<;>simp
theorem Jq(v:Nat):qD v 0=v:=by unfold qD;simp
theorem EN(v:Nat)(m:Int)(h:32<=m):qD (4294967296*v) (m-32)=qD v m:=by
 unfold qD;rw[if_pos (by omega),if_pos (by omega),show m.toNat=32+(m-32).toNat by omega,Nat.pow_add,<-Nat.mul_assoc,Nat.mul_comm v,show(2:Nat)^32=4294967296 from rfl]
theorem Jr(v:Nat)(m:Int)(h:1<=m):qD (v+v) (m-1)=qD v m:=by
 unfold qD;rw[if_pos (by omega),if_pos (by omega),show m.toNat=1+(m-1).toNat by omega,Nat.pow_add,<-Nat.mul_assoc,show v*2^1=v+v by omega]
theorem EO(v:Nat)(m:Int)(h:m<=-32):qD (v/4294967296) (m+32)=qD v m:=by
 unfold qD;rw[if_neg (show¬0<=m by omega),show(-m).toNat=32+(-(m+32)).toNat by omega,Nat.pow_add,<-Nat.div_div_eq_div_mul,show(2:Nat)^32=4294967296 from rfl]
 by_cases l:0<=m+32
 ·rw[if_pos l,show(m+32).toNat=0 by omega,show(-(m+32)).toNat=0 by omega];simp
 ·rw[if_neg l]
theorem Js(v:Nat)(m:Int)(h:m<=-1):qD (v/2) (m+1)=qD v m:=by
 unfold qD;rw[if_neg (show¬0<=m by omega),show(-m).toNat=1+(-(m+1)).toNat by omega,Nat.pow_add,<-Nat.div_div_eq_div_mul,show(2:Nat)^1=2 from rfl]
 by_cases l:0<=m+1
 ·rw[if_pos l,show(m+1).toNat=0 by omega,show(-(m+1)).toNat=0 by omega];simp
 ·rw[if_neg l]
theorem Jt(h:Bool)(v:Nat)(m:Int):sg (decide (sg h v<0)) (qD v m)=sg h (qD v m):=by
 by_cases l:v=0
 ·subst l;rw[qE];unfold sg;simp
 ·have:decide (sg h v<0)=h:=by unfold sg;cases h<;>simp<;>omega
  rw[this]
theorem lH(h:Bool)(v:Nat):(sg h v).natAbs=v:=by unfold sg;cases h<;>simp
def Cm(w wr:World)(z m:Int)(nn:Bool)(a:GY)(c:Nat)(L:H3):Prop:=
 aK wr w.heap.size (.bool nn) (.slice a L.length c)/\aK wr (w.heap.size+1) (.bool false) (.slice none 0 0)/\ai wr a c L/\cL L/\(nn=true->L≠ [])/\L.length+m.toNat<=20000/\sg nn (qD (aj L) m)=z/\H8 w wr
theorem aK.put{w:World}{b:Nat}{x y:Value}(h:aK w b x y)(u u':Value):aK ((w.setCell ⟨b,0,none⟩ u).setCell ⟨b,1,none⟩ u') b u u':=by
 have l:=heap_setCell_same w b 0 _ _ u h;have t:=heap_setCell_same (w.setCell ⟨b,0,none⟩ u) b 1 _ _ u' l;unfold aK;rw[t]
 simp
theorem Cm.step{w l:World}{z m x:Int}{J L G:Bool}{N D:GY}{O Q H v M B:Nat}{h:H3}
  (K:aK l w.heap.size (.bool L) (.slice N O Q)) (U:aK l (w.heap.size+1) (.bool false) (.slice none 0 0))
  (i:ai l D H h/\cj B D h/\cL h/\G=decide (x<0)/\aj h=x.natAbs/\h.length<=M) (Z:x=sg J v) (hz:sg J (qD v m)=z) (hl:M+m.toNat<=20000) (t:H8 w l):
  Cm w ((l.setCell ⟨w.heap.size,0,none⟩ (.bool G)).setCell ⟨w.heap.size,1,none⟩ (.slice D h.length H)) z m G D H h:=by
 obtain⟨i1,i2,i3,I,F,i6⟩:=i;subst Z;rw[lH]at F;refine⟨K.put _ _,(U.other (by simp) _).other (by simp) _,i1.box K _ _,i3,?_,by omega,?_,(t.setCell (by simp) _).setCell (by simp) _⟩
 ·rintro e rfl
  rw[e]at I
  simp[aj]at F
  have:=of_decide_eq_true I.symm;rw[<-F]at this;unfold sg at this
  simp at this
 ·rw[I,F,Jt];exact hz
theorem Cm.last{w wr:World}{z m:Int}{l:Bool}{a:GY}{c:Nat}{L:H3}(h:Cm w wr z m l a c L)(D:m=0\/L= []):aA 0 wr (.agg #[.bool l,.slice a L.length c]) z:=by
 obtain⟨I,J,G,H,K,M,t,N⟩:=h
 by_cases F:L= []
 ·subst F
  have:l=false:=by cases l<;>simp_all
  subst this;simp only[aj,qE]at t;rw[<-t];exact aA.zero _ _ _ _
 ·rcases D with rfl|D
  ·rw[Jq]at t
   rw[<-t,<-fm];exact aA.mk G (cj.zero G) H F (by omega)
  ·exact absurd D F
theorem ai.drop1{w:World}{b l c:Nat}{L:H3}(h:ai w (some ⟨b,l,none⟩) c L):ai w (some ⟨b,l+1,none⟩) (c-1) (L.drop 1):=by
 refine⟨by have:=h.1;simp;omega,fun x F=>h.2.1 x (List.mem_of_mem_drop F),?_⟩;rcases h.2.2 with H|⟨K,t,D,I,J⟩
 ·left;simp[H]
 ·simp only[Option.some.injEq,Addr.mk.injEq,and_true]at D
  obtain⟨rfl,rfl⟩:=D;refine .inr ⟨b,l+1,rfl,I,fun i G=>?_⟩
  simp at G
  have:=J (i+1) (by omega);rw[show l+1+i=l+(i+1) by omega,this,List.getElem?_drop,Nat.add_comm 1 i]
theorem tK(neg:Bool)(b l c:Nat)(L:H3)(w:World)(h:ai w (some ⟨b,l,none⟩) c L)(H:L.length<=30000):
  GF 65 #[.bool neg,.slice (some ⟨b,l+1,none⟩) (L.length-1) (c-1)] w fun e t=>∃v,e=.returned v/\aS L.length 0 t v (sg neg (aj L/4294967296))/\H8 w t:=by
 have:=dZ 0 neg _ _ (L.drop 1) w h.drop1 (cj.zero h.drop1) (by simp;omega);rw[fm,vI L h.2.1 1]at this;simp only[List.length_drop,Nat.pow_one]at this;exact this.mono fun e t ⟨v,D,F,G⟩=>⟨v,D,F.more (by omega),G⟩
theorem qG(neg:Bool)(b l:Nat)(L:H3)(w:World)(h:ai w (some ⟨b,l,none⟩) 1 L):
  GF 65 #[.bool neg,.slice (some ⟨b,l,none⟩) 0 0] w fun e t=>∃v,e=.returned v/\aS L.length 0 t v (sg neg (aj L/4294967296))/\H8 w t:=by
 have:=dZ 0 neg (some ⟨b,l,none⟩) 0 [] w (ai.nil _ _ _) (.inl rfl) (by simp);have H:aj L/4294967296=0:=by
  have D:=gK L h.2.1;have F:=Nat.pow_le_pow_right (n:=4294967296) (by decide) h.1;exact Nat.div_eq_of_lt (by omega)
 rw[H];rw[fm]at this;exact this.mono fun e t ⟨v,D,F,G⟩=>⟨v,D,F.more (by simp),G⟩
theorem qH(L:H3):aj (0::L)=4294967296*aj L:=by simp[aj]
attribute [local go_sem ↓] Go.wp_at_zero Go.wp_at_succ
theorem Ju(W:World)(h g:Nat)(l:W.heap.size=g)(t:h<=g):((W.alloc (.cells #[.int .u32 0] 84)).drew).ownsRow h 84 1 (.slice (some ⟨g,0,none⟩) 1 1) 1 [.int .u32 0]:=by
 subst l;exact⟨by simp,.inr ⟨W.heap.size,1,#[.int .u32 0],rfl,t,heap_alloc_new W _,Nat.le_refl _,by simp[maxLen],by simp,by simp⟩⟩
theorem EP(neg:Bool)(g n c l:Nat)(S:H3)(w:World)(h:w.ownsRow l 84 1 (.slice (some ⟨g,0,none⟩) n c) n (S.map eM))(D:bQ S)(I:n<=35184372088832):
  GF 65 #[.bool neg,.slice (some ⟨g,0,none⟩) n c] w fun e t=>∃v,e=.returned v/\aS n l t v (af neg S)/\H8 w t:=by
 obtain⟨F,G,H,J⟩:=Ni h D;have:=dZ l neg (some ⟨g,0,none⟩) c S w F (.inr ⟨g,0,rfl,H⟩) (by omega);rw[G]at this;exact this
theorem tM{L:H3}(h:aj L≠0):L≠ []:=by
 rintro rfl
 simp[aj]at h
theorem sN(na:Bool)(ao:GY)(ca:Nat)(A:H3)(n:Int)(w:World)(hA:ai w ao ca A)(h0:A≠ [])(hc:cL A)(la:A.length<=3000)(hn:-16384<=n/\n<=16384):
  GF 111 #[.agg #[.bool na,.slice ao A.length ca],C0 n] w fun e w'=>∃v,e=.returned v/\aA 0 w' v (sM na A n)/\H8 w w':=by
 obtain⟨i0,hi,be,bi,bm⟩:=info_parts Tryz.info84;have HZ:=ac (p5 na A n).symm;generalize sM na A n=z at*;have a5:=ac h0;have HC:=ac hc;clear h0 hc
 go_enter Tryz.func111,Tryz.ntmps111
 go_wp2
 go_loopw[1] (fun i wr=>∃(m:Int) (J:Bool) (a:GY) (c:Nat) (L:H3),i=.int .i64 m/\-16384<=m/\m<=16384/\L≠ []/\Hid (Cm w wr z m J a c L)) (fun i _=>(intOf i).toNat)
 case atStart=>
  refine⟨n,na,ao,ca,A,rfl,hn.1,hn.2,uH a5,(aK.new _ _ _).old _,?_,hA.below (((Below.refl _ _).alloc (Nat.le_refl _) _).alloc (by simp) _),uH HC,fun _=>uH a5,by omega,uH HZ,((Below.refl _ _).alloc (Nat.le_refl _) _).alloc (by simp) _⟩;have:=aK.new (w.alloc (.cells #[.bool na,.slice ao A.length ca] 33)) (.bool false) (.slice none 0 0)
  simpa using this
 case round=>
  obtain⟨m,J,a,c,L,rfl,ap,ax,ae,O⟩:=hrel;clear HZ HC a5 hA la hn;obtain⟨I,K,Q,hC,hS,t,hz,h⟩:=uH O;have hp:0<L.length:=List.length_pos_iff.2 ae;have aI:(0:Int)<(L.length:Int):=by omega
  have p0:=I.c0;have p1:=I.c1;have HV:Hid (aj L≠0):=fun e=>ae ((aY L hC).1 e)
  by_cases hg:32<=m
  ·obtain⟨b,U,rfl,hb,a3⟩:=Q.ne hp
   have G:=hz;rw[<-EN _ _ hg]at G;have aa:=ac G;have br:=I.lt;have bo:=K.lt;have hN:∀j u,(L.map eM)[j]? =some u->((wr.alloc (.cells #[.int .u32 0] 84)).drew).cell? ((⟨b,U,none⟩:Addr).add j)=some u:=by
    intro j u hu;rw[List.getElem?_map]at hu;have hj:j<L.length:=by
     rcases Nat.lt_or_ge j L.length with e|e
     ·exact e
     ·rw[List.getElem?_eq_none e]at hu;simp at hu
    have e3:(⟨b,U,none⟩:Addr).add j=⟨b,U+j,none⟩:=by simp[Addr.add]
    rw[e3,((((Below.refl wr.heap.size wr).alloc (Nat.le_refl _) _).drew).cell (p:=⟨b,U+j,none⟩) hb),a3 j hj];rw[List.getElem?_eq_getElem hj]at hu⊢
    simpa[eM]using hu
   have a4:∀u∈L.map eM,u.oneCell'=true:=by
    intro u hu;obtain⟨y,_,rfl⟩:=List.mem_map.1 hu;rfl
   have HF:Hid (bQ (0::L)):=by
    intro y hy;rcases List.mem_cons.1 hy with rfl|hy
    ·decide
    ·exact Q.2.1 y hy
   have HN:=ac hN;have a6:=ac a4;have H:=ac h;have X0:=ac I;have X1:=ac K;have D:=ac t;clear hz G hN a4 I K Q hC hS h O a3;have ll:L.length<=20000:=by have:=uH D;omega
   clear t
   go_wp2
   go_region_law (first|(refine step_append_lies _ (by rfl) _ _ _ (by rfl) wr.heap.size 84 i0 (.int .u32 0) 1 4 Tryz.underlying31 hi be bi bm rfl (by omega) (.slice (some ⟨wr.heap.size,0,none⟩) 1 1) 1 [.int .u32 0] (by rfl) (Ju wr wr.heap.size wr.heap.size rfl (Nat.le_refl _)) ⟨b,U,none⟩ L.length c (L.map eM) (by rfl) (by simp) (uH HN) (uH a6) hp (by unfold maxLen;omega) (by omega) (by simp) (wr.heap.size+1) (by simp) ?_;intro g cp w1 a1 Z bn bw;have y0:aK w1 w.heap.size (.bool J) (.slice (some ⟨b,U,none⟩) L.length c):=(Z.block w.heap.size (by simp;omega) (by simp[Value.ownBlock];omega)).trans (((uH X0).old _).drew);have y1:aK w1 (w.heap.size+1) (.bool false) (.slice none 0 0):=(Z.block (w.heap.size+1) (by simp;omega) (by simp[Value.ownBlock];omega)).trans (((uH X1).old _).drew);have q0:=y0.c0;have q1:=y0.c1;have Y0:=ac y0;have Y1:=ac y1;have B1:=ac ((((uH H).alloc (by omega) _).drew).grown Z (by simp;omega) (fun k hk=>by simp[Value.ownBlock]at hk;omega));have a7:=ac a1;clear a1 Z bn y0 y1)|(go_simp;go_at_call 65;refine(EP J g (1+L.length) cp _ (0::L) _ (uH a7) (uH HF) (by omega)).mono ?_;rintro e w2 ⟨v,rfl,⟨n2,a2,c2,L2,rfl,i1⟩,l⟩;have I1:=ac i1;have F:=(uH Y0).below l (uH Y0).lt;have Z1:=(uH Y1).below l (uH Y1).lt;have r0:=F.c0;have r1:=F.c1;have f0:=F.free 0;have f1:=F.free 1;have B2:=ac ((uH B1).trans (l.mono (uH B1).size));have M:=ac F;have N:=ac Z1;clear i1 l F Z1))
   all_goals
    go_wp2
    go_roundw
    case rel=>
     refine⟨m-32,n2,a2,c2,L2,by go_num,by omega,by omega,tM ?_,Cm.step (v:=4294967296*aj L) (uH M) (uH N) (uH I1) (by rw[fm,qH]) (uH aa) (by have:=uH D;omega) (uH B2)⟩;have h5:=(uH I1).2.2.2.2.1;rw[aU,qH]at h5;have:=uH HV;omega
    case measure=>simp[intOf];omega
  ·have HI:=O
   have bb:¬(32:Int)<=m:=by omega
   clear O I K Q hC hS t hz h
   go_wp2
   go_loopw[1] (fun i wr=>∃(m:Int) (J:Bool) (a:GY) (c:Nat) (L:H3),i=.int .i64 m/\-16384<=m/\m<=31/\L≠ []/\Hid (Cm w wr z m J a c L)) (fun i _=>(intOf i).toNat)
   case atStart=>exact⟨m,J,a,c,L,rfl,by omega,by omega,ae,HI⟩
   case round=>
    clear HI HV p0 p1 aI hp ae bb hg ap ax;obtain⟨m,J,a,c,L,rfl,ap,ax,ae,O⟩:=hrel;obtain⟨I,K,Q,hC,hS,t,hz,h⟩:=uH O;have hp:0<L.length:=List.length_pos_iff.2 ae;have aI:(0:Int)<(L.length:Int):=by omega
    have p0:=I.c0;have p1:=I.c1
    by_cases hg:0<m
    ·have HV:Hid (aj L≠0):=fun e=>ae ((aY L hC).1 e)
     have G:=hz;rw[<-Jr _ _ (by omega)]at G;have aa:=ac G;have H:=ac h;have X0:=ac I;have X1:=ac K;have D:=ac t;have am:=ac Q;clear hz G I K Q hC hS h O t;go_wp2_with fail;refine(yM J a c L wr (uH am) (by have:=uH D;omega)).mono ?_;rintro e w2 ⟨v,rfl,⟨n2,a2,c2,L2,rfl,i1⟩,l⟩;have I1:=ac i1;have F:=(uH X0).below l (uH X0).lt;have Z1:=(uH X1).below l (uH X1).lt;have r0:=F.c0;have r1:=F.c1;have f0:=F.free 0;have f1:=F.free 1;have B2:=ac ((uH H).trans (l.mono (uH H).size));have M:=ac F;have N:=ac Z1;clear i1 l F Z1
     go_wp2
     go_roundw
     case rel=>
      refine⟨m-1,n2,a2,c2,L2,by go_num,by omega,by omega,tM ?_,Cm.step (v:=aj L+aj L) (uH M) (uH N) (uH I1) rfl (uH aa) (by have:=uH D;omega) (uH B2)⟩;have h5:=(uH I1).2.2.2.2.1;rw[lH]at h5;have:=uH HV;omega
     case measure=>simp[intOf];omega
    ·have HI:=O
     clear O I K Q hC hS t hz h
     go_wp2
     go_loopw[1] (fun i wr=>∃(m:Int) (J:Bool) (a:GY) (c:Nat) (L:H3),i=.int .i64 m/\-16384<=m/\m<=0/\Hid (Cm w wr z m J a c L)) (fun i _=>(-(intOf i)).toNat)
     case atStart=>exact⟨m,J,a,c,L,rfl,by omega,by omega,HI⟩
     case round=>
      clear HI p0 p1 aI hp ae hg ap ax;obtain⟨m,J,a,c,L,rfl,ap,ax,O⟩:=hrel;obtain⟨I,K,Q,hC,hS,t,hz,h⟩:=uH O;have p0:=I.c0;have p1:=I.c1
      by_cases a9:m<=-32/\0<L.length
      ·obtain⟨hg,hp⟩:=a9
       ·have aI:(0:Int)<(L.length:Int):=by omega
        have bp:=Q.1;obtain⟨b,U,rfl,hb,a3⟩:=Q.ne hp;have G:=hz;rw[<-EO _ _ hg]at G;have aa:=ac G;have H:=ac h;have X0:=ac I;have X1:=ac K;have D:=ac t;have am:=ac (Q.below ((Below.refl _ _).drew));clear hz G I K Q hC hS h O t a3
        go_wp2
        have bs:(1:Int)<=(L.length:Int):=by omega
        have bt:(L.length:Int)<=(c:Int):=by omega
        have bv:(1:Int)<=(c:Int):=by omega
        by_cases bc:c=1
        ·subst bc
         go_region_with (go_at_call 65;refine(qG J b U L _ (uH am)).mono ?_;rintro e w2 ⟨v,rfl,⟨n2,a2,c2,L2,rfl,i1⟩,l⟩;have I1:=ac i1;have F:=(uH X0).drew.below l (uH X0).drew.lt;have Z1:=(uH X1).drew.below l (uH X1).drew.lt;have r0:=F.c0;have r1:=F.c1;have f0:=F.free 0;have f1:=F.free 1;have B2:=ac (((uH H).drew).trans (l.mono ((uH H).drew).size));have M:=ac F;have N:=ac Z1;clear i1 l F Z1)
         all_goals
          go_wp2
          go_roundw
          case rel=>exact⟨m+32,n2,a2,c2,L2,by go_num,by omega,by omega,Cm.step (v:=aj L/4294967296) (uH M) (uH N) (uH I1) rfl (uH aa) (by have:=uH D;omega) (uH B2)⟩
          case measure=>simp[intOf];omega
        ·have bq:¬(c:Int)=1:=by omega
         go_region_with (go_at_call 65;refine(tK J b U c L _ (uH am) (by have:=uH D;omega)).mono ?_;rintro e w2 ⟨v,rfl,⟨n2,a2,c2,L2,rfl,i1⟩,l⟩;have I1:=ac i1;have F:=(uH X0).drew.below l (uH X0).drew.lt;have Z1:=(uH X1).drew.below l (uH X1).drew.lt;have r0:=F.c0;have r1:=F.c1;have f0:=F.free 0;have f1:=F.free 1;have B2:=ac (((uH H).drew).trans (l.mono ((uH H).drew).size));have M:=ac F;have N:=ac Z1;clear i1 l F Z1)
         all_goals
          go_wp2
          go_roundw
          case rel=>exact⟨m+32,n2,a2,c2,L2,by go_num,by omega,by omega,Cm.step (v:=aj L/4294967296) (uH M) (uH N) (uH I1) rfl (uH aa) (by have:=uH D;omega) (uH B2)⟩
          case measure=>simp[intOf];omega
      ·have HI:=O
       rcases(show(m<=-32/\¬(0:Int)<(L.length:Int))\/¬m<=-32 by omega)with⟨hg,hp⟩|hg
       all_goals
        clear O I K Q hC hS t hz h a9
        go_wp2
        go_loopw[1] (fun i wr=>∃(m:Int) (J:Bool) (a:GY) (c:Nat) (L:H3),i=.int .i64 m/\-16384<=m/\m<=0/\Hid (Cm w wr z m J a c L)) (fun i _=>(-(intOf i)).toNat)
        case atStart=>exact⟨m,J,a,c,L,rfl,by omega,by omega,HI⟩
        case round=>
         clear HI p0 p1 hg ap ax;obtain⟨m,J,a,c,L,rfl,ap,ax,O⟩:=hrel;obtain⟨I,K,Q,hC,hS,t,hz,h⟩:=uH O;have p0:=I.c0;have p1:=I.c1
         by_cases ba:m<0/\0<L.length
         ·obtain⟨hg,hp⟩:=ba
          have aI:(0:Int)<(L.length:Int):=by omega
          have G:=hz;rw[<-Js _ _ (by omega)]at G;have aa:=ac G;have H:=ac h;have X0:=ac I;have X1:=ac K;have D:=ac t;have am:=ac Q;clear hz G I K Q hC hS h O t;go_wp2_with fail;refine(vT J a c L wr (uH am) (by have:=uH D;omega)).mono ?_;rintro e w2 ⟨v,rfl,⟨n2,a2,c2,L2,rfl,i1⟩,l⟩;have I1:=ac i1;have F:=(uH X0).below l (uH X0).lt;have Z1:=(uH X1).below l (uH X1).lt;have r0:=F.c0;have r1:=F.c1;have f0:=F.free 0;have f1:=F.free 1;have B2:=ac ((uH H).trans (l.mono (uH H).size));have M:=ac F;have N:=ac Z1;clear i1 l F Z1
          go_wp2
          go_roundw
          case rel=>exact⟨m+1,n2,a2,c2,L2,by go_num,by omega,by omega,Cm.step (v:=aj L/2) (uH M) (uH N) (uH I1) rfl (uH aa) (by have:=uH D;omega) (uH B2)⟩
          case measure=>simp[intOf];omega
         ·have a0:=O.out.last (by rcases Nat.eq_zero_or_pos L.length with e|e;(right;exact List.length_eq_zero_iff.1 e);(left;omega))
          have bd:=ac a0;have X1:=ac K;have H:=ac h;have am:=ac Q;have y0:=K.c0;have y1:=K.c1;have f0:=K.free 0;have f1:=K.free 1;rcases(show(m<0/\¬(0:Int)<(L.length:Int))\/¬m<0 by omega)with⟨hg,hp⟩|hg
          all_goals
           clear O I K Q hC hS t hz h ba a0
           go_wp2
           refine bodyPost_ret (v:=.agg #[.bool J,.slice a L.length c]) (by simp[results,Tryz.results111,go_sem,y0,y1]) rfl ⟨.agg #[.bool J,.slice a L.length c],rfl,?_,?_⟩
           ·obtain⟨neg,a',c',L',e1,e2,e3⟩:=uH bd
            refine⟨neg,a',c',L',e1,e2.box (uH X1) _ _,e3⟩
           ·exact((uH H).setCell (by simp) _).setCell (by simp) _
end Go.Proofs.YtcbcmlaogehimaaGreatDoor
namespace Go.Proofs.YtcbcmlaogehimaaGreatDoor
open Go.RowKit
theorem Cn{B:Nat}{w:World}{neg:Bool}{ao:GY}{cap:Nat}{L:H3}(h:ai w ao cap L)(t:aD neg L=true)(D:cj B ao L):aA B w (.agg #[.bool neg,.slice ao L.length cap]) (af neg L):=by
 have F:=aG t
 by_cases l:L= []
 ·subst l
  have:neg=false:=by cases neg<;>simp_all
  subst this;exact aA.zero _ _ _ _
 ·exact aA.mk h D F.2.1 l (by omega)
end Go.Proofs.YtcbcmlaogehimaaGreatDoor
