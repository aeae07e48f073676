/- Part 7 of the texts. -/
import Derived.Test.YtcbcmlaogehimaaGreatDoorPartr06
import Derived.Deep.AppendLies
import Derived.Deep.RegionLaw
set_option maxHeartbeats 4000000
set_option maxRecDepth 4000
namespace Go.Proofs.YtcbcmlaogehimaaGreatDoor
open Go.RowKit
attribute [local go_sem ↓] Go.wp_at_zero Go.wp_at_succ
theorem vg(u:Bool)(F:Option Addr)(G:Nat)(A:List Nat)(w:World)(hA:ag w F G A)(la:A.length≤35184372088830):
  Calls Tryz.prog 166 #[.agg #[.bool u,.slice F A.length G]] w fun e d=>∃v,e=.returned v∧aJ (A.length+1) w.heap.size d v (sg u (ai A+ai A))∧Below w.heap.size w d:=by
 have H:∀L:List Nat,ai L=ai A+ai A→af u L=sg u (ai A+ai A):=by
  intro L h;rw[dH,h]
 have HS:=ac H
 clear H
 generalize sg u (ai A+ai A)=z at*
 go_enter Tryz.func166,Tryz.ntmps166
 go_wp2
 refine al (fun W=>Below w.heap.size w W∧W.heap.size=w.heap.size+2∧aA W w.heap.size (.bool u) (.slice F A.length G)∧aA W (w.heap.size+1) (.bool false) (.slice none 0 0)) ?_ ?_
 ·refine⟨((Below.refl _ _).alloc (Nat.le_refl _) _).alloc (by simp) _,by simp,(aA.new _ _ _).old _,?_⟩
  have:=aA.new (w.alloc (.cells #[.bool u,.slice F A.length G] 33)) (.bool false) (.slice none 0 0)
  simpa using this
 rintro O ⟨I,Q,Z,x2⟩
 have hK:∀d,Below (w.heap.size+1) O d→Below (w.heap.size+1) O d∧d.cell? ⟨w.heap.size,0,none⟩=some (.bool u)∧d.cell? ⟨w.heap.size,1,none⟩=some (.slice F A.length G):=fun d h=>
  ⟨h,(Z.below h (by omega)).c0,(Z.below h (by omega)).c1⟩
 have U:=ac hK
 have HA:=ac (hA.below I)
 have X2:=ac x2
 have X:=ac I
 clear hK hA Z x2 I
 go_region_held3(fun d=>Below (w.heap.size+1) O d∧d.cell? ⟨w.heap.size,0,none⟩=some (.bool u)∧d.cell? ⟨w.heap.size,1,none⟩=some (.slice F A.length G))
  (first|exact uH U _ (Below.refl _ _).drew|exact uH U _ (by assumption)|exact uH U _ ((K.setCell (by simp) _).setCell (by simp) _))
  (first|(go_at_call 107;refine(nF F F G G A A _ ((uH HA).below ((Below.refl _ _).drew)) ((uH HA).below ((Below.refl _ _).drew)) la la).mono ?_;rintro e w1 ⟨ae,aa,L',rfl,g1,g2,g3,g4,D⟩;have Y:Below (w.heap.size+1) O w1:=((Below.refl _ _).drew).trans (D.mono (by simp[Q]));have X3:=ac ((uH X2).drew.below D (by simp[Q]));have G1:=ac g1;have G2:=ac g2;have G4:=ac g4;have L4:L'.length≤35184372088832:=(by omega);have L5:L'.length≤A.length+1:=(by omega);have s1:=D.size;clear g1 g2 g4 g3 D)|(go_at_call 65;refine(cW _ u _ _ _ _ (uH G1) (uH G2) L4).mono ?_;rintro e w2 ⟨v,rfl,⟨n2,a2,c2,L2,rfl,i1⟩,J⟩;have K:Below (w.heap.size+1) O w2:=Y.trans (J.mono (by simp at s1;omega));have N:=(uH X3).below J (by simp at s1;omega);have y0:=N.c0;have y1:=N.c1;have f0:=N.free 0;have f1:=N.free 1;have I1:=ac i1;clear i1 J N))
 have hz:=uH HS L' (uH G4)
 have HI:=ac (hz▸uH I1)
 clear hz
 go_wp2
 refine bodyPost_ret (v:=.agg #[.bool n2,.slice a2 L2.length c2]) (by simp[results,Tryz.results166,go_sem,y0,y1]) rfl ⟨.agg #[.bool n2,.slice a2 L2.length c2],rfl,?_,?_⟩
 ·exact(aJ.stored (uH HI) (by simp;omega) (by simp;omega) (by simp;omega) _ _).more (by have:=L5;omega)
 ·exact(((uH X).trans (K.mono (by omega))).setCell (by simp) _).setCell (by simp) _
theorem aA.other{w:World}{b:Nat}{x y:Value}(h:aA w b x y){p:Addr}(d:b≠p.block)(u:Value):aA (w.setCell p u) b x y:=(Below.heap_setCell w p u b d).trans h
theorem yq(d h:Nat):((h%2*4294967296+d)/2)%4294967296=((d+4294967296*h)/2^1)%4294967296:=by omega
theorem sG(K:Bool)(L:Option Addr)(N:Nat)(A:List Nat)(w:World)(hA:ag w L N A)(la:A.length≤1073741824):
  Calls Tryz.prog 67 #[.agg #[.bool K,.slice L A.length N]] w fun e F=>∃v,e=.returned v∧aJ A.length w.heap.size F v (sg K (ai A/2))∧Below w.heap.size w F:=by
 obtain⟨i0,hi,a7,a9,ba⟩:=info_parts Tryz.info84
 have ax:∀(S:List Nat) (k I J:Nat),k<S.length→A[k]?.getD 0=I→A[k+1]?.getD 0=J→ai (S.take k)=(ai A/(4294967296^0*2^1))%4294967296^k→ai ((S.set k (((J%2*4294967296+I)/2)%4294967296)).take (k+1))=(ai A/(4294967296^0*2^1))%4294967296^(k+1):=by
  intro S k I J h1 h2 h3 h4
  rw[yq]
  exact pW A S hA.2.1 k 0 1 I J (by omega) h1 h2 h3 h4
 have az:∀(S:List Nat),S.length=A.length→ai (S.take S.length)=(ai A/(4294967296^0*2^1))%4294967296^S.length→af K S=sg K (ai A/2):=by
  intro S h1 h2
  have:=sj A S hA.2.1 0 1 (by omega) h2
  rw[dH,this]
 have ae:=ac ax
 have ah:=ac az
 clear ax az
 generalize sg K (ai A/2)=z at*
 go_enter Tryz.func67,Tryz.ntmps67
 go_wp2_with(at_make;refine wpList_make_full _ rfl _ _ 31 rfl (w.heap.size+2) 84 i0 (.int .u32 0) 1 Tryz.underlying31 hi a7 a9 .i64 .i64 _ _ A.length rfl rfl (by omega) (by omega) (by rw[ba];omega) (by unfold maxLen;omega) (by simp) ?_;intro w1 aa d)
 have O:=bS.made aa
 have Q:bS w1 (w.heap.size+1+1) (List.replicate A.length 0):=by simpa using O
 clear O
 have aI:Below w.heap.size w ((w.alloc (.cells #[.bool K,.slice L A.length N] 33)).alloc (.cells #[.bool false,.slice none 0 0] 33)):=((Below.refl _ _).alloc (Nat.le_refl _) _).alloc (by simp) _
 have am:Below w.heap.size w w1:=aI.grown d (by simp;omega) (fun k h=>by simp at h)
 have x0:aA w1 w.heap.size (.bool K) (.slice L A.length N):=(d.block w.heap.size (by simp;omega) (by simp)).trans ((aA.new _ _ _).old _)
 have x1:aA w1 (w.heap.size+1) (.bool false) (.slice none 0 0):=by
  have h:=aA.new (w.alloc (.cells #[.bool K,.slice L A.length N] 33)) (.bool false) (.slice none 0 0)
  have h':aA ((w.alloc (.cells #[.bool K,.slice L A.length N] 33)).alloc (.cells #[.bool false,.slice none 0 0] 33)) (w.heap.size+1) (.bool false) (.slice none 0 0):=by simpa using h
  exact(d.block (w.heap.size+1) (by simp) (by simp)).trans h'
 clear aa d aI
 go_loopw[4] (fun c wr=>∃(i:Nat) (S:List Nat),i≤A.length∧c=.int .i64 i∧bS wr (w.heap.size+1+1) S∧aA wr w.heap.size (.bool K) (.slice L A.length N)∧aA wr (w.heap.size+1) (.bool false) (.slice none 0 0)∧S.length=A.length∧bh S∧Below w.heap.size w wr∧Hid (ai (S.take i)=(ai A/(4294967296^0*2^1))%4294967296^i))
  (fun c _=>A.length-(intOf c).toNat)
 case atStart=>exact⟨0,List.replicate A.length 0,Nat.zero_le _,rfl,Q,x0,x1,by simp,bh.zeros _,am,by unfold Hid;simp[ai,Nat.mod_one]⟩
 case round=>
  obtain⟨i,S,bq,rfl,H,z0,z1,U,hf,D,hv⟩:=hrel
  have p0:=z0.c0;have p1:=z0.c1
  by_cases be:i<A.length
  ·obtain⟨I,X⟩:∃x,A[i]?.getD 0=x:=⟨_,rfl⟩
   obtain⟨J,Y⟩:∃x,A[i+1]?.getD 0=x:=⟨_,rfl⟩
   have b0:I<4294967296:=by rw[←X];exact hA.lt _
   have bg:J<4294967296:=by rw[←Y];exact hA.lt _
   have cA:=(hA.below D).below ((Below.refl _ _).drew)
   have dS:=H.cell i (by omega)
   have fS:=H.free i
   generalize bb:S[i]?.getD 0=s at*
   have a0:=ac (uH ae S i I J (by omega) X Y hv.out)
   have a4:=ac X
   have a1:=ac Y
   have HR:=ac H;have Z0:=ac z0;have Z1:=ac z1;have an:=ac D;have CA:=ac cA
   clear X Y H hv bb ae ah x0 x1 Q am z0 z1 D cA hA
   have bd:(i:Int)<(A.length:Int):=by omega
   have bi:IntKind.i64.wrap ((i:Int)+1)=(i:Int)+1:=by
    simp only[IntKind.wrap,IntKind.signed,IntKind.bits]
    simp
    omega
   have hK:∀F,F=wr.drew∨(∃u,F=(wr.drew).setCell ⟨w.heap.size+1+1,i,none⟩ u)→(F=wr.drew∨(∃u,F=(wr.drew).setCell ⟨w.heap.size+1+1,i,none⟩ u))∧F.cell? ⟨w.heap.size,1,none⟩=some (.slice L A.length N):=fun F h=>by
    refine⟨h,?_⟩
    rcases h with rfl|⟨u,rfl⟩
    ·exact(uH Z0).drew.c1
    ·exact((uH Z0).drew.other (by simp;omega) u).c1
   have HK:=ac hK
   clear hK
   go_wp2
   go_region_held3(fun F=>(F=wr.drew∨(∃u,F=(wr.drew).setCell ⟨w.heap.size+1+1,i,none⟩ u))∧F.cell? ⟨w.heap.size,1,none⟩=some (.slice L A.length N))
    (first|exact uH HK _ (.inl rfl)|exact uH HK _ (.inr ⟨_,rfl⟩))
    (first|(go_at_call 126;have hq:=a1;clear a1;refine(gi L N A _ (i+1) J _ (uH CA) (by omega) (by omega) hq).mono ?_;rintro e F ⟨rfl,rfl⟩;clear hq)|(go_at_call 126;refine(gi L N A _ i I _ (uH CA) (by omega) rfl a4).mono ?_;rintro e F ⟨rfl,rfl⟩))
   have r1:=(uH HR).set i (((J%2*4294967296+I)/2)%4294967296)
   rw[show(((J%2*4294967296+I)/2%4294967296:Nat):Int)=((J:Int)%2*4294967296+(I:Int))/2 by omega]at r1
   have Z:((J%2*4294967296+I)/2)%4294967296<4294967296:=Nat.mod_lt _ (by decide)
   have R1:=ac r1
   have HM:=ac Z
   clear r1 Z
   go_wp2
   go_roundw
   case rel=>exact⟨i+1,S.set i (((J%2*4294967296+I)/2)%4294967296),by omega,by go_num,(uH R1:_),(uH Z0).other (by simp;omega) _,(uH Z1).other (by simp) _,by simpa using U,hf.set _ _ (uH HM),((uH an).setCell (by simp;omega) _).drew,uH a0⟩
   case measure=>simp[intOf];omega
  ·have a5:i=A.length:=by omega
   have a3:=uH ah S U (by rw[U,←a5];exact hv.out)
   have HR:=ac (H.limbs hf A.length (by omega))
   have HV:=ac a3
   have Z1:=ac z1
   have an:=ac D
   have bn:¬(i:Int)<(A.length:Int):=by omega
   have HL:=ac U
   have bo:=z1.lt
   have bp:=H.lt
   clear a3 hv H ae ah x0 x1 Q am z1 D hA z0
   go_wp2_with fail
   have hN:bC (w.heap.size+1+1) (some ⟨w.heap.size+1+1,0,none⟩) S:=.inr ⟨_,_,rfl,Nat.le_refl _⟩
   have G:=cW (w.heap.size+1+1) K (some ⟨w.heap.size+1+1,0,none⟩) A.length S wr (uH HR) hN (by omega)
   rw[uH HV,uH HL]at G
   refine G.mono ?_
   rintro e w2 ⟨v,rfl,⟨n2,a2,c2,L2,rfl,i1⟩,ar⟩
   have X4:=(uH Z1).below ar (uH Z1).lt
   have y0:=X4.c0;have y1:=X4.c1;have f0:=X4.free 0;have f1:=X4.free 1
   have a6:=ac ((uH an).trans (ar.mono (by omega)))
   have I1:=ac i1
   clear G X4 ar i1 hN
   go_wp2
   refine bodyPost_ret (v:=.agg #[.bool n2,.slice a2 L2.length c2]) (by simp[results,Tryz.results67,go_sem,y0,y1]) rfl ⟨.agg #[.bool n2,.slice a2 L2.length c2],rfl,?_,?_⟩
   ·exact aJ.stored (uH I1) (by simp) (by simp) (by omega) _ _
   ·exact((uH a6).setCell (by simp) _).setCell (by simp) _
end Go.Proofs.YtcbcmlaogehimaaGreatDoor
namespace Go.Proofs.YtcbcmlaogehimaaGreatDoor
open Go.RowKit
theorem bits_nat(a b:Int):∃y:Nat,y<4294967296∧bits BinOp.xor IntKind.u32 a b=(y:Int):=by
 refine⟨(bits BinOp.xor IntKind.u32 a b).toNat,?_,?_⟩
 all_goals
  have h:0≤bits BinOp.xor IntKind.u32 a b∧bits BinOp.xor IntKind.u32 a b<4294967296:=by
   simp only[bits,IntKind.wrap,IntKind.signed,IntKind.bits]
   simp
   omega
  omega
theorem Ia{w:World}{d g n c:Nat}{S:List Nat}(h:w.ownsRow d 84 1 (.slice (some ⟨g,0,none⟩) n c) n (S.map dq))(z:bh S):ag w (some ⟨g,0,none⟩) c S∧S.length=n∧d≤g∧g<w.heap.size:=by
 obtain⟨G,A,u,D,H,F⟩:=ic h z
 simp only[Value.slice.injEq]at u
 obtain⟨rfl,_,rfl⟩:=u
 exact⟨D,F,h.lt g rfl⟩
def nJ(v:Nat)(m:Int):Nat:=if 0≤m then v*2^m.toNat else v/2^(-m).toNat
theorem nd(neg:Bool)(L:List Nat)(n:Int):pn neg L n=sg neg (nJ (ai L) n):=rfl
theorem nK(m:Int):nJ 0 m=0:=by unfold nJ;split<;>simp
theorem ES(v:Nat):nJ v 0=v:=by unfold nJ;simp
theorem Ar(v:Nat)(m:Int)(h:32≤m):nJ (4294967296*v) (m-32)=nJ v m:=by
 unfold nJ
 rw[if_pos (by omega),if_pos (by omega),show m.toNat=32+(m-32).toNat by omega,Nat.pow_add,←Nat.mul_assoc,Nat.mul_comm v,show(2:Nat)^32=4294967296 from rfl]
theorem ET(v:Nat)(m:Int)(h:1≤m):nJ (v+v) (m-1)=nJ v m:=by
 unfold nJ
 rw[if_pos (by omega),if_pos (by omega),show m.toNat=1+(m-1).toNat by omega,Nat.pow_add,←Nat.mul_assoc,show v*2^1=v+v by omega]
theorem As(v:Nat)(m:Int)(h:m≤-32):nJ (v/4294967296) (m+32)=nJ v m:=by
 unfold nJ
 rw[if_neg (show¬0≤m by omega),show(-m).toNat=32+(-(m+32)).toNat by omega,Nat.pow_add,←Nat.div_div_eq_div_mul,show(2:Nat)^32=4294967296 from rfl]
 by_cases d:0≤m+32
 ·rw[if_pos d,show(m+32).toNat=0 by omega,show(-(m+32)).toNat=0 by omega];simp
 ·rw[if_neg d]
theorem EU(v:Nat)(m:Int)(h:m≤-1):nJ (v/2) (m+1)=nJ v m:=by
 unfold nJ
 rw[if_neg (show¬0≤m by omega),show(-m).toNat=1+(-(m+1)).toNat by omega,Nat.pow_add,←Nat.div_div_eq_div_mul,show(2:Nat)^1=2 from rfl]
 by_cases d:0≤m+1
 ·rw[if_pos d,show(m+1).toNat=0 by omega,show(-(m+1)).toNat=0 by omega];simp
 ·rw[if_neg d]
theorem EV(d:Bool)(v:Nat)(m:Int):sg (decide (sg d v<0)) (nJ v m)=sg d (nJ v m):=by
 by_cases h:v=0
 ·subst h;rw[nK];unfold sg;simp
 ·have:decide (sg d v<0)=d:=by unfold sg;cases d<;>simp<;>omega
  rw[this]
theorem jA(d:Bool)(v:Nat):(sg d v).natAbs=v:=by unfold sg;cases d<;>simp
def yr(w wr:World)(z m:Int)(nn:Bool)(a:Option Addr)(c:Nat)(L:List Nat):Prop:=
 aA wr w.heap.size (.bool nn) (.slice a L.length c)∧aA wr (w.heap.size+1) (.bool false) (.slice none 0 0)∧ag wr a c L∧bO L∧(nn=true→L≠ [])∧L.length+m.toNat≤20000∧sg nn (nJ (ai L) m)=z∧Below w.heap.size w wr
theorem aA.put{w:World}{b:Nat}{x y:Value}(h:aA w b x y)(u d:Value):aA ((w.setCell ⟨b,0,none⟩ u).setCell ⟨b,1,none⟩ d) b u d:=by
 have z:=heap_setCell_same w b 0 _ _ u h
 have A:=heap_setCell_same (w.setCell ⟨b,0,none⟩ u) b 1 _ _ d z
 unfold aA
 rw[A]
 simp
theorem yr.step{w h:World}{z m x:Int}{I K F:Bool}{L A:Option Addr}{N O G v M B:Nat}{d:List Nat}
  (J:aA h w.heap.size (.bool K) (.slice L N O)) (Q:aA h (w.heap.size+1) (.bool false) (.slice none 0 0))
  (i:ag h A G d∧bC B A d∧bO d∧F=decide (x<0)∧ai d=x.natAbs∧d.length≤M) (U:x=sg I v) (X:sg I (nJ v m)=z) (hl:M+m.toNat≤20000) (u:Below w.heap.size w h):
  yr w ((h.setCell ⟨w.heap.size,0,none⟩ (.bool F)).setCell ⟨w.heap.size,1,none⟩ (.slice A d.length G)) z m F A G d:=by
 obtain⟨Y,i2,Z,H,D,i6⟩:=i
 subst U
 rw[jA]at D
 refine⟨J.put _ _,(Q.other (by simp) _).other (by simp) _,Y.box J _ _,Z,?_,by omega,?_,(u.setCell (by simp) _).setCell (by simp) _⟩
 ·rintro e rfl
  rw[e]at H
  simp[ai]at D
  have:=of_decide_eq_true H.symm
  rw[←D]at this
  unfold sg at this
  simp at this
 ·rw[H,D,EV];exact X
theorem yr.last{w wr:World}{z m:Int}{d:Bool}{a:Option Addr}{c:Nat}{L:List Nat}(h:yr w wr z m d a c L)(A:m=0∨L= []):au 0 wr (.agg #[.bool d,.slice a L.length c]) z:=by
 obtain⟨H,I,F,G,J,K,u,N⟩:=h
 by_cases D:L= []
 ·subst D
  have:d=false:=by cases d<;>simp_all
  subst this
  simp only[ai,nK]at u
  rw[←u]
  exact au.zero _ _ _ _
 ·rcases A with rfl|A
  ·rw[ES]at u
   rw[←u,←dH]
   exact au.mk F (bC.zero F) G D (by omega)
  ·exact absurd A D
theorem ag.drop1{w:World}{b d c:Nat}{L:List Nat}(h:ag w (some ⟨b,d,none⟩) c L):ag w (some ⟨b,d+1,none⟩) (c-1) (L.drop 1):=by
 refine⟨by have:=h.1;simp;omega,fun x A=>h.2.1 x (List.mem_of_mem_drop A),?_⟩
 rcases h.2.2 with F|⟨I,u,z,G,H⟩
 ·left;simp[F]
 ·simp only[Option.some.injEq,Addr.mk.injEq,and_true]at z
  obtain⟨rfl,rfl⟩:=z
  refine .inr ⟨b,d+1,rfl,G,fun i D=>?_⟩
  simp at D
  have:=H (i+1) (by omega)
  rw[show d+1+i=d+(i+1) by omega,this,List.getElem?_drop,Nat.add_comm 1 i]
theorem p7(neg:Bool)(b d c:Nat)(L:List Nat)(w:World)(h:ag w (some ⟨b,d,none⟩) c L)(F:L.length≤30000):
  Calls Tryz.prog 65 #[.bool neg,.slice (some ⟨b,d+1,none⟩) (L.length-1) (c-1)] w fun e u=>∃v,e=.returned v∧aJ L.length 0 u v (sg neg (ai L/4294967296))∧Below w.heap.size w u:=by
 have:=cW 0 neg _ _ (L.drop 1) w h.drop1 (bC.zero h.drop1) (by simp;omega)
 rw[dH,si L h.2.1 1]at this
 simp only[List.length_drop,Nat.pow_one]at this
 exact this.mono fun e u ⟨v,z,A,D⟩=>⟨v,z,A.more (by omega),D⟩
theorem nL(neg:Bool)(b d:Nat)(L:List Nat)(w:World)(h:ag w (some ⟨b,d,none⟩) 1 L):
  Calls Tryz.prog 65 #[.bool neg,.slice (some ⟨b,d,none⟩) 0 0] w fun e u=>∃v,e=.returned v∧aJ L.length 0 u v (sg neg (ai L/4294967296))∧Below w.heap.size w u:=by
 have:=cW 0 neg (some ⟨b,d,none⟩) 0 [] w (ag.nil _ _ _) (.inl rfl) (by simp)
 have F:ai L/4294967296=0:=by
  have z:=ew L h.2.1
  have A:=Nat.pow_le_pow_right (n:=4294967296) (by decide) h.1
  exact Nat.div_eq_of_lt (by omega)
 rw[F]
 rw[dH]at this
 exact this.mono fun e u ⟨v,z,A,D⟩=>⟨v,z,A.more (by simp),D⟩
theorem nM(L:List Nat):ai (0::L)=4294967296*ai L:=by simp[ai]
attribute [local go_sem ↓] Go.wp_at_zero Go.wp_at_succ
theorem EW(W:World)(d g:Nat)(h:W.heap.size=g)(u:d≤g):((W.alloc (.cells #[.int .u32 0] 84)).drew).ownsRow d 84 1 (.slice (some ⟨g,0,none⟩) 1 1) 1 [.int .u32 0]:=by
 subst h
 exact⟨by simp,.inr ⟨W.heap.size,1,#[.int .u32 0],rfl,u,heap_alloc_new W _,Nat.le_refl _,by simp[maxLen],by simp,by simp⟩⟩
theorem At(neg:Bool)(g n c d:Nat)(S:List Nat)(w:World)(h:w.ownsRow d 84 1 (.slice (some ⟨g,0,none⟩) n c) n (S.map dq))(z:bh S)(G:n≤35184372088832):
  Calls Tryz.prog 65 #[.bool neg,.slice (some ⟨g,0,none⟩) n c] w fun e u=>∃v,e=.returned v∧aJ n d u v (af neg S)∧Below w.heap.size w u:=by
 obtain⟨A,D,F,H⟩:=Ia h z
 have:=cW d neg (some ⟨g,0,none⟩) c S w A (.inr ⟨g,0,rfl,F⟩) (by omega)
 rw[D]at this
 exact this
theorem p8{L:List Nat}(h:ai L≠0):L≠ []:=by
 rintro rfl
 simp[ai]at h
theorem pp(na:Bool)(ao:Option Addr)(ca:Nat)(A:List Nat)(n:Int)(w:World)(hA:ag w ao ca A)(h0:A≠ [])(hc:bO A)(la:A.length≤3000)(hn:-16384≤n∧n≤16384):
  Calls Tryz.prog 111 #[.agg #[.bool na,.slice ao A.length ca],.int .i64 n] w fun e w'=>∃v,e=.returned v∧au 0 w' v (pn na A n)∧Below w.heap.size w w':=by
 obtain⟨i0,hi,bb,bd,be⟩:=info_parts Tryz.info84
 have HZ:=ac (nd na A n).symm
 generalize pn na A n=z at*
 have a1:=ac h0;have HC:=ac hc
 clear h0 hc
 go_enter Tryz.func111,Tryz.ntmps111
 go_wp2
 go_loopw[1] (fun i wr=>∃(m:Int) (K:Bool) (a:Option Addr) (c:Nat) (L:List Nat),i=.int .i64 m∧-16384≤m∧m≤16384∧L≠ []∧Hid (yr w wr z m K a c L)) (fun i _=>(intOf i).toNat)
 case atStart=>
  refine⟨n,na,ao,ca,A,rfl,hn.1,hn.2,uH a1,(aA.new _ _ _).old _,?_,hA.below (((Below.refl _ _).alloc (Nat.le_refl _) _).alloc (by simp) _),uH HC,fun _=>uH a1,by omega,uH HZ,((Below.refl _ _).alloc (Nat.le_refl _) _).alloc (by simp) _⟩
  have:=aA.new (w.alloc (.cells #[.bool na,.slice ao A.length ca] 33)) (.bool false) (.slice none 0 0)
  simpa using this
 case round=>
  obtain⟨m,K,a,c,L,rfl,am,an,ae,U⟩:=hrel
  clear HZ HC a1 hA la hn
  obtain⟨J,N,X,hC,hS,D,hz,d⟩:=uH U
  have hp:0<L.length:=List.length_pos_iff.2 ae
  have ar:(0:Int)<(L.length:Int):=by omega
  have p0:=J.c0;have p1:=J.c1
  have HV:Hid (ai L≠0):=fun e=>ae ((aQ L hC).1 e)
  by_cases hg:32≤m
  ·obtain⟨b,Y,rfl,hb,aI⟩:=X.ne hp
   have H:=hz
   rw[←Ar _ _ hg]at H
   have aa:=ac H
   have bp:=J.lt
   have bi:=N.lt
   have hN:∀j u,(L.map dq)[j]? =some u→((wr.alloc (.cells #[.int .u32 0] 84)).drew).cell? ((⟨b,Y,none⟩:Addr).add j)=some u:=by
    intro j u hu
    rw[List.getElem?_map]at hu
    have hj:j<L.length:=by
     rcases Nat.lt_or_ge j L.length with e|e
     ·exact e
     ·rw[List.getElem?_eq_none e]at hu;simp at hu
    have e3:(⟨b,Y,none⟩:Addr).add j=⟨b,Y+j,none⟩:=by simp[Addr.add]
    rw[e3,((((Below.refl wr.heap.size wr).alloc (Nat.le_refl _) _).drew).cell (p:=⟨b,Y+j,none⟩) hb),aI j hj]
    rw[List.getElem?_eq_getElem hj]at hu⊢
    simpa[dq]using hu
   have a0:∀u∈L.map dq,u.oneCell'=true:=by
    intro u hu
    obtain⟨y,_,rfl⟩:=List.mem_map.1 hu
    rfl
   have HF:Hid (bh (0::L)):=by
    intro y hy
    rcases List.mem_cons.1 hy with rfl|hy
    ·decide
    ·exact X.2.1 y hy
   have HN:=ac hN;have a3:=ac a0;have I:=ac d;have X0:=ac J;have X1:=ac N;have F:=ac D
   clear hz H hN a0 J N X hC hS d U aI
   have ll:L.length≤20000:=by have:=uH F;omega
   clear D
   go_wp2
   go_region_law (first|(refine step_append_lies _ (by rfl) _ _ _ (by rfl) wr.heap.size 84 i0 (.int .u32 0) 1 4 Tryz.underlying31 hi bb bd be rfl (by omega) (.slice (some ⟨wr.heap.size,0,none⟩) 1 1) 1 [.int .u32 0] (by rfl) (EW wr wr.heap.size wr.heap.size rfl (Nat.le_refl _)) ⟨b,Y,none⟩ L.length c (L.map dq) (by rfl) (by simp) (uH HN) (uH a3) hp (by unfold maxLen;omega) (by omega) (by simp) (wr.heap.size+1) (by simp) ?_;intro g cp w1 az Z bg bw;have y0:aA w1 w.heap.size (.bool K) (.slice (some ⟨b,Y,none⟩) L.length c):=(Z.block w.heap.size (by simp;omega) (by simp[Value.ownBlock];omega)).trans (((uH X0).old _).drew);have y1:aA w1 (w.heap.size+1) (.bool false) (.slice none 0 0):=(Z.block (w.heap.size+1) (by simp;omega) (by simp[Value.ownBlock];omega)).trans (((uH X1).old _).drew);have q0:=y0.c0;have q1:=y0.c1;have Y0:=ac y0;have Y1:=ac y1;have B1:=ac ((((uH I).alloc (by omega) _).drew).grown Z (by simp;omega) (fun k hk=>by simp[Value.ownBlock]at hk;omega));have a4:=ac az;clear az Z bg y0 y1)|(go_simp;go_at_call 65;refine(At K g (1+L.length) cp _ (0::L) _ (uH a4) (uH HF) (by omega)).mono ?_;rintro e w2 ⟨v,rfl,⟨n2,a2,c2,L2,rfl,i1⟩,h⟩;have I1:=ac i1;have G:=(uH Y0).below h (uH Y0).lt;have Z1:=(uH Y1).below h (uH Y1).lt;have r0:=G.c0;have r1:=G.c1;have f0:=G.free 0;have f1:=G.free 1;have B2:=ac ((uH B1).trans (h.mono (uH B1).size));have O:=ac G;have Q:=ac Z1;clear i1 h G Z1))
   all_goals
    go_wp2
    go_roundw
    case rel=>
     refine⟨m-32,n2,a2,c2,L2,by go_num,by omega,by omega,p8 ?_,yr.step (v:=4294967296*ai L) (uH O) (uH Q) (uH I1) (by rw[dH,nM]) (uH aa) (by have:=uH F;omega) (uH B2)⟩
     have h5:=(uH I1).2.2.2.2.1
     rw[aM,nM]at h5
     have:=uH HV
     omega
    case measure=>simp[intOf];omega
  ·have HI:=U
   have a7:¬(32:Int)≤m:=by omega
   clear U J N X hC hS D hz d
   go_wp2
   go_loopw[1] (fun i wr=>∃(m:Int) (K:Bool) (a:Option Addr) (c:Nat) (L:List Nat),i=.int .i64 m∧-16384≤m∧m≤31∧L≠ []∧Hid (yr w wr z m K a c L)) (fun i _=>(intOf i).toNat)
   case atStart=>exact⟨m,K,a,c,L,rfl,by omega,by omega,ae,HI⟩
   case round=>
    clear HI HV p0 p1 ar hp ae a7 hg am an
    obtain⟨m,K,a,c,L,rfl,am,an,ae,U⟩:=hrel
    obtain⟨J,N,X,hC,hS,D,hz,d⟩:=uH U
    have hp:0<L.length:=List.length_pos_iff.2 ae
    have ar:(0:Int)<(L.length:Int):=by omega
    have p0:=J.c0;have p1:=J.c1
    by_cases hg:0<m
    ·have HV:Hid (ai L≠0):=fun e=>ae ((aQ L hC).1 e)
     have H:=hz
     rw[←ET _ _ (by omega)]at H
     have aa:=ac H
     have I:=ac d;have X0:=ac J;have X1:=ac N;have F:=ac D;have ah:=ac X
     clear hz H J N X hC hS d U D
     go_wp2_with fail
     refine(vg K a c L wr (uH ah) (by have:=uH F;omega)).mono ?_
     rintro e w2 ⟨v,rfl,⟨n2,a2,c2,L2,rfl,i1⟩,h⟩
     have I1:=ac i1
     have G:=(uH X0).below h (uH X0).lt
     have Z1:=(uH X1).below h (uH X1).lt
     have r0:=G.c0;have r1:=G.c1;have f0:=G.free 0;have f1:=G.free 1
     have B2:=ac ((uH I).trans (h.mono (uH I).size))
     have O:=ac G;have Q:=ac Z1
     clear i1 h G Z1
     go_wp2
     go_roundw
     case rel=>
      refine⟨m-1,n2,a2,c2,L2,by go_num,by omega,by omega,p8 ?_,yr.step (v:=ai L+ai L) (uH O) (uH Q) (uH I1) rfl (uH aa) (by have:=uH F;omega) (uH B2)⟩
      have h5:=(uH I1).2.2.2.2.1
      rw[jA]at h5
      have:=uH HV
      omega
     case measure=>simp[intOf];omega
    ·have HI:=U
     clear U J N X hC hS D hz d
     go_wp2
     go_loopw[1] (fun i wr=>∃(m:Int) (K:Bool) (a:Option Addr) (c:Nat) (L:List Nat),i=.int .i64 m∧-16384≤m∧m≤0∧Hid (yr w wr z m K a c L)) (fun i _=>(-(intOf i)).toNat)
     case atStart=>exact⟨m,K,a,c,L,rfl,by omega,by omega,HI⟩
     case round=>
      clear HI p0 p1 ar hp ae hg am an
      obtain⟨m,K,a,c,L,rfl,am,an,U⟩:=hrel
      obtain⟨J,N,X,hC,hS,D,hz,d⟩:=uH U
      have p0:=J.c0;have p1:=J.c1
      by_cases a5:m≤-32∧0<L.length
      ·obtain⟨hg,hp⟩:=a5
       ·have ar:(0:Int)<(L.length:Int):=by omega
        have bn:=X.1
        obtain⟨b,Y,rfl,hb,aI⟩:=X.ne hp
        have H:=hz
        rw[←As _ _ hg]at H
        have aa:=ac H
        have I:=ac d;have X0:=ac J;have X1:=ac N;have F:=ac D;have ah:=ac (X.below ((Below.refl _ _).drew))
        clear hz H J N X hC hS d U D aI
        go_wp2
        have bq:(1:Int)≤(L.length:Int):=by omega
        have bs:(L.length:Int)≤(c:Int):=by omega
        have bv:(1:Int)≤(c:Int):=by omega
        by_cases a9:c=1
        ·subst a9
         go_region_with (go_at_call 65;refine(nL K b Y L _ (uH ah)).mono ?_;rintro e w2 ⟨v,rfl,⟨n2,a2,c2,L2,rfl,i1⟩,h⟩;have I1:=ac i1;have G:=(uH X0).drew.below h (uH X0).drew.lt;have Z1:=(uH X1).drew.below h (uH X1).drew.lt;have r0:=G.c0;have r1:=G.c1;have f0:=G.free 0;have f1:=G.free 1;have B2:=ac (((uH I).drew).trans (h.mono ((uH I).drew).size));have O:=ac G;have Q:=ac Z1;clear i1 h G Z1)
         all_goals
          go_wp2
          go_roundw
          case rel=>exact⟨m+32,n2,a2,c2,L2,by go_num,by omega,by omega,yr.step (v:=ai L/4294967296) (uH O) (uH Q) (uH I1) rfl (uH aa) (by have:=uH F;omega) (uH B2)⟩
          case measure=>simp[intOf];omega
        ·have bo:¬(c:Int)=1:=by omega
         go_region_with (go_at_call 65;refine(p7 K b Y c L _ (uH ah) (by have:=uH F;omega)).mono ?_;rintro e w2 ⟨v,rfl,⟨n2,a2,c2,L2,rfl,i1⟩,h⟩;have I1:=ac i1;have G:=(uH X0).drew.below h (uH X0).drew.lt;have Z1:=(uH X1).drew.below h (uH X1).drew.lt;have r0:=G.c0;have r1:=G.c1;have f0:=G.free 0;have f1:=G.free 1;have B2:=ac (((uH I).drew).trans (h.mono ((uH I).drew).size));have O:=ac G;have Q:=ac Z1;clear i1 h G Z1)
         all_goals
          go_wp2
          go_roundw
          case rel=>exact⟨m+32,n2,a2,c2,L2,by go_num,by omega,by omega,yr.step (v:=ai L/4294967296) (uH O) (uH Q) (uH I1) rfl (uH aa) (by have:=uH F;omega) (uH B2)⟩
          case measure=>simp[intOf];omega
      ·have HI:=U
       rcases(show(m≤-32∧¬(0:Int)<(L.length:Int))∨¬m≤-32 by omega)with⟨hg,hp⟩|hg
       all_goals
        clear U J N X hC hS D hz d a5
        go_wp2
        go_loopw[1] (fun i wr=>∃(m:Int) (K:Bool) (a:Option Addr) (c:Nat) (L:List Nat),i=.int .i64 m∧-16384≤m∧m≤0∧Hid (yr w wr z m K a c L)) (fun i _=>(-(intOf i)).toNat)
        case atStart=>exact⟨m,K,a,c,L,rfl,by omega,by omega,HI⟩
        case round=>
         clear HI p0 p1 hg am an
         obtain⟨m,K,a,c,L,rfl,am,an,U⟩:=hrel
         obtain⟨J,N,X,hC,hS,D,hz,d⟩:=uH U
         have p0:=J.c0;have p1:=J.c1
         by_cases a6:m<0∧0<L.length
         ·obtain⟨hg,hp⟩:=a6
          have ar:(0:Int)<(L.length:Int):=by omega
          have H:=hz
          rw[←EU _ _ (by omega)]at H
          have aa:=ac H
          have I:=ac d;have X0:=ac J;have X1:=ac N;have F:=ac D;have ah:=ac X
          clear hz H J N X hC hS d U D
          go_wp2_with fail
          refine(sG K a c L wr (uH ah) (by have:=uH F;omega)).mono ?_
          rintro e w2 ⟨v,rfl,⟨n2,a2,c2,L2,rfl,i1⟩,h⟩
          have I1:=ac i1
          have G:=(uH X0).below h (uH X0).lt
          have Z1:=(uH X1).below h (uH X1).lt
          have r0:=G.c0;have r1:=G.c1;have f0:=G.free 0;have f1:=G.free 1
          have B2:=ac ((uH I).trans (h.mono (uH I).size))
          have O:=ac G;have Q:=ac Z1
          clear i1 h G Z1
          go_wp2
          go_roundw
          case rel=>exact⟨m+1,n2,a2,c2,L2,by go_num,by omega,by omega,yr.step (v:=ai L/2) (uH O) (uH Q) (uH I1) rfl (uH aa) (by have:=uH F;omega) (uH B2)⟩
          case measure=>simp[intOf];omega
         ·have ax:=U.out.last (by rcases Nat.eq_zero_or_pos L.length with e|e;(right;exact List.length_eq_zero_iff.1 e);(left;omega))
          have ba:=ac ax
          have X1:=ac N;have I:=ac d;have ah:=ac X
          have y0:=N.c0;have y1:=N.c1;have f0:=N.free 0;have f1:=N.free 1
          rcases(show(m<0∧¬(0:Int)<(L.length:Int))∨¬m<0 by omega)with⟨hg,hp⟩|hg
          all_goals
           clear U J N X hC hS D hz d a6 ax
           go_wp2
           refine bodyPost_ret (v:=.agg #[.bool K,.slice a L.length c]) (by simp[results,Tryz.results111,go_sem,y0,y1]) rfl ⟨.agg #[.bool K,.slice a L.length c],rfl,?_,?_⟩
           ·obtain⟨neg,a',c',L',e1,e2,e3⟩:=uH ba
            refine⟨neg,a',c',L',e1,e2.box (uH X1) _ _,e3⟩
           ·exact((uH I).setCell (by simp) _).setCell (by simp) _
end Go.Proofs.YtcbcmlaogehimaaGreatDoor
namespace Go.Proofs.YtcbcmlaogehimaaGreatDoor
open Go.RowKit
theorem yt{B:Nat}{w:World}{neg:Bool}{u:Option Addr}{d:Nat}{L:List Nat}(h:ag w u d L)(A:av neg L=true)(D:bC B u L):au B w (.agg #[.bool neg,.slice u L.length d]) (af neg L):=by
 have F:=ay A
 by_cases z:L= []
 ·subst z
  have:neg=false:=by cases neg<;>simp_all
  subst this
  exact au.zero _ _ _ _
 ·exact au.mk h D F.2.1 z (by omega)
end Go.Proofs.YtcbcmlaogehimaaGreatDoor
