/- Part 7 of the texts. -/
import Derived.Test.YtcbcmlaogehimaaGreatDoorPartp06
import Derived.Deep.AppendLies
import Derived.Deep.RegionLaw
set_option maxHeartbeats 4000000
set_option maxRecDepth 4000
namespace Go.Proofs.YtcbcmlaogehimaaGreatDoor
open Go.RowKit
attribute [local go_sem ↓] Go.wp_at_zero Go.wp_at_succ
theorem wz(u:Bool)(F:Option Addr)(G:Nat)(A:List Nat)(w:World)(hA:ag w F G A)(la:A.length≤35184372088830):
  Calls Tryz.prog 166 #[.agg #[.bool u,.slice F A.length G]] w fun e d=>∃v,e=.returned v∧aJ (A.length+1) w.heap.size d v (sg u (aj A+aj A))∧Below w.heap.size w d:=by
 have H:∀L:List Nat,aj L=aj A+aj A→af u L=sg u (aj A+aj A):=by
  intro L h;rw[dN,h]
 have HS:=ac H
 clear H
 generalize sg u (aj A+aj A)=z at*
 go_enter Tryz.func166,Tryz.ntmps166
 go_wp2
 refine ap (fun W=>Below w.heap.size w W∧W.heap.size=w.heap.size+2∧aB W w.heap.size (.bool u) (.slice F A.length G)∧aB W (w.heap.size+1) (.bool false) (.slice none 0 0)) ?_ ?_
 ·refine⟨((Below.refl _ _).alloc (Nat.le_refl _) _).alloc (by simp) _,by simp,(aB.new _ _ _).old _,?_⟩
  have:=aB.new (w.alloc (.cells #[.bool u,.slice F A.length G] 33)) (.bool false) (.slice none 0 0)
  simpa using this
 rintro Q ⟨I,U,x0,x2⟩
 have hK:∀d,Below (w.heap.size+1) Q d→Below (w.heap.size+1) Q d∧d.cell? ⟨w.heap.size,0,none⟩=some (.bool u)∧d.cell? ⟨w.heap.size,1,none⟩=some (.slice F A.length G):=fun d h=>
  ⟨h,(x0.below h (by omega)).c0,(x0.below h (by omega)).c1⟩
 have X:=ac hK
 have HA:=ac (hA.below I)
 have X2:=ac x2
 have Y:=ac I
 clear hK hA x0 x2 I
 go_region_held3(fun d=>Below (w.heap.size+1) Q d∧d.cell? ⟨w.heap.size,0,none⟩=some (.bool u)∧d.cell? ⟨w.heap.size,1,none⟩=some (.slice F A.length G))
  (first|exact uH X _ (Below.refl _ _).drew|exact uH X _ (by assumption)|exact uH X _ ((K.setCell (by simp) _).setCell (by simp) _))
  (first|(go_at_call 107;refine(oH F F G G A A _ ((uH HA).below ((Below.refl _ _).drew)) ((uH HA).below ((Below.refl _ _).drew)) la la).mono ?_;rintro e w1 ⟨ae,aa,L',rfl,g1,g2,g3,g4,D⟩;have Z:Below (w.heap.size+1) Q w1:=((Below.refl _ _).drew).trans (D.mono (by simp[U]));have X3:=ac ((uH X2).drew.below D (by simp[U]));have G1:=ac g1;have G2:=ac g2;have G4:=ac g4;have L4:L'.length≤35184372088832:=(by omega);have L5:L'.length≤A.length+1:=(by omega);have s1:=D.size;clear g1 g2 g4 g3 D)|(go_at_call 65;refine(dc _ u _ _ _ _ (uH G1) (uH G2) L4).mono ?_;rintro e w2 ⟨v,rfl,⟨n2,a2,c2,L2,rfl,i1⟩,J⟩;have K:Below (w.heap.size+1) Q w2:=Z.trans (J.mono (by simp at s1;omega));have O:=(uH X3).below J (by simp at s1;omega);have y0:=O.c0;have y1:=O.c1;have f0:=O.free 0;have f1:=O.free 1;have I1:=ac i1;clear i1 J O))
 have hz:=uH HS L' (uH G4)
 have HI:=ac (hz▸uH I1)
 clear hz
 go_wp2
 refine bodyPost_ret (v:=.agg #[.bool n2,.slice a2 L2.length c2]) (by simp[results,Tryz.results166,go_sem,y0,y1]) rfl ⟨.agg #[.bool n2,.slice a2 L2.length c2],rfl,?_,?_⟩
 ·exact(aJ.stored (uH HI) (by simp;omega) (by simp;omega) (by simp;omega) _ _).more (by have:=L5;omega)
 ·exact(((uH Y).trans (K.mono (by omega))).setCell (by simp) _).setCell (by simp) _
theorem aB.other{w:World}{b:Nat}{x y:Value}(h:aB w b x y){p:Addr}(d:b≠p.block)(u:Value):aB (w.setCell p u) b x y:=(Below.heap_setCell w p u b d).trans h
theorem zL(d h:Nat):((h%2*4294967296+d)/2)%4294967296=((d+4294967296*h)/2^1)%4294967296:=by omega
theorem tQ(K:Bool)(L:Option Addr)(O:Nat)(A:List Nat)(w:World)(hA:ag w L O A)(la:A.length≤1073741824):
  Calls Tryz.prog 67 #[.agg #[.bool K,.slice L A.length O]] w fun e F=>∃v,e=.returned v∧aJ A.length w.heap.size F v (sg K (aj A/2))∧Below w.heap.size w F:=by
 obtain⟨i0,hi,a9,ba,bb⟩:=info_parts Tryz.info84
 have az:∀(S:List Nat) (k I J:Nat),k<S.length→A[k]?.getD 0=I→A[k+1]?.getD 0=J→aj (S.take k)=(aj A/(4294967296^0*2^1))%4294967296^k→aj ((S.set k (((J%2*4294967296+I)/2)%4294967296)).take (k+1))=(aj A/(4294967296^0*2^1))%4294967296^(k+1):=by
  intro S k I J h1 h2 h3 h4
  rw[zL]
  exact qD A S hA.2.1 k 0 1 I J (by omega) h1 h2 h3 h4
 have aI:∀(S:List Nat),S.length=A.length→aj (S.take S.length)=(aj A/(4294967296^0*2^1))%4294967296^S.length→af K S=sg K (aj A/2):=by
  intro S h1 h2
  have:=tG A S hA.2.1 0 1 (by omega) h2
  rw[dN,this]
 have ah:=ac az
 have am:=ac aI
 clear az aI
 generalize sg K (aj A/2)=z at*
 go_enter Tryz.func67,Tryz.ntmps67
 go_wp2_with(at_make;refine wpList_make_full _ rfl _ _ 31 rfl (w.heap.size+2) 84 i0 (.int .u32 0) 1 Tryz.underlying31 hi a9 ba .i64 .i64 _ _ A.length rfl rfl (by omega) (by omega) (by rw[bb];omega) (by unfold maxLen;omega) (by simp) ?_;intro w1 ae d)
 have Q:=bW.made ae
 have U:bW w1 (w.heap.size+1+1) (List.replicate A.length 0):=by simpa using Q
 clear Q
 have a0:Below w.heap.size w ((w.alloc (.cells #[.bool K,.slice L A.length O] 33)).alloc (.cells #[.bool false,.slice none 0 0] 33)):=((Below.refl _ _).alloc (Nat.le_refl _) _).alloc (by simp) _
 have an:Below w.heap.size w w1:=a0.grown d (by simp;omega) (fun k h=>by simp at h)
 have x0:aB w1 w.heap.size (.bool K) (.slice L A.length O):=(d.block w.heap.size (by simp;omega) (by simp)).trans ((aB.new _ _ _).old _)
 have x1:aB w1 (w.heap.size+1) (.bool false) (.slice none 0 0):=by
  have h:=aB.new (w.alloc (.cells #[.bool K,.slice L A.length O] 33)) (.bool false) (.slice none 0 0)
  have h':aB ((w.alloc (.cells #[.bool K,.slice L A.length O] 33)).alloc (.cells #[.bool false,.slice none 0 0] 33)) (w.heap.size+1) (.bool false) (.slice none 0 0):=by simpa using h
  exact(d.block (w.heap.size+1) (by simp) (by simp)).trans h'
 clear ae d a0
 go_loopw[4] (fun c wr=>∃(i:Nat) (S:List Nat),i≤A.length∧c=.int .i64 i∧bW wr (w.heap.size+1+1) S∧aB wr w.heap.size (.bool K) (.slice L A.length O)∧aB wr (w.heap.size+1) (.bool false) (.slice none 0 0)∧S.length=A.length∧bm S∧Below w.heap.size w wr∧Hid (aj (S.take i)=(aj A/(4294967296^0*2^1))%4294967296^i))
  (fun c _=>A.length-(intOf c).toNat)
 case atStart=>exact⟨0,List.replicate A.length 0,Nat.zero_le _,rfl,U,x0,x1,by simp,bm.zeros _,an,by unfold Hid;simp[aj,Nat.mod_one]⟩
 case round=>
  obtain⟨i,S,bs,rfl,H,z0,z1,X,hf,D,hv⟩:=hrel
  have p0:=z0.c0;have p1:=z0.c1
  by_cases bg:i<A.length
  ·obtain⟨I,Y⟩:∃x,A[i]?.getD 0=x:=⟨_,rfl⟩
   obtain⟨J,Z⟩:∃x,A[i+1]?.getD 0=x:=⟨_,rfl⟩
   have b0:I<4294967296:=by rw[←Y];exact hA.lt _
   have bi:J<4294967296:=by rw[←Z];exact hA.lt _
   have cA:=(hA.below D).below ((Below.refl _ _).drew)
   have dS:=H.cell i (by omega)
   have fS:=H.free i
   generalize bd:S[i]?.getD 0=s at*
   have a1:=ac (uH ah S i I J (by omega) Y Z hv.out)
   have a5:=ac Y
   have a3:=ac Z
   have HR:=ac H;have Z0:=ac z0;have Z1:=ac z1;have ar:=ac D;have CA:=ac cA
   clear Y Z H hv bd ah am x0 x1 U an z0 z1 D cA hA
   have be:(i:Int)<(A.length:Int):=by omega
   have bn:IntKind.i64.wrap ((i:Int)+1)=(i:Int)+1:=by
    simp only[IntKind.wrap,IntKind.signed,IntKind.bits]
    simp
    omega
   have hK:∀F,F=wr.drew∨(∃u,F=(wr.drew).setCell ⟨w.heap.size+1+1,i,none⟩ u)→(F=wr.drew∨(∃u,F=(wr.drew).setCell ⟨w.heap.size+1+1,i,none⟩ u))∧F.cell? ⟨w.heap.size,1,none⟩=some (.slice L A.length O):=fun F h=>by
    refine⟨h,?_⟩
    rcases h with rfl|⟨u,rfl⟩
    ·exact(uH Z0).drew.c1
    ·exact((uH Z0).drew.other (by simp;omega) u).c1
   have HK:=ac hK
   clear hK
   go_wp2
   go_region_held3(fun F=>(F=wr.drew∨(∃u,F=(wr.drew).setCell ⟨w.heap.size+1+1,i,none⟩ u))∧F.cell? ⟨w.heap.size,1,none⟩=some (.slice L A.length O))
    (first|exact uH HK _ (.inl rfl)|exact uH HK _ (.inr ⟨_,rfl⟩))
    (first|(go_at_call 126;have hq:=a3;clear a3;refine(gF L O A _ (i+1) J _ (uH CA) (by omega) (by omega) hq).mono ?_;rintro e F ⟨rfl,rfl⟩;clear hq)|(go_at_call 126;refine(gF L O A _ i I _ (uH CA) (by omega) rfl a5).mono ?_;rintro e F ⟨rfl,rfl⟩))
   have r1:=(uH HR).set i (((J%2*4294967296+I)/2)%4294967296)
   rw[show(((J%2*4294967296+I)/2%4294967296:Nat):Int)=((J:Int)%2*4294967296+(I:Int))/2 by omega]at r1
   have aa:((J%2*4294967296+I)/2)%4294967296<4294967296:=Nat.mod_lt _ (by decide)
   have R1:=ac r1
   have HM:=ac aa
   clear r1 aa
   go_wp2
   go_roundw
   case rel=>exact⟨i+1,S.set i (((J%2*4294967296+I)/2)%4294967296),by omega,by go_num,(uH R1:_),(uH Z0).other (by simp;omega) _,(uH Z1).other (by simp) _,by simpa using X,hf.set _ _ (uH HM),((uH ar).setCell (by simp;omega) _).drew,uH a1⟩
   case measure=>simp[intOf];omega
  ·have a6:i=A.length:=by omega
   have a4:=uH am S X (by rw[X,←a6];exact hv.out)
   have HR:=ac (H.limbs hf A.length (by omega))
   have HV:=ac a4
   have Z1:=ac z1
   have ar:=ac D
   have bo:¬(i:Int)<(A.length:Int):=by omega
   have HL:=ac X
   have bp:=z1.lt
   have bq:=H.lt
   clear a4 hv H ah am x0 x1 U an z1 D hA z0
   go_wp2_with fail
   have hN:bI (w.heap.size+1+1) (some ⟨w.heap.size+1+1,0,none⟩) S:=.inr ⟨_,_,rfl,Nat.le_refl _⟩
   have G:=dc (w.heap.size+1+1) K (some ⟨w.heap.size+1+1,0,none⟩) A.length S wr (uH HR) hN (by omega)
   rw[uH HV,uH HL]at G
   refine G.mono ?_
   rintro e w2 ⟨v,rfl,⟨n2,a2,c2,L2,rfl,i1⟩,ax⟩
   have X4:=(uH Z1).below ax (uH Z1).lt
   have y0:=X4.c0;have y1:=X4.c1;have f0:=X4.free 0;have f1:=X4.free 1
   have a7:=ac ((uH ar).trans (ax.mono (by omega)))
   have I1:=ac i1
   clear G X4 ax i1 hN
   go_wp2
   refine bodyPost_ret (v:=.agg #[.bool n2,.slice a2 L2.length c2]) (by simp[results,Tryz.results67,go_sem,y0,y1]) rfl ⟨.agg #[.bool n2,.slice a2 L2.length c2],rfl,?_,?_⟩
   ·exact aJ.stored (uH I1) (by simp) (by simp) (by omega) _ _
   ·exact((uH a7).setCell (by simp) _).setCell (by simp) _
end Go.Proofs.YtcbcmlaogehimaaGreatDoor
namespace Go.Proofs.YtcbcmlaogehimaaGreatDoor
open Go.RowKit
theorem bits_nat(a b:Int):∃y:Nat,y<4294967296∧bits BinOp.xor IntKind.u32 a b=(y:Int):=by
 refine⟨(bits BinOp.xor IntKind.u32 a b).toNat,?_,?_⟩
 all_goals
  have h:0≤bits BinOp.xor IntKind.u32 a b∧bits BinOp.xor IntKind.u32 a b<4294967296:=by
   simp only[bits,IntKind.wrap,IntKind.signed,IntKind.bits]
   simp
   omega
  omega
theorem Jw{w:World}{d g n c:Nat}{S:List Nat}(h:w.ownsRow d 84 1 (.slice (some ⟨g,0,none⟩) n c) n (S.map dz))(z:bm S):ag w (some ⟨g,0,none⟩) c S∧S.length=n∧d≤g∧g<w.heap.size:=by
 obtain⟨G,A,u,D,H,F⟩:=iw h z
 simp only[Value.slice.injEq]at u
 obtain⟨rfl,_,rfl⟩:=u
 exact⟨D,F,h.lt g rfl⟩
def oL(v:Nat)(m:Int):Nat:=if 0≤m then v*2^m.toNat else v/2^(-m).toNat
theorem nP(neg:Bool)(L:List Nat)(n:Int):qa neg L n=sg neg (oL (aj L) n):=rfl
theorem oN(m:Int):oL 0 m=0:=by unfold oL;split<;>simp
theorem F7(v:Nat):oL v 0=v:=by unfold oL;simp
theorem B7(v:Nat)(m:Int)(h:32≤m):oL (4294967296*v) (m-32)=oL v m:=by
 unfold oL
 rw[if_pos (by omega),if_pos (by omega),show m.toNat=32+(m-32).toNat by omega,Nat.pow_add,←Nat.mul_assoc,Nat.mul_comm v,show(2:Nat)^32=4294967296 from rfl]
theorem F8(v:Nat)(m:Int)(h:1≤m):oL (v+v) (m-1)=oL v m:=by
 unfold oL
 rw[if_pos (by omega),if_pos (by omega),show m.toNat=1+(m-1).toNat by omega,Nat.pow_add,←Nat.mul_assoc,show v*2^1=v+v by omega]
theorem B8(v:Nat)(m:Int)(h:m≤-32):oL (v/4294967296) (m+32)=oL v m:=by
 unfold oL
 rw[if_neg (show¬0≤m by omega),show(-m).toNat=32+(-(m+32)).toNat by omega,Nat.pow_add,←Nat.div_div_eq_div_mul,show(2:Nat)^32=4294967296 from rfl]
 by_cases d:0≤m+32
 ·rw[if_pos d,show(m+32).toNat=0 by omega,show(-(m+32)).toNat=0 by omega];simp
 ·rw[if_neg d]
theorem Ga(v:Nat)(m:Int)(h:m≤-1):oL (v/2) (m+1)=oL v m:=by
 unfold oL
 rw[if_neg (show¬0≤m by omega),show(-m).toNat=1+(-(m+1)).toNat by omega,Nat.pow_add,←Nat.div_div_eq_div_mul,show(2:Nat)^1=2 from rfl]
 by_cases d:0≤m+1
 ·rw[if_pos d,show(m+1).toNat=0 by omega,show(-(m+1)).toNat=0 by omega];simp
 ·rw[if_neg d]
theorem Gb(d:Bool)(v:Nat)(m:Int):sg (decide (sg d v<0)) (oL v m)=sg d (oL v m):=by
 by_cases h:v=0
 ·subst h;rw[oN];unfold sg;simp
 ·have:decide (sg d v<0)=d:=by unfold sg;cases d<;>simp<;>omega
  rw[this]
theorem jR(d:Bool)(v:Nat):(sg d v).natAbs=v:=by unfold sg;cases d<;>simp
def zM(w wr:World)(z m:Int)(nn:Bool)(a:Option Addr)(c:Nat)(L:List Nat):Prop:=
 aB wr w.heap.size (.bool nn) (.slice a L.length c)∧aB wr (w.heap.size+1) (.bool false) (.slice none 0 0)∧ag wr a c L∧bT L∧(nn=true→L≠ [])∧L.length+m.toNat≤20000∧sg nn (oL (aj L) m)=z∧Below w.heap.size w wr
theorem aB.put{w:World}{b:Nat}{x y:Value}(h:aB w b x y)(u d:Value):aB ((w.setCell ⟨b,0,none⟩ u).setCell ⟨b,1,none⟩ d) b u d:=by
 have z:=heap_setCell_same w b 0 _ _ u h
 have A:=heap_setCell_same (w.setCell ⟨b,0,none⟩ u) b 1 _ _ d z
 unfold aB
 rw[A]
 simp
theorem zM.step{w h:World}{z m x:Int}{I K F:Bool}{L A:Option Addr}{O Q G v M B:Nat}{d:List Nat}
  (J:aB h w.heap.size (.bool K) (.slice L O Q)) (U:aB h (w.heap.size+1) (.bool false) (.slice none 0 0))
  (i:ag h A G d∧bI B A d∧bT d∧F=decide (x<0)∧aj d=x.natAbs∧d.length≤M) (X:x=sg I v) (Y:sg I (oL v m)=z) (hl:M+m.toNat≤20000) (u:Below w.heap.size w h):
  zM w ((h.setCell ⟨w.heap.size,0,none⟩ (.bool F)).setCell ⟨w.heap.size,1,none⟩ (.slice A d.length G)) z m F A G d:=by
 obtain⟨Z,i2,i3,H,D,i6⟩:=i
 subst X
 rw[jR]at D
 refine⟨J.put _ _,(U.other (by simp) _).other (by simp) _,Z.box J _ _,i3,?_,by omega,?_,(u.setCell (by simp) _).setCell (by simp) _⟩
 ·rintro e rfl
  rw[e]at H
  simp[aj]at D
  have:=of_decide_eq_true H.symm
  rw[←D]at this
  unfold sg at this
  simp at this
 ·rw[H,D,Gb];exact Y
theorem zM.last{w wr:World}{z m:Int}{d:Bool}{a:Option Addr}{c:Nat}{L:List Nat}(h:zM w wr z m d a c L)(A:m=0∨L= []):au 0 wr (.agg #[.bool d,.slice a L.length c]) z:=by
 obtain⟨H,I,F,G,J,K,u,O⟩:=h
 by_cases D:L= []
 ·subst D
  have:d=false:=by cases d<;>simp_all
  subst this
  simp only[aj,oN]at u
  rw[←u]
  exact au.zero _ _ _ _
 ·rcases A with rfl|A
  ·rw[F7]at u
   rw[←u,←dN]
   exact au.mk F (bI.zero F) G D (by omega)
  ·exact absurd A D
theorem ag.drop1{w:World}{b d c:Nat}{L:List Nat}(h:ag w (some ⟨b,d,none⟩) c L):ag w (some ⟨b,d+1,none⟩) (c-1) (L.drop 1):=by
 refine⟨by have:=h.1;simp;omega,fun x A=>h.2.1 x (List.mem_of_mem_drop A),?_⟩
 rcases h.2.2 with F|⟨I,u,z,G,H⟩
 ·left;simp[F]
 ·simp only[Option.some.injEq,Addr.mk.injEq,and_true]at z
  obtain⟨rfl,rfl⟩:=z
  refine .inr ⟨b,d+1,rfl,G,fun i D=>?_⟩
  simp at D
  have:=H (i+1) (by omega)
  rw[show d+1+i=d+(i+1) by omega,this,List.getElem?_drop,Nat.add_comm 1 i]
theorem qK(neg:Bool)(b d c:Nat)(L:List Nat)(w:World)(h:ag w (some ⟨b,d,none⟩) c L)(F:L.length≤30000):
  Calls Tryz.prog 65 #[.bool neg,.slice (some ⟨b,d+1,none⟩) (L.length-1) (c-1)] w fun e u=>∃v,e=.returned v∧aJ L.length 0 u v (sg neg (aj L/4294967296))∧Below w.heap.size w u:=by
 have:=dc 0 neg _ _ (L.drop 1) w h.drop1 (bI.zero h.drop1) (by simp;omega)
 rw[dN,tE L h.2.1 1]at this
 simp only[List.length_drop,Nat.pow_one]at this
 exact this.mono fun e u ⟨v,z,A,D⟩=>⟨v,z,A.more (by omega),D⟩
theorem oO(neg:Bool)(b d:Nat)(L:List Nat)(w:World)(h:ag w (some ⟨b,d,none⟩) 1 L):
  Calls Tryz.prog 65 #[.bool neg,.slice (some ⟨b,d,none⟩) 0 0] w fun e u=>∃v,e=.returned v∧aJ L.length 0 u v (sg neg (aj L/4294967296))∧Below w.heap.size w u:=by
 have:=dc 0 neg (some ⟨b,d,none⟩) 0 [] w (ag.nil _ _ _) (.inl rfl) (by simp)
 have F:aj L/4294967296=0:=by
  have z:=eO L h.2.1
  have A:=Nat.pow_le_pow_right (n:=4294967296) (by decide) h.1
  exact Nat.div_eq_of_lt (by omega)
 rw[F]
 rw[dN]at this
 exact this.mono fun e u ⟨v,z,A,D⟩=>⟨v,z,A.more (by simp),D⟩
theorem oP(L:List Nat):aj (0::L)=4294967296*aj L:=by simp[aj]
attribute [local go_sem ↓] Go.wp_at_zero Go.wp_at_succ
theorem Gc(W:World)(d g:Nat)(h:W.heap.size=g)(u:d≤g):((W.alloc (.cells #[.int .u32 0] 84)).drew).ownsRow d 84 1 (.slice (some ⟨g,0,none⟩) 1 1) 1 [.int .u32 0]:=by
 subst h
 exact⟨by simp,.inr ⟨W.heap.size,1,#[.int .u32 0],rfl,u,heap_alloc_new W _,Nat.le_refl _,by simp[maxLen],by simp,by simp⟩⟩
theorem B9(neg:Bool)(g n c d:Nat)(S:List Nat)(w:World)(h:w.ownsRow d 84 1 (.slice (some ⟨g,0,none⟩) n c) n (S.map dz))(z:bm S)(G:n≤35184372088832):
  Calls Tryz.prog 65 #[.bool neg,.slice (some ⟨g,0,none⟩) n c] w fun e u=>∃v,e=.returned v∧aJ n d u v (af neg S)∧Below w.heap.size w u:=by
 obtain⟨A,D,F,H⟩:=Jw h z
 have:=dc d neg (some ⟨g,0,none⟩) c S w A (.inr ⟨g,0,rfl,F⟩) (by omega)
 rw[D]at this
 exact this
theorem qL{L:List Nat}(h:aj L≠0):L≠ []:=by
 rintro rfl
 simp[aj]at h
theorem qb(na:Bool)(ao:Option Addr)(ca:Nat)(A:List Nat)(n:Int)(w:World)(hA:ag w ao ca A)(h0:A≠ [])(hc:bT A)(la:A.length≤3000)(hn:-16384≤n∧n≤16384):
  Calls Tryz.prog 111 #[.agg #[.bool na,.slice ao A.length ca],.int .i64 n] w fun e w'=>∃v,e=.returned v∧au 0 w' v (qa na A n)∧Below w.heap.size w w':=by
 obtain⟨i0,hi,bd,be,bg⟩:=info_parts Tryz.info84
 have HZ:=ac (nP na A n).symm
 generalize qa na A n=z at*
 have a3:=ac h0;have HC:=ac hc
 clear h0 hc
 go_enter Tryz.func111,Tryz.ntmps111
 go_wp2
 go_loopw[1] (fun i wr=>∃(m:Int) (K:Bool) (a:Option Addr) (c:Nat) (L:List Nat),i=.int .i64 m∧-16384≤m∧m≤16384∧L≠ []∧Hid (zM w wr z m K a c L)) (fun i _=>(intOf i).toNat)
 case atStart=>
  refine⟨n,na,ao,ca,A,rfl,hn.1,hn.2,uH a3,(aB.new _ _ _).old _,?_,hA.below (((Below.refl _ _).alloc (Nat.le_refl _) _).alloc (by simp) _),uH HC,fun _=>uH a3,by omega,uH HZ,((Below.refl _ _).alloc (Nat.le_refl _) _).alloc (by simp) _⟩
  have:=aB.new (w.alloc (.cells #[.bool na,.slice ao A.length ca] 33)) (.bool false) (.slice none 0 0)
  simpa using this
 case round=>
  obtain⟨m,K,a,c,L,rfl,an,ar,ah,X⟩:=hrel
  clear HZ HC a3 hA la hn
  obtain⟨J,O,Y,hC,hS,D,hz,d⟩:=uH X
  have hp:0<L.length:=List.length_pos_iff.2 ah
  have ax:(0:Int)<(L.length:Int):=by omega
  have p0:=J.c0;have p1:=J.c1
  have HV:Hid (aj L≠0):=fun e=>ah ((aT L hC).1 e)
  by_cases hg:32≤m
  ·obtain⟨b,Z,rfl,hb,a0⟩:=Y.ne hp
   have H:=hz
   rw[←B7 _ _ hg]at H
   have ae:=ac H
   have bq:=J.lt
   have bn:=O.lt
   have hN:∀j u,(L.map dz)[j]? =some u→((wr.alloc (.cells #[.int .u32 0] 84)).drew).cell? ((⟨b,Z,none⟩:Addr).add j)=some u:=by
    intro j u hu
    rw[List.getElem?_map]at hu
    have hj:j<L.length:=by
     rcases Nat.lt_or_ge j L.length with e|e
     ·exact e
     ·rw[List.getElem?_eq_none e]at hu;simp at hu
    have e3:(⟨b,Z,none⟩:Addr).add j=⟨b,Z+j,none⟩:=by simp[Addr.add]
    rw[e3,((((Below.refl wr.heap.size wr).alloc (Nat.le_refl _) _).drew).cell (p:=⟨b,Z+j,none⟩) hb),a0 j hj]
    rw[List.getElem?_eq_getElem hj]at hu⊢
    simpa[dz]using hu
   have a1:∀u∈L.map dz,u.oneCell'=true:=by
    intro u hu
    obtain⟨y,_,rfl⟩:=List.mem_map.1 hu
    rfl
   have HF:Hid (bm (0::L)):=by
    intro y hy
    rcases List.mem_cons.1 hy with rfl|hy
    ·decide
    ·exact Y.2.1 y hy
   have HN:=ac hN;have a4:=ac a1;have I:=ac d;have X0:=ac J;have X1:=ac O;have F:=ac D
   clear hz H hN a1 J O Y hC hS d X a0
   have ll:L.length≤20000:=by have:=uH F;omega
   clear D
   go_wp2
   go_region_law (first|(refine step_append_lies _ (by rfl) _ _ _ (by rfl) wr.heap.size 84 i0 (.int .u32 0) 1 4 Tryz.underlying31 hi bd be bg rfl (by omega) (.slice (some ⟨wr.heap.size,0,none⟩) 1 1) 1 [.int .u32 0] (by rfl) (Gc wr wr.heap.size wr.heap.size rfl (Nat.le_refl _)) ⟨b,Z,none⟩ L.length c (L.map dz) (by rfl) (by simp) (uH HN) (uH a4) hp (by unfold maxLen;omega) (by omega) (by simp) (wr.heap.size+1) (by simp) ?_;intro g cp w1 aI aa bi bx;have y0:aB w1 w.heap.size (.bool K) (.slice (some ⟨b,Z,none⟩) L.length c):=(aa.block w.heap.size (by simp;omega) (by simp[Value.ownBlock];omega)).trans (((uH X0).old _).drew);have y1:aB w1 (w.heap.size+1) (.bool false) (.slice none 0 0):=(aa.block (w.heap.size+1) (by simp;omega) (by simp[Value.ownBlock];omega)).trans (((uH X1).old _).drew);have q0:=y0.c0;have q1:=y0.c1;have Y0:=ac y0;have Y1:=ac y1;have B1:=ac ((((uH I).alloc (by omega) _).drew).grown aa (by simp;omega) (fun k hk=>by simp[Value.ownBlock]at hk;omega));have a5:=ac aI;clear aI aa bi y0 y1)|(go_simp;go_at_call 65;refine(B9 K g (1+L.length) cp _ (0::L) _ (uH a5) (uH HF) (by omega)).mono ?_;rintro e w2 ⟨v,rfl,⟨n2,a2,c2,L2,rfl,i1⟩,h⟩;have I1:=ac i1;have G:=(uH Y0).below h (uH Y0).lt;have Z1:=(uH Y1).below h (uH Y1).lt;have r0:=G.c0;have r1:=G.c1;have f0:=G.free 0;have f1:=G.free 1;have B2:=ac ((uH B1).trans (h.mono (uH B1).size));have Q:=ac G;have U:=ac Z1;clear i1 h G Z1))
   all_goals
    go_wp2
    go_roundw
    case rel=>
     refine⟨m-32,n2,a2,c2,L2,by go_num,by omega,by omega,qL ?_,zM.step (v:=4294967296*aj L) (uH Q) (uH U) (uH I1) (by rw[dN,oP]) (uH ae) (by have:=uH F;omega) (uH B2)⟩
     have h5:=(uH I1).2.2.2.2.1
     rw[aQ,oP]at h5
     have:=uH HV
     omega
    case measure=>simp[intOf];omega
  ·have HI:=X
   have a9:¬(32:Int)≤m:=by omega
   clear X J O Y hC hS D hz d
   go_wp2
   go_loopw[1] (fun i wr=>∃(m:Int) (K:Bool) (a:Option Addr) (c:Nat) (L:List Nat),i=.int .i64 m∧-16384≤m∧m≤31∧L≠ []∧Hid (zM w wr z m K a c L)) (fun i _=>(intOf i).toNat)
   case atStart=>exact⟨m,K,a,c,L,rfl,by omega,by omega,ah,HI⟩
   case round=>
    clear HI HV p0 p1 ax hp ah a9 hg an ar
    obtain⟨m,K,a,c,L,rfl,an,ar,ah,X⟩:=hrel
    obtain⟨J,O,Y,hC,hS,D,hz,d⟩:=uH X
    have hp:0<L.length:=List.length_pos_iff.2 ah
    have ax:(0:Int)<(L.length:Int):=by omega
    have p0:=J.c0;have p1:=J.c1
    by_cases hg:0<m
    ·have HV:Hid (aj L≠0):=fun e=>ah ((aT L hC).1 e)
     have H:=hz
     rw[←F8 _ _ (by omega)]at H
     have ae:=ac H
     have I:=ac d;have X0:=ac J;have X1:=ac O;have F:=ac D;have am:=ac Y
     clear hz H J O Y hC hS d X D
     go_wp2_with fail
     refine(wz K a c L wr (uH am) (by have:=uH F;omega)).mono ?_
     rintro e w2 ⟨v,rfl,⟨n2,a2,c2,L2,rfl,i1⟩,h⟩
     have I1:=ac i1
     have G:=(uH X0).below h (uH X0).lt
     have Z1:=(uH X1).below h (uH X1).lt
     have r0:=G.c0;have r1:=G.c1;have f0:=G.free 0;have f1:=G.free 1
     have B2:=ac ((uH I).trans (h.mono (uH I).size))
     have Q:=ac G;have U:=ac Z1
     clear i1 h G Z1
     go_wp2
     go_roundw
     case rel=>
      refine⟨m-1,n2,a2,c2,L2,by go_num,by omega,by omega,qL ?_,zM.step (v:=aj L+aj L) (uH Q) (uH U) (uH I1) rfl (uH ae) (by have:=uH F;omega) (uH B2)⟩
      have h5:=(uH I1).2.2.2.2.1
      rw[jR]at h5
      have:=uH HV
      omega
     case measure=>simp[intOf];omega
    ·have HI:=X
     clear X J O Y hC hS D hz d
     go_wp2
     go_loopw[1] (fun i wr=>∃(m:Int) (K:Bool) (a:Option Addr) (c:Nat) (L:List Nat),i=.int .i64 m∧-16384≤m∧m≤0∧Hid (zM w wr z m K a c L)) (fun i _=>(-(intOf i)).toNat)
     case atStart=>exact⟨m,K,a,c,L,rfl,by omega,by omega,HI⟩
     case round=>
      clear HI p0 p1 ax hp ah hg an ar
      obtain⟨m,K,a,c,L,rfl,an,ar,X⟩:=hrel
      obtain⟨J,O,Y,hC,hS,D,hz,d⟩:=uH X
      have p0:=J.c0;have p1:=J.c1
      by_cases a6:m≤-32∧0<L.length
      ·obtain⟨hg,hp⟩:=a6
       ·have ax:(0:Int)<(L.length:Int):=by omega
        have bo:=Y.1
        obtain⟨b,Z,rfl,hb,a0⟩:=Y.ne hp
        have H:=hz
        rw[←B8 _ _ hg]at H
        have ae:=ac H
        have I:=ac d;have X0:=ac J;have X1:=ac O;have F:=ac D;have am:=ac (Y.below ((Below.refl _ _).drew))
        clear hz H J O Y hC hS d X D a0
        go_wp2
        have bs:(1:Int)≤(L.length:Int):=by omega
        have bv:(L.length:Int)≤(c:Int):=by omega
        have bw:(1:Int)≤(c:Int):=by omega
        by_cases ba:c=1
        ·subst ba
         go_region_with (go_at_call 65;refine(oO K b Z L _ (uH am)).mono ?_;rintro e w2 ⟨v,rfl,⟨n2,a2,c2,L2,rfl,i1⟩,h⟩;have I1:=ac i1;have G:=(uH X0).drew.below h (uH X0).drew.lt;have Z1:=(uH X1).drew.below h (uH X1).drew.lt;have r0:=G.c0;have r1:=G.c1;have f0:=G.free 0;have f1:=G.free 1;have B2:=ac (((uH I).drew).trans (h.mono ((uH I).drew).size));have Q:=ac G;have U:=ac Z1;clear i1 h G Z1)
         all_goals
          go_wp2
          go_roundw
          case rel=>exact⟨m+32,n2,a2,c2,L2,by go_num,by omega,by omega,zM.step (v:=aj L/4294967296) (uH Q) (uH U) (uH I1) rfl (uH ae) (by have:=uH F;omega) (uH B2)⟩
          case measure=>simp[intOf];omega
        ·have bp:¬(c:Int)=1:=by omega
         go_region_with (go_at_call 65;refine(qK K b Z c L _ (uH am) (by have:=uH F;omega)).mono ?_;rintro e w2 ⟨v,rfl,⟨n2,a2,c2,L2,rfl,i1⟩,h⟩;have I1:=ac i1;have G:=(uH X0).drew.below h (uH X0).drew.lt;have Z1:=(uH X1).drew.below h (uH X1).drew.lt;have r0:=G.c0;have r1:=G.c1;have f0:=G.free 0;have f1:=G.free 1;have B2:=ac (((uH I).drew).trans (h.mono ((uH I).drew).size));have Q:=ac G;have U:=ac Z1;clear i1 h G Z1)
         all_goals
          go_wp2
          go_roundw
          case rel=>exact⟨m+32,n2,a2,c2,L2,by go_num,by omega,by omega,zM.step (v:=aj L/4294967296) (uH Q) (uH U) (uH I1) rfl (uH ae) (by have:=uH F;omega) (uH B2)⟩
          case measure=>simp[intOf];omega
      ·have HI:=X
       rcases(show(m≤-32∧¬(0:Int)<(L.length:Int))∨¬m≤-32 by omega)with⟨hg,hp⟩|hg
       all_goals
        clear X J O Y hC hS D hz d a6
        go_wp2
        go_loopw[1] (fun i wr=>∃(m:Int) (K:Bool) (a:Option Addr) (c:Nat) (L:List Nat),i=.int .i64 m∧-16384≤m∧m≤0∧Hid (zM w wr z m K a c L)) (fun i _=>(-(intOf i)).toNat)
        case atStart=>exact⟨m,K,a,c,L,rfl,by omega,by omega,HI⟩
        case round=>
         clear HI p0 p1 hg an ar
         obtain⟨m,K,a,c,L,rfl,an,ar,X⟩:=hrel
         obtain⟨J,O,Y,hC,hS,D,hz,d⟩:=uH X
         have p0:=J.c0;have p1:=J.c1
         by_cases a7:m<0∧0<L.length
         ·obtain⟨hg,hp⟩:=a7
          have ax:(0:Int)<(L.length:Int):=by omega
          have H:=hz
          rw[←Ga _ _ (by omega)]at H
          have ae:=ac H
          have I:=ac d;have X0:=ac J;have X1:=ac O;have F:=ac D;have am:=ac Y
          clear hz H J O Y hC hS d X D
          go_wp2_with fail
          refine(tQ K a c L wr (uH am) (by have:=uH F;omega)).mono ?_
          rintro e w2 ⟨v,rfl,⟨n2,a2,c2,L2,rfl,i1⟩,h⟩
          have I1:=ac i1
          have G:=(uH X0).below h (uH X0).lt
          have Z1:=(uH X1).below h (uH X1).lt
          have r0:=G.c0;have r1:=G.c1;have f0:=G.free 0;have f1:=G.free 1
          have B2:=ac ((uH I).trans (h.mono (uH I).size))
          have Q:=ac G;have U:=ac Z1
          clear i1 h G Z1
          go_wp2
          go_roundw
          case rel=>exact⟨m+1,n2,a2,c2,L2,by go_num,by omega,by omega,zM.step (v:=aj L/2) (uH Q) (uH U) (uH I1) rfl (uH ae) (by have:=uH F;omega) (uH B2)⟩
          case measure=>simp[intOf];omega
         ·have az:=X.out.last (by rcases Nat.eq_zero_or_pos L.length with e|e;(right;exact List.length_eq_zero_iff.1 e);(left;omega))
          have bb:=ac az
          have X1:=ac O;have I:=ac d;have am:=ac Y
          have y0:=O.c0;have y1:=O.c1;have f0:=O.free 0;have f1:=O.free 1
          rcases(show(m<0∧¬(0:Int)<(L.length:Int))∨¬m<0 by omega)with⟨hg,hp⟩|hg
          all_goals
           clear X J O Y hC hS D hz d a7 az
           go_wp2
           refine bodyPost_ret (v:=.agg #[.bool K,.slice a L.length c]) (by simp[results,Tryz.results111,go_sem,y0,y1]) rfl ⟨.agg #[.bool K,.slice a L.length c],rfl,?_,?_⟩
           ·obtain⟨neg,a',c',L',e1,e2,e3⟩:=uH bb
            refine⟨neg,a',c',L',e1,e2.box (uH X1) _ _,e3⟩
           ·exact((uH I).setCell (by simp) _).setCell (by simp) _
end Go.Proofs.YtcbcmlaogehimaaGreatDoor
namespace Go.Proofs.YtcbcmlaogehimaaGreatDoor
open Go.RowKit
theorem zN{B:Nat}{w:World}{neg:Bool}{u:Option Addr}{d:Nat}{L:List Nat}(h:ag w u d L)(A:aw neg L=true)(D:bI B u L):au B w (.agg #[.bool neg,.slice u L.length d]) (af neg L):=by
 have F:=ay A
 by_cases z:L= []
 ·subst z
  have:neg=false:=by cases neg<;>simp_all
  subst this
  exact au.zero _ _ _ _
 ·exact au.mk h D F.2.1 z (by omega)
end Go.Proofs.YtcbcmlaogehimaaGreatDoor
