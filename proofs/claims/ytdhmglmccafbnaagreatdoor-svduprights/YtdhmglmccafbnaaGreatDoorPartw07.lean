/- Part 7 of the texts. -/
import Derived.Test.YtdhmglmccafbnaaGreatDoorPartw06
import Derived.Deep.AppendLies
import Derived.Deep.RegionLaw
set_option maxHeartbeats 4000000
set_option maxRecDepth 4000
namespace Go.Proofs.YtdhmglmccafbnaaGreatDoor
open Go.RowKit
attribute [local go_sem ↓] Go.wp_at_zero Go.wp_at_succ
theorem ud(d:Bool)(l:Option Addr)(u:Nat)(A:List Nat)(w:World)(X:ag w l u A)(Y:A.length≤35184372088830):
  Calls Tryz.prog 193 #[.agg #[.bool d,.slice l A.length u]] w fun e w'=>∃v,e=.returned v∧aB (A.length+1) w.heap.size w' v (sg d (ai A+ai A))∧Below w.heap.size w w':=by
 have D:∀L:List Nat,ai L=ai A+ai A→ad d L=sg d (ai A+ai A):=by
  intro L h;rw[dn,h]
 have HS:=aa D
 clear D
 generalize sg d (ai A+ai A)=z at*
 go_enter Tryz.func193,Tryz.ntmps193
 go_wp2
 refine aj (fun W=>Below w.heap.size w W∧W.heap.size=w.heap.size+2∧az W w.heap.size (.bool d) (.slice l A.length u)∧az W (w.heap.size+1) (.bool false) (.slice none 0 0)) ?_ ?_
 ·refine⟨((Below.refl _ _).alloc (Nat.le_refl _) _).alloc (by simp) _,by simp,(az.new _ _ _).old _,?_⟩
  have:=az.new (w.alloc (.cells #[.bool d,.slice l A.length u] 39)) (.bool false) (.slice none 0 0)
  simpa using this
 rintro K ⟨F,M,U,x2⟩
 have Z:∀w',Below (w.heap.size+1) K w'→Below (w.heap.size+1) K w'∧w'.cell? ⟨w.heap.size,0,none⟩=some (.bool d)∧w'.cell? ⟨w.heap.size,1,none⟩=some (.slice l A.length u):=fun w' h=>
  ⟨h,(U.below h (by omega)).c0,(U.below h (by omega)).c1⟩
 have N:=aa Z
 have HA:=aa (X.below F)
 have X2:=aa x2
 have O:=aa F
 clear Z X U x2 F
 go_region_held3(fun w'=>Below (w.heap.size+1) K w'∧w'.cell? ⟨w.heap.size,0,none⟩=some (.bool d)∧w'.cell? ⟨w.heap.size,1,none⟩=some (.slice l A.length u))
  (first|exact uH N _ (Below.refl _ _).drew|exact uH N _ (by assumption)|exact uH N _ ((H.setCell (by simp) _).setCell (by simp) _))
  (first|(go_at_call 127;refine(rH l l u u A A _ ((uH HA).below ((Below.refl _ _).drew)) ((uH HA).below ((Below.refl _ _).drew)) Y Y).mono ?_;rintro e w1 ⟨am,ae,V,rfl,g1,g2,g3,g4,f⟩;have Q:Below (w.heap.size+1) K w1:=((Below.refl _ _).drew).trans (f.mono (by simp[M]));have X3:=aa ((uH X2).drew.below f (by simp[M]));have G1:=aa g1;have G2:=aa g2;have G4:=aa g4;have L4:V.length≤35184372088832:=(by omega);have L5:V.length≤A.length+1:=(by omega);have s1:=f.size;clear g1 g2 g4 g3 f)|(go_at_call 101;refine(c8 _ d _ _ _ _ (uH G1) (uH G2) L4).mono ?_;rintro e w2 ⟨v,rfl,⟨n2,a2,c2,L2,rfl,i1⟩,G⟩;have H:Below (w.heap.size+1) K w2:=Q.trans (G.mono (by simp at s1;omega));have J:=(uH X3).below G (by simp at s1;omega);have y0:=J.c0;have y1:=J.c1;have f0:=J.free 0;have f1:=J.free 1;have I1:=aa i1;clear i1 G J))
 have hz:=uH HS V (uH G4)
 have HI:=aa (hz▸uH I1)
 clear hz
 go_wp2
 refine bodyPost_ret (v:=.agg #[.bool n2,.slice a2 L2.length c2]) (by simp[results,Tryz.results193,go_sem,y0,y1]) rfl ⟨.agg #[.bool n2,.slice a2 L2.length c2],rfl,?_,?_⟩
 ·exact(aB.stored (uH HI) (by simp;omega) (by simp;omega) (by simp;omega) _ _).more (by have:=L5;omega)
 ·exact(((uH O).trans (H.mono (by omega))).setCell (by simp) _).setCell (by simp) _
theorem az.other{w:World}{b:Nat}{x y:Value}(h:az w b x y){p:Addr}(d:b≠p.block)(u:Value):az (w.setCell p u) b x y:=(Below.heap_setCell w p u b d).trans h
theorem wK(d f:Nat):((f%2*4294967296+d)/2)%4294967296=((d+4294967296*f)/2^1)%4294967296:=by omega
theorem rN(H:Bool)(J:Option Addr)(K:Nat)(A:List Nat)(w:World)(X:ag w J K A)(la:A.length≤1073741824):
  Calls Tryz.prog 103 #[.agg #[.bool H,.slice J A.length K]] w fun e w'=>∃v,e=.returned v∧aB A.length w.heap.size w' v (sg H (ai A/2))∧Below w.heap.size w w':=by
 obtain⟨i0,hi,a9,ba,bb⟩:=info_parts Tryz.info122
 have ax:∀(S:List Nat) (k F G:Nat),k<S.length→A[k]?.getD 0=F→A[k+1]?.getD 0=G→ai (S.take k)=(ai A/(4294967296^0*2^1))%4294967296^k→ai ((S.set k (((G%2*4294967296+F)/2)%4294967296)).take (k+1))=(ai A/(4294967296^0*2^1))%4294967296^(k+1):=by
  intro S k F G h1 h2 h3 h4
  rw[wK]
  exact pp A S X.2.1 k 0 1 F G (by omega) h1 h2 h3 h4
 have aI:∀(S:List Nat),S.length=A.length→ai (S.take S.length)=(ai A/(4294967296^0*2^1))%4294967296^S.length→ad H S=sg H (ai A/2):=by
  intro S h1 h2
  have:=rC A S X.2.1 0 1 (by omega) h2
  rw[dn,this]
 have Y:=aa ax
 have Z:=aa aI
 clear ax aI
 generalize sg H (ai A/2)=z at*
 go_enter Tryz.func103,Tryz.ntmps103
 go_wp2_with(at_make;refine wpList_make_full _ rfl _ _ 37 rfl (w.heap.size+2) 122 i0 (.int .u32 0) 1 Tryz.underlying37 hi a9 ba .i64 .i64 _ _ A.length rfl rfl (by omega) (by omega) (by rw[bb];omega) (by unfold maxLen;omega) (by simp) ?_;intro w1 V d)
 have L:=bL.made V
 have M:bL w1 (w.heap.size+1+1) (List.replicate A.length 0):=by simpa using L
 clear L
 have a0:Below w.heap.size w ((w.alloc (.cells #[.bool H,.slice J A.length K] 39)).alloc (.cells #[.bool false,.slice none 0 0] 39)):=((Below.refl _ _).alloc (Nat.le_refl _) _).alloc (by simp) _
 have ae:Below w.heap.size w w1:=a0.grown d (by simp;omega) (fun k h=>by simp at h)
 have x0:az w1 w.heap.size (.bool H) (.slice J A.length K):=(d.block w.heap.size (by simp;omega) (by simp)).trans ((az.new _ _ _).old _)
 have x1:az w1 (w.heap.size+1) (.bool false) (.slice none 0 0):=by
  have h:=az.new (w.alloc (.cells #[.bool H,.slice J A.length K] 39)) (.bool false) (.slice none 0 0)
  have h':az ((w.alloc (.cells #[.bool H,.slice J A.length K] 39)).alloc (.cells #[.bool false,.slice none 0 0] 39)) (w.heap.size+1) (.bool false) (.slice none 0 0):=by simpa using h
  exact(d.block (w.heap.size+1) (by simp) (by simp)).trans h'
 clear V d a0
 go_loopw[4] (fun c wr=>∃(i:Nat) (S:List Nat),i≤A.length∧c=.int .i64 i∧bL wr (w.heap.size+1+1) S∧az wr w.heap.size (.bool H) (.slice J A.length K)∧az wr (w.heap.size+1) (.bool false) (.slice none 0 0)∧S.length=A.length∧aX S∧Below w.heap.size w wr∧Hid (ai (S.take i)=(ai A/(4294967296^0*2^1))%4294967296^i))
  (fun c _=>A.length-(intOf c).toNat)
 case atStart=>exact⟨0,List.replicate A.length 0,Nat.zero_le _,rfl,M,x0,x1,by simp,aX.zeros _,ae,by unfold Hid;simp[ai,Nat.mod_one]⟩
 case round=>
  obtain⟨i,S,bv,rfl,D,z0,z1,N,hf,f,hv⟩:=hrel
  have p0:=z0.c0;have p1:=z0.c1
  by_cases bi:i<A.length
  ·obtain⟨F,O⟩:∃x,A[i]?.getD 0=x:=⟨_,rfl⟩
   obtain⟨G,Q⟩:∃x,A[i+1]?.getD 0=x:=⟨_,rfl⟩
   have b0:F<4294967296:=by rw[←O];exact X.lt _
   have bm:G<4294967296:=by rw[←Q];exact X.lt _
   have cA:=(X.below f).below ((Below.refl _ _).drew)
   have dS:=D.cell i (by omega)
   have fS:=D.free i
   generalize be:S[i]?.getD 0=s at*
   have a1:=aa (uH Y S i F G (by omega) O Q hv.out)
   have a5:=aa O
   have a3:=aa Q
   have HR:=aa D;have Z0:=aa z0;have Z1:=aa z1;have am:=aa f;have CA:=aa cA
   clear O Q D hv be Y Z x0 x1 M ae z0 z1 f cA X
   have bg:(i:Int)<(A.length:Int):=by omega
   have bn:IntKind.i64.wrap ((i:Int)+1)=(i:Int)+1:=by
    simp only[IntKind.wrap,IntKind.signed,IntKind.bits]
    simp
    omega
   have hK:∀w',w'=wr.drew∨(∃u,w'=(wr.drew).setCell ⟨w.heap.size+1+1,i,none⟩ u)→(w'=wr.drew∨(∃u,w'=(wr.drew).setCell ⟨w.heap.size+1+1,i,none⟩ u))∧w'.cell? ⟨w.heap.size,1,none⟩=some (.slice J A.length K):=fun w' h=>by
    refine⟨h,?_⟩
    rcases h with rfl|⟨u,rfl⟩
    ·exact(uH Z0).drew.c1
    ·exact((uH Z0).drew.other (by simp;omega) u).c1
   have HK:=aa hK
   clear hK
   go_wp2
   go_region_held3(fun w'=>(w'=wr.drew∨(∃u,w'=(wr.drew).setCell ⟨w.heap.size+1+1,i,none⟩ u))∧w'.cell? ⟨w.heap.size,1,none⟩=some (.slice J A.length K))
    (first|exact uH HK _ (.inl rfl)|exact uH HK _ (.inr ⟨_,rfl⟩))
    (first|(go_at_call 169;have hq:=a3;clear a3;refine(fj J K A _ (i+1) G _ (uH CA) (by omega) (by omega) hq).mono ?_;rintro e w' ⟨rfl,rfl⟩;clear hq)|(go_at_call 169;refine(fj J K A _ i F _ (uH CA) (by omega) rfl a5).mono ?_;rintro e w' ⟨rfl,rfl⟩))
   have r1:=(uH HR).set i (((G%2*4294967296+F)/2)%4294967296)
   rw[show(((G%2*4294967296+F)/2%4294967296:Nat):Int)=((G:Int)%2*4294967296+(F:Int))/2 by omega]at r1
   have U:((G%2*4294967296+F)/2)%4294967296<4294967296:=Nat.mod_lt _ (by decide)
   have R1:=aa r1
   have HM:=aa U
   clear r1 U
   go_wp2
   go_roundw
   case rel=>exact⟨i+1,S.set i (((G%2*4294967296+F)/2)%4294967296),by omega,by go_num,(uH R1:_),(uH Z0).other (by simp;omega) _,(uH Z1).other (by simp) _,by simpa using N,hf.set _ _ (uH HM),((uH am).setCell (by simp;omega) _).drew,uH a1⟩
   case measure=>simp[intOf];omega
  ·have a6:i=A.length:=by omega
   have a4:=uH Z S N (by rw[N,←a6];exact hv.out)
   have HR:=aa (D.limbs hf A.length (by omega))
   have HV:=aa a4
   have Z1:=aa z1
   have am:=aa f
   have bo:¬(i:Int)<(A.length:Int):=by omega
   have HL:=aa N
   have bq:=z1.lt
   have bt:=D.lt
   clear a4 hv D Y Z x0 x1 M ae z1 f X z0
   go_wp2_with fail
   have hN:bs (w.heap.size+1+1) (some ⟨w.heap.size+1+1,0,none⟩) S:=.inr ⟨_,_,rfl,Nat.le_refl _⟩
   have l:=c8 (w.heap.size+1+1) H (some ⟨w.heap.size+1+1,0,none⟩) A.length S wr (uH HR) hN (by omega)
   rw[uH HV,uH HL]at l
   refine l.mono ?_
   rintro e w2 ⟨v,rfl,⟨n2,a2,c2,L2,rfl,i1⟩,ap⟩
   have X4:=(uH Z1).below ap (uH Z1).lt
   have y0:=X4.c0;have y1:=X4.c1;have f0:=X4.free 0;have f1:=X4.free 1
   have a7:=aa ((uH am).trans (ap.mono (by omega)))
   have I1:=aa i1
   clear l X4 ap i1 hN
   go_wp2
   refine bodyPost_ret (v:=.agg #[.bool n2,.slice a2 L2.length c2]) (by simp[results,Tryz.results103,go_sem,y0,y1]) rfl ⟨.agg #[.bool n2,.slice a2 L2.length c2],rfl,?_,?_⟩
   ·exact aB.stored (uH I1) (by simp) (by simp) (by omega) _ _
   ·exact((uH a7).setCell (by simp) _).setCell (by simp) _
end Go.Proofs.YtdhmglmccafbnaaGreatDoor
namespace Go.Proofs.YtdhmglmccafbnaaGreatDoor
open Go.RowKit
theorem bits_nat(a b:Int):∃y:Nat,y<4294967296∧bits BinOp.xor IntKind.u32 a b=(y:Int):=by
 refine⟨(bits BinOp.xor IntKind.u32 a b).toNat,?_,?_⟩
 all_goals
  have h:0≤bits BinOp.xor IntKind.u32 a b∧bits BinOp.xor IntKind.u32 a b<4294967296:=by
   simp only[bits,IntKind.wrap,IntKind.signed,IntKind.bits]
   simp
   omega
  omega
theorem Fy{w:World}{d g n c:Nat}{S:List Nat}(h:w.ownsRow d 122 1 (.slice (some ⟨g,0,none⟩) n c) n (S.map ew))(l:aX S):ag w (some ⟨g,0,none⟩) c S∧S.length=n∧d≤g∧g<w.heap.size:=by
 obtain⟨F,u,f,z,G,D⟩:=kR h l
 simp only[Value.slice.injEq]at f
 obtain⟨rfl,_,rfl⟩:=f
 exact⟨z,D,h.lt g rfl⟩
def mY(v:Nat)(m:Int):Nat:=if 0≤m then v*2^m.toNat else v/2^(-m).toNat
theorem mz(neg:Bool)(L:List Nat)(n:Int):oT neg L n=sg neg (mY (ai L) n):=rfl
theorem mZ(m:Int):mY 0 m=0:=by unfold mY;split<;>simp
theorem Df(v:Nat):mY v 0=v:=by unfold mY;simp
theorem yX(v:Nat)(m:Int)(h:32≤m):mY (4294967296*v) (m-32)=mY v m:=by
 unfold mY
 rw[if_pos (by omega),if_pos (by omega),show m.toNat=32+(m-32).toNat by omega,Nat.pow_add,←Nat.mul_assoc,Nat.mul_comm v,show(2:Nat)^32=4294967296 from rfl]
theorem Dg(v:Nat)(m:Int)(h:1≤m):mY (v+v) (m-1)=mY v m:=by
 unfold mY
 rw[if_pos (by omega),if_pos (by omega),show m.toNat=1+(m-1).toNat by omega,Nat.pow_add,←Nat.mul_assoc,show v*2^1=v+v by omega]
theorem yY(v:Nat)(m:Int)(h:m≤-32):mY (v/4294967296) (m+32)=mY v m:=by
 unfold mY
 rw[if_neg (show¬0≤m by omega),show(-m).toNat=32+(-(m+32)).toNat by omega,Nat.pow_add,←Nat.div_div_eq_div_mul,show(2:Nat)^32=4294967296 from rfl]
 by_cases d:0≤m+32
 ·rw[if_pos d,show(m+32).toNat=0 by omega,show(-(m+32)).toNat=0 by omega];simp
 ·rw[if_neg d]
theorem Dh(v:Nat)(m:Int)(h:m≤-1):mY (v/2) (m+1)=mY v m:=by
 unfold mY
 rw[if_neg (show¬0≤m by omega),show(-m).toNat=1+(-(m+1)).toNat by omega,Nat.pow_add,←Nat.div_div_eq_div_mul,show(2:Nat)^1=2 from rfl]
 by_cases d:0≤m+1
 ·rw[if_pos d,show(m+1).toNat=0 by omega,show(-(m+1)).toNat=0 by omega];simp
 ·rw[if_neg d]
theorem Di(d:Bool)(v:Nat)(m:Int):sg (decide (sg d v<0)) (mY v m)=sg d (mY v m):=by
 by_cases f:v=0
 ·subst f;rw[mZ];unfold sg;simp
 ·have:decide (sg d v<0)=d:=by unfold sg;cases d<;>simp<;>omega
  rw[this]
theorem jd(d:Bool)(v:Nat):(sg d v).natAbs=v:=by unfold sg;cases d<;>simp
def wL(w wr:World)(z m:Int)(nn:Bool)(a:Option Addr)(c:Nat)(L:List Nat):Prop:=
 az wr w.heap.size (.bool nn) (.slice a L.length c)∧az wr (w.heap.size+1) (.bool false) (.slice none 0 0)∧ag wr a c L∧bG L∧(nn=true→L≠ [])∧L.length+m.toNat≤20000∧sg nn (mY (ai L) m)=z∧Below w.heap.size w wr
theorem az.put{w:World}{b:Nat}{x y:Value}(h:az w b x y)(u d:Value):az ((w.setCell ⟨b,0,none⟩ u).setCell ⟨b,1,none⟩ d) b u d:=by
 have f:=heap_setCell_same w b 0 _ _ u h
 have l:=heap_setCell_same (w.setCell ⟨b,0,none⟩ u) b 1 _ _ d f
 unfold az
 rw[l]
 simp
theorem wL.step{w f:World}{z m x:Int}{H K D:Bool}{L l:Option Addr}{N O F v M B:Nat}{d:List Nat}
  (J:az f w.heap.size (.bool K) (.slice L N O)) (Q:az f (w.heap.size+1) (.bool false) (.slice none 0 0))
  (i:ag f l F d∧bs B l d∧bG d∧D=decide (x<0)∧ai d=x.natAbs∧d.length≤M) (U:x=sg H v) (V:sg H (mY v m)=z) (Z:M+m.toNat≤20000) (h:Below w.heap.size w f):
  wL w ((f.setCell ⟨w.heap.size,0,none⟩ (.bool D)).setCell ⟨w.heap.size,1,none⟩ (.slice l d.length F)) z m D l F d:=by
 obtain⟨X,i2,Y,G,u,i6⟩:=i
 subst U
 rw[jd]at u
 refine⟨J.put _ _,(Q.other (by simp) _).other (by simp) _,X.box J _ _,Y,?_,by omega,?_,(h.setCell (by simp) _).setCell (by simp) _⟩
 ·rintro e rfl
  rw[e]at G
  simp[ai]at u
  have:=of_decide_eq_true G.symm
  rw[←u]at this
  unfold sg at this
  simp at this
 ·rw[G,u,Di];exact V
theorem wL.last{w wr:World}{z m:Int}{d:Bool}{a:Option Addr}{c:Nat}{L:List Nat}(h:wL w wr z m d a c L)(l:m=0∨L= []):an 0 wr (.agg #[.bool d,.slice a L.length c]) z:=by
 obtain⟨G,H,D,F,J,K,f,M⟩:=h
 by_cases u:L= []
 ·subst u
  have:d=false:=by cases d<;>simp_all
  subst this
  simp only[ai,mZ]at f
  rw[←f]
  exact an.zero _ _ _ _
 ·rcases l with rfl|l
  ·rw[Df]at f
   rw[←f,←dn]
   exact an.mk D (bs.zero D) F u (by omega)
  ·exact absurd l u
theorem ag.drop1{w:World}{b d c:Nat}{L:List Nat}(h:ag w (some ⟨b,d,none⟩) c L):ag w (some ⟨b,d+1,none⟩) (c-1) (L.drop 1):=by
 refine⟨by have:=h.1;simp;omega,fun x u=>h.2.1 x (List.mem_of_mem_drop u),?_⟩
 rcases h.2.2 with D|⟨H,f,l,F,G⟩
 ·left;simp[D]
 ·simp only[Option.some.injEq,Addr.mk.injEq,and_true]at l
  obtain⟨rfl,rfl⟩:=l
  refine .inr ⟨b,d+1,rfl,F,fun i z=>?_⟩
  simp at z
  have:=G (i+1) (by omega)
  rw[show d+1+i=d+(i+1) by omega,this,List.getElem?_drop,Nat.add_comm 1 i]
theorem pw(neg:Bool)(b d c:Nat)(L:List Nat)(w:World)(h:ag w (some ⟨b,d,none⟩) c L)(z:L.length≤30000):
  Calls Tryz.prog 101 #[.bool neg,.slice (some ⟨b,d+1,none⟩) (L.length-1) (c-1)] w fun e w'=>∃v,e=.returned v∧aB L.length 0 w' v (sg neg (ai L/4294967296))∧Below w.heap.size w w':=by
 have:=c8 0 neg _ _ (L.drop 1) w h.drop1 (bs.zero h.drop1) (by simp;omega)
 rw[dn,rB L h.2.1 1]at this
 simp only[List.length_drop,Nat.pow_one]at this
 exact this.mono fun e w' ⟨v,f,l,u⟩=>⟨v,f,l.more (by omega),u⟩
theorem m0(neg:Bool)(b d:Nat)(L:List Nat)(w:World)(h:ag w (some ⟨b,d,none⟩) 1 L):
  Calls Tryz.prog 101 #[.bool neg,.slice (some ⟨b,d,none⟩) 0 0] w fun e w'=>∃v,e=.returned v∧aB L.length 0 w' v (sg neg (ai L/4294967296))∧Below w.heap.size w w':=by
 have:=c8 0 neg (some ⟨b,d,none⟩) 0 [] w (ag.nil _ _ _) (.inl rfl) (by simp)
 have z:ai L/4294967296=0:=by
  have f:=dZ L h.2.1
  have l:=Nat.pow_le_pow_right (n:=4294967296) (by decide) h.1
  exact Nat.div_eq_of_lt (by omega)
 rw[z]
 rw[dn]at this
 exact this.mono fun e w' ⟨v,f,l,u⟩=>⟨v,f,l.more (by simp),u⟩
theorem nd(L:List Nat):ai (0::L)=4294967296*ai L:=by simp[ai]
attribute [local go_sem ↓] Go.wp_at_zero Go.wp_at_succ
theorem Dj(W:World)(d g:Nat)(f:W.heap.size=g)(h:d≤g):((W.alloc (.cells #[.int .u32 0] 122)).drew).ownsRow d 122 1 (.slice (some ⟨g,0,none⟩) 1 1) 1 [.int .u32 0]:=by
 subst f
 exact⟨by simp,.inr ⟨W.heap.size,1,#[.int .u32 0],rfl,h,heap_alloc_new W _,Nat.le_refl _,by simp[maxLen],by simp,by simp⟩⟩
theorem yZ(neg:Bool)(g n c d:Nat)(S:List Nat)(w:World)(h:w.ownsRow d 122 1 (.slice (some ⟨g,0,none⟩) n c) n (S.map ew))(f:aX S)(D:n≤35184372088832):
  Calls Tryz.prog 101 #[.bool neg,.slice (some ⟨g,0,none⟩) n c] w fun e w'=>∃v,e=.returned v∧aB n d w' v (ad neg S)∧Below w.heap.size w w':=by
 obtain⟨l,u,z,F⟩:=Fy h f
 have:=c8 d neg (some ⟨g,0,none⟩) c S w l (.inr ⟨g,0,rfl,z⟩) (by omega)
 rw[u]at this
 exact this
theorem px{L:List Nat}(h:ai L≠0):L≠ []:=by
 rintro rfl
 simp[ai]at h
theorem oU(na:Bool)(ao:Option Addr)(ca:Nat)(A:List Nat)(n:Int)(w:World)(hA:ag w ao ca A)(h0:A≠ [])(hc:bG A)(la:A.length≤3000)(hn:-16384≤n∧n≤16384):
  Calls Tryz.prog 131 #[.agg #[.bool na,.slice ao A.length ca],.int .i64 n] w fun e w'=>∃v,e=.returned v∧an 0 w' v (oT na A n)∧Below w.heap.size w w':=by
 obtain⟨i0,hi,be,bg,bi⟩:=info_parts Tryz.info122
 have HZ:=aa (mz na A n).symm
 generalize oT na A n=z at*
 have a3:=aa h0;have HC:=aa hc
 clear h0 hc
 go_enter Tryz.func131,Tryz.ntmps131
 go_wp2
 go_loopw[1] (fun i wr=>∃(m:Int) (J:Bool) (a:Option Addr) (c:Nat) (L:List Nat),i=.int .i64 m∧-16384≤m∧m≤16384∧L≠ []∧Hid (wL w wr z m J a c L)) (fun i _=>(intOf i).toNat)
 case atStart=>
  refine⟨n,na,ao,ca,A,rfl,hn.1,hn.2,uH a3,(az.new _ _ _).old _,?_,hA.below (((Below.refl _ _).alloc (Nat.le_refl _) _).alloc (by simp) _),uH HC,fun _=>uH a3,by omega,uH HZ,((Below.refl _ _).alloc (Nat.le_refl _) _).alloc (by simp) _⟩
  have:=az.new (w.alloc (.cells #[.bool na,.slice ao A.length ca] 39)) (.bool false) (.slice none 0 0)
  simpa using this
 case round=>
  obtain⟨m,J,a,c,L,rfl,ae,am,Y,O⟩:=hrel
  clear HZ HC a3 hA la hn
  obtain⟨H,K,Q,hC,hS,h,hz,d⟩:=uH O
  have hp:0<L.length:=List.length_pos_iff.2 Y
  have ap:(0:Int)<(L.length:Int):=by omega
  have p0:=H.c0;have p1:=H.c1
  have HV:Hid (ai L≠0):=fun e=>Y ((aG L hC).1 e)
  by_cases hg:32≤m
  ·obtain⟨b,U,rfl,hb,a0⟩:=Q.ne hp
   have F:=hz
   rw[←yX _ _ hg]at F
   have X:=aa F
   have bt:=H.lt
   have bn:=K.lt
   have hN:∀j u,(L.map ew)[j]? =some u→((wr.alloc (.cells #[.int .u32 0] 122)).drew).cell? ((⟨b,U,none⟩:Addr).add j)=some u:=by
    intro j u hu
    rw[List.getElem?_map]at hu
    have hj:j<L.length:=by
     rcases Nat.lt_or_ge j L.length with e|e
     ·exact e
     ·rw[List.getElem?_eq_none e]at hu;simp at hu
    have e3:(⟨b,U,none⟩:Addr).add j=⟨b,U+j,none⟩:=by simp[Addr.add]
    rw[e3,((((Below.refl wr.heap.size wr).alloc (Nat.le_refl _) _).drew).cell (p:=⟨b,U+j,none⟩) hb),a0 j hj]
    rw[List.getElem?_eq_getElem hj]at hu⊢
    simpa[ew]using hu
   have a1:∀u∈L.map ew,u.oneCell'=true:=by
    intro u hu
    obtain⟨y,_,rfl⟩:=List.mem_map.1 hu
    rfl
   have HF:Hid (aX (0::L)):=by
    intro y hy
    rcases List.mem_cons.1 hy with rfl|hy
    ·decide
    ·exact Q.2.1 y hy
   have HN:=aa hN;have a4:=aa a1;have G:=aa d;have X0:=aa H;have X1:=aa K;have l:=aa h
   clear hz F hN a1 H K Q hC hS d O a0
   have ll:L.length≤20000:=by have:=uH l;omega
   clear h
   go_wp2
   go_region_law (first|(refine step_append_lies _ (by rfl) _ _ _ (by rfl) wr.heap.size 122 i0 (.int .u32 0) 1 4 Tryz.underlying37 hi be bg bi rfl (by omega) (.slice (some ⟨wr.heap.size,0,none⟩) 1 1) 1 [.int .u32 0] (by rfl) (Dj wr wr.heap.size wr.heap.size rfl (Nat.le_refl _)) ⟨b,U,none⟩ L.length c (L.map ew) (by rfl) (by simp) (uH HN) (uH a4) hp (by unfold maxLen;omega) (by omega) (by simp) (wr.heap.size+1) (by simp) ?_;intro g cp w1 aI V bm bz;have y0:az w1 w.heap.size (.bool J) (.slice (some ⟨b,U,none⟩) L.length c):=(V.block w.heap.size (by simp;omega) (by simp[Value.ownBlock];omega)).trans (((uH X0).old _).drew);have y1:az w1 (w.heap.size+1) (.bool false) (.slice none 0 0):=(V.block (w.heap.size+1) (by simp;omega) (by simp[Value.ownBlock];omega)).trans (((uH X1).old _).drew);have q0:=y0.c0;have q1:=y0.c1;have Y0:=aa y0;have Y1:=aa y1;have B1:=aa ((((uH G).alloc (by omega) _).drew).grown V (by simp;omega) (fun k hk=>by simp[Value.ownBlock]at hk;omega));have a5:=aa aI;clear aI V bm y0 y1)|(go_simp;go_at_call 101;refine(yZ J g (1+L.length) cp _ (0::L) _ (uH a5) (uH HF) (by omega)).mono ?_;rintro e w2 ⟨v,rfl,⟨n2,a2,c2,L2,rfl,i1⟩,f⟩;have I1:=aa i1;have D:=(uH Y0).below f (uH Y0).lt;have Z1:=(uH Y1).below f (uH Y1).lt;have r0:=D.c0;have r1:=D.c1;have f0:=D.free 0;have f1:=D.free 1;have B2:=aa ((uH B1).trans (f.mono (uH B1).size));have M:=aa D;have N:=aa Z1;clear i1 f D Z1))
   all_goals
    go_wp2
    go_roundw
    case rel=>
     refine⟨m-32,n2,a2,c2,L2,by go_num,by omega,by omega,px ?_,wL.step (v:=4294967296*ai L) (uH M) (uH N) (uH I1) (by rw[dn,nd]) (uH X) (by have:=uH l;omega) (uH B2)⟩
     have h5:=(uH I1).2.2.2.2.1
     rw[aM,nd]at h5
     have:=uH HV
     omega
    case measure=>simp[intOf];omega
  ·have HI:=O
   have a9:¬(32:Int)≤m:=by omega
   clear O H K Q hC hS h hz d
   go_wp2
   go_loopw[1] (fun i wr=>∃(m:Int) (J:Bool) (a:Option Addr) (c:Nat) (L:List Nat),i=.int .i64 m∧-16384≤m∧m≤31∧L≠ []∧Hid (wL w wr z m J a c L)) (fun i _=>(intOf i).toNat)
   case atStart=>exact⟨m,J,a,c,L,rfl,by omega,by omega,Y,HI⟩
   case round=>
    clear HI HV p0 p1 ap hp Y a9 hg ae am
    obtain⟨m,J,a,c,L,rfl,ae,am,Y,O⟩:=hrel
    obtain⟨H,K,Q,hC,hS,h,hz,d⟩:=uH O
    have hp:0<L.length:=List.length_pos_iff.2 Y
    have ap:(0:Int)<(L.length:Int):=by omega
    have p0:=H.c0;have p1:=H.c1
    by_cases hg:0<m
    ·have HV:Hid (ai L≠0):=fun e=>Y ((aG L hC).1 e)
     have F:=hz
     rw[←Dg _ _ (by omega)]at F
     have X:=aa F
     have G:=aa d;have X0:=aa H;have X1:=aa K;have l:=aa h;have Z:=aa Q
     clear hz F H K Q hC hS d O h
     go_wp2_with fail
     refine(ud J a c L wr (uH Z) (by have:=uH l;omega)).mono ?_
     rintro e w2 ⟨v,rfl,⟨n2,a2,c2,L2,rfl,i1⟩,f⟩
     have I1:=aa i1
     have D:=(uH X0).below f (uH X0).lt
     have Z1:=(uH X1).below f (uH X1).lt
     have r0:=D.c0;have r1:=D.c1;have f0:=D.free 0;have f1:=D.free 1
     have B2:=aa ((uH G).trans (f.mono (uH G).size))
     have M:=aa D;have N:=aa Z1
     clear i1 f D Z1
     go_wp2
     go_roundw
     case rel=>
      refine⟨m-1,n2,a2,c2,L2,by go_num,by omega,by omega,px ?_,wL.step (v:=ai L+ai L) (uH M) (uH N) (uH I1) rfl (uH X) (by have:=uH l;omega) (uH B2)⟩
      have h5:=(uH I1).2.2.2.2.1
      rw[jd]at h5
      have:=uH HV
      omega
     case measure=>simp[intOf];omega
    ·have HI:=O
     clear O H K Q hC hS h hz d
     go_wp2
     go_loopw[1] (fun i wr=>∃(m:Int) (J:Bool) (a:Option Addr) (c:Nat) (L:List Nat),i=.int .i64 m∧-16384≤m∧m≤0∧Hid (wL w wr z m J a c L)) (fun i _=>(-(intOf i)).toNat)
     case atStart=>exact⟨m,J,a,c,L,rfl,by omega,by omega,HI⟩
     case round=>
      clear HI p0 p1 ap hp Y hg ae am
      obtain⟨m,J,a,c,L,rfl,ae,am,O⟩:=hrel
      obtain⟨H,K,Q,hC,hS,h,hz,d⟩:=uH O
      have p0:=H.c0;have p1:=H.c1
      by_cases a6:m≤-32∧0<L.length
      ·obtain⟨hg,hp⟩:=a6
       ·have ap:(0:Int)<(L.length:Int):=by omega
        have bo:=Q.1
        obtain⟨b,U,rfl,hb,a0⟩:=Q.ne hp
        have F:=hz
        rw[←yY _ _ hg]at F
        have X:=aa F
        have G:=aa d;have X0:=aa H;have X1:=aa K;have l:=aa h;have Z:=aa (Q.below ((Below.refl _ _).drew))
        clear hz F H K Q hC hS d O h a0
        go_wp2
        have bv:(1:Int)≤(L.length:Int):=by omega
        have bw:(L.length:Int)≤(c:Int):=by omega
        have bx:(1:Int)≤(c:Int):=by omega
        by_cases ba:c=1
        ·subst ba
         go_region_with (go_at_call 101;refine(m0 J b U L _ (uH Z)).mono ?_;rintro e w2 ⟨v,rfl,⟨n2,a2,c2,L2,rfl,i1⟩,f⟩;have I1:=aa i1;have D:=(uH X0).drew.below f (uH X0).drew.lt;have Z1:=(uH X1).drew.below f (uH X1).drew.lt;have r0:=D.c0;have r1:=D.c1;have f0:=D.free 0;have f1:=D.free 1;have B2:=aa (((uH G).drew).trans (f.mono ((uH G).drew).size));have M:=aa D;have N:=aa Z1;clear i1 f D Z1)
         all_goals
          go_wp2
          go_roundw
          case rel=>exact⟨m+32,n2,a2,c2,L2,by go_num,by omega,by omega,wL.step (v:=ai L/4294967296) (uH M) (uH N) (uH I1) rfl (uH X) (by have:=uH l;omega) (uH B2)⟩
          case measure=>simp[intOf];omega
        ·have bq:¬(c:Int)=1:=by omega
         go_region_with (go_at_call 101;refine(pw J b U c L _ (uH Z) (by have:=uH l;omega)).mono ?_;rintro e w2 ⟨v,rfl,⟨n2,a2,c2,L2,rfl,i1⟩,f⟩;have I1:=aa i1;have D:=(uH X0).drew.below f (uH X0).drew.lt;have Z1:=(uH X1).drew.below f (uH X1).drew.lt;have r0:=D.c0;have r1:=D.c1;have f0:=D.free 0;have f1:=D.free 1;have B2:=aa (((uH G).drew).trans (f.mono ((uH G).drew).size));have M:=aa D;have N:=aa Z1;clear i1 f D Z1)
         all_goals
          go_wp2
          go_roundw
          case rel=>exact⟨m+32,n2,a2,c2,L2,by go_num,by omega,by omega,wL.step (v:=ai L/4294967296) (uH M) (uH N) (uH I1) rfl (uH X) (by have:=uH l;omega) (uH B2)⟩
          case measure=>simp[intOf];omega
      ·have HI:=O
       rcases(show(m≤-32∧¬(0:Int)<(L.length:Int))∨¬m≤-32 by omega)with⟨hg,hp⟩|hg
       all_goals
        clear O H K Q hC hS h hz d a6
        go_wp2
        go_loopw[1] (fun i wr=>∃(m:Int) (J:Bool) (a:Option Addr) (c:Nat) (L:List Nat),i=.int .i64 m∧-16384≤m∧m≤0∧Hid (wL w wr z m J a c L)) (fun i _=>(-(intOf i)).toNat)
        case atStart=>exact⟨m,J,a,c,L,rfl,by omega,by omega,HI⟩
        case round=>
         clear HI p0 p1 hg ae am
         obtain⟨m,J,a,c,L,rfl,ae,am,O⟩:=hrel
         obtain⟨H,K,Q,hC,hS,h,hz,d⟩:=uH O
         have p0:=H.c0;have p1:=H.c1
         by_cases a7:m<0∧0<L.length
         ·obtain⟨hg,hp⟩:=a7
          have ap:(0:Int)<(L.length:Int):=by omega
          have F:=hz
          rw[←Dh _ _ (by omega)]at F
          have X:=aa F
          have G:=aa d;have X0:=aa H;have X1:=aa K;have l:=aa h;have Z:=aa Q
          clear hz F H K Q hC hS d O h
          go_wp2_with fail
          refine(rN J a c L wr (uH Z) (by have:=uH l;omega)).mono ?_
          rintro e w2 ⟨v,rfl,⟨n2,a2,c2,L2,rfl,i1⟩,f⟩
          have I1:=aa i1
          have D:=(uH X0).below f (uH X0).lt
          have Z1:=(uH X1).below f (uH X1).lt
          have r0:=D.c0;have r1:=D.c1;have f0:=D.free 0;have f1:=D.free 1
          have B2:=aa ((uH G).trans (f.mono (uH G).size))
          have M:=aa D;have N:=aa Z1
          clear i1 f D Z1
          go_wp2
          go_roundw
          case rel=>exact⟨m+1,n2,a2,c2,L2,by go_num,by omega,by omega,wL.step (v:=ai L/2) (uH M) (uH N) (uH I1) rfl (uH X) (by have:=uH l;omega) (uH B2)⟩
          case measure=>simp[intOf];omega
         ·have ax:=O.out.last (by rcases Nat.eq_zero_or_pos L.length with e|e;(right;exact List.length_eq_zero_iff.1 e);(left;omega))
          have bb:=aa ax
          have X1:=aa K;have G:=aa d;have Z:=aa Q
          have y0:=K.c0;have y1:=K.c1;have f0:=K.free 0;have f1:=K.free 1
          rcases(show(m<0∧¬(0:Int)<(L.length:Int))∨¬m<0 by omega)with⟨hg,hp⟩|hg
          all_goals
           clear O H K Q hC hS h hz d a7 ax
           go_wp2
           refine bodyPost_ret (v:=.agg #[.bool J,.slice a L.length c]) (by simp[results,Tryz.results131,go_sem,y0,y1]) rfl ⟨.agg #[.bool J,.slice a L.length c],rfl,?_,?_⟩
           ·obtain⟨neg,a',c',L',e1,e2,e3⟩:=uH bb
            refine⟨neg,a',c',L',e1,e2.box (uH X1) _ _,e3⟩
           ·exact((uH G).setCell (by simp) _).setCell (by simp) _
theorem oV(d:Option Addr)(f:Nat)(n:Int)(w:World):
  Calls Tryz.prog 131 #[.agg #[.bool false,.slice d 0 f],.int .i64 n] w fun e w'=>∃v,e=.returned v∧an 0 w' v 0∧Below w.heap.size w w':=by
 rcases(show(32≤n∧0<n∧¬n≤-32∧¬n<0)∨(¬32≤n∧0<n∧¬n≤-32∧¬n<0)∨(¬32≤n∧¬0<n∧¬n≤-32∧¬n<0)∨(¬32≤n∧¬0<n∧¬n≤-32∧n<0)∨(¬32≤n∧¬0<n∧n≤-32∧n<0) by omega)with⟨h,l,u,z⟩|⟨h,l,u,z⟩|⟨h,l,u,z⟩|⟨h,l,u,z⟩|⟨h,l,u,z⟩
 all_goals
  go_enter Tryz.func131,Tryz.ntmps131
  go_wp2
  go_loopw[1] (fun i wr=>i=.int .i64 n∧wr=(w.alloc (.cells #[.bool false,.slice d 0 f] 39)).alloc (.cells #[.bool false,.slice none 0 0] 39)) (fun _ _=>0)
  case atStart=>exact⟨rfl,rfl⟩
  case round=>
   obtain⟨rfl,rfl⟩:=hrel
   go_wp2
   go_loopw[1] (fun i wr=>i=.int .i64 n∧wr=(w.alloc (.cells #[.bool false,.slice d 0 f] 39)).alloc (.cells #[.bool false,.slice none 0 0] 39)) (fun _ _=>0)
   case atStart=>exact⟨rfl,rfl⟩
   case round=>
    obtain⟨rfl,rfl⟩:=hrel
    go_wp2
    go_loopw[1] (fun i wr=>i=.int .i64 n∧wr=(w.alloc (.cells #[.bool false,.slice d 0 f] 39)).alloc (.cells #[.bool false,.slice none 0 0] 39)) (fun _ _=>0)
    case atStart=>exact⟨rfl,rfl⟩
    case round=>
     obtain⟨rfl,rfl⟩:=hrel
     go_wp2
     go_loopw[1] (fun i wr=>i=.int .i64 n∧wr=(w.alloc (.cells #[.bool false,.slice d 0 f] 39)).alloc (.cells #[.bool false,.slice none 0 0] 39)) (fun _ _=>0)
     case atStart=>exact⟨rfl,rfl⟩
     case round=>
      obtain⟨rfl,rfl⟩:=hrel
      go_wp2
      refine bodyPost_ret (v:=.agg #[.bool false,.slice d 0 f]) (by simp[results,Tryz.results131,go_sem]) rfl ⟨.agg #[.bool false,.slice d 0 f],rfl,an.zero _ _ _ _,?_⟩
      exact((Below.refl _ _).alloc (Nat.le_refl _) _).alloc (by simp) _
theorem qm(d:Bool)(f:Option Addr)(h:Nat)(A:List Nat)(n:Int)(w:World)(u:ag w f h A)(z:al d A=true)(D:-16384≤n∧n≤16384):
  Calls Tryz.prog 131 #[.agg #[.bool d,.slice f A.length h],.int .i64 n] w fun e w'=>∃v,e=.returned v∧an 0 w' v (oT d A n)∧Below w.heap.size w w':=by
 have F:=au z
 by_cases l:A= []
 ·subst l
  have:d=false:=by cases d<;>simp_all
  subst this
  have e:oT false [] n=0:=by rw[mz];simp[ai,mZ,sg]
  rw[e]
  exact oV f h n w
 ·exact oU d f h A n w u l F.2.1 (by omega) D
end Go.Proofs.YtdhmglmccafbnaaGreatDoor
