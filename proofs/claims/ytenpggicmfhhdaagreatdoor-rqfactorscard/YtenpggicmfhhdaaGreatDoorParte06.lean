/- Part 6 of the texts. -/
import Derived.Test.YtenpggicmfhhdaaGreatDoorParte05
set_option maxHeartbeats 1000000
namespace Go.Proofs.YtenpggicmfhhdaaGreatDoor
open Go.RowKit
theorem vn(x y c:Nat)(d:x<4294967296)(f:y<4294967296)(l:c≤1)(h:x<y):
  IntKind.u64.wrap (IntKind.u64.wrap ((x:Int)-(y:Int))-(c:Int))=18446744073709551616+(x:Int)-(y:Int)-(c:Int):=by
 simp only[IntKind.wrap,IntKind.signed,IntKind.bits]
 simp
 omega
theorem jK(ao bo:Option Addr)(ca cb:Nat)(A B:List Nat)(w:World)(hA:af w ao ca A)(hB:af w bo cb B)(la:A.length≤35184372088830)(lb:B.length≤35184372088830)(L:ah B≤ah A):
  Calls Tryz.prog 210 #[.slice ao A.length ca,.slice bo B.length cb] w fun e w'=>∃T M L',e=.returned (.slice T L'.length M)∧af w' T M L'∧bI w.heap.size T L'∧L'.length=A.length∧ah L'=ah A-ah B∧Below w.heap.size w w':=by
 obtain⟨i0,hi,a5,a6,a7⟩:=info_parts Tryz.info139
 have hE:∀(S:List Nat) (k c:Nat),bd S→S.length=A.length→¬k<A.length→k≤A.length→ah (S.take k)+ah (B.take k)=ah (A.take k)+4294967296^k*c→ah S=ah A-ah B:=by
  intro S k c f hl Y h2 h
  rw[show k=A.length by omega]at h
  exact ut A B S A.length c f hl rfl L (uu A B hA.2.1 L) h
 have HE:=aa hE
 have D:=fun(S:List Nat) (k c t G:Nat) (hk:k<S.length)=>xy A B S k c (A[k]?.getD 0) (B[k]?.getD 0) t G hk rfl rfl
 have ae:=aa D
 clear hE D L
 have aj:0<A.length→∃b U,ao=some ⟨b,U,none⟩:=fun h=>by obtain⟨b,U,Y,_⟩:=hA.ne h;exact⟨b,U,Y⟩
 have bi:=aa aj
 clear aj
 go_enter Tryz.func210,Tryz.ntmps210
 go_wp2_with(at_make;refine wpList_make_full _ rfl _ _ 106 rfl w.heap.size 139 i0 (.int .u32 0) 1 Tryz.underlying106 hi a5 a6 .i64 .i64 _ _ A.length rfl rfl rfl rfl (by rw[a7];omega) (by unfold maxLen;omega) (Nat.le_refl _) ?_;intro w1 Q F)
 have N:=bO.made Q
 have a1:Below w.heap.size w w1:=(Below.refl _ _).grown F (Nat.le_refl _) (fun k h=>by simp at h)
 have bj:w.heap.size<w1.heap.size:=N.lt
 clear Q F
 go_wp2
 go_loopw[6,14] (fun c i wr=>∃(k:Nat) (S:List Nat) (y:Nat),k≤A.length∧i=.int .i64 k∧c=.int .u64 y∧y≤1∧bO wr w.heap.size S∧S.length=A.length∧bd S∧Below w.heap.size w wr∧Hid (ah (S.take k)+ah (B.take k)=ah (A.take k)+4294967296^k*y))
  (fun _ i _=>A.length-(intOf i).toNat)
 case atStart=>exact⟨0,List.replicate A.length 0,0,Nat.zero_le _,rfl,rfl,by omega,N,by simp,bd.zeros _,a1,by unfold Hid;simp[ah]⟩
 case round=>
  obtain⟨k,S,y,hk,rfl,rfl,hy,Z,H,hf,l,L⟩:=hrel
  by_cases am:k<A.length
  ·obtain⟨z,I⟩:∃x,A[k]?.getD 0=x:=⟨_,rfl⟩
   obtain⟨m,K⟩:∃x,B[k]?.getD 0=x:=⟨_,rfl⟩
   have ba:z<4294967296:=by rw[←I];exact hA.lt k
   have bb:m<4294967296:=by rw[←K];exact hB.lt k
   have cA:=hA.below l
   have cB:=hB.below l
   have D:=fun(t G:Nat) (ht:t+m+y=z+4294967296*G)=>uH ae S k y t G (by omega) (by rw[I,K];exact ht) L.out
   have av:=aa D
   have V:=aa K
   have a2:=Z.cell k (by omega)
   have a3:=Z.free k
   have HR:=aa Z
   obtain⟨b1,o1,a9,be,a0⟩:=cA.ne (by omega)
   have a4:=a0 k am
   rw[I]at a4
   clear D I K L Z a0 ae HE
   generalize hS:S[k]?.getD 0=sk at*
   clear hS
   subst a9
   have bc:(k:Int)<(A.length:Int):=by omega
   have ax:∀(nq t G:Nat) (d:Int),d=(t:Int)→t<4294967296→G≤1→t+m+y=z+4294967296*G→
     bO ((wr.drewN nq).setCell ⟨w.heap.size,k,none⟩ (.int .u32 d)) w.heap.size (S.set k t)∧(S.set k t).length=A.length∧bd (S.set k t)∧Below w.heap.size w ((wr.drewN nq).setCell ⟨w.heap.size,k,none⟩ (.int .u32 d))∧
     Hid (ah ((S.set k t).take (k+1))+ah (B.take (k+1))=ah (A.take (k+1))+4294967296^(k+1)*G):=by
    rintro nq t G d rfl ht hc he
    exact⟨((uH HR).drewN nq).set k t,by simpa using H,hf.set _ _ ht,(below_drewN l nq).setCell (by simp) _,uH av t G he⟩
   have X:=aa ax
   clear ax av HR
   rcases(show m+y≤z∨z<m∨(z=m∧y=1) by omega)with Y|Y|⟨Y,h2⟩
   ·go_wp2
    go_quiet ((go_at_call 194;exact iq (gC bo cb B _ k m _ (cB.below (below_drewN (Below.refl _ _) _)) lb rfl V)))
    go_wp2
    have R:=uH X nq (z-m-y) 0 ((z:Int)-m-y) (by omega) (by omega) (by omega) (by omega)
    go_roundw
    case rel=>exact⟨k+1,_,0,by omega,by go_num,cH (by omega),by omega,R⟩
    case measure=>simp[intOf];omega
   ·go_wp2
    go_quiet ((go_at_call 194;exact iq (gC bo cb B _ k m _ (cB.below (below_drewN (Below.refl _ _) _)) lb rfl V)))
    go_wp2
    have e:=vn z m y ba bb hy Y
    have R:=uH X nq (4294967296+z-m-y) 1 (IntKind.u64.wrap (IntKind.u64.wrap ((z:Int)-m)-y)%4294967296) (by rw[e];omega) (by omega) (by omega) (by omega)
    go_roundw
    case rel=>exact⟨k+1,_,1,by omega,by go_num,cH (by rw[e];omega),by omega,R⟩
    case measure=>simp[intOf];omega
   ·subst Y;subst h2
    go_wp2
    go_quiet ((go_at_call 194;exact iq (gC bo cb B _ k z _ (cB.below (below_drewN (Below.refl _ _) _)) lb rfl V)))
    go_wp2
    have e:IntKind.u64.wrap (-1)=18446744073709551615:=by decide
    have R:=uH X nq 4294967295 1 (IntKind.u64.wrap (-1)%4294967296) (by rw[e];rfl) (by omega) (by omega) (by omega)
    go_roundw
    case rel=>exact⟨k+1,_,1,by omega,by go_num,cH (by rw[e];rfl),by omega,R⟩
    case measure=>simp[intOf];omega
  ·have O:=uH HE S k y hf H am hk L.out
   have aI:=aa O
   have HR:=aa Z
   clear O Z L
   go_wp2
   go_ret
   exact⟨some ⟨w.heap.size,0,none⟩,A.length,S,by rw[H];rfl,(uH HR).limbs hf _ (by omega),.inr ⟨_,_,rfl,Nat.le_refl _⟩,H,uH aI,l⟩
theorem iT(B:Nat)(neg:Bool)(D:Option Addr)(t:Nat)(L:List Nat)(w:World)(h:af w D t L)(N:bI B D L)(X:L.length≤35184372088832):
  Calls Tryz.prog 181 #[.bool neg,.slice D L.length t] w fun e I=>∃v,e=.returned (.tuple #[v,.int .i64 (bD (ad neg L))])∧ay B I v (dj (ad neg L))∧Below w.heap.size w I:=by
 have F:∀d:List Nat,bM d→bd d→ah d=ah L→(d= []→bD (ad neg L)=0∧dj (ad neg L)=0)∧(512<d.length→bD (ad neg L)=2∧dj (ad neg L)=0)∧(d.length≤512→bD (ad neg L)=0∧dj (ad neg L)=ad neg d):=by
  intro d c f G
  have O:=dw d f c
  refine⟨?_,?_,?_⟩
  ·rintro rfl
   have:ah L=0:=by rw[←G];rfl
   have F:0<di:=Nat.pow_pos (by decide)
   have e:ad neg L=0:=by unfold ad;cases neg<;>simp[this]
   simp[bD,dj,e,F]
  ·intro y
   have:¬ah d<di:=fun h=>by have:=O.1 h;omega
   simp[bD,dj,aS,←G,this]
  ·intro y
   have:=O.2 y
   rw[lH (neg:=neg) G]
   simp[bD,dj,aS,←G,this]
 generalize bD (ad neg L)=er at*
 generalize dj (ad neg L)=nu at*
 have Q:=aa F
 clear F
 have T:=aa N
 clear N
 go_enter Tryz.func181,Tryz.ntmps181
 go_wp2_with fail
 refine(lM D t L _ (h.below ?_) X).mono ?_
 ·exact(Below.refl _ _).alloc (Nat.le_refl _) _
 rintro e I ⟨v,rfl,⟨A,m,d,rfl,M,U,h4,y,V⟩,rfl⟩
 have K:=y w h
 have H:=aa (uH Q d M K.2.1 U)
 have Y:=aa (V B (uH T))
 have Z:=aa K
 have H2:=aa M
 clear Q U y V K M h T
 by_cases z:d= []
 ·have l:=aa ((uH H).1 z)
  have hz:d.length=0:=by rw[z];rfl
  clear z
  go_wp2
  refine bodyPost_ret (v:=.tuple #[.agg #[.bool false,.slice none 0 0],.int .i64 0]) (by simp[results,Tryz.results181,go_sem]) rfl ⟨.agg #[.bool false,.slice none 0 0],?_,?_,(Below.refl _ _).alloc (Nat.le_refl _) _⟩
  ·rw[(uH l).1]
  ·rw[(uH l).2];exact ay.zero _ _ _ _
 ·have hp:0<d.length:=List.length_pos_iff.2 z
  have ae:((d.length:Int)==0)=false:=by simp;exact z
  by_cases y:d.length≤512
  ·have l:=aa ((uH H).2.2 y)
   go_wp2
   refine bodyPost_ret (v:=.tuple #[.agg #[.bool neg,.slice A d.length m],.int .i64 0]) (by simp[results,Tryz.results181,go_sem]) rfl ⟨.agg #[.bool neg,.slice A d.length m],?_,?_,?_⟩
   ·rw[(uH l).1]
   ·rw[(uH l).2]
    exact ay.mk ((uH Z).below ((Below.refl _ _).alloc (Nat.le_refl _) _)) (uH Y) (uH H2) z (by omega)
   ·exact(Below.refl _ _).alloc (Nat.le_refl _) _
  ·have l:=aa ((uH H).2.1 (by omega))
   go_wp2
   refine bodyPost_ret (v:=.tuple #[.agg #[.bool false,.slice none 0 0],.int .i64 2]) (by simp[results,Tryz.results181,go_sem]) rfl ⟨.agg #[.bool false,.slice none 0 0],?_,?_,(Below.refl _ _).alloc (Nat.le_refl _) _⟩
   ·rw[(uH l).1]
   ·rw[(uH l).2];exact ay.zero _ _ _ _
attribute [local go_sem ↓] Go.wp_at_zero Go.wp_at_succ
theorem lO(d:Bool)(t y:Option Addr)(D F:Nat)(A B:List Nat)(w:World)(Y:af w t D A)(Z:af w y F B)(la:A.length≤35184372088830)(lb:B.length≤35184372088830):
  Calls Tryz.prog 202 #[.agg #[.bool d,.slice t A.length D],.agg #[.bool d,.slice y B.length F]] w fun e f=>∃v,e=.returned (.tuple #[v,.int .i64 (bD (ad d A+ad d B))])∧ay w.heap.size f v (dj (ad d A+ad d B))∧Below w.heap.size w f:=by
 have G:∀L:List Nat,ah L=ah A+ah B→ad d L=ad d A+ad d B:=by
  intro L h;unfold ad;cases d<;>simp[h]<;>omega
 have HS:=aa G
 clear G
 generalize ad d A+ad d B=z at*
 go_enter Tryz.func202,Tryz.ntmps202
 go_wp2
 refine ap (fun W=>Below w.heap.size w W∧W.heap.size=w.heap.size+3∧aC W w.heap.size (.bool d) (.slice t A.length D)∧aC W (w.heap.size+1) (.bool d) (.slice y B.length F)∧aC W (w.heap.size+2) (.bool false) (.slice none 0 0)) ?_ ?_
 ·refine⟨((((Below.refl _ _).alloc (Nat.le_refl _) _).alloc (by simp) _).alloc (by simp;omega) _),by simp,((aC.new _ _ _).old _).old _,?_,?_⟩
  ·have:=(aC.new (w.alloc (.cells #[.bool d,.slice t A.length D] 108)) (.bool d) (.slice y B.length F)).old (.cells #[.bool false,.slice none 0 0] 108)
   simpa using this
  ·have:=aC.new ((w.alloc (.cells #[.bool d,.slice t A.length D] 108)).alloc (.cells #[.bool d,.slice y B.length F] 108)) (.bool false) (.slice none 0 0)
   simpa using this
 rintro M ⟨l,N,X,x1,x2⟩
 have hK:∀f,Below (w.heap.size+2) M f→Below (w.heap.size+2) M f∧f.cell? ⟨w.heap.size,0,none⟩=some (.bool d)∧f.cell? ⟨w.heap.size,1,none⟩=some (.slice t A.length D)∧f.cell? ⟨w.heap.size+1,1,none⟩=some (.slice y B.length F):=fun f h=>
  ⟨h,(X.below h (by omega)).c0,(X.below h (by omega)).c1,(x1.below h (by omega)).c1⟩
 have Q:=aa hK
 have HA:=aa (Y.below l)
 have HB:=aa (Z.below l)
 have X2:=aa x2
 have T:=aa l
 clear hK Y Z X x1 x2 l
 go_region_held3(fun f=>Below (w.heap.size+2) M f∧f.cell? ⟨w.heap.size,0,none⟩=some (.bool d)∧f.cell? ⟨w.heap.size,1,none⟩=some (.slice t A.length D)∧f.cell? ⟨w.heap.size+1,1,none⟩=some (.slice y B.length F))
  (first|exact uH Q _ (Below.refl _ _).drew|exact uH Q _ (by assumption)|exact uH Q _ ((I.setCell (by simp) _).setCell (by simp) _))
  (first|(go_at_call 208;refine(pk t y D F A B _ ((uH HA).below ((Below.refl _ _).drew)) ((uH HB).below ((Below.refl _ _).drew)) la lb).mono ?_;rintro e w1 ⟨aj,ae,O,rfl,g1,g2,g3,g4,m⟩;have U:Below (w.heap.size+2) M w1:=((Below.refl _ _).drew).trans (m.mono (by simp[N]));have X3:=aa ((uH X2).drew.below m (by simp[N]));have G1:=aa g1;have G2:=aa g2;have G4:=aa g4;have L4:O.length≤35184372088832:=(by omega);have s1:=m.size;clear g1 g2 g4 g3 m)|(go_at_call 181;refine(iT _ d _ _ _ _ (uH G1) (uH G2) L4).mono ?_;rintro e w2 ⟨v,rfl,⟨n2,a2,c2,L2,rfl,i1⟩,H⟩;have I:Below (w.heap.size+2) M w2:=U.trans (H.mono (by simp at s1;omega));have K:=(uH X3).below H (by simp at s1;omega);have y0:=K.c0;have y1:=K.c1;have f0:=K.free 0;have f1:=K.free 1;have I1:=aa i1;clear i1 H K))
 have V:=uH HS O (uH G4)
 have HI:=aa (V▸uH I1)
 have HE:=aa (show bD (ad d O)=bD z by rw[V])
 clear V
 go_wp2
 refine bodyPost_ret (v:=.tuple #[.agg #[.bool n2,.slice a2 L2.length c2],.int .i64 (bD (ad d O))]) (by simp[results,Tryz.results202,go_sem,y0,y1]) rfl ⟨.agg #[.bool n2,.slice a2 L2.length c2],?_,?_,?_⟩
 ·rw[uH HE]
 ·exact ay.stored (uH HI) (by simp;omega) (by simp;omega) (by simp;omega) _ _
 ·exact(((uH T).trans (I.mono (by omega))).setCell (by simp;omega) _).setCell (by simp;omega) _
theorem su(A B:List Nat)(fA:bd A)(f:bd B)(l:bM A)(cB:bM B):lN A B=bG (ah A) (ah B):=by
 unfold lN
 split
 ·rfl
 ·rename_i m
  rcases Nat.lt_or_gt_of_ne m with h|h
  ·have:ah A<ah B:=by
    have:=c8 B A fA cB
    by_cases d:ah B≤ah A
    ·have:=this d;omega
    ·omega
   rw[dc (by omega),dc (by omega)]
  ·have:ah B<ah A:=by
    have:=c8 A B f l
    by_cases d:ah A≤ah B
    ·have:=this d;omega
    ·omega
   rw[dU (by omega),dU (by omega)]
theorem lP(f l:Bool)(D F:Option Addr)(G H:Nat)(A B:List Nat)(w:World)(hA:af w D G A)(hB:af w F H B)(la:A.length≤35184372088830)(lb:B.length≤35184372088830)(cA:bM A)(cB:bM B)(hn:f≠l):
  Calls Tryz.prog 202 #[.agg #[.bool f,.slice D A.length G],.agg #[.bool l,.slice F B.length H]] w fun e d=>∃v,e=.returned (.tuple #[v,.int .i64 (bD (ad f A+ad l B))])∧ay w.heap.size d v (dj (ad f A+ad l B))∧Below w.heap.size w d:=by
 have T:(∀L:List Nat,ah L=ah B-ah A→ah A<ah B→ad l L=ad f A+ad l B)∧(∀L:List Nat,ah L=ah A-ah B→ah B≤ah A→ad f L=ad f A+ad l B):=by
  constructor<;>intro L h h'<;>unfold ad<;>cases f<;>cases l<;>simp at hn<;>simp[h]<;>omega
 have ae:=su A B hA.2.1 hB.2.1 cA cB
 have HS:=aa T
 clear T
 generalize ad f A+ad l B=z at*
 have av:(f==l)=false:=by simpa using hn
 have HC:=aa ae
 clear ae hn
 go_enter Tryz.func202,Tryz.ntmps202
 go_wp2_with fail
 refine(kp D F G H A B _ (hA.below ?_) (hB.below ?_) (by omega) (by omega)).mono ?_
 ·exact(((Below.refl _ _).alloc (Nat.le_refl _) _).alloc (by simp) _).alloc (by simp;omega) _
 ·exact(((Below.refl _ _).alloc (Nat.le_refl _) _).alloc (by simp) _).alloc (by simp;omega) _
 rintro e d ⟨rfl,m,rfl⟩
 rw[uH HC]
 by_cases hv:ah A<ah B
 ·rw[dc (by omega)]
  clear HC
  have U:=aa (fun L h=>(uH HS).1 L h hv)
  clear HS
  go_wp2
  refine ap (fun W=>Below w.heap.size w W∧W.heap.size=w.heap.size+3∧aC W w.heap.size (.bool f) (.slice D A.length G)∧aC W (w.heap.size+1) (.bool l) (.slice F B.length H)∧aC W (w.heap.size+2) (.bool false) (.slice none 0 0)) ?_ ?_
  ·refine⟨below_drewN ((((Below.refl _ _).alloc (Nat.le_refl _) _).alloc (by simp) _).alloc (by simp;omega) _) _,by simp,(((aC.new _ _ _).old _).old _).drewN _,?_,?_⟩
   ·have:=((aC.new (w.alloc (.cells #[.bool f,.slice D A.length G] 108)) (.bool l) (.slice F B.length H)).old (.cells #[.bool false,.slice none 0 0] 108)).drewN m
    simpa using this
   ·have:=(aC.new ((w.alloc (.cells #[.bool f,.slice D A.length G] 108)).alloc (.cells #[.bool l,.slice F B.length H] 108)) (.bool false) (.slice none 0 0)).drewN m
    simpa using this
  rintro N ⟨t,O,x0,x1,x2⟩
  have hK:∀d,Below (w.heap.size+2) N d→Below (w.heap.size+2) N d∧d.cell? ⟨w.heap.size+1,0,none⟩=some (.bool l)∧d.cell? ⟨w.heap.size,1,none⟩=some (.slice D A.length G)∧d.cell? ⟨w.heap.size+1,1,none⟩=some (.slice F B.length H):=fun d h=>
   ⟨h,(x1.below h (by omega)).c0,(x0.below h (by omega)).c1,(x1.below h (by omega)).c1⟩
  have V:=aa hK
  have HA:=aa (hA.below t)
  have HB:=aa (hB.below t)
  have X2:=aa x2
  have X:=aa t
  have Y:ah A≤ah B:=by omega
  clear hK hA hB x0 x1 x2 t
  go_region_held3(fun d=>Below (w.heap.size+2) N d∧d.cell? ⟨w.heap.size+1,0,none⟩=some (.bool l)∧d.cell? ⟨w.heap.size,1,none⟩=some (.slice D A.length G)∧d.cell? ⟨w.heap.size+1,1,none⟩=some (.slice F B.length H))
   (first|exact uH V _ (Below.refl _ _).drew|exact uH V _ (by assumption)|exact uH V _ ((K.setCell (by simp) _).setCell (by simp) _))
   (first|(go_at_call 210;refine(jK F D H G B A _ ((uH HB).below ((Below.refl _ _).drew)) ((uH HA).below ((Below.refl _ _).drew)) lb la Y).mono ?_;rintro e w1 ⟨am,aj,Q,rfl,g1,g2,g3,g4,y⟩;have Z:Below (w.heap.size+2) N w1:=((Below.refl _ _).drew).trans (y.mono (by simp[O]));have X3:=aa ((uH X2).drew.below y (by simp[O]));have G1:=aa g1;have G2:=aa g2;have G4:=aa g4;have L4:Q.length≤35184372088832:=(by omega);have s1:=y.size;clear g1 g2 g4 g3 y)|(go_at_call 181;refine(iT _ l _ _ _ _ (uH G1) (uH G2) L4).mono ?_;rintro e w2 ⟨v,rfl,⟨n2,a2,c2,L2,rfl,i1⟩,I⟩;have K:Below (w.heap.size+2) N w2:=Z.trans (I.mono (by simp at s1;omega));have M:=(uH X3).below I (by simp at s1;omega);have y0:=M.c0;have y1:=M.c1;have f0:=M.free 0;have f1:=M.free 1;have I1:=aa i1;clear i1 I M))
  have hz:=uH U Q (uH G4)
  have HI:=aa (hz▸uH I1)
  have HE:=aa (show bD (ad l Q)=bD z by rw[hz])
  clear hz
  go_wp2
  refine bodyPost_ret (v:=.tuple #[.agg #[.bool n2,.slice a2 L2.length c2],.int .i64 (bD (ad l Q))]) (by simp[results,Tryz.results202,go_sem,y0,y1]) rfl ⟨.agg #[.bool n2,.slice a2 L2.length c2],?_,?_,?_⟩
  ·rw[uH HE]
  ·exact ay.stored (uH HI) (by simp;omega) (by simp;omega) (by simp;omega) _ _
  ·exact(((uH X).trans (K.mono (by omega))).setCell (by simp;omega) _).setCell (by simp;omega) _
 ·have ax:¬bG (ah A) (ah B)<0:=by unfold bG;rw[if_neg (by omega)];split<;>omega
  generalize bG (ah A) (ah B)=cm at*
  clear HC
  have U:=aa (fun L h=>(uH HS).2 L h (by omega))
  clear HS
  go_wp2
  refine ap (fun W=>Below w.heap.size w W∧W.heap.size=w.heap.size+3∧aC W w.heap.size (.bool f) (.slice D A.length G)∧aC W (w.heap.size+1) (.bool l) (.slice F B.length H)∧aC W (w.heap.size+2) (.bool false) (.slice none 0 0)) ?_ ?_
  ·refine⟨below_drewN ((((Below.refl _ _).alloc (Nat.le_refl _) _).alloc (by simp) _).alloc (by simp;omega) _) _,by simp,(((aC.new _ _ _).old _).old _).drewN _,?_,?_⟩
   ·have:=((aC.new (w.alloc (.cells #[.bool f,.slice D A.length G] 108)) (.bool l) (.slice F B.length H)).old (.cells #[.bool false,.slice none 0 0] 108)).drewN m
    simpa using this
   ·have:=(aC.new ((w.alloc (.cells #[.bool f,.slice D A.length G] 108)).alloc (.cells #[.bool l,.slice F B.length H] 108)) (.bool false) (.slice none 0 0)).drewN m
    simpa using this
  rintro N ⟨t,O,x0,x1,x2⟩
  have hK:∀d,Below (w.heap.size+2) N d→Below (w.heap.size+2) N d∧d.cell? ⟨w.heap.size,0,none⟩=some (.bool f)∧d.cell? ⟨w.heap.size,1,none⟩=some (.slice D A.length G)∧d.cell? ⟨w.heap.size+1,1,none⟩=some (.slice F B.length H):=fun d h=>
   ⟨h,(x0.below h (by omega)).c0,(x0.below h (by omega)).c1,(x1.below h (by omega)).c1⟩
  have V:=aa hK
  have HA:=aa (hA.below t)
  have HB:=aa (hB.below t)
  have X2:=aa x2
  have X:=aa t
  have Y:ah B≤ah A:=by omega
  clear hK hA hB x0 x1 x2 t
  go_region_held3(fun d=>Below (w.heap.size+2) N d∧d.cell? ⟨w.heap.size,0,none⟩=some (.bool f)∧d.cell? ⟨w.heap.size,1,none⟩=some (.slice D A.length G)∧d.cell? ⟨w.heap.size+1,1,none⟩=some (.slice F B.length H))
   (first|exact uH V _ (Below.refl _ _).drew|exact uH V _ (by assumption)|exact uH V _ ((K.setCell (by simp) _).setCell (by simp) _))
   (first|(go_at_call 210;refine(jK D F G H A B _ ((uH HA).below ((Below.refl _ _).drew)) ((uH HB).below ((Below.refl _ _).drew)) la lb Y).mono ?_;rintro e w1 ⟨am,aj,Q,rfl,g1,g2,g3,g4,y⟩;have Z:Below (w.heap.size+2) N w1:=((Below.refl _ _).drew).trans (y.mono (by simp[O]));have X3:=aa ((uH X2).drew.below y (by simp[O]));have G1:=aa g1;have G2:=aa g2;have G4:=aa g4;have L4:Q.length≤35184372088832:=(by omega);have s1:=y.size;clear g1 g2 g4 g3 y)|(go_at_call 181;refine(iT _ f _ _ _ _ (uH G1) (uH G2) L4).mono ?_;rintro e w2 ⟨v,rfl,⟨n2,a2,c2,L2,rfl,i1⟩,I⟩;have K:Below (w.heap.size+2) N w2:=Z.trans (I.mono (by simp at s1;omega));have M:=(uH X3).below I (by simp at s1;omega);have y0:=M.c0;have y1:=M.c1;have f0:=M.free 0;have f1:=M.free 1;have I1:=aa i1;clear i1 I M))
  have hz:=uH U Q (uH G4)
  have HI:=aa (hz▸uH I1)
  have HE:=aa (show bD (ad f Q)=bD z by rw[hz])
  clear hz
  go_wp2
  refine bodyPost_ret (v:=.tuple #[.agg #[.bool n2,.slice a2 L2.length c2],.int .i64 (bD (ad f Q))]) (by simp[results,Tryz.results202,go_sem,y0,y1]) rfl ⟨.agg #[.bool n2,.slice a2 L2.length c2],?_,?_,?_⟩
  ·rw[uH HE]
  ·exact ay.stored (uH HI) (by simp;omega) (by simp;omega) (by simp;omega) _ _
  ·exact(((uH X).trans (K.mono (by omega))).setCell (by simp;omega) _).setCell (by simp;omega) _
theorem nI(d f:Bool)(h l:Option Addr)(m t:Nat)(A B:List Nat)(w:World)(y:af w h m A)(z:af w l t B)(D:A.length≤35184372088830)(F:B.length≤35184372088830)(I:bM A)(cB:bM B):
  Calls Tryz.prog 202 #[.agg #[.bool d,.slice h A.length m],.agg #[.bool f,.slice l B.length t]] w fun e G=>∃v,e=.returned (.tuple #[v,.int .i64 (bD (ad d A+ad f B))])∧ay w.heap.size G v (dj (ad d A+ad f B))∧Below w.heap.size w G:=by
 by_cases H:d=f
 ·subst H;exact lO d h l m t A B w y z D F
 ·exact lP d f h l m t A B w y z D F I cB H
theorem qv(d:Bool)(t y:Option Addr)(D F:Nat)(A B:List Nat)(w:World)(X:af w t D A)(Y:af w y F B)(la:A.length≤35184372088830)(lb:B.length≤35184372088830):
  Calls Tryz.prog 197 #[.agg #[.bool d,.slice t A.length D],.agg #[.bool d,.slice y B.length F]] w fun e f=>∃v,e=.returned v∧aG (max A.length B.length+1) w.heap.size f v (ad d A+ad d B)∧Below w.heap.size w f:=by
 have G:∀L:List Nat,ah L=ah A+ah B→ad d L=ad d A+ad d B:=by
  intro L h;unfold ad;cases d<;>simp[h]<;>omega
 have HS:=aa G
 clear G
 generalize ad d A+ad d B=z at*
 go_enter Tryz.func197,Tryz.ntmps197
 go_wp2
 refine ap (fun W=>Below w.heap.size w W∧W.heap.size=w.heap.size+3∧aC W w.heap.size (.bool d) (.slice t A.length D)∧aC W (w.heap.size+1) (.bool d) (.slice y B.length F)∧aC W (w.heap.size+2) (.bool false) (.slice none 0 0)) ?_ ?_
 ·refine⟨((((Below.refl _ _).alloc (Nat.le_refl _) _).alloc (by simp) _).alloc (by simp;omega) _),by simp,((aC.new _ _ _).old _).old _,?_,?_⟩
  ·have:=(aC.new (w.alloc (.cells #[.bool d,.slice t A.length D] 108)) (.bool d) (.slice y B.length F)).old (.cells #[.bool false,.slice none 0 0] 108)
   simpa using this
  ·have:=aC.new ((w.alloc (.cells #[.bool d,.slice t A.length D] 108)).alloc (.cells #[.bool d,.slice y B.length F] 108)) (.bool false) (.slice none 0 0)
   simpa using this
 rintro M ⟨l,N,U,x1,x2⟩
 have Z:∀f,Below (w.heap.size+2) M f→Below (w.heap.size+2) M f∧f.cell? ⟨w.heap.size,0,none⟩=some (.bool d)∧f.cell? ⟨w.heap.size,1,none⟩=some (.slice t A.length D)∧f.cell? ⟨w.heap.size+1,1,none⟩=some (.slice y B.length F):=fun f h=>
  ⟨h,(U.below h (by omega)).c0,(U.below h (by omega)).c1,(x1.below h (by omega)).c1⟩
 have O:=aa Z
 have HA:=aa (X.below l)
 have HB:=aa (Y.below l)
 have X2:=aa x2
 have Q:=aa l
 clear Z X Y U x1 x2 l
 go_region_held3(fun f=>Below (w.heap.size+2) M f∧f.cell? ⟨w.heap.size,0,none⟩=some (.bool d)∧f.cell? ⟨w.heap.size,1,none⟩=some (.slice t A.length D)∧f.cell? ⟨w.heap.size+1,1,none⟩=some (.slice y B.length F))
  (first|exact uH O _ (Below.refl _ _).drew|exact uH O _ (by assumption)|exact uH O _ ((I.setCell (by simp) _).setCell (by simp) _))
  (first|(go_at_call 204;refine(qu t y D F A B _ ((uH HA).below ((Below.refl _ _).drew)) ((uH HB).below ((Below.refl _ _).drew)) la lb).mono ?_;rintro e w1 ⟨aj,ae,V,rfl,g1,g2,g3,g4,m⟩;have T:Below (w.heap.size+2) M w1:=((Below.refl _ _).drew).trans (m.mono (by simp[N]));have X3:=aa ((uH X2).drew.below m (by simp[N]));have G1:=aa g1;have G2:=aa g2;have G4:=aa g4;have L4:V.length≤35184372088832:=(by omega);have L5:V.length≤max A.length B.length+1:=(by omega);have s1:=m.size;clear g1 g2 g4 g3 m)|(go_at_call 145;refine(cS _ d _ _ _ _ (uH G1) (uH G2) L4).mono ?_;rintro e w2 ⟨v,rfl,⟨n2,a2,c2,L2,rfl,i1⟩,H⟩;have I:Below (w.heap.size+2) M w2:=T.trans (H.mono (by simp at s1;omega));have K:=(uH X3).below H (by simp at s1;omega);have y0:=K.c0;have y1:=K.c1;have f0:=K.free 0;have f1:=K.free 1;have I1:=aa i1;clear i1 H K))
 have hz:=uH HS V (uH G4)
 have HI:=aa (hz▸uH I1)
 clear hz
 go_wp2
 refine bodyPost_ret (v:=.agg #[.bool n2,.slice a2 L2.length c2]) (by simp[results,Tryz.results197,go_sem,y0,y1]) rfl ⟨.agg #[.bool n2,.slice a2 L2.length c2],rfl,?_,?_⟩
 ·exact(aG.stored (uH HI) (by simp;omega) (by simp;omega) (by simp;omega) _ _).more (by have:=L5;omega)
 ·exact(((uH Q).trans (I.mono (by omega))).setCell (by simp;omega) _).setCell (by simp;omega) _
theorem qw(m t:Bool)(y D:Option Addr)(F G:Nat)(A B:List Nat)(w:World)(hA:af w y F A)(hB:af w D G B)(la:A.length≤35184372088830)(lb:B.length≤35184372088830)(hn:m≠t):
  Calls Tryz.prog 197 #[.agg #[.bool m,.slice y A.length F],.agg #[.bool t,.slice D B.length G]] w fun e d=>∃v,e=.returned v∧aG (max A.length B.length+1) w.heap.size d v (ad m A+ad t B)∧Below w.heap.size w d:=by
 have O:(∀L:List Nat,ah L=ah B-ah A→ah A<ah B→ad t L=ad m A+ad t B)∧(∀L:List Nat,ah L=ah A-ah B→ah B≤ah A→ad m L=ad m A+ad t B):=by
  constructor<;>intro L h h'<;>unfold ad<;>cases m<;>cases t<;>simp at hn<;>simp[h]<;>omega
 have HS:=aa O
 clear O
 generalize ad m A+ad t B=z at*
 have am:(m==t)=false:=by simpa using hn
 clear hn
 go_enter Tryz.func197,Tryz.ntmps197
 go_wp2_with fail
 refine(xK y D F G A B _ (hA.below ?_) (hB.below ?_) (by omega) (by omega)).mono ?_
 ·exact(((Below.refl _ _).alloc (Nat.le_refl _) _).alloc (by simp) _).alloc (by simp;omega) _
 ·exact(((Below.refl _ _).alloc (Nat.le_refl _) _).alloc (by simp) _).alloc (by simp;omega) _
 rintro e d ⟨rfl,rfl⟩
 by_cases hv:ah A<ah B
 ·rw[dc (by omega)]
  have Q:=aa (fun L h=>(uH HS).1 L h hv)
  clear HS
  go_wp2
  refine ap (fun W=>Below w.heap.size w W∧W.heap.size=w.heap.size+3∧aC W w.heap.size (.bool m) (.slice y A.length F)∧aC W (w.heap.size+1) (.bool t) (.slice D B.length G)∧aC W (w.heap.size+2) (.bool false) (.slice none 0 0)) ?_ ?_
  ·refine⟨((((Below.refl _ _).alloc (Nat.le_refl _) _).alloc (by simp) _).alloc (by simp;omega) _),by simp,(((aC.new _ _ _).old _).old _),?_,?_⟩
   ·have:=((aC.new (w.alloc (.cells #[.bool m,.slice y A.length F] 108)) (.bool t) (.slice D B.length G)).old (.cells #[.bool false,.slice none 0 0] 108))
    simpa using this
   ·have:=(aC.new ((w.alloc (.cells #[.bool m,.slice y A.length F] 108)).alloc (.cells #[.bool t,.slice D B.length G] 108)) (.bool false) (.slice none 0 0))
    simpa using this
  rintro M ⟨f,N,Z,x1,x2⟩
  have hK:∀d,Below (w.heap.size+2) M d→Below (w.heap.size+2) M d∧d.cell? ⟨w.heap.size+1,0,none⟩=some (.bool t)∧d.cell? ⟨w.heap.size,1,none⟩=some (.slice y A.length F)∧d.cell? ⟨w.heap.size+1,1,none⟩=some (.slice D B.length G):=fun d h=>
   ⟨h,(x1.below h (by omega)).c0,(Z.below h (by omega)).c1,(x1.below h (by omega)).c1⟩
  have T:=aa hK
  have HA:=aa (hA.below f)
  have HB:=aa (hB.below f)
  have X2:=aa x2
  have U:=aa f
  have V:ah A≤ah B:=by omega
  clear hK hA hB Z x1 x2 f
  go_region_held3(fun d=>Below (w.heap.size+2) M d∧d.cell? ⟨w.heap.size+1,0,none⟩=some (.bool t)∧d.cell? ⟨w.heap.size,1,none⟩=some (.slice y A.length F)∧d.cell? ⟨w.heap.size+1,1,none⟩=some (.slice D B.length G))
   (first|exact uH T _ (Below.refl _ _).drew|exact uH T _ (by assumption)|exact uH T _ ((I.setCell (by simp) _).setCell (by simp) _))
   (first|(go_at_call 206;refine(oA D y G F B A _ ((uH HB).below ((Below.refl _ _).drew)) ((uH HA).below ((Below.refl _ _).drew)) lb la V).mono ?_;rintro e w1 ⟨aj,ae,Y,rfl,g1,g2,g3,g4,l⟩;have X:Below (w.heap.size+2) M w1:=((Below.refl _ _).drew).trans (l.mono (by simp[N]));have X3:=aa ((uH X2).drew.below l (by simp[N]));have G1:=aa g1;have G2:=aa g2;have G4:=aa g4;have L4:Y.length≤35184372088832:=(by omega);have L5:Y.length≤max A.length B.length+1:=(by omega);have s1:=l.size;clear g1 g2 g4 g3 l)|(go_at_call 145;refine(cS _ t _ _ _ _ (uH G1) (uH G2) L4).mono ?_;rintro e w2 ⟨v,rfl,⟨n2,a2,c2,L2,rfl,i1⟩,H⟩;have I:Below (w.heap.size+2) M w2:=X.trans (H.mono (by simp at s1;omega));have K:=(uH X3).below H (by simp at s1;omega);have y0:=K.c0;have y1:=K.c1;have f0:=K.free 0;have f1:=K.free 1;have I1:=aa i1;clear i1 H K))
  have hz:=uH Q Y (uH G4)
  have HI:=aa (hz▸uH I1)
  clear hz
  go_wp2
  refine bodyPost_ret (v:=.agg #[.bool n2,.slice a2 L2.length c2]) (by simp[results,Tryz.results197,go_sem,y0,y1]) rfl ⟨.agg #[.bool n2,.slice a2 L2.length c2],rfl,?_,?_⟩
  ·exact(aG.stored (uH HI) (by simp;omega) (by simp;omega) (by simp;omega) _ _).more (by have:=L5;omega)
  ·exact(((uH U).trans (I.mono (by omega))).setCell (by simp;omega) _).setCell (by simp;omega) _
 ·have av:¬bG (ah A) (ah B)<0:=by unfold bG;rw[if_neg (by omega)];split<;>omega
  generalize bG (ah A) (ah B)=cm at*
  have Q:=aa (fun L h=>(uH HS).2 L h (by omega))
  clear HS
  go_wp2
  refine ap (fun W=>Below w.heap.size w W∧W.heap.size=w.heap.size+3∧aC W w.heap.size (.bool m) (.slice y A.length F)∧aC W (w.heap.size+1) (.bool t) (.slice D B.length G)∧aC W (w.heap.size+2) (.bool false) (.slice none 0 0)) ?_ ?_
  ·refine⟨((((Below.refl _ _).alloc (Nat.le_refl _) _).alloc (by simp) _).alloc (by simp;omega) _),by simp,(((aC.new _ _ _).old _).old _),?_,?_⟩
   ·have:=((aC.new (w.alloc (.cells #[.bool m,.slice y A.length F] 108)) (.bool t) (.slice D B.length G)).old (.cells #[.bool false,.slice none 0 0] 108))
    simpa using this
   ·have:=(aC.new ((w.alloc (.cells #[.bool m,.slice y A.length F] 108)).alloc (.cells #[.bool t,.slice D B.length G] 108)) (.bool false) (.slice none 0 0))
    simpa using this
  rintro M ⟨f,N,Z,x1,x2⟩
  have hK:∀d,Below (w.heap.size+2) M d→Below (w.heap.size+2) M d∧d.cell? ⟨w.heap.size,0,none⟩=some (.bool m)∧d.cell? ⟨w.heap.size,1,none⟩=some (.slice y A.length F)∧d.cell? ⟨w.heap.size+1,1,none⟩=some (.slice D B.length G):=fun d h=>
   ⟨h,(Z.below h (by omega)).c0,(Z.below h (by omega)).c1,(x1.below h (by omega)).c1⟩
  have T:=aa hK
  have HA:=aa (hA.below f)
  have HB:=aa (hB.below f)
  have X2:=aa x2
  have U:=aa f
  have V:ah B≤ah A:=by omega
  clear hK hA hB Z x1 x2 f
  go_region_held3(fun d=>Below (w.heap.size+2) M d∧d.cell? ⟨w.heap.size,0,none⟩=some (.bool m)∧d.cell? ⟨w.heap.size,1,none⟩=some (.slice y A.length F)∧d.cell? ⟨w.heap.size+1,1,none⟩=some (.slice D B.length G))
   (first|exact uH T _ (Below.refl _ _).drew|exact uH T _ (by assumption)|exact uH T _ ((I.setCell (by simp) _).setCell (by simp) _))
   (first|(go_at_call 206;refine(oA y D F G A B _ ((uH HA).below ((Below.refl _ _).drew)) ((uH HB).below ((Below.refl _ _).drew)) la lb V).mono ?_;rintro e w1 ⟨aj,ae,Y,rfl,g1,g2,g3,g4,l⟩;have X:Below (w.heap.size+2) M w1:=((Below.refl _ _).drew).trans (l.mono (by simp[N]));have X3:=aa ((uH X2).drew.below l (by simp[N]));have G1:=aa g1;have G2:=aa g2;have G4:=aa g4;have L4:Y.length≤35184372088832:=(by omega);have L5:Y.length≤max A.length B.length+1:=(by omega);have s1:=l.size;clear g1 g2 g4 g3 l)|(go_at_call 145;refine(cS _ m _ _ _ _ (uH G1) (uH G2) L4).mono ?_;rintro e w2 ⟨v,rfl,⟨n2,a2,c2,L2,rfl,i1⟩,H⟩;have I:Below (w.heap.size+2) M w2:=X.trans (H.mono (by simp at s1;omega));have K:=(uH X3).below H (by simp at s1;omega);have y0:=K.c0;have y1:=K.c1;have f0:=K.free 0;have f1:=K.free 1;have I1:=aa i1;clear i1 H K))
  have hz:=uH Q Y (uH G4)
  have HI:=aa (hz▸uH I1)
  clear hz
  go_wp2
  refine bodyPost_ret (v:=.agg #[.bool n2,.slice a2 L2.length c2]) (by simp[results,Tryz.results197,go_sem,y0,y1]) rfl ⟨.agg #[.bool n2,.slice a2 L2.length c2],rfl,?_,?_⟩
  ·exact(aG.stored (uH HI) (by simp;omega) (by simp;omega) (by simp;omega) _ _).more (by have:=L5;omega)
  ·exact(((uH U).trans (I.mono (by omega))).setCell (by simp;omega) _).setCell (by simp;omega) _
theorem sw(d f:Bool)(h l:Option Addr)(m t:Nat)(A B:List Nat)(w:World)(y:af w h m A)(z:af w l t B)(D:A.length≤35184372088830)(F:B.length≤35184372088830):
  Calls Tryz.prog 197 #[.agg #[.bool d,.slice h A.length m],.agg #[.bool f,.slice l B.length t]] w fun e G=>∃v,e=.returned v∧aG (max A.length B.length+1) w.heap.size G v (ad d A+ad f B)∧Below w.heap.size w G:=by
 by_cases H:d=f
 ·subst H;exact qv d h l m t A B w y z D F
 ·exact qw d f h l m t A B w y z D F H
end Go.Proofs.YtenpggicmfhhdaaGreatDoor
