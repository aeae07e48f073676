/- Part 6 of the texts. -/
import Derived.Test.YtlnphkioddknfaaGreatDoorParty05
set_option maxHeartbeats 1000000
namespace Go.Proofs.YtlnphkioddknfaaGreatDoor
open Go.RowKit
theorem xI(x y c:Nat)(d:x<4294967296)(f:y<4294967296)(l:c≤1)(h:x<y):
  IntKind.u64.wrap (IntKind.u64.wrap ((x:Int)-(y:Int))-(c:Int))=18446744073709551616+(x:Int)-(y:Int)-(c:Int):=by
 simp only[IntKind.wrap,IntKind.signed,IntKind.bits]
 simp
 omega
theorem kt(ao bo:Option Addr)(ca cb:Nat)(A B:List Nat)(w:World)(hA:ag w ao ca A)(hB:ag w bo cb B)(la:A.length≤35184372088830)(lb:B.length≤35184372088830)(L:an B≤an A):
  Calls Tryz.prog 293 #[.slice ao A.length ca,.slice bo B.length cb] w fun e w'=>∃U M L',e=.returned (.slice U L'.length M)∧ag w' U M L'∧bN w.heap.size U L'∧L'.length=A.length∧an L'=an A-an B∧Below w.heap.size w w':=by
 obtain⟨i0,hi,a5,a6,a7⟩:=info_parts Tryz.info133
 have hE:∀(S:List Nat) (k c:Nat),bf S→S.length=A.length→¬k<A.length→k≤A.length→an (S.take k)+an (B.take k)=an (A.take k)+4294967296^k*c→an S=an A-an B:=by
  intro S k c f hl Z h2 h
  rw[show k=A.length by omega]at h
  exact wD A B S A.length c f hl rfl L (wE A B hA.2.1 L) h
 have HE:=aa hE
 have D:=fun(S:List Nat) (k c t G:Nat) (hk:k<S.length)=>zZ A B S k c (A[k]?.getD 0) (B[k]?.getD 0) t G hk rfl rfl
 have ae:=aa D
 clear hE D L
 have aj:0<A.length→∃b V,ao=some ⟨b,V,none⟩:=fun h=>by obtain⟨b,V,Z,_⟩:=hA.ne h;exact⟨b,V,Z⟩
 have bi:=aa aj
 clear aj
 go_enter Tryz.func293,Tryz.ntmps293
 go_wp2_with(at_make;refine wpList_make_full _ rfl _ _ 43 rfl w.heap.size 133 i0 (.int .u32 0) 1 Tryz.underlying43 hi a5 a6 .i64 .i64 _ _ A.length rfl rfl rfl rfl (by rw[a7];omega) (by unfold maxLen;omega) (Nat.le_refl _) ?_;intro w1 Q F)
 have N:=bR.made Q
 have a1:Below w.heap.size w w1:=(Below.refl _ _).grown F (Nat.le_refl _) (fun k h=>by simp at h)
 have bj:w.heap.size<w1.heap.size:=N.lt
 clear Q F
 go_wp2
 go_loopw[6,14] (fun c i wr=>∃(k:Nat) (S:List Nat) (y:Nat),k≤A.length∧i=.int .i64 k∧c=.int .u64 y∧y≤1∧bR wr w.heap.size S∧S.length=A.length∧bf S∧Below w.heap.size w wr∧Hid (an (S.take k)+an (B.take k)=an (A.take k)+4294967296^k*y))
  (fun _ i _=>A.length-(intOf i).toNat)
 case atStart=>exact⟨0,List.replicate A.length 0,0,Nat.zero_le _,rfl,rfl,by omega,N,by simp,bf.zeros _,a1,by unfold Hid;simp[an]⟩
 case round=>
  obtain⟨k,S,y,hk,rfl,rfl,hy,hr,H,hf,l,L⟩:=hrel
  by_cases ak:k<A.length
  ·obtain⟨z,I⟩:∃x,A[k]?.getD 0=x:=⟨_,rfl⟩
   obtain⟨m,K⟩:∃x,B[k]?.getD 0=x:=⟨_,rfl⟩
   have ba:z<4294967296:=by rw[←I];exact hA.lt k
   have bb:m<4294967296:=by rw[←K];exact hB.lt k
   have cA:=hA.below l
   have cB:=hB.below l
   have D:=fun(t G:Nat) (ht:t+m+y=z+4294967296*G)=>uH ae S k y t G (by omega) (by rw[I,K];exact ht) L.out
   have am:=aa D
   have X:=aa K
   have a2:=hr.cell k (by omega)
   have a3:=hr.free k
   have HR:=aa hr
   obtain⟨b1,o1,a9,be,a0⟩:=cA.ne (by omega)
   have a4:=a0 k ak
   rw[I]at a4
   clear D I K L hr a0 ae HE
   generalize hS:S[k]?.getD 0=sk at*
   clear hS
   subst a9
   have bc:(k:Int)<(A.length:Int):=by omega
   have ax:∀(nq t G:Nat) (d:Int),d=(t:Int)→t<4294967296→G≤1→t+m+y=z+4294967296*G→
     bR ((wr.drewN nq).setCell ⟨w.heap.size,k,none⟩ (.int .u32 d)) w.heap.size (S.set k t)∧(S.set k t).length=A.length∧bf (S.set k t)∧Below w.heap.size w ((wr.drewN nq).setCell ⟨w.heap.size,k,none⟩ (.int .u32 d))∧
     Hid (an ((S.set k t).take (k+1))+an (B.take (k+1))=an (A.take (k+1))+4294967296^(k+1)*G):=by
    rintro nq t G d rfl ht hc he
    exact⟨((uH HR).drewN nq).set k t,by simpa using H,hf.set _ _ ht,(below_drewN l nq).setCell (by simp) _,uH am t G he⟩
   have Y:=aa ax
   clear ax am HR
   rcases(show m+y≤z∨z<m∨(z=m∧y=1) by omega)with Z|Z|⟨Z,h2⟩
   ·go_wp2
    go_quiet ((go_at_call 280;exact jd (g9 bo cb B _ k m _ (cB.below (below_drewN (Below.refl _ _) _)) lb rfl X)))
    go_wp2
    have R:=uH Y nq (z-m-y) 0 ((z:Int)-m-y) (by omega) (by omega) (by omega) (by omega)
    go_roundw
    case rel=>exact⟨k+1,_,0,by omega,by go_num,cN (by omega),by omega,R⟩
    case measure=>simp[intOf];omega
   ·go_wp2
    go_quiet ((go_at_call 280;exact jd (g9 bo cb B _ k m _ (cB.below (below_drewN (Below.refl _ _) _)) lb rfl X)))
    go_wp2
    have e:=xI z m y ba bb hy Z
    have R:=uH Y nq (4294967296+z-m-y) 1 (IntKind.u64.wrap (IntKind.u64.wrap ((z:Int)-m)-y)%4294967296) (by rw[e];omega) (by omega) (by omega) (by omega)
    go_roundw
    case rel=>exact⟨k+1,_,1,by omega,by go_num,cN (by rw[e];omega),by omega,R⟩
    case measure=>simp[intOf];omega
   ·subst Z;subst h2
    go_wp2
    go_quiet ((go_at_call 280;exact jd (g9 bo cb B _ k z _ (cB.below (below_drewN (Below.refl _ _) _)) lb rfl X)))
    go_wp2
    have e:IntKind.u64.wrap (-1)=18446744073709551615:=by decide
    have R:=uH Y nq 4294967295 1 (IntKind.u64.wrap (-1)%4294967296) (by rw[e];rfl) (by omega) (by omega) (by omega)
    go_roundw
    case rel=>exact⟨k+1,_,1,by omega,by go_num,cN (by rw[e];rfl),by omega,R⟩
    case measure=>simp[intOf];omega
  ·have O:=uH HE S k y hf H ak hk L.out
   have aI:=aa O
   have HR:=aa hr
   clear O hr L
   go_wp2
   go_ret
   exact⟨some ⟨w.heap.size,0,none⟩,A.length,S,by rw[H];rfl,(uH HR).limbs hf _ (by omega),.inr ⟨_,_,rfl,Nat.le_refl _⟩,H,uH aI,l⟩
theorem jB(B:Nat)(neg:Bool)(ao:Option Addr)(cap:Nat)(L:List Nat)(w:World)(h:ag w ao cap L)(K:bN B ao L)(V:L.length≤35184372088832):
  Calls Tryz.prog 269 #[.bool neg,.slice ao L.length cap] w fun e F=>∃v,e=.returned (.tuple #[v,.int .i64 (bI (af neg L))])∧aw B F v (dz (af neg L))∧Below w.heap.size w F:=by
 have A:∀d:List Nat,bP d→bf d→an d=an L→(d= []→bI (af neg L)=0∧dz (af neg L)=0)∧(512<d.length→bI (af neg L)=2∧dz (af neg L)=0)∧(d.length≤512→bI (af neg L)=0∧dz (af neg L)=af neg d):=by
  intro d c f D
  have M:=dR d f c
  refine⟨?_,?_,?_⟩
  ·rintro rfl
   have:an L=0:=by rw[←D];rfl
   have A:0<dy:=Nat.pow_pos (by decide)
   have e:af neg L=0:=by unfold af;cases neg<;>simp[this]
   simp[bI,dz,e,A]
  ·intro t
   have:¬an d<dy:=fun h=>by have:=M.1 h;omega
   simp[bI,dz,aR,←D,this]
  ·intro t
   have:=M.2 t
   rw[mO (neg:=neg) D]
   simp[bI,dz,aR,←D,this]
 generalize bI (af neg L)=er at*
 generalize dz (af neg L)=nu at*
 have N:=aa A
 clear A
 have O:=aa K
 clear K
 go_enter Tryz.func269,Tryz.ntmps269
 go_wp2_with fail
 refine(mR ao cap L _ (h.below ?_) V).mono ?_
 ·exact(Below.refl _ _).alloc (Nat.le_refl _) _
 rintro e F ⟨v,rfl,⟨z,m,d,rfl,I,Q,h4,t,U⟩,rfl⟩
 have G:=t w h
 have H:=aa (uH N d I G.2.1 Q)
 have X:=aa (U B (uH O))
 have Y:=aa G
 have Z:=aa I
 clear N Q t U G I h O
 by_cases y:d= []
 ·have l:=aa ((uH H).1 y)
  have hz:d.length=0:=by rw[y];rfl
  clear y
  go_wp2
  refine bodyPost_ret (v:=.tuple #[.agg #[.bool false,.slice none 0 0],.int .i64 0]) (by simp[results,Tryz.results269,go_sem]) rfl ⟨.agg #[.bool false,.slice none 0 0],?_,?_,(Below.refl _ _).alloc (Nat.le_refl _) _⟩
  ·rw[(uH l).1]
  ·rw[(uH l).2];exact aw.zero _ _ _ _
 ·have hp:0<d.length:=List.length_pos_iff.2 y
  have ae:((d.length:Int)==0)=false:=by simp;exact y
  by_cases t:d.length≤512
  ·have l:=aa ((uH H).2.2 t)
   go_wp2
   refine bodyPost_ret (v:=.tuple #[.agg #[.bool neg,.slice z d.length m],.int .i64 0]) (by simp[results,Tryz.results269,go_sem]) rfl ⟨.agg #[.bool neg,.slice z d.length m],?_,?_,?_⟩
   ·rw[(uH l).1]
   ·rw[(uH l).2]
    exact aw.mk ((uH Y).below ((Below.refl _ _).alloc (Nat.le_refl _) _)) (uH X) (uH Z) y (by omega)
   ·exact(Below.refl _ _).alloc (Nat.le_refl _) _
  ·have l:=aa ((uH H).2.1 (by omega))
   go_wp2
   refine bodyPost_ret (v:=.tuple #[.agg #[.bool false,.slice none 0 0],.int .i64 2]) (by simp[results,Tryz.results269,go_sem]) rfl ⟨.agg #[.bool false,.slice none 0 0],?_,?_,(Below.refl _ _).alloc (Nat.le_refl _) _⟩
   ·rw[(uH l).1]
   ·rw[(uH l).2];exact aw.zero _ _ _ _
attribute [local go_sem ↓] Go.wp_at_zero Go.wp_at_succ
theorem mU(d:Bool)(ao t:Option Addr)(y D:Nat)(A B:List Nat)(w:World)(Y:ag w ao y A)(Z:ag w t D B)(la:A.length≤35184372088830)(lb:B.length≤35184372088830):
  Calls Tryz.prog 290 #[.agg #[.bool d,.slice ao A.length y],.agg #[.bool d,.slice t B.length D]] w fun e f=>∃v,e=.returned (.tuple #[v,.int .i64 (bI (af d A+af d B))])∧aw w.heap.size f v (dz (af d A+af d B))∧Below w.heap.size w f:=by
 have F:∀L:List Nat,an L=an A+an B→af d L=af d A+af d B:=by
  intro L h;unfold af;cases d<;>simp[h]<;>omega
 have HS:=aa F
 clear F
 generalize af d A+af d B=z at*
 go_enter Tryz.func290,Tryz.ntmps290
 go_wp2
 refine au (fun W=>Below w.heap.size w W∧W.heap.size=w.heap.size+3∧aA W w.heap.size (.bool d) (.slice ao A.length y)∧aA W (w.heap.size+1) (.bool d) (.slice t B.length D)∧aA W (w.heap.size+2) (.bool false) (.slice none 0 0)) ?_ ?_
 ·refine⟨((((Below.refl _ _).alloc (Nat.le_refl _) _).alloc (by simp) _).alloc (by simp;omega) _),by simp,((aA.new _ _ _).old _).old _,?_,?_⟩
  ·have:=(aA.new (w.alloc (.cells #[.bool d,.slice ao A.length y] 45)) (.bool d) (.slice t B.length D)).old (.cells #[.bool false,.slice none 0 0] 45)
   simpa using this
  ·have:=aA.new ((w.alloc (.cells #[.bool d,.slice ao A.length y] 45)).alloc (.cells #[.bool d,.slice t B.length D] 45)) (.bool false) (.slice none 0 0)
   simpa using this
 rintro K ⟨l,M,X,x1,x2⟩
 have hK:∀f,Below (w.heap.size+2) K f→Below (w.heap.size+2) K f∧f.cell? ⟨w.heap.size,0,none⟩=some (.bool d)∧f.cell? ⟨w.heap.size,1,none⟩=some (.slice ao A.length y)∧f.cell? ⟨w.heap.size+1,1,none⟩=some (.slice t B.length D):=fun f h=>
  ⟨h,(X.below h (by omega)).c0,(X.below h (by omega)).c1,(x1.below h (by omega)).c1⟩
 have O:=aa hK
 have HA:=aa (Y.below l)
 have HB:=aa (Z.below l)
 have X2:=aa x2
 have Q:=aa l
 clear hK Y Z X x1 x2 l
 go_region_held3(fun f=>Below (w.heap.size+2) K f∧f.cell? ⟨w.heap.size,0,none⟩=some (.bool d)∧f.cell? ⟨w.heap.size,1,none⟩=some (.slice ao A.length y)∧f.cell? ⟨w.heap.size+1,1,none⟩=some (.slice t B.length D))
  (first|exact uH O _ (Below.refl _ _).drew|exact uH O _ (by assumption)|exact uH O _ ((H.setCell (by simp) _).setCell (by simp) _))
  (first|(go_at_call 291;refine(qt ao t y D A B _ ((uH HA).below ((Below.refl _ _).drew)) ((uH HB).below ((Below.refl _ _).drew)) la lb).mono ?_;rintro e w1 ⟨aj,ae,N,rfl,g1,g2,g3,g4,m⟩;have U:Below (w.heap.size+2) K w1:=((Below.refl _ _).drew).trans (m.mono (by simp[M]));have X3:=aa ((uH X2).drew.below m (by simp[M]));have G1:=aa g1;have G2:=aa g2;have G4:=aa g4;have L4:N.length≤35184372088832:=(by omega);have s1:=m.size;clear g1 g2 g4 g3 m)|(go_at_call 269;refine(jB _ d _ _ _ _ (uH G1) (uH G2) L4).mono ?_;rintro e w2 ⟨v,rfl,⟨n2,a2,c2,L2,rfl,i1⟩,G⟩;have H:Below (w.heap.size+2) K w2:=U.trans (G.mono (by simp at s1;omega));have I:=(uH X3).below G (by simp at s1;omega);have y0:=I.c0;have y1:=I.c1;have f0:=I.free 0;have f1:=I.free 1;have I1:=aa i1;clear i1 G I))
 have V:=uH HS N (uH G4)
 have HI:=aa (V▸uH I1)
 have HE:=aa (show bI (af d N)=bI z by rw[V])
 clear V
 go_wp2
 refine bodyPost_ret (v:=.tuple #[.agg #[.bool n2,.slice a2 L2.length c2],.int .i64 (bI (af d N))]) (by simp[results,Tryz.results290,go_sem,y0,y1]) rfl ⟨.agg #[.bool n2,.slice a2 L2.length c2],?_,?_,?_⟩
 ·rw[uH HE]
 ·exact aw.stored (uH HI) (by simp;omega) (by simp;omega) (by simp;omega) _ _
 ·exact(((uH Q).trans (H.mono (by omega))).setCell (by simp;omega) _).setCell (by simp;omega) _
theorem uC(A B:List Nat)(fA:bf A)(f:bf B)(l:bP A)(cB:bP B):mT A B=bJ (an A) (an B):=by
 unfold mT
 split
 ·rfl
 ·rename_i m
  rcases Nat.lt_or_gt_of_ne m with h|h
  ·have:an A<an B:=by
    have:=dp B A fA cB
    by_cases d:an B≤an A
    ·have:=this d;omega
    ·omega
   rw[dq (by omega),dq (by omega)]
  ·have:an B<an A:=by
    have:=dp A B f l
    by_cases d:an A≤an B
    ·have:=this d;omega
    ·omega
   rw[ew (by omega),ew (by omega)]
theorem mW(f l:Bool)(ao D:Option Addr)(F G:Nat)(A B:List Nat)(w:World)(hA:ag w ao F A)(hB:ag w D G B)(la:A.length≤35184372088830)(lb:B.length≤35184372088830)(cA:bP A)(cB:bP B)(hn:f≠l):
  Calls Tryz.prog 290 #[.agg #[.bool f,.slice ao A.length F],.agg #[.bool l,.slice D B.length G]] w fun e d=>∃v,e=.returned (.tuple #[v,.int .i64 (bI (af f A+af l B))])∧aw w.heap.size d v (dz (af f A+af l B))∧Below w.heap.size w d:=by
 have Q:(∀L:List Nat,an L=an B-an A→an A<an B→af l L=af f A+af l B)∧(∀L:List Nat,an L=an A-an B→an B≤an A→af f L=af f A+af l B):=by
  constructor<;>intro L h h'<;>unfold af<;>cases f<;>cases l<;>simp at hn<;>simp[h]<;>omega
 have ae:=uC A B hA.2.1 hB.2.1 cA cB
 have HS:=aa Q
 clear Q
 generalize af f A+af l B=z at*
 have am:(f==l)=false:=by simpa using hn
 have HC:=aa ae
 clear ae hn
 go_enter Tryz.func290,Tryz.ntmps290
 go_wp2_with fail
 refine(ld ao D F G A B _ (hA.below ?_) (hB.below ?_) (by omega) (by omega)).mono ?_
 ·exact(((Below.refl _ _).alloc (Nat.le_refl _) _).alloc (by simp) _).alloc (by simp;omega) _
 ·exact(((Below.refl _ _).alloc (Nat.le_refl _) _).alloc (by simp) _).alloc (by simp;omega) _
 rintro e d ⟨rfl,m,rfl⟩
 rw[uH HC]
 by_cases hv:an A<an B
 ·rw[dq (by omega)]
  clear HC
  have U:=aa (fun L h=>(uH HS).1 L h hv)
  clear HS
  go_wp2
  refine au (fun W=>Below w.heap.size w W∧W.heap.size=w.heap.size+3∧aA W w.heap.size (.bool f) (.slice ao A.length F)∧aA W (w.heap.size+1) (.bool l) (.slice D B.length G)∧aA W (w.heap.size+2) (.bool false) (.slice none 0 0)) ?_ ?_
  ·refine⟨below_drewN ((((Below.refl _ _).alloc (Nat.le_refl _) _).alloc (by simp) _).alloc (by simp;omega) _) _,by simp,(((aA.new _ _ _).old _).old _).drewN _,?_,?_⟩
   ·have:=((aA.new (w.alloc (.cells #[.bool f,.slice ao A.length F] 45)) (.bool l) (.slice D B.length G)).old (.cells #[.bool false,.slice none 0 0] 45)).drewN m
    simpa using this
   ·have:=(aA.new ((w.alloc (.cells #[.bool f,.slice ao A.length F] 45)).alloc (.cells #[.bool l,.slice D B.length G] 45)) (.bool false) (.slice none 0 0)).drewN m
    simpa using this
  rintro M ⟨t,N,x0,x1,x2⟩
  have hK:∀d,Below (w.heap.size+2) M d→Below (w.heap.size+2) M d∧d.cell? ⟨w.heap.size+1,0,none⟩=some (.bool l)∧d.cell? ⟨w.heap.size,1,none⟩=some (.slice ao A.length F)∧d.cell? ⟨w.heap.size+1,1,none⟩=some (.slice D B.length G):=fun d h=>
   ⟨h,(x1.below h (by omega)).c0,(x0.below h (by omega)).c1,(x1.below h (by omega)).c1⟩
  have V:=aa hK
  have HA:=aa (hA.below t)
  have HB:=aa (hB.below t)
  have X2:=aa x2
  have X:=aa t
  have Y:an A≤an B:=by omega
  clear hK hA hB x0 x1 x2 t
  go_region_held3(fun d=>Below (w.heap.size+2) M d∧d.cell? ⟨w.heap.size+1,0,none⟩=some (.bool l)∧d.cell? ⟨w.heap.size,1,none⟩=some (.slice ao A.length F)∧d.cell? ⟨w.heap.size+1,1,none⟩=some (.slice D B.length G))
   (first|exact uH V _ (Below.refl _ _).drew|exact uH V _ (by assumption)|exact uH V _ ((I.setCell (by simp) _).setCell (by simp) _))
   (first|(go_at_call 293;refine(kt D ao G F B A _ ((uH HB).below ((Below.refl _ _).drew)) ((uH HA).below ((Below.refl _ _).drew)) lb la Y).mono ?_;rintro e w1 ⟨ak,aj,O,rfl,g1,g2,g3,g4,y⟩;have Z:Below (w.heap.size+2) M w1:=((Below.refl _ _).drew).trans (y.mono (by simp[N]));have X3:=aa ((uH X2).drew.below y (by simp[N]));have G1:=aa g1;have G2:=aa g2;have G4:=aa g4;have L4:O.length≤35184372088832:=(by omega);have s1:=y.size;clear g1 g2 g4 g3 y)|(go_at_call 269;refine(jB _ l _ _ _ _ (uH G1) (uH G2) L4).mono ?_;rintro e w2 ⟨v,rfl,⟨n2,a2,c2,L2,rfl,i1⟩,H⟩;have I:Below (w.heap.size+2) M w2:=Z.trans (H.mono (by simp at s1;omega));have K:=(uH X3).below H (by simp at s1;omega);have y0:=K.c0;have y1:=K.c1;have f0:=K.free 0;have f1:=K.free 1;have I1:=aa i1;clear i1 H K))
  have hz:=uH U O (uH G4)
  have HI:=aa (hz▸uH I1)
  have HE:=aa (show bI (af l O)=bI z by rw[hz])
  clear hz
  go_wp2
  refine bodyPost_ret (v:=.tuple #[.agg #[.bool n2,.slice a2 L2.length c2],.int .i64 (bI (af l O))]) (by simp[results,Tryz.results290,go_sem,y0,y1]) rfl ⟨.agg #[.bool n2,.slice a2 L2.length c2],?_,?_,?_⟩
  ·rw[uH HE]
  ·exact aw.stored (uH HI) (by simp;omega) (by simp;omega) (by simp;omega) _ _
  ·exact(((uH X).trans (I.mono (by omega))).setCell (by simp;omega) _).setCell (by simp;omega) _
 ·have ax:¬bJ (an A) (an B)<0:=by unfold bJ;rw[if_neg (by omega)];split<;>omega
  generalize bJ (an A) (an B)=cm at*
  clear HC
  have U:=aa (fun L h=>(uH HS).2 L h (by omega))
  clear HS
  go_wp2
  refine au (fun W=>Below w.heap.size w W∧W.heap.size=w.heap.size+3∧aA W w.heap.size (.bool f) (.slice ao A.length F)∧aA W (w.heap.size+1) (.bool l) (.slice D B.length G)∧aA W (w.heap.size+2) (.bool false) (.slice none 0 0)) ?_ ?_
  ·refine⟨below_drewN ((((Below.refl _ _).alloc (Nat.le_refl _) _).alloc (by simp) _).alloc (by simp;omega) _) _,by simp,(((aA.new _ _ _).old _).old _).drewN _,?_,?_⟩
   ·have:=((aA.new (w.alloc (.cells #[.bool f,.slice ao A.length F] 45)) (.bool l) (.slice D B.length G)).old (.cells #[.bool false,.slice none 0 0] 45)).drewN m
    simpa using this
   ·have:=(aA.new ((w.alloc (.cells #[.bool f,.slice ao A.length F] 45)).alloc (.cells #[.bool l,.slice D B.length G] 45)) (.bool false) (.slice none 0 0)).drewN m
    simpa using this
  rintro M ⟨t,N,x0,x1,x2⟩
  have hK:∀d,Below (w.heap.size+2) M d→Below (w.heap.size+2) M d∧d.cell? ⟨w.heap.size,0,none⟩=some (.bool f)∧d.cell? ⟨w.heap.size,1,none⟩=some (.slice ao A.length F)∧d.cell? ⟨w.heap.size+1,1,none⟩=some (.slice D B.length G):=fun d h=>
   ⟨h,(x0.below h (by omega)).c0,(x0.below h (by omega)).c1,(x1.below h (by omega)).c1⟩
  have V:=aa hK
  have HA:=aa (hA.below t)
  have HB:=aa (hB.below t)
  have X2:=aa x2
  have X:=aa t
  have Y:an B≤an A:=by omega
  clear hK hA hB x0 x1 x2 t
  go_region_held3(fun d=>Below (w.heap.size+2) M d∧d.cell? ⟨w.heap.size,0,none⟩=some (.bool f)∧d.cell? ⟨w.heap.size,1,none⟩=some (.slice ao A.length F)∧d.cell? ⟨w.heap.size+1,1,none⟩=some (.slice D B.length G))
   (first|exact uH V _ (Below.refl _ _).drew|exact uH V _ (by assumption)|exact uH V _ ((I.setCell (by simp) _).setCell (by simp) _))
   (first|(go_at_call 293;refine(kt ao D F G A B _ ((uH HA).below ((Below.refl _ _).drew)) ((uH HB).below ((Below.refl _ _).drew)) la lb Y).mono ?_;rintro e w1 ⟨ak,aj,O,rfl,g1,g2,g3,g4,y⟩;have Z:Below (w.heap.size+2) M w1:=((Below.refl _ _).drew).trans (y.mono (by simp[N]));have X3:=aa ((uH X2).drew.below y (by simp[N]));have G1:=aa g1;have G2:=aa g2;have G4:=aa g4;have L4:O.length≤35184372088832:=(by omega);have s1:=y.size;clear g1 g2 g4 g3 y)|(go_at_call 269;refine(jB _ f _ _ _ _ (uH G1) (uH G2) L4).mono ?_;rintro e w2 ⟨v,rfl,⟨n2,a2,c2,L2,rfl,i1⟩,H⟩;have I:Below (w.heap.size+2) M w2:=Z.trans (H.mono (by simp at s1;omega));have K:=(uH X3).below H (by simp at s1;omega);have y0:=K.c0;have y1:=K.c1;have f0:=K.free 0;have f1:=K.free 1;have I1:=aa i1;clear i1 H K))
  have hz:=uH U O (uH G4)
  have HI:=aa (hz▸uH I1)
  have HE:=aa (show bI (af f O)=bI z by rw[hz])
  clear hz
  go_wp2
  refine bodyPost_ret (v:=.tuple #[.agg #[.bool n2,.slice a2 L2.length c2],.int .i64 (bI (af f O))]) (by simp[results,Tryz.results290,go_sem,y0,y1]) rfl ⟨.agg #[.bool n2,.slice a2 L2.length c2],?_,?_,?_⟩
  ·rw[uH HE]
  ·exact aw.stored (uH HI) (by simp;omega) (by simp;omega) (by simp;omega) _ _
  ·exact(((uH X).trans (I.mono (by omega))).setCell (by simp;omega) _).setCell (by simp;omega) _
theorem oP(d f:Bool)(ao h:Option Addr)(l m:Nat)(A B:List Nat)(w:World)(t:ag w ao l A)(y:ag w h m B)(z:A.length≤35184372088830)(D:B.length≤35184372088830)(H:bP A)(cB:bP B):
  Calls Tryz.prog 290 #[.agg #[.bool d,.slice ao A.length l],.agg #[.bool f,.slice h B.length m]] w fun e F=>∃v,e=.returned (.tuple #[v,.int .i64 (bI (af d A+af f B))])∧aw w.heap.size F v (dz (af d A+af f B))∧Below w.heap.size w F:=by
 by_cases G:d=f
 ·subst G;exact mU d ao h l m A B w t y z D
 ·exact mW d f ao h l m A B w t y z D H cB G
theorem rP(d:Bool)(ao t:Option Addr)(y D:Nat)(A B:List Nat)(w:World)(X:ag w ao y A)(Y:ag w t D B)(la:A.length≤35184372088830)(lb:B.length≤35184372088830):
  Calls Tryz.prog 86 #[.agg #[.bool d,.slice ao A.length y],.agg #[.bool d,.slice t B.length D]] w fun e f=>∃v,e=.returned v∧aE (max A.length B.length+1) w.heap.size f v (af d A+af d B)∧Below w.heap.size w f:=by
 have F:∀L:List Nat,an L=an A+an B→af d L=af d A+af d B:=by
  intro L h;unfold af;cases d<;>simp[h]<;>omega
 have HS:=aa F
 clear F
 generalize af d A+af d B=z at*
 go_enter Tryz.func86,Tryz.ntmps86
 go_wp2
 refine au (fun W=>Below w.heap.size w W∧W.heap.size=w.heap.size+3∧aA W w.heap.size (.bool d) (.slice ao A.length y)∧aA W (w.heap.size+1) (.bool d) (.slice t B.length D)∧aA W (w.heap.size+2) (.bool false) (.slice none 0 0)) ?_ ?_
 ·refine⟨((((Below.refl _ _).alloc (Nat.le_refl _) _).alloc (by simp) _).alloc (by simp;omega) _),by simp,((aA.new _ _ _).old _).old _,?_,?_⟩
  ·have:=(aA.new (w.alloc (.cells #[.bool d,.slice ao A.length y] 45)) (.bool d) (.slice t B.length D)).old (.cells #[.bool false,.slice none 0 0] 45)
   simpa using this
  ·have:=aA.new ((w.alloc (.cells #[.bool d,.slice ao A.length y] 45)).alloc (.cells #[.bool d,.slice t B.length D] 45)) (.bool false) (.slice none 0 0)
   simpa using this
 rintro K ⟨l,M,U,x1,x2⟩
 have Z:∀f,Below (w.heap.size+2) K f→Below (w.heap.size+2) K f∧f.cell? ⟨w.heap.size,0,none⟩=some (.bool d)∧f.cell? ⟨w.heap.size,1,none⟩=some (.slice ao A.length y)∧f.cell? ⟨w.heap.size+1,1,none⟩=some (.slice t B.length D):=fun f h=>
  ⟨h,(U.below h (by omega)).c0,(U.below h (by omega)).c1,(x1.below h (by omega)).c1⟩
 have N:=aa Z
 have HA:=aa (X.below l)
 have HB:=aa (Y.below l)
 have X2:=aa x2
 have O:=aa l
 clear Z X Y U x1 x2 l
 go_region_held3(fun f=>Below (w.heap.size+2) K f∧f.cell? ⟨w.heap.size,0,none⟩=some (.bool d)∧f.cell? ⟨w.heap.size,1,none⟩=some (.slice ao A.length y)∧f.cell? ⟨w.heap.size+1,1,none⟩=some (.slice t B.length D))
  (first|exact uH N _ (Below.refl _ _).drew|exact uH N _ (by assumption)|exact uH N _ ((H.setCell (by simp) _).setCell (by simp) _))
  (first|(go_at_call 137;refine(rO ao t y D A B _ ((uH HA).below ((Below.refl _ _).drew)) ((uH HB).below ((Below.refl _ _).drew)) la lb).mono ?_;rintro e w1 ⟨aj,ae,V,rfl,g1,g2,g3,g4,m⟩;have Q:Below (w.heap.size+2) K w1:=((Below.refl _ _).drew).trans (m.mono (by simp[M]));have X3:=aa ((uH X2).drew.below m (by simp[M]));have G1:=aa g1;have G2:=aa g2;have G4:=aa g4;have L4:V.length≤35184372088832:=(by omega);have L5:V.length≤max A.length B.length+1:=(by omega);have s1:=m.size;clear g1 g2 g4 g3 m)|(go_at_call 134;refine(c8 _ d _ _ _ _ (uH G1) (uH G2) L4).mono ?_;rintro e w2 ⟨v,rfl,⟨n2,a2,c2,L2,rfl,i1⟩,G⟩;have H:Below (w.heap.size+2) K w2:=Q.trans (G.mono (by simp at s1;omega));have I:=(uH X3).below G (by simp at s1;omega);have y0:=I.c0;have y1:=I.c1;have f0:=I.free 0;have f1:=I.free 1;have I1:=aa i1;clear i1 G I))
 have hz:=uH HS V (uH G4)
 have HI:=aa (hz▸uH I1)
 clear hz
 go_wp2
 refine bodyPost_ret (v:=.agg #[.bool n2,.slice a2 L2.length c2]) (by simp[results,Tryz.results86,go_sem,y0,y1]) rfl ⟨.agg #[.bool n2,.slice a2 L2.length c2],rfl,?_,?_⟩
 ·exact(aE.stored (uH HI) (by simp;omega) (by simp;omega) (by simp;omega) _ _).more (by have:=L5;omega)
 ·exact(((uH O).trans (H.mono (by omega))).setCell (by simp;omega) _).setCell (by simp;omega) _
theorem rQ(m t:Bool)(ao y:Option Addr)(D F:Nat)(A B:List Nat)(w:World)(hA:ag w ao D A)(hB:ag w y F B)(la:A.length≤35184372088830)(lb:B.length≤35184372088830)(hn:m≠t):
  Calls Tryz.prog 86 #[.agg #[.bool m,.slice ao A.length D],.agg #[.bool t,.slice y B.length F]] w fun e d=>∃v,e=.returned v∧aE (max A.length B.length+1) w.heap.size d v (af m A+af t B)∧Below w.heap.size w d:=by
 have N:(∀L:List Nat,an L=an B-an A→an A<an B→af t L=af m A+af t B)∧(∀L:List Nat,an L=an A-an B→an B≤an A→af m L=af m A+af t B):=by
  constructor<;>intro L h h'<;>unfold af<;>cases m<;>cases t<;>simp at hn<;>simp[h]<;>omega
 have HS:=aa N
 clear N
 generalize af m A+af t B=z at*
 have ak:(m==t)=false:=by simpa using hn
 clear hn
 go_enter Tryz.func86,Tryz.ntmps86
 go_wp2_with fail
 refine(Ak ao y D F A B _ (hA.below ?_) (hB.below ?_) (by omega) (by omega)).mono ?_
 ·exact(((Below.refl _ _).alloc (Nat.le_refl _) _).alloc (by simp) _).alloc (by simp;omega) _
 ·exact(((Below.refl _ _).alloc (Nat.le_refl _) _).alloc (by simp) _).alloc (by simp;omega) _
 rintro e d ⟨rfl,rfl⟩
 by_cases hv:an A<an B
 ·rw[dq (by omega)]
  have O:=aa (fun L h=>(uH HS).1 L h hv)
  clear HS
  go_wp2
  refine au (fun W=>Below w.heap.size w W∧W.heap.size=w.heap.size+3∧aA W w.heap.size (.bool m) (.slice ao A.length D)∧aA W (w.heap.size+1) (.bool t) (.slice y B.length F)∧aA W (w.heap.size+2) (.bool false) (.slice none 0 0)) ?_ ?_
  ·refine⟨((((Below.refl _ _).alloc (Nat.le_refl _) _).alloc (by simp) _).alloc (by simp;omega) _),by simp,(((aA.new _ _ _).old _).old _),?_,?_⟩
   ·have:=((aA.new (w.alloc (.cells #[.bool m,.slice ao A.length D] 45)) (.bool t) (.slice y B.length F)).old (.cells #[.bool false,.slice none 0 0] 45))
    simpa using this
   ·have:=(aA.new ((w.alloc (.cells #[.bool m,.slice ao A.length D] 45)).alloc (.cells #[.bool t,.slice y B.length F] 45)) (.bool false) (.slice none 0 0))
    simpa using this
  rintro K ⟨f,M,Z,x1,x2⟩
  have hK:∀d,Below (w.heap.size+2) K d→Below (w.heap.size+2) K d∧d.cell? ⟨w.heap.size+1,0,none⟩=some (.bool t)∧d.cell? ⟨w.heap.size,1,none⟩=some (.slice ao A.length D)∧d.cell? ⟨w.heap.size+1,1,none⟩=some (.slice y B.length F):=fun d h=>
   ⟨h,(x1.below h (by omega)).c0,(Z.below h (by omega)).c1,(x1.below h (by omega)).c1⟩
  have Q:=aa hK
  have HA:=aa (hA.below f)
  have HB:=aa (hB.below f)
  have X2:=aa x2
  have U:=aa f
  have V:an A≤an B:=by omega
  clear hK hA hB Z x1 x2 f
  go_region_held3(fun d=>Below (w.heap.size+2) K d∧d.cell? ⟨w.heap.size+1,0,none⟩=some (.bool t)∧d.cell? ⟨w.heap.size,1,none⟩=some (.slice ao A.length D)∧d.cell? ⟨w.heap.size+1,1,none⟩=some (.slice y B.length F))
   (first|exact uH Q _ (Below.refl _ _).drew|exact uH Q _ (by assumption)|exact uH Q _ ((H.setCell (by simp) _).setCell (by simp) _))
   (first|(go_at_call 140;refine(pu y ao F D B A _ ((uH HB).below ((Below.refl _ _).drew)) ((uH HA).below ((Below.refl _ _).drew)) lb la V).mono ?_;rintro e w1 ⟨aj,ae,Y,rfl,g1,g2,g3,g4,l⟩;have X:Below (w.heap.size+2) K w1:=((Below.refl _ _).drew).trans (l.mono (by simp[M]));have X3:=aa ((uH X2).drew.below l (by simp[M]));have G1:=aa g1;have G2:=aa g2;have G4:=aa g4;have L4:Y.length≤35184372088832:=(by omega);have L5:Y.length≤max A.length B.length+1:=(by omega);have s1:=l.size;clear g1 g2 g4 g3 l)|(go_at_call 134;refine(c8 _ t _ _ _ _ (uH G1) (uH G2) L4).mono ?_;rintro e w2 ⟨v,rfl,⟨n2,a2,c2,L2,rfl,i1⟩,G⟩;have H:Below (w.heap.size+2) K w2:=X.trans (G.mono (by simp at s1;omega));have I:=(uH X3).below G (by simp at s1;omega);have y0:=I.c0;have y1:=I.c1;have f0:=I.free 0;have f1:=I.free 1;have I1:=aa i1;clear i1 G I))
  have hz:=uH O Y (uH G4)
  have HI:=aa (hz▸uH I1)
  clear hz
  go_wp2
  refine bodyPost_ret (v:=.agg #[.bool n2,.slice a2 L2.length c2]) (by simp[results,Tryz.results86,go_sem,y0,y1]) rfl ⟨.agg #[.bool n2,.slice a2 L2.length c2],rfl,?_,?_⟩
  ·exact(aE.stored (uH HI) (by simp;omega) (by simp;omega) (by simp;omega) _ _).more (by have:=L5;omega)
  ·exact(((uH U).trans (H.mono (by omega))).setCell (by simp;omega) _).setCell (by simp;omega) _
 ·have am:¬bJ (an A) (an B)<0:=by unfold bJ;rw[if_neg (by omega)];split<;>omega
  generalize bJ (an A) (an B)=cm at*
  have O:=aa (fun L h=>(uH HS).2 L h (by omega))
  clear HS
  go_wp2
  refine au (fun W=>Below w.heap.size w W∧W.heap.size=w.heap.size+3∧aA W w.heap.size (.bool m) (.slice ao A.length D)∧aA W (w.heap.size+1) (.bool t) (.slice y B.length F)∧aA W (w.heap.size+2) (.bool false) (.slice none 0 0)) ?_ ?_
  ·refine⟨((((Below.refl _ _).alloc (Nat.le_refl _) _).alloc (by simp) _).alloc (by simp;omega) _),by simp,(((aA.new _ _ _).old _).old _),?_,?_⟩
   ·have:=((aA.new (w.alloc (.cells #[.bool m,.slice ao A.length D] 45)) (.bool t) (.slice y B.length F)).old (.cells #[.bool false,.slice none 0 0] 45))
    simpa using this
   ·have:=(aA.new ((w.alloc (.cells #[.bool m,.slice ao A.length D] 45)).alloc (.cells #[.bool t,.slice y B.length F] 45)) (.bool false) (.slice none 0 0))
    simpa using this
  rintro K ⟨f,M,Z,x1,x2⟩
  have hK:∀d,Below (w.heap.size+2) K d→Below (w.heap.size+2) K d∧d.cell? ⟨w.heap.size,0,none⟩=some (.bool m)∧d.cell? ⟨w.heap.size,1,none⟩=some (.slice ao A.length D)∧d.cell? ⟨w.heap.size+1,1,none⟩=some (.slice y B.length F):=fun d h=>
   ⟨h,(Z.below h (by omega)).c0,(Z.below h (by omega)).c1,(x1.below h (by omega)).c1⟩
  have Q:=aa hK
  have HA:=aa (hA.below f)
  have HB:=aa (hB.below f)
  have X2:=aa x2
  have U:=aa f
  have V:an B≤an A:=by omega
  clear hK hA hB Z x1 x2 f
  go_region_held3(fun d=>Below (w.heap.size+2) K d∧d.cell? ⟨w.heap.size,0,none⟩=some (.bool m)∧d.cell? ⟨w.heap.size,1,none⟩=some (.slice ao A.length D)∧d.cell? ⟨w.heap.size+1,1,none⟩=some (.slice y B.length F))
   (first|exact uH Q _ (Below.refl _ _).drew|exact uH Q _ (by assumption)|exact uH Q _ ((H.setCell (by simp) _).setCell (by simp) _))
   (first|(go_at_call 140;refine(pu ao y D F A B _ ((uH HA).below ((Below.refl _ _).drew)) ((uH HB).below ((Below.refl _ _).drew)) la lb V).mono ?_;rintro e w1 ⟨aj,ae,Y,rfl,g1,g2,g3,g4,l⟩;have X:Below (w.heap.size+2) K w1:=((Below.refl _ _).drew).trans (l.mono (by simp[M]));have X3:=aa ((uH X2).drew.below l (by simp[M]));have G1:=aa g1;have G2:=aa g2;have G4:=aa g4;have L4:Y.length≤35184372088832:=(by omega);have L5:Y.length≤max A.length B.length+1:=(by omega);have s1:=l.size;clear g1 g2 g4 g3 l)|(go_at_call 134;refine(c8 _ m _ _ _ _ (uH G1) (uH G2) L4).mono ?_;rintro e w2 ⟨v,rfl,⟨n2,a2,c2,L2,rfl,i1⟩,G⟩;have H:Below (w.heap.size+2) K w2:=X.trans (G.mono (by simp at s1;omega));have I:=(uH X3).below G (by simp at s1;omega);have y0:=I.c0;have y1:=I.c1;have f0:=I.free 0;have f1:=I.free 1;have I1:=aa i1;clear i1 G I))
  have hz:=uH O Y (uH G4)
  have HI:=aa (hz▸uH I1)
  clear hz
  go_wp2
  refine bodyPost_ret (v:=.agg #[.bool n2,.slice a2 L2.length c2]) (by simp[results,Tryz.results86,go_sem,y0,y1]) rfl ⟨.agg #[.bool n2,.slice a2 L2.length c2],rfl,?_,?_⟩
  ·exact(aE.stored (uH HI) (by simp;omega) (by simp;omega) (by simp;omega) _ _).more (by have:=L5;omega)
  ·exact(((uH U).trans (H.mono (by omega))).setCell (by simp;omega) _).setCell (by simp;omega) _
theorem uD(d f:Bool)(ao h:Option Addr)(l m:Nat)(A B:List Nat)(w:World)(t:ag w ao l A)(y:ag w h m B)(z:A.length≤35184372088830)(D:B.length≤35184372088830):
  Calls Tryz.prog 86 #[.agg #[.bool d,.slice ao A.length l],.agg #[.bool f,.slice h B.length m]] w fun e F=>∃v,e=.returned v∧aE (max A.length B.length+1) w.heap.size F v (af d A+af f B)∧Below w.heap.size w F:=by
 by_cases G:d=f
 ·subst G;exact rP d ao h l m A B w t y z D
 ·exact rQ d f ao h l m A B w t y z D G
end Go.Proofs.YtlnphkioddknfaaGreatDoor
