/- Part 6 of the texts. -/
import Derived.Test.YtnnfjeieennffaaGreatDoorPartc05
set_option maxHeartbeats 1000000
namespace Go.Proofs.YtnnfjeieennffaaGreatDoor
open Go.RowKit
theorem xw(x y c:Nat)(d:x<4294967296)(f:y<4294967296)(l:c≤1)(h:x<y):
  IntKind.u64.wrap (IntKind.u64.wrap ((x:Int)-(y:Int))-(c:Int))=18446744073709551616+(x:Int)-(y:Int)-(c:Int):=by
 simp only[IntKind.wrap,IntKind.signed,IntKind.bits]
 simp
 omega
theorem ki(ao bo:Option Addr)(ca cb:Nat)(A B:List Nat)(w:World)(hA:ag w ao ca A)(hB:ag w bo cb B)(la:A.length≤35184372088830)(lb:B.length≤35184372088830)(M:ak B≤ak A):
  Calls Tryz.prog 230 #[.slice ao A.length ca,.slice bo B.length cb] w fun e w'=>∃V N L',e=.returned (.slice V L'.length N)∧ag w' V N L'∧bG w.heap.size V L'∧L'.length=A.length∧ak L'=ak A-ak B∧Below w.heap.size w w':=by
 obtain⟨i0,hi,a6,a7,a9⟩:=info_parts Tryz.info124
 have hE:∀(S:List Nat) (k c:Nat),bd S→S.length=A.length→¬k<A.length→k≤A.length→ak (S.take k)+ak (B.take k)=ak (A.take k)+4294967296^k*c→ak S=ak A-ak B:=by
  intro S k c f hl h1 h2 h
  rw[show k=A.length by omega]at h
  exact ws A B S A.length c f hl rfl M (wt A B hA.2.1 M) h
 have HE:=aa hE
 have D:=fun(S:List Nat) (k c t G:Nat) (hk:k<S.length)=>zE A B S k c (A[k]?.getD 0) (B[k]?.getD 0) t G hk rfl rfl
 have ae:=aa D
 clear hE D M
 have aj:0<A.length→∃b X,ao=some ⟨b,X,none⟩:=fun h=>by obtain⟨b,X,h1,_⟩:=hA.ne h;exact⟨b,X,h1⟩
 have bj:=aa aj
 clear aj
 go_enter Tryz.func230,Tryz.ntmps230
 go_wp2_with(at_make;refine wpList_make_full _ rfl _ _ 48 rfl w.heap.size 124 i0 (.int .u32 0) 1 Tryz.underlying48 hi a6 a7 .i64 .i64 _ _ A.length rfl rfl rfl rfl (by rw[a9];omega) (by unfold maxLen;omega) (Nat.le_refl _) ?_;intro w1 U F)
 have O:=bP.made U
 have a2:Below w.heap.size w w1:=(Below.refl _ _).grown F (Nat.le_refl _) (fun k h=>by simp at h)
 have bm:w.heap.size<w1.heap.size:=O.lt
 clear U F
 go_wp2
 go_loopw[6,14] (fun c i wr=>∃(k:Nat) (S:List Nat) (y:Nat),k≤A.length∧i=.int .i64 k∧c=.int .u64 y∧y≤1∧bP wr w.heap.size S∧S.length=A.length∧bd S∧Below w.heap.size w wr∧Hid (ak (S.take k)+ak (B.take k)=ak (A.take k)+4294967296^k*y))
  (fun _ i _=>A.length-(intOf i).toNat)
 case atStart=>exact⟨0,List.replicate A.length 0,0,Nat.zero_le _,rfl,rfl,by omega,O,by simp,bd.zeros _,a2,by unfold Hid;simp[ak]⟩
 case round=>
  obtain⟨k,S,y,hk,rfl,rfl,hy,hr,H,hf,l,M⟩:=hrel
  by_cases am:k<A.length
  ·obtain⟨z,K⟩:∃x,A[k]?.getD 0=x:=⟨_,rfl⟩
   obtain⟨m,L⟩:∃x,B[k]?.getD 0=x:=⟨_,rfl⟩
   have ba:z<4294967296:=by rw[←K];exact hA.lt k
   have bb:m<4294967296:=by rw[←L];exact hB.lt k
   have cA:=hA.below l
   have cB:=hB.below l
   have D:=fun(t G:Nat) (ht:t+m+y=z+4294967296*G)=>uH ae S k y t G (by omega) (by rw[K,L];exact ht) M.out
   have ax:=aa D
   have Y:=aa L
   have a3:=hr.cell k (by omega)
   have a4:=hr.free k
   have HR:=aa hr
   obtain⟨b1,o1,bc,bi,a1⟩:=cA.ne (by omega)
   have a5:=a1 k am
   rw[K]at a5
   clear D K L M hr a1 ae HE
   generalize hS:S[k]?.getD 0=sk at*
   clear hS
   subst bc
   have be:(k:Int)<(A.length:Int):=by omega
   have aI:∀(nq t G:Nat) (d:Int),d=(t:Int)→t<4294967296→G≤1→t+m+y=z+4294967296*G→
     bP ((wr.drewN nq).setCell ⟨w.heap.size,k,none⟩ (.int .u32 d)) w.heap.size (S.set k t)∧(S.set k t).length=A.length∧bd (S.set k t)∧Below w.heap.size w ((wr.drewN nq).setCell ⟨w.heap.size,k,none⟩ (.int .u32 d))∧
     Hid (ak ((S.set k t).take (k+1))+ak (B.take (k+1))=ak (A.take (k+1))+4294967296^(k+1)*G):=by
    rintro nq t G d rfl ht hc he
    exact⟨((uH HR).drewN nq).set k t,by simpa using H,hf.set _ _ ht,(below_drewN l nq).setCell (by simp) _,uH ax t G he⟩
   have Z:=aa aI
   clear aI ax HR
   rcases(show m+y≤z∨z<m∨(z=m∧y=1) by omega)with h1|h1|⟨h1,h2⟩
   ·go_wp2
    go_quiet ((go_at_call 217;exact iS (gU bo cb B _ k m _ (cB.below (below_drewN (Below.refl _ _) _)) lb rfl Y)))
    go_wp2
    have R:=uH Z nq (z-m-y) 0 ((z:Int)-m-y) (by omega) (by omega) (by omega) (by omega)
    go_roundw
    case rel=>exact⟨k+1,_,0,by omega,by go_num,cQ (by omega),by omega,R⟩
    case measure=>simp[intOf];omega
   ·go_wp2
    go_quiet ((go_at_call 217;exact iS (gU bo cb B _ k m _ (cB.below (below_drewN (Below.refl _ _) _)) lb rfl Y)))
    go_wp2
    have e:=xw z m y ba bb hy h1
    have R:=uH Z nq (4294967296+z-m-y) 1 (IntKind.u64.wrap (IntKind.u64.wrap ((z:Int)-m)-y)%4294967296) (by rw[e];omega) (by omega) (by omega) (by omega)
    go_roundw
    case rel=>exact⟨k+1,_,1,by omega,by go_num,cQ (by rw[e];omega),by omega,R⟩
    case measure=>simp[intOf];omega
   ·subst h1;subst h2
    go_wp2
    go_quiet ((go_at_call 217;exact iS (gU bo cb B _ k z _ (cB.below (below_drewN (Below.refl _ _) _)) lb rfl Y)))
    go_wp2
    have e:IntKind.u64.wrap (-1)=18446744073709551615:=by decide
    have R:=uH Z nq 4294967295 1 (IntKind.u64.wrap (-1)%4294967296) (by rw[e];rfl) (by omega) (by omega) (by omega)
    go_roundw
    case rel=>exact⟨k+1,_,1,by omega,by go_num,cQ (by rw[e];rfl),by omega,R⟩
    case measure=>simp[intOf];omega
  ·have Q:=uH HE S k y hf H am hk M.out
   have a0:=aa Q
   have HR:=aa hr
   clear Q hr M
   go_wp2
   go_ret
   exact⟨some ⟨w.heap.size,0,none⟩,A.length,S,by rw[H];rfl,(uH HR).limbs hf _ (by omega),.inr ⟨_,_,rfl,Nat.le_refl _⟩,H,uH a0,l⟩
theorem jg(B:Nat)(neg:Bool)(F:Option Addr)(t:Nat)(L:List Nat)(w:World)(h:ag w F t L)(O:bG B F L)(Z:L.length≤35184372088832):
  Calls Tryz.prog 208 #[.bool neg,.slice F L.length t] w fun e w'=>∃v,e=.returned (.tuple #[v,.int .i64 (bu (af neg L))])∧au B w' v (dG (af neg L))∧Below w.heap.size w w':=by
 have G:∀d:List Nat,bN d→bd d→ak d=ak L→(d= []→bu (af neg L)=0∧dG (af neg L)=0)∧(512<d.length→bu (af neg L)=2∧dG (af neg L)=0)∧(d.length≤512→bu (af neg L)=0∧dG (af neg L)=af neg d):=by
  intro d c f K
  have Q:=dW d f c
  refine⟨?_,?_,?_⟩
  ·rintro rfl
   have:ak L=0:=by rw[←K];rfl
   have G:0<dE:=Nat.pow_pos (by decide)
   have e:af neg L=0:=by unfold af;cases neg<;>simp[this]
   simp[bu,dG,e,G]
  ·intro z
   have:¬ak d<dE:=fun h=>by have:=Q.1 h;omega
   simp[bu,dG,aP,←K,this]
  ·intro z
   have:=Q.2 z
   rw[mX (neg:=neg) K]
   simp[bu,dG,aP,←K,this]
 generalize bu (af neg L)=er at*
 generalize dG (af neg L)=nu at*
 have U:=aa G
 clear G
 have V:=aa O
 clear O
 go_enter Tryz.func208,Tryz.ntmps208
 go_wp2_with fail
 refine(mZ F t L _ (h.below ?_) Z).mono ?_
 ·exact(Below.refl _ _).alloc (Nat.le_refl _) _
 rintro e w' ⟨v,rfl,⟨D,m,d,rfl,N,X,h4,z,Y⟩,rfl⟩
 have M:=z w h
 have H:=aa (uH U d N M.2.1 X)
 have HA:=aa (Y B (uH V))
 have H1:=aa M
 have H2:=aa N
 clear U X z Y M N h V
 by_cases A:d= []
 ·have l:=aa ((uH H).1 A)
  have hz:d.length=0:=by rw[A];rfl
  clear A
  go_wp2
  refine bodyPost_ret (v:=.tuple #[.agg #[.bool false,.slice none 0 0],.int .i64 0]) (by simp[results,Tryz.results208,go_sem]) rfl ⟨.agg #[.bool false,.slice none 0 0],?_,?_,(Below.refl _ _).alloc (Nat.le_refl _) _⟩
  ·rw[(uH l).1]
  ·rw[(uH l).2];exact au.zero _ _ _ _
 ·have hp:0<d.length:=List.length_pos_iff.2 A
  have ae:((d.length:Int)==0)=false:=by simp;exact A
  by_cases z:d.length≤512
  ·have l:=aa ((uH H).2.2 z)
   go_wp2
   refine bodyPost_ret (v:=.tuple #[.agg #[.bool neg,.slice D d.length m],.int .i64 0]) (by simp[results,Tryz.results208,go_sem]) rfl ⟨.agg #[.bool neg,.slice D d.length m],?_,?_,?_⟩
   ·rw[(uH l).1]
   ·rw[(uH l).2]
    exact au.mk ((uH H1).below ((Below.refl _ _).alloc (Nat.le_refl _) _)) (uH HA) (uH H2) A (by omega)
   ·exact(Below.refl _ _).alloc (Nat.le_refl _) _
  ·have l:=aa ((uH H).2.1 (by omega))
   go_wp2
   refine bodyPost_ret (v:=.tuple #[.agg #[.bool false,.slice none 0 0],.int .i64 2]) (by simp[results,Tryz.results208,go_sem]) rfl ⟨.agg #[.bool false,.slice none 0 0],?_,?_,(Below.refl _ _).alloc (Nat.le_refl _) _⟩
   ·rw[(uH l).1]
   ·rw[(uH l).2];exact au.zero _ _ _ _
attribute [local go_sem ↓] Go.wp_at_zero Go.wp_at_succ
theorem nf(d:Bool)(m t:Option Addr)(D F:Nat)(A B:List Nat)(w:World)(hA:ag w m D A)(hB:ag w t F B)(la:A.length≤35184372088830)(lb:B.length≤35184372088830):
  Calls Tryz.prog 227 #[.agg #[.bool d,.slice m A.length D],.agg #[.bool d,.slice t B.length F]] w fun e w'=>∃v,e=.returned (.tuple #[v,.int .i64 (bu (af d A+af d B))])∧au w.heap.size w' v (dG (af d A+af d B))∧Below w.heap.size w w':=by
 have G:∀L:List Nat,ak L=ak A+ak B→af d L=af d A+af d B:=by
  intro L h;unfold af;cases d<;>simp[h]<;>omega
 have HS:=aa G
 clear G
 generalize af d A+af d B=z at*
 go_enter Tryz.func227,Tryz.ntmps227
 go_wp2
 refine aq (fun W=>Below w.heap.size w W∧W.heap.size=w.heap.size+3∧aC W w.heap.size (.bool d) (.slice m A.length D)∧aC W (w.heap.size+1) (.bool d) (.slice t B.length F)∧aC W (w.heap.size+2) (.bool false) (.slice none 0 0)) ?_ ?_
 ·refine⟨((((Below.refl _ _).alloc (Nat.le_refl _) _).alloc (by simp) _).alloc (by simp;omega) _),by simp,((aC.new _ _ _).old _).old _,?_,?_⟩
  ·have:=(aC.new (w.alloc (.cells #[.bool d,.slice m A.length D] 50)) (.bool d) (.slice t B.length F)).old (.cells #[.bool false,.slice none 0 0] 50)
   simpa using this
  ·have:=aC.new ((w.alloc (.cells #[.bool d,.slice m A.length D] 50)).alloc (.cells #[.bool d,.slice t B.length F] 50)) (.bool false) (.slice none 0 0)
   simpa using this
 rintro N ⟨f,O,Z,x1,x2⟩
 have hK:∀w',Below (w.heap.size+2) N w'→Below (w.heap.size+2) N w'∧w'.cell? ⟨w.heap.size,0,none⟩=some (.bool d)∧w'.cell? ⟨w.heap.size,1,none⟩=some (.slice m A.length D)∧w'.cell? ⟨w.heap.size+1,1,none⟩=some (.slice t B.length F):=fun w' h=>
  ⟨h,(Z.below h (by omega)).c0,(Z.below h (by omega)).c1,(x1.below h (by omega)).c1⟩
 have U:=aa hK
 have HA:=aa (hA.below f)
 have HB:=aa (hB.below f)
 have X2:=aa x2
 have V:=aa f
 clear hK hA hB Z x1 x2 f
 go_region_held3(fun w'=>Below (w.heap.size+2) N w'∧w'.cell? ⟨w.heap.size,0,none⟩=some (.bool d)∧w'.cell? ⟨w.heap.size,1,none⟩=some (.slice m A.length D)∧w'.cell? ⟨w.heap.size+1,1,none⟩=some (.slice t B.length F))
  (first|exact uH U _ (Below.refl _ _).drew|exact uH U _ (by assumption)|exact uH U _ ((K.setCell (by simp) _).setCell (by simp) _))
  (first|(go_at_call 228;refine(qw m t D F A B _ ((uH HA).below ((Below.refl _ _).drew)) ((uH HB).below ((Below.refl _ _).drew)) la lb).mono ?_;rintro e w1 ⟨aj,ae,Q,rfl,g1,g2,g3,g4,l⟩;have X:Below (w.heap.size+2) N w1:=((Below.refl _ _).drew).trans (l.mono (by simp[O]));have X3:=aa ((uH X2).drew.below l (by simp[O]));have G1:=aa g1;have G2:=aa g2;have G4:=aa g4;have L4:Q.length≤35184372088832:=(by omega);have s1:=l.size;clear g1 g2 g4 g3 l)|(go_at_call 208;refine(jg _ d _ _ _ _ (uH G1) (uH G2) L4).mono ?_;rintro e w2 ⟨v,rfl,⟨n2,a2,c2,L2,rfl,i1⟩,H⟩;have K:Below (w.heap.size+2) N w2:=X.trans (H.mono (by simp at s1;omega));have M:=(uH X3).below H (by simp at s1;omega);have y0:=M.c0;have y1:=M.c1;have f0:=M.free 0;have f1:=M.free 1;have I1:=aa i1;clear i1 H M))
 have Y:=uH HS Q (uH G4)
 have HI:=aa (Y▸uH I1)
 have HE:=aa (show bu (af d Q)=bu z by rw[Y])
 clear Y
 go_wp2
 refine bodyPost_ret (v:=.tuple #[.agg #[.bool n2,.slice a2 L2.length c2],.int .i64 (bu (af d Q))]) (by simp[results,Tryz.results227,go_sem,y0,y1]) rfl ⟨.agg #[.bool n2,.slice a2 L2.length c2],?_,?_,?_⟩
 ·rw[uH HE]
 ·exact au.stored (uH HI) (by simp;omega) (by simp;omega) (by simp;omega) _ _
 ·exact(((uH V).trans (K.mono (by omega))).setCell (by simp;omega) _).setCell (by simp;omega) _
theorem uy(A B:List Nat)(fA:bd A)(f:bd B)(l:bN A)(cB:bN B):nd A B=bs (ak A) (ak B):=by
 unfold nd
 split
 ·rfl
 ·rename_i m
  rcases Nat.lt_or_gt_of_ne m with h|h
  ·have:ak A<ak B:=by
    have:=dw B A fA cB
    by_cases d:ak B≤ak A
    ·have:=this d;omega
    ·omega
   rw[dz (by omega),dz (by omega)]
  ·have:ak B<ak A:=by
    have:=dw A B f l
    by_cases d:ak A≤ak B
    ·have:=this d;omega
    ·omega
   rw[ew (by omega),ew (by omega)]
theorem nh(d f:Bool)(D F:Option Addr)(G H:Nat)(A B:List Nat)(w:World)(hA:ag w D G A)(hB:ag w F H B)(la:A.length≤35184372088830)(lb:B.length≤35184372088830)(cA:bN A)(cB:bN B)(hn:d≠f):
  Calls Tryz.prog 227 #[.agg #[.bool d,.slice D A.length G],.agg #[.bool f,.slice F B.length H]] w fun e w'=>∃v,e=.returned (.tuple #[v,.int .i64 (bu (af d A+af f B))])∧au w.heap.size w' v (dG (af d A+af f B))∧Below w.heap.size w w':=by
 have V:(∀L:List Nat,ak L=ak B-ak A→ak A<ak B→af f L=af d A+af f B)∧(∀L:List Nat,ak L=ak A-ak B→ak B≤ak A→af d L=af d A+af f B):=by
  constructor<;>intro L h h'<;>unfold af<;>cases d<;>cases f<;>simp at hn<;>simp[h]<;>omega
 have am:=uy A B hA.2.1 hB.2.1 cA cB
 have HS:=aa V
 clear V
 generalize af d A+af f B=z at*
 have a0:(d==f)=false:=by simpa using hn
 have HC:=aa am
 clear am hn
 go_enter Tryz.func227,Tryz.ntmps227
 go_wp2_with fail
 refine(k5 D F G H A B _ (hA.below ?_) (hB.below ?_) (by omega) (by omega)).mono ?_
 ·exact(((Below.refl _ _).alloc (Nat.le_refl _) _).alloc (by simp) _).alloc (by simp;omega) _
 ·exact(((Below.refl _ _).alloc (Nat.le_refl _) _).alloc (by simp) _).alloc (by simp;omega) _
 rintro e w' ⟨rfl,m,rfl⟩
 rw[uH HC]
 by_cases hv:ak A<ak B
 ·rw[dz (by omega)]
  clear HC
  have X:=aa (fun L h=>(uH HS).1 L h hv)
  clear HS
  go_wp2
  refine aq (fun W=>Below w.heap.size w W∧W.heap.size=w.heap.size+3∧aC W w.heap.size (.bool d) (.slice D A.length G)∧aC W (w.heap.size+1) (.bool f) (.slice F B.length H)∧aC W (w.heap.size+2) (.bool false) (.slice none 0 0)) ?_ ?_
  ·refine⟨below_drewN ((((Below.refl _ _).alloc (Nat.le_refl _) _).alloc (by simp) _).alloc (by simp;omega) _) _,by simp,(((aC.new _ _ _).old _).old _).drewN _,?_,?_⟩
   ·have:=((aC.new (w.alloc (.cells #[.bool d,.slice D A.length G] 50)) (.bool f) (.slice F B.length H)).old (.cells #[.bool false,.slice none 0 0] 50)).drewN m
    simpa using this
   ·have:=(aC.new ((w.alloc (.cells #[.bool d,.slice D A.length G] 50)).alloc (.cells #[.bool f,.slice F B.length H] 50)) (.bool false) (.slice none 0 0)).drewN m
    simpa using this
  rintro O ⟨l,Q,x0,x1,x2⟩
  have hK:∀w',Below (w.heap.size+2) O w'→Below (w.heap.size+2) O w'∧w'.cell? ⟨w.heap.size+1,0,none⟩=some (.bool f)∧w'.cell? ⟨w.heap.size,1,none⟩=some (.slice D A.length G)∧w'.cell? ⟨w.heap.size+1,1,none⟩=some (.slice F B.length H):=fun w' h=>
   ⟨h,(x1.below h (by omega)).c0,(x0.below h (by omega)).c1,(x1.below h (by omega)).c1⟩
  have Y:=aa hK
  have HA:=aa (hA.below l)
  have HB:=aa (hB.below l)
  have X2:=aa x2
  have Z:=aa l
  have ae:ak A≤ak B:=by omega
  clear hK hA hB x0 x1 x2 l
  go_region_held3(fun w'=>Below (w.heap.size+2) O w'∧w'.cell? ⟨w.heap.size+1,0,none⟩=some (.bool f)∧w'.cell? ⟨w.heap.size,1,none⟩=some (.slice D A.length G)∧w'.cell? ⟨w.heap.size+1,1,none⟩=some (.slice F B.length H))
   (first|exact uH Y _ (Below.refl _ _).drew|exact uH Y _ (by assumption)|exact uH Y _ ((M.setCell (by simp) _).setCell (by simp) _))
   (first|(go_at_call 230;refine(ki F D H G B A _ ((uH HB).below ((Below.refl _ _).drew)) ((uH HA).below ((Below.refl _ _).drew)) lb la ae).mono ?_;rintro e w1 ⟨aI,ax,U,rfl,g1,g2,g3,g4,t⟩;have aj:Below (w.heap.size+2) O w1:=((Below.refl _ _).drew).trans (t.mono (by simp[Q]));have X3:=aa ((uH X2).drew.below t (by simp[Q]));have G1:=aa g1;have G2:=aa g2;have G4:=aa g4;have L4:U.length≤35184372088832:=(by omega);have s1:=t.size;clear g1 g2 g4 g3 t)|(go_at_call 208;refine(jg _ f _ _ _ _ (uH G1) (uH G2) L4).mono ?_;rintro e w2 ⟨v,rfl,⟨n2,a2,c2,L2,rfl,i1⟩,K⟩;have M:Below (w.heap.size+2) O w2:=aj.trans (K.mono (by simp at s1;omega));have N:=(uH X3).below K (by simp at s1;omega);have y0:=N.c0;have y1:=N.c1;have f0:=N.free 0;have f1:=N.free 1;have I1:=aa i1;clear i1 K N))
  have hz:=uH X U (uH G4)
  have HI:=aa (hz▸uH I1)
  have HE:=aa (show bu (af f U)=bu z by rw[hz])
  clear hz
  go_wp2
  refine bodyPost_ret (v:=.tuple #[.agg #[.bool n2,.slice a2 L2.length c2],.int .i64 (bu (af f U))]) (by simp[results,Tryz.results227,go_sem,y0,y1]) rfl ⟨.agg #[.bool n2,.slice a2 L2.length c2],?_,?_,?_⟩
  ·rw[uH HE]
  ·exact au.stored (uH HI) (by simp;omega) (by simp;omega) (by simp;omega) _ _
  ·exact(((uH Z).trans (M.mono (by omega))).setCell (by simp;omega) _).setCell (by simp;omega) _
 ·have a1:¬bs (ak A) (ak B)<0:=by unfold bs;rw[if_neg (by omega)];split<;>omega
  generalize bs (ak A) (ak B)=cm at*
  clear HC
  have X:=aa (fun L h=>(uH HS).2 L h (by omega))
  clear HS
  go_wp2
  refine aq (fun W=>Below w.heap.size w W∧W.heap.size=w.heap.size+3∧aC W w.heap.size (.bool d) (.slice D A.length G)∧aC W (w.heap.size+1) (.bool f) (.slice F B.length H)∧aC W (w.heap.size+2) (.bool false) (.slice none 0 0)) ?_ ?_
  ·refine⟨below_drewN ((((Below.refl _ _).alloc (Nat.le_refl _) _).alloc (by simp) _).alloc (by simp;omega) _) _,by simp,(((aC.new _ _ _).old _).old _).drewN _,?_,?_⟩
   ·have:=((aC.new (w.alloc (.cells #[.bool d,.slice D A.length G] 50)) (.bool f) (.slice F B.length H)).old (.cells #[.bool false,.slice none 0 0] 50)).drewN m
    simpa using this
   ·have:=(aC.new ((w.alloc (.cells #[.bool d,.slice D A.length G] 50)).alloc (.cells #[.bool f,.slice F B.length H] 50)) (.bool false) (.slice none 0 0)).drewN m
    simpa using this
  rintro O ⟨l,Q,x0,x1,x2⟩
  have hK:∀w',Below (w.heap.size+2) O w'→Below (w.heap.size+2) O w'∧w'.cell? ⟨w.heap.size,0,none⟩=some (.bool d)∧w'.cell? ⟨w.heap.size,1,none⟩=some (.slice D A.length G)∧w'.cell? ⟨w.heap.size+1,1,none⟩=some (.slice F B.length H):=fun w' h=>
   ⟨h,(x0.below h (by omega)).c0,(x0.below h (by omega)).c1,(x1.below h (by omega)).c1⟩
  have Y:=aa hK
  have HA:=aa (hA.below l)
  have HB:=aa (hB.below l)
  have X2:=aa x2
  have Z:=aa l
  have ae:ak B≤ak A:=by omega
  clear hK hA hB x0 x1 x2 l
  go_region_held3(fun w'=>Below (w.heap.size+2) O w'∧w'.cell? ⟨w.heap.size,0,none⟩=some (.bool d)∧w'.cell? ⟨w.heap.size,1,none⟩=some (.slice D A.length G)∧w'.cell? ⟨w.heap.size+1,1,none⟩=some (.slice F B.length H))
   (first|exact uH Y _ (Below.refl _ _).drew|exact uH Y _ (by assumption)|exact uH Y _ ((M.setCell (by simp) _).setCell (by simp) _))
   (first|(go_at_call 230;refine(ki D F G H A B _ ((uH HA).below ((Below.refl _ _).drew)) ((uH HB).below ((Below.refl _ _).drew)) la lb ae).mono ?_;rintro e w1 ⟨aI,ax,U,rfl,g1,g2,g3,g4,t⟩;have aj:Below (w.heap.size+2) O w1:=((Below.refl _ _).drew).trans (t.mono (by simp[Q]));have X3:=aa ((uH X2).drew.below t (by simp[Q]));have G1:=aa g1;have G2:=aa g2;have G4:=aa g4;have L4:U.length≤35184372088832:=(by omega);have s1:=t.size;clear g1 g2 g4 g3 t)|(go_at_call 208;refine(jg _ d _ _ _ _ (uH G1) (uH G2) L4).mono ?_;rintro e w2 ⟨v,rfl,⟨n2,a2,c2,L2,rfl,i1⟩,K⟩;have M:Below (w.heap.size+2) O w2:=aj.trans (K.mono (by simp at s1;omega));have N:=(uH X3).below K (by simp at s1;omega);have y0:=N.c0;have y1:=N.c1;have f0:=N.free 0;have f1:=N.free 1;have I1:=aa i1;clear i1 K N))
  have hz:=uH X U (uH G4)
  have HI:=aa (hz▸uH I1)
  have HE:=aa (show bu (af d U)=bu z by rw[hz])
  clear hz
  go_wp2
  refine bodyPost_ret (v:=.tuple #[.agg #[.bool n2,.slice a2 L2.length c2],.int .i64 (bu (af d U))]) (by simp[results,Tryz.results227,go_sem,y0,y1]) rfl ⟨.agg #[.bool n2,.slice a2 L2.length c2],?_,?_,?_⟩
  ·rw[uH HE]
  ·exact au.stored (uH HI) (by simp;omega) (by simp;omega) (by simp;omega) _ _
  ·exact(((uH Z).trans (M.mono (by omega))).setCell (by simp;omega) _).setCell (by simp;omega) _
theorem oW(d f:Bool)(h l:Option Addr)(m t:Nat)(A B:List Nat)(w:World)(z:ag w h m A)(D:ag w l t B)(F:A.length≤35184372088830)(G:B.length≤35184372088830)(K:bN A)(cB:bN B):
  Calls Tryz.prog 227 #[.agg #[.bool d,.slice h A.length m],.agg #[.bool f,.slice l B.length t]] w fun e w'=>∃v,e=.returned (.tuple #[v,.int .i64 (bu (af d A+af f B))])∧au w.heap.size w' v (dG (af d A+af f B))∧Below w.heap.size w w':=by
 by_cases H:d=f
 ·subst H;exact nf d h l m t A B w z D F G
 ·exact nh d f h l m t A B w z D F G K cB H
theorem rR(d:Bool)(m t:Option Addr)(D F:Nat)(A B:List Nat)(w:World)(Z:ag w m D A)(hB:ag w t F B)(la:A.length≤35184372088830)(lb:B.length≤35184372088830):
  Calls Tryz.prog 56 #[.agg #[.bool d,.slice m A.length D],.agg #[.bool d,.slice t B.length F]] w fun e w'=>∃v,e=.returned v∧aE (max A.length B.length+1) w.heap.size w' v (af d A+af d B)∧Below w.heap.size w w':=by
 have G:∀L:List Nat,ak L=ak A+ak B→af d L=af d A+af d B:=by
  intro L h;unfold af;cases d<;>simp[h]<;>omega
 have HS:=aa G
 clear G
 generalize af d A+af d B=z at*
 go_enter Tryz.func56,Tryz.ntmps56
 go_wp2
 refine aq (fun W=>Below w.heap.size w W∧W.heap.size=w.heap.size+3∧aC W w.heap.size (.bool d) (.slice m A.length D)∧aC W (w.heap.size+1) (.bool d) (.slice t B.length F)∧aC W (w.heap.size+2) (.bool false) (.slice none 0 0)) ?_ ?_
 ·refine⟨((((Below.refl _ _).alloc (Nat.le_refl _) _).alloc (by simp) _).alloc (by simp;omega) _),by simp,((aC.new _ _ _).old _).old _,?_,?_⟩
  ·have:=(aC.new (w.alloc (.cells #[.bool d,.slice m A.length D] 50)) (.bool d) (.slice t B.length F)).old (.cells #[.bool false,.slice none 0 0] 50)
   simpa using this
  ·have:=aC.new ((w.alloc (.cells #[.bool d,.slice m A.length D] 50)).alloc (.cells #[.bool d,.slice t B.length F] 50)) (.bool false) (.slice none 0 0)
   simpa using this
 rintro N ⟨f,O,X,x1,x2⟩
 have hK:∀w',Below (w.heap.size+2) N w'→Below (w.heap.size+2) N w'∧w'.cell? ⟨w.heap.size,0,none⟩=some (.bool d)∧w'.cell? ⟨w.heap.size,1,none⟩=some (.slice m A.length D)∧w'.cell? ⟨w.heap.size+1,1,none⟩=some (.slice t B.length F):=fun w' h=>
  ⟨h,(X.below h (by omega)).c0,(X.below h (by omega)).c1,(x1.below h (by omega)).c1⟩
 have Q:=aa hK
 have HA:=aa (Z.below f)
 have HB:=aa (hB.below f)
 have X2:=aa x2
 have U:=aa f
 clear hK Z hB X x1 x2 f
 go_region_held3(fun w'=>Below (w.heap.size+2) N w'∧w'.cell? ⟨w.heap.size,0,none⟩=some (.bool d)∧w'.cell? ⟨w.heap.size,1,none⟩=some (.slice m A.length D)∧w'.cell? ⟨w.heap.size+1,1,none⟩=some (.slice t B.length F))
  (first|exact uH Q _ (Below.refl _ _).drew|exact uH Q _ (by assumption)|exact uH Q _ ((K.setCell (by simp) _).setCell (by simp) _))
  (first|(go_at_call 98;refine(rQ m t D F A B _ ((uH HA).below ((Below.refl _ _).drew)) ((uH HB).below ((Below.refl _ _).drew)) la lb).mono ?_;rintro e w1 ⟨aj,ae,Y,rfl,g1,g2,g3,g4,l⟩;have V:Below (w.heap.size+2) N w1:=((Below.refl _ _).drew).trans (l.mono (by simp[O]));have X3:=aa ((uH X2).drew.below l (by simp[O]));have G1:=aa g1;have G2:=aa g2;have G4:=aa g4;have L4:Y.length≤35184372088832:=(by omega);have L5:Y.length≤max A.length B.length+1:=(by omega);have s1:=l.size;clear g1 g2 g4 g3 l)|(go_at_call 95;refine(di _ d _ _ _ _ (uH G1) (uH G2) L4).mono ?_;rintro e w2 ⟨v,rfl,⟨n2,a2,c2,L2,rfl,i1⟩,H⟩;have K:Below (w.heap.size+2) N w2:=V.trans (H.mono (by simp at s1;omega));have M:=(uH X3).below H (by simp at s1;omega);have y0:=M.c0;have y1:=M.c1;have f0:=M.free 0;have f1:=M.free 1;have I1:=aa i1;clear i1 H M))
 have hz:=uH HS Y (uH G4)
 have HI:=aa (hz▸uH I1)
 clear hz
 go_wp2
 refine bodyPost_ret (v:=.agg #[.bool n2,.slice a2 L2.length c2]) (by simp[results,Tryz.results56,go_sem,y0,y1]) rfl ⟨.agg #[.bool n2,.slice a2 L2.length c2],rfl,?_,?_⟩
 ·exact(aE.stored (uH HI) (by simp;omega) (by simp;omega) (by simp;omega) _ _).more (by have:=L5;omega)
 ·exact(((uH U).trans (K.mono (by omega))).setCell (by simp;omega) _).setCell (by simp;omega) _
theorem rT(l m:Bool)(t D:Option Addr)(F G:Nat)(A B:List Nat)(w:World)(hA:ag w t F A)(hB:ag w D G B)(la:A.length≤35184372088830)(lb:B.length≤35184372088830)(hn:l≠m):
  Calls Tryz.prog 56 #[.agg #[.bool l,.slice t A.length F],.agg #[.bool m,.slice D B.length G]] w fun e w'=>∃v,e=.returned v∧aE (max A.length B.length+1) w.heap.size w' v (af l A+af m B)∧Below w.heap.size w w':=by
 have Q:(∀L:List Nat,ak L=ak B-ak A→ak A<ak B→af m L=af l A+af m B)∧(∀L:List Nat,ak L=ak A-ak B→ak B≤ak A→af l L=af l A+af m B):=by
  constructor<;>intro L h h'<;>unfold af<;>cases l<;>cases m<;>simp at hn<;>simp[h]<;>omega
 have HS:=aa Q
 clear Q
 generalize af l A+af m B=z at*
 have am:(l==m)=false:=by simpa using hn
 clear hn
 go_enter Tryz.func56,Tryz.ntmps56
 go_wp2_with fail
 refine(zO t D F G A B _ (hA.below ?_) (hB.below ?_) (by omega) (by omega)).mono ?_
 ·exact(((Below.refl _ _).alloc (Nat.le_refl _) _).alloc (by simp) _).alloc (by simp;omega) _
 ·exact(((Below.refl _ _).alloc (Nat.le_refl _) _).alloc (by simp) _).alloc (by simp;omega) _
 rintro e w' ⟨rfl,rfl⟩
 by_cases hv:ak A<ak B
 ·rw[dz (by omega)]
  have U:=aa (fun L h=>(uH HS).1 L h hv)
  clear HS
  go_wp2
  refine aq (fun W=>Below w.heap.size w W∧W.heap.size=w.heap.size+3∧aC W w.heap.size (.bool l) (.slice t A.length F)∧aC W (w.heap.size+1) (.bool m) (.slice D B.length G)∧aC W (w.heap.size+2) (.bool false) (.slice none 0 0)) ?_ ?_
  ·refine⟨((((Below.refl _ _).alloc (Nat.le_refl _) _).alloc (by simp) _).alloc (by simp;omega) _),by simp,(((aC.new _ _ _).old _).old _),?_,?_⟩
   ·have:=((aC.new (w.alloc (.cells #[.bool l,.slice t A.length F] 50)) (.bool m) (.slice D B.length G)).old (.cells #[.bool false,.slice none 0 0] 50))
    simpa using this
   ·have:=(aC.new ((w.alloc (.cells #[.bool l,.slice t A.length F] 50)).alloc (.cells #[.bool m,.slice D B.length G] 50)) (.bool false) (.slice none 0 0))
    simpa using this
  rintro N ⟨d,O,x0,x1,x2⟩
  have hK:∀w',Below (w.heap.size+2) N w'→Below (w.heap.size+2) N w'∧w'.cell? ⟨w.heap.size+1,0,none⟩=some (.bool m)∧w'.cell? ⟨w.heap.size,1,none⟩=some (.slice t A.length F)∧w'.cell? ⟨w.heap.size+1,1,none⟩=some (.slice D B.length G):=fun w' h=>
   ⟨h,(x1.below h (by omega)).c0,(x0.below h (by omega)).c1,(x1.below h (by omega)).c1⟩
  have V:=aa hK
  have HA:=aa (hA.below d)
  have HB:=aa (hB.below d)
  have X2:=aa x2
  have X:=aa d
  have Y:ak A≤ak B:=by omega
  clear hK hA hB x0 x1 x2 d
  go_region_held3(fun w'=>Below (w.heap.size+2) N w'∧w'.cell? ⟨w.heap.size+1,0,none⟩=some (.bool m)∧w'.cell? ⟨w.heap.size,1,none⟩=some (.slice t A.length F)∧w'.cell? ⟨w.heap.size+1,1,none⟩=some (.slice D B.length G))
   (first|exact uH V _ (Below.refl _ _).drew|exact uH V _ (by assumption)|exact uH V _ ((K.setCell (by simp) _).setCell (by simp) _))
   (first|(go_at_call 100;refine(pG D t G F B A _ ((uH HB).below ((Below.refl _ _).drew)) ((uH HA).below ((Below.refl _ _).drew)) lb la Y).mono ?_;rintro e w1 ⟨aj,ae,L',rfl,g1,g2,g3,g4,f⟩;have Z:Below (w.heap.size+2) N w1:=((Below.refl _ _).drew).trans (f.mono (by simp[O]));have X3:=aa ((uH X2).drew.below f (by simp[O]));have G1:=aa g1;have G2:=aa g2;have G4:=aa g4;have L4:L'.length≤35184372088832:=(by omega);have L5:L'.length≤max A.length B.length+1:=(by omega);have s1:=f.size;clear g1 g2 g4 g3 f)|(go_at_call 95;refine(di _ m _ _ _ _ (uH G1) (uH G2) L4).mono ?_;rintro e w2 ⟨v,rfl,⟨n2,a2,c2,L2,rfl,i1⟩,H⟩;have K:Below (w.heap.size+2) N w2:=Z.trans (H.mono (by simp at s1;omega));have M:=(uH X3).below H (by simp at s1;omega);have y0:=M.c0;have y1:=M.c1;have f0:=M.free 0;have f1:=M.free 1;have I1:=aa i1;clear i1 H M))
  have hz:=uH U L' (uH G4)
  have HI:=aa (hz▸uH I1)
  clear hz
  go_wp2
  refine bodyPost_ret (v:=.agg #[.bool n2,.slice a2 L2.length c2]) (by simp[results,Tryz.results56,go_sem,y0,y1]) rfl ⟨.agg #[.bool n2,.slice a2 L2.length c2],rfl,?_,?_⟩
  ·exact(aE.stored (uH HI) (by simp;omega) (by simp;omega) (by simp;omega) _ _).more (by have:=L5;omega)
  ·exact(((uH X).trans (K.mono (by omega))).setCell (by simp;omega) _).setCell (by simp;omega) _
 ·have ax:¬bs (ak A) (ak B)<0:=by unfold bs;rw[if_neg (by omega)];split<;>omega
  generalize bs (ak A) (ak B)=cm at*
  have U:=aa (fun L h=>(uH HS).2 L h (by omega))
  clear HS
  go_wp2
  refine aq (fun W=>Below w.heap.size w W∧W.heap.size=w.heap.size+3∧aC W w.heap.size (.bool l) (.slice t A.length F)∧aC W (w.heap.size+1) (.bool m) (.slice D B.length G)∧aC W (w.heap.size+2) (.bool false) (.slice none 0 0)) ?_ ?_
  ·refine⟨((((Below.refl _ _).alloc (Nat.le_refl _) _).alloc (by simp) _).alloc (by simp;omega) _),by simp,(((aC.new _ _ _).old _).old _),?_,?_⟩
   ·have:=((aC.new (w.alloc (.cells #[.bool l,.slice t A.length F] 50)) (.bool m) (.slice D B.length G)).old (.cells #[.bool false,.slice none 0 0] 50))
    simpa using this
   ·have:=(aC.new ((w.alloc (.cells #[.bool l,.slice t A.length F] 50)).alloc (.cells #[.bool m,.slice D B.length G] 50)) (.bool false) (.slice none 0 0))
    simpa using this
  rintro N ⟨d,O,x0,x1,x2⟩
  have hK:∀w',Below (w.heap.size+2) N w'→Below (w.heap.size+2) N w'∧w'.cell? ⟨w.heap.size,0,none⟩=some (.bool l)∧w'.cell? ⟨w.heap.size,1,none⟩=some (.slice t A.length F)∧w'.cell? ⟨w.heap.size+1,1,none⟩=some (.slice D B.length G):=fun w' h=>
   ⟨h,(x0.below h (by omega)).c0,(x0.below h (by omega)).c1,(x1.below h (by omega)).c1⟩
  have V:=aa hK
  have HA:=aa (hA.below d)
  have HB:=aa (hB.below d)
  have X2:=aa x2
  have X:=aa d
  have Y:ak B≤ak A:=by omega
  clear hK hA hB x0 x1 x2 d
  go_region_held3(fun w'=>Below (w.heap.size+2) N w'∧w'.cell? ⟨w.heap.size,0,none⟩=some (.bool l)∧w'.cell? ⟨w.heap.size,1,none⟩=some (.slice t A.length F)∧w'.cell? ⟨w.heap.size+1,1,none⟩=some (.slice D B.length G))
   (first|exact uH V _ (Below.refl _ _).drew|exact uH V _ (by assumption)|exact uH V _ ((K.setCell (by simp) _).setCell (by simp) _))
   (first|(go_at_call 100;refine(pG t D F G A B _ ((uH HA).below ((Below.refl _ _).drew)) ((uH HB).below ((Below.refl _ _).drew)) la lb Y).mono ?_;rintro e w1 ⟨aj,ae,L',rfl,g1,g2,g3,g4,f⟩;have Z:Below (w.heap.size+2) N w1:=((Below.refl _ _).drew).trans (f.mono (by simp[O]));have X3:=aa ((uH X2).drew.below f (by simp[O]));have G1:=aa g1;have G2:=aa g2;have G4:=aa g4;have L4:L'.length≤35184372088832:=(by omega);have L5:L'.length≤max A.length B.length+1:=(by omega);have s1:=f.size;clear g1 g2 g4 g3 f)|(go_at_call 95;refine(di _ l _ _ _ _ (uH G1) (uH G2) L4).mono ?_;rintro e w2 ⟨v,rfl,⟨n2,a2,c2,L2,rfl,i1⟩,H⟩;have K:Below (w.heap.size+2) N w2:=Z.trans (H.mono (by simp at s1;omega));have M:=(uH X3).below H (by simp at s1;omega);have y0:=M.c0;have y1:=M.c1;have f0:=M.free 0;have f1:=M.free 1;have I1:=aa i1;clear i1 H M))
  have hz:=uH U L' (uH G4)
  have HI:=aa (hz▸uH I1)
  clear hz
  go_wp2
  refine bodyPost_ret (v:=.agg #[.bool n2,.slice a2 L2.length c2]) (by simp[results,Tryz.results56,go_sem,y0,y1]) rfl ⟨.agg #[.bool n2,.slice a2 L2.length c2],rfl,?_,?_⟩
  ·exact(aE.stored (uH HI) (by simp;omega) (by simp;omega) (by simp;omega) _ _).more (by have:=L5;omega)
  ·exact(((uH X).trans (K.mono (by omega))).setCell (by simp;omega) _).setCell (by simp;omega) _
theorem uz(d f:Bool)(h l:Option Addr)(m t:Nat)(A B:List Nat)(w:World)(z:ag w h m A)(D:ag w l t B)(F:A.length≤35184372088830)(G:B.length≤35184372088830):
  Calls Tryz.prog 56 #[.agg #[.bool d,.slice h A.length m],.agg #[.bool f,.slice l B.length t]] w fun e w'=>∃v,e=.returned v∧aE (max A.length B.length+1) w.heap.size w' v (af d A+af f B)∧Below w.heap.size w w':=by
 by_cases H:d=f
 ·subst H;exact rR d h l m t A B w z D F G
 ·exact rT d f h l m t A B w z D F G H
end Go.Proofs.YtnnfjeieennffaaGreatDoor
