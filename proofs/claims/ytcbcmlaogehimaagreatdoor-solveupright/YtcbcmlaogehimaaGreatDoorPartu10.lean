/- Part 10 of the texts. -/
import Derived.Test.YtcbcmlaogehimaaGreatDoorPartu09
set_option maxHeartbeats 2000000
namespace Go.Proofs.YtcbcmlaogehimaaGreatDoor
open Go.RowKit
attribute [local go_sem ↓] Go.wp_at_zero Go.wp_at_succ
theorem yQ(D F:Bool)(ao H:GY)(I J:Nat)(A B:H3)(x y:Int)(w:World)(hA:ai w ao I A)(hB:ai w H J B)(M:np D A x=true)(N:np F B y=true)(hT:cX w):
  GF 275 #[.agg #[.bool D,.slice ao A.length I,C0 x],.agg #[.bool F,.slice H B.length J,C0 y]] w fun r O=>pG O r (vZ (af D A) x (af F B) y) (v4 (af D A) x (af F B) y) (wg (af D A) x (af F B) y)/\H8 w O:=by
 obtain⟨ra,la,ae,ap,zx⟩:=cS M;obtain⟨rb,lb,aI,a0,zy⟩:=cS N;have CC:=ac (fun O h h' t=>kG D F ao H I J A B x y O h h' (by omega) (by omega) t);have he:sQ D A x F B y=0:=by unfold sQ;rw[M,N];rfl
 rw[he]at CC;have CA:=ac (fun O h h' t=>uz D F ao H I J A B x y O h h' ra rb ⟨ae,ap⟩ ⟨aI,a0⟩ zx zy t);generalize vZ (af D A) x (af F B) y=er at*;generalize v4 (af D A) x (af F B) y=am at*;generalize wg (af D A) x (af F B) y=ax at*;clear he M N zx zy ra rb;have U:H8 w (((w.alloc (.cells #[.bool D,.slice ao A.length I,C0 x] 35)).alloc (.cells #[.bool F,.slice H B.length J,C0 y] 35)).alloc (.cells #[.bool false,.slice none 0 0,C0 0] 35)):=
  (((Below.refl _ _).alloc (Nat.le_refl _) _).alloc (by simp) _).alloc (by simp;omega) _
 have K:ar (((w.alloc (.cells #[.bool D,.slice ao A.length I,C0 x] 35)).alloc (.cells #[.bool F,.slice H B.length J,C0 y] 35)).alloc (.cells #[.bool false,.slice none 0 0,C0 0] 35)) w.heap.size (.bool D) (.slice ao A.length I) (C0 x):=((ar.new _ _ _ _).old _).old _;have L:ar (((w.alloc (.cells #[.bool D,.slice ao A.length I,C0 x] 35)).alloc (.cells #[.bool F,.slice H B.length J,C0 y] 35)).alloc (.cells #[.bool false,.slice none 0 0,C0 0] 35)) (w.heap.size+1) (.bool F) (.slice H B.length J) (C0 y):=by
  have:=(ar.new (w.alloc (.cells #[.bool D,.slice ao A.length I,C0 x] 35)) (.bool F) (.slice H B.length J) (C0 y)).old (.cells #[.bool false,.slice none 0 0,C0 0] 35)
  simpa using this
 have G:ar (((w.alloc (.cells #[.bool D,.slice ao A.length I,C0 x] 35)).alloc (.cells #[.bool F,.slice H B.length J,C0 y] 35)).alloc (.cells #[.bool false,.slice none 0 0,C0 0] 35)) (w.heap.size+1+1) (.bool false) (.slice none 0 0) (C0 0):=by
  have:=ar.new ((w.alloc (.cells #[.bool D,.slice ao A.length I,C0 x] 35)).alloc (.cells #[.bool F,.slice H B.length J,C0 y] 35)) (.bool false) (.slice none 0 0) (C0 0)
  simpa using this
 have Q:=ac U;have X0:=ac K;have X1:=ac L;have X2:=ac G;clear U K L G
 go_enter Tryz.func275,Tryz.ntmps275
 go_wp2_with fail;refine(uH CC _ (hA.below (uH Q)) (hB.below (uH Q)) (hT.all (uH Q))).mono ?_;rintro r w1 ⟨rfl,l⟩;have K:=(uH X0).all l;have L:=(uH X1).all l;have G:=(uH X2).all l;have b1:=(uH Q).trans (l.mono (uH Q).size);have p0:=K.c0;have p1:=K.c1;have p2:=K.c2;have q0:=L.c0;have q1:=L.c1;have q2:=L.c2;have a1:=ac K;have a2:=ac L;have aa:=ac G;have Z:=ac b1;clear l K L G b1 X0 X1 X2 Q CC;go_wp2_with fail;refine(uH CA _ (hA.below (uH Z)) (hB.below (uH Z)) (hT.all (uH Z))).mono ?_;rintro r w4 ⟨⟨v,rfl,iv⟩,l⟩;obtain⟨n3,a3,c3,L3,rfl,i3⟩:=iv.num;have G:=(uH aa).all l;have b2:=(uH Z).trans (l.mono (uH Z).size);have y0:=G.c0;have y1:=G.c1;have y2:=G.c2;have f0:=G.free 0;have f1:=G.free 1;have f2:=G.free 2;have X3:=ac G;have B2:=ac b2;have IV:=ac iv;clear G b2 l iv i3
 go_wp2
 refine bodyPost_ret (v:=.tuple #[.agg #[.bool n3,.slice a3 L3.length c3,C0 (ax)],C0 (er)]) (by simp[results,Tryz.results275,go_sem,y0,y1,y2]) rfl ⟨⟨_,rfl,(uH IV).put3 (uH X3) _ _ _⟩,aJ (uH B2) (by omega) _ _ _⟩
theorem yR(D F:Bool)(ao H:GY)(I J:Nat)(A B:H3)(x y:Int)(w:World)(hA:ai w ao I A)(hB:ai w H J B)(Q:np D A x=true)(U:np F B y=true)(hz:(af D A*af F B).natAbs<eE)(hT:cX w):
  GF 282 #[.agg #[.bool D,.slice ao A.length I,C0 x],.agg #[.bool F,.slice H B.length J,C0 y]] w fun r O=>pG O r (dU (af D A*af F B) (x+y)) (dM (af D A*af F B) (x+y)) (dX (af D A*af F B) (x+y))/\H8 w O:=by
 obtain⟨ra,la,aI,a0,zx⟩:=cS Q;obtain⟨rb,lb,a1,a2,zy⟩:=cS U;have CC:=ac (fun O h h' t=>kG D F ao H I J A B x y O h h' (by omega) (by omega) t);have he:sQ D A x F B y=0:=by unfold sQ;rw[Q,U];rfl
 rw[he]at CC;have CM:=ac (fun O h h'=>Jo D F ao H I J A B O h h' (by omega) (by omega));rw[ra,rb,Bool.and_self,ja,jb,iq _ hz,ir _ hz]at CM;have CK:=ac (fun O u B' (iu:aA B' O u (af D A*af F B)) t=>kH (x+y) iu hz (by omega) t);generalize dU (af D A*af F B) (x+y)=er at*;generalize dM (af D A*af F B) (x+y)=am at*;generalize dX (af D A*af F B) (x+y)=ax at*;clear he Q U zx zy ra rb hz;generalize af D A*af F B=z at*;have aa:H8 w (((w.alloc (.cells #[.bool D,.slice ao A.length I,C0 x] 35)).alloc (.cells #[.bool F,.slice H B.length J,C0 y] 35)).alloc (.cells #[.bool false,.slice none 0 0,C0 0] 35)):=
  (((Below.refl _ _).alloc (Nat.le_refl _) _).alloc (by simp) _).alloc (by simp;omega) _
 have K:ar (((w.alloc (.cells #[.bool D,.slice ao A.length I,C0 x] 35)).alloc (.cells #[.bool F,.slice H B.length J,C0 y] 35)).alloc (.cells #[.bool false,.slice none 0 0,C0 0] 35)) w.heap.size (.bool D) (.slice ao A.length I) (C0 x):=((ar.new _ _ _ _).old _).old _;have L:ar (((w.alloc (.cells #[.bool D,.slice ao A.length I,C0 x] 35)).alloc (.cells #[.bool F,.slice H B.length J,C0 y] 35)).alloc (.cells #[.bool false,.slice none 0 0,C0 0] 35)) (w.heap.size+1) (.bool F) (.slice H B.length J) (C0 y):=by
  have:=(ar.new (w.alloc (.cells #[.bool D,.slice ao A.length I,C0 x] 35)) (.bool F) (.slice H B.length J) (C0 y)).old (.cells #[.bool false,.slice none 0 0,C0 0] 35)
  simpa using this
 have G:ar (((w.alloc (.cells #[.bool D,.slice ao A.length I,C0 x] 35)).alloc (.cells #[.bool F,.slice H B.length J,C0 y] 35)).alloc (.cells #[.bool false,.slice none 0 0,C0 0] 35)) (w.heap.size+1+1) (.bool false) (.slice none 0 0) (C0 0):=by
  have:=ar.new ((w.alloc (.cells #[.bool D,.slice ao A.length I,C0 x] 35)).alloc (.cells #[.bool F,.slice H B.length J,C0 y] 35)) (.bool false) (.slice none 0 0) (C0 0)
  simpa using this
 have B0:=ac aa;have X0:=ac K;have X1:=ac L;have X2:=ac G;clear aa K L G
 go_enter Tryz.func282,Tryz.ntmps282
 go_wp2_with fail;refine(uH CC _ (hA.below (uH B0)) (hB.below (uH B0)) (hT.all (uH B0))).mono ?_;rintro r w1 ⟨rfl,l⟩;have K:=(uH X0).all l;have L:=(uH X1).all l;have G:=(uH X2).all l;have b1:=(uH B0).trans (l.mono (uH B0).size);have p0:=K.c0;have p1:=K.c1;have p2:=K.c2;have q0:=L.c0;have q1:=L.c1;have q2:=L.c2;have ae:=ac K;have ap:=ac L;have N:=ac G;have M:=ac b1;clear l K L G b1 X0 X1 X2 B0 CC;go_wp2_with fail;refine(uH CM _ (hA.below (uH M)) (hB.below (uH M))).mono ?_;rintro r w5 ⟨u,rfl,⟨Z,a4,c4,L4,rfl,i4⟩,l⟩;have K:=((uH ae).all l).old (.cells #[.bool Z,.slice a4 L4.length c4] 33);have L:=((uH ap).all l).old (.cells #[.bool Z,.slice a4 L4.length c4] 33);have G:=((uH N).all l).old (.cells #[.bool Z,.slice a4 L4.length c4] 33);have b1:=((uH M).trans (l.mono (uH M).size)).alloc ((uH M).trans (l.mono (uH M).size)).size (.cells #[.bool Z,.slice a4 L4.length c4] 33);have iz:aA 0 (w5.alloc (.cells #[.bool Z,.slice a4 L4.length c4] 33)) (.agg #[.bool Z,.slice a4 L4.length c4]) z:=aA.mono (aA.below ⟨Z,a4,c4,L4,rfl,i4⟩ ((Below.refl _ _).alloc (Nat.le_refl _) _)) (Nat.zero_le _);clear ae ap N M l i4 CM p0 p1 p2 q0 q1 q2;have p2:=K.c2;have q2:=L.c2;have N:=ac G;have M:=ac b1;have IZ:=ac iz;clear K L G b1 iz;go_wp2_with fail;refine(uH CK _ _ _ (uH IZ) (hT.all (uH M))).mono ?_;rintro r w4 ⟨v,rfl,iv,l⟩;obtain⟨n3,a3,c3,L3,rfl,i3⟩:=iv.num;have G:=(uH N).all l;have b2:=(uH M).trans (l.mono (uH M).size);have y0:=G.c0;have y1:=G.c1;have y2:=G.c2;have f0:=G.free 0;have f1:=G.free 1;have f2:=G.free 2;have X3:=ac G;have B2:=ac b2;have IV:=ac iv;clear G b2 l iv i3
 go_wp2
 refine bodyPost_ret (v:=.tuple #[.agg #[.bool n3,.slice a3 L3.length c3,C0 (ax)],C0 (er)]) (by simp[results,Tryz.results282,go_sem,y0,y1,y2]) rfl ⟨⟨_,rfl,(uH IV).put3 (uH X3) _ _ _⟩,aJ (uH B2) (by omega) _ _ _⟩
theorem uA(D:Bool)(ao:GY)(G:Nat)(A:H3)(x n:Int)(w:World)(U:ai w ao G A)(M:np D A x=true)(Z:-32768<=n/\n<=32768)(hT:cX w):
  GF 228 #[.agg #[.bool D,.slice ao A.length G,C0 x],C0 n] w fun r H=>pG H r (dU (af D A) (x+n)) (dM (af D A) (x+n)) (dX (af D A) (x+n))/\H8 w H:=by
 obtain⟨ra,la,aa,ae,zx⟩:=cS M;have N:=ac (fun H h t=>j4 D ao G A x H h (by omega) t);have he:qL D A x=0:=by unfold qL;rw[M];rfl
 rw[he]at N;have CW:=ac (fun H=>eY n 32768 H (by decide) (by decide));rw[decide_eq_true Z]at CW;have CK:=ac (fun H h t=>j6 D ao G A (x+n) H h ra (by omega) t);generalize dU (af D A) (x+n)=er at*;generalize dM (af D A) (x+n)=am at*;generalize dX (af D A) (x+n)=ax at*;obtain⟨ap,aI⟩:=Z;clear he M zx ra;have J:H8 w ((w.alloc (.cells #[.bool D,.slice ao A.length G,C0 x] 35)).alloc (.cells #[.bool false,.slice none 0 0,C0 0] 35)):=((Below.refl _ _).alloc (Nat.le_refl _) _).alloc (by simp) _;have I:ar ((w.alloc (.cells #[.bool D,.slice ao A.length G,C0 x] 35)).alloc (.cells #[.bool false,.slice none 0 0,C0 0] 35)) w.heap.size (.bool D) (.slice ao A.length G) (C0 x):=(ar.new _ _ _ _).old _;have F:ar ((w.alloc (.cells #[.bool D,.slice ao A.length G,C0 x] 35)).alloc (.cells #[.bool false,.slice none 0 0,C0 0] 35)) (w.heap.size+1) (.bool false) (.slice none 0 0) (C0 0):=by
  have:=ar.new (w.alloc (.cells #[.bool D,.slice ao A.length G,C0 x] 35)) (.bool false) (.slice none 0 0) (C0 0)
  simpa using this
 have K:=ac J;have X0:=ac I;have X2:=ac F;clear J I F
 go_enter Tryz.func228,Tryz.ntmps228
 go_wp2_with fail;refine(uH N _ (U.below (uH K)) (hT.all (uH K))).mono ?_;rintro r w1 ⟨rfl,l⟩;have I:=(uH X0).all l;have F:=(uH X2).all l;have b1:=(uH K).trans (l.mono (uH K).size);have p0:=I.c0;have p1:=I.c1;have p2:=I.c2;have O:=ac F;have L:=ac b1;clear l I F b1 X0 X2 K N;go_wp2_with fail;refine(uH CW _).mono ?_;rintro r w2 ⟨rfl,rfl⟩;go_wp2_with fail;refine(uH CK _ (U.below (uH L)) (hT.all (uH L))).mono ?_;rintro r w4 ⟨v,rfl,Q,l⟩;obtain⟨n3,a3,c3,L3,rfl,i3⟩:=Q.num;have F:=(uH O).all l;have b2:=(uH L).trans (l.mono (uH L).size);have y0:=F.c0;have y1:=F.c1;have y2:=F.c2;have f0:=F.free 0;have f1:=F.free 1;have f2:=F.free 2;have X3:=ac F;have B2:=ac b2;have IV:=ac Q;clear F b2 l Q i3
 go_wp2
 refine bodyPost_ret (v:=.tuple #[.agg #[.bool n3,.slice a3 L3.length c3,C0 (ax)],C0 (er)]) (by simp[results,Tryz.results228,go_sem,y0,y1,y2]) rfl ⟨⟨_,rfl,(uH IV).put3 (uH X3) _ _ _⟩,aJ (uH B2) (by omega) _ _ _⟩
theorem aA.toM{B:Nat}{w:World}{v:Value}{z:Int}(h:aA B w v z)(H:z.natAbs<eE):aS 512 B w v z:=by
 obtain⟨n,a,c,L,rfl,l,D,t,F,G,I⟩:=h;exact⟨n,a,c,L,rfl,l,D,t,F,G,(eO L l.2.1 t).1 (by omega)⟩
theorem qR(x:Int):-9223372036854775808<=IntKind.i64.wrap x/\IntKind.i64.wrap x<=9223372036854775807:=by
 simp only[IntKind.wrap,IntKind.signed,IntKind.bits]
 simp
 split<;>omega
theorem mJ(L:H3)(t:bQ L)(k:Nat)(h:L.length<=k):aj L<2^(32*k):=by
 have l:=gK L t;rw[show(4294967296:Nat)=2^32 by decide,<-Nat.pow_mul]at l;exact Nat.lt_of_lt_of_le l (Nat.pow_le_pow_right (by decide) (by omega))
theorem yS:eE=2^(32*oD):=by
 unfold eE;rw[show(4294967296:Nat)=2^32 by decide,<-Nat.pow_mul]
theorem mK{v k:Nat}(h:v<2^k)(l:k<=16384):v<eE:=by
 rw[yS];exact Nat.lt_of_lt_of_le h (Nat.pow_le_pow_right (by decide) l)
theorem mL{a b j k:Nat}(h:a<2^j)(l:b<2^k):a*b<2^(j+k):=by
 rw[Nat.pow_add];exact Nat.mul_lt_mul_of_lt_of_le h (Nat.le_of_lt l) (Nat.pow_pos (by decide))
theorem Jy(h l:Bool)(A B:H3)(fA:bQ A)(t:bQ B)(D:A.length<=30)(F:B.length<=30):(af h A*af l B).natAbs<eE:=by
 rw[Int.natAbs_mul,aU,aU];exact mK (mL (mJ A fA 30 D) (mJ B t 30 F)) (by decide)
theorem Fa(t D:Bool)(ao F:GY)(G H:Nat)(A B:H3)(x y:Int)(w:World)(hA:ai w ao G A)(hB:ai w F H B)(la:A.length<=30)(lb:B.length<=30):
  GF 18 #[.agg #[.bool t,.slice ao A.length G,C0 x],.agg #[.bool D,.slice F B.length H,C0 y]] w fun r l=>∃v,r=.returned v/\aH l v (oM (af t A*af D B)) (if af t A*af D B=0 then 0 else IntKind.i64.wrap (IntKind.i64.wrap (x+y)+tz (af t A*af D B).natAbs))/\H8 w l:=by
 have hz:=Jy t D A B hA.2.1 hB.2.1 la lb;have CM:=ac (fun l h h'=>qJ t D ao F G H A B l h h' (by omega) (by omega));have CO:=ac (fun e' l u B' (Q:aA B' l u (af t A*af D B)) (he:e'=IntKind.i64.wrap (x+y))=>show GF 27 #[u,C0 e'] l fun r U=>∃u,r=.returned u/\aH U u (oM (af t A*af D B)) (if af t A*af D B=0 then 0 else IntKind.i64.wrap (IntKind.i64.wrap (x+y)+tz (af t A*af D B).natAbs))/\H8 l U by
  subst he;exact uy _ (Q.toM hz) (by decide) (qR _))
 clear hz;generalize af t A*af D B=z at*;generalize (if z=0 then 0 else IntKind.i64.wrap (IntKind.i64.wrap (x+y)+tz z.natAbs))=ox at*;generalize oM z=om at*;have Z:H8 w (((w.alloc (.cells #[.bool t,.slice ao A.length G,C0 x] 35)).alloc (.cells #[.bool D,.slice F B.length H,C0 y] 35)).alloc (.cells #[.bool false,.slice none 0 0,C0 0] 35)):=
  (((Below.refl _ _).alloc (Nat.le_refl _) _).alloc (by simp) _).alloc (by simp;omega) _
 have L:ar (((w.alloc (.cells #[.bool t,.slice ao A.length G,C0 x] 35)).alloc (.cells #[.bool D,.slice F B.length H,C0 y] 35)).alloc (.cells #[.bool false,.slice none 0 0,C0 0] 35)) w.heap.size (.bool t) (.slice ao A.length G) (C0 x):=((ar.new _ _ _ _).old _).old _;have M:ar (((w.alloc (.cells #[.bool t,.slice ao A.length G,C0 x] 35)).alloc (.cells #[.bool D,.slice F B.length H,C0 y] 35)).alloc (.cells #[.bool false,.slice none 0 0,C0 0] 35)) (w.heap.size+1) (.bool D) (.slice F B.length H) (C0 y):=by
  have:=(ar.new (w.alloc (.cells #[.bool t,.slice ao A.length G,C0 x] 35)) (.bool D) (.slice F B.length H) (C0 y)).old (.cells #[.bool false,.slice none 0 0,C0 0] 35)
  simpa using this
 have N:ar (((w.alloc (.cells #[.bool t,.slice ao A.length G,C0 x] 35)).alloc (.cells #[.bool D,.slice F B.length H,C0 y] 35)).alloc (.cells #[.bool false,.slice none 0 0,C0 0] 35)) (w.heap.size+1+1) (.bool false) (.slice none 0 0) (C0 0):=by
  have:=ar.new ((w.alloc (.cells #[.bool t,.slice ao A.length G,C0 x] 35)).alloc (.cells #[.bool D,.slice F B.length H,C0 y] 35)) (.bool false) (.slice none 0 0) (C0 0)
  simpa using this
 have B0:=ac Z;have X0:=ac L;have X1:=ac M;have X2:=ac N;clear Z L M N
 go_enter Tryz.func18,Tryz.ntmps18
 go_wp2_with fail;refine aB (fun W=>H8 w W/\ar W w.heap.size (.bool t) (.slice ao A.length G) (C0 x)/\ar W (w.heap.size+1) (.bool D) (.slice F B.length H) (C0 y)/\ar W (w.heap.size+1+1) (.bool false) (.slice none 0 0) (C0 0)) ⟨uH B0,uH X0,uH X1,uH X2⟩ ?_;clear B0 X0 X1 X2;rintro O ⟨b0,L,M,N⟩;have s0:w.heap.size+1+1<O.heap.size:=N.lt;have hK:∀l,Below (w.heap.size+1+1) O l->Below (w.heap.size+1+1) O l/\l.cell? ⟨w.heap.size,0,none⟩=some (.bool t)/\l.cell? ⟨w.heap.size,1,none⟩=some (.slice ao A.length G)/\l.cell? ⟨w.heap.size,2,none⟩=some (C0 x)/\l.cell? ⟨w.heap.size+1,0,none⟩=some (.bool D)/\l.cell? ⟨w.heap.size+1,1,none⟩=some (.slice F B.length H)/\l.cell? ⟨w.heap.size+1,2,none⟩=some (C0 y):=fun l h=>
  ⟨h,(L.below h (by omega)).c0,(L.below h (by omega)).c1,(L.below h (by omega)).c2,(M.below h (by omega)).c0,(M.below h (by omega)).c1,(M.below h (by omega)).c2⟩
 have HK:=ac hK;have BB:=ac b0;have X2:=ac N;clear hK b0 L M N
 go_region_held3(fun l=>Below (w.heap.size+1+1) O l/\l.cell? ⟨w.heap.size,0,none⟩=some (.bool t)/\l.cell? ⟨w.heap.size,1,none⟩=some (.slice ao A.length G)/\l.cell? ⟨w.heap.size,2,none⟩=some (C0 x)/\l.cell? ⟨w.heap.size+1,0,none⟩=some (.bool D)/\l.cell? ⟨w.heap.size+1,1,none⟩=some (.slice F B.length H)/\l.cell? ⟨w.heap.size+1,2,none⟩=some (C0 y))
  (first|exact uH HK _ (Below.refl _ _).drew|exact uH HK _ (by assumption)|exact uH HK _ (aJ am (by omega) _ _ _))
  (first|(go_at_call 54;refine(uH CM _ (hA.below ((uH BB).trans ((Below.refl _ _).drew))) (hB.below ((uH BB).trans ((Below.refl _ _).drew)))).mono ?_;rintro e w3 ⟨v,rfl,⟨n4,a4,c4,L4,rfl,i4⟩,I⟩;have aa:Below (w.heap.size+1+1) O w3:=((Below.refl _ _).drew).trans (I.mono (by simp;omega));have X3:=ac ((uH X2).drew.below I (by simp;omega));have IZ:=ac (show aA 0 w3 (.agg #[.bool n4,.slice a4 L4.length c4]) z from⟨n4,a4,c4,L4,rfl,i4⟩);have s1:=I.size;have ae:=ac ((uH BB).trans (aa.mono (by omega)));clear I i4)|(go_at_call 27;refine(uH CO _ _ _ _ (uH IZ) (by first|rfl|exact(gF _))).mono ?_;rintro e w4 ⟨u,rfl,Q,J⟩;obtain⟨n5,a5,c5,L5,rfl,i5⟩:=Q.num;have am:Below (w.heap.size+1+1) O w4:=aa.trans (J.mono (by simp at s1;omega));have K:=(uH X3).below J (by simp at s1;omega);have y0:=K.c0;have y1:=K.c1;have y2:=K.c2;have f0:=K.free 0;have f1:=K.free 1;have f2:=K.free 2;have IU:=ac Q;have X5:=ac K;have ap:=ac ((uH ae).trans (J.mono (by simp at s1;omega)));clear J Q i5 K))
 go_wp2
 refine bodyPost_ret (v:=.agg #[.bool n5,.slice a5 L5.length c5,C0 ox]) (by simp[results,Tryz.results18,go_sem,y0,y1,y2]) rfl ⟨_,rfl,(uH IU).put3 (uH X5) _ _ _,aJ (uH ap) (by omega) _ _ _⟩
theorem yT(l:Bool)(ao:GY)(D:Nat)(A:H3)(x n:Int)(w:World)(L:ai w ao D A)(I:aD l A=true)(Q:-16384<=x/\x<=16384)(U:-32768<=n/\n<=32768):
  GF 29 #[.agg #[.bool l,.slice ao A.length D,C0 x],C0 n] w fun r H=>∃v,r=.returned v/\aH H v (oM (af l A)) (oE (af l A) (x+n))/\H8 w H:=by
 have M:=nI L I;have Z:=ac (fun H (h:ai H ao D A)=>ic (x+n) ((Cn h I (cj.zero h)).toM M) (by decide) (by omega));clear M I;generalize oE (af l A) (x+n)=ox at*;generalize oM (af l A)=om at*;obtain⟨aa,ae⟩:=Q;obtain⟨am,ap⟩:=U;have G:H8 w ((w.alloc (.cells #[.bool l,.slice ao A.length D,C0 x] 35)).alloc (.cells #[.bool false,.slice none 0 0,C0 0] 35)):=((Below.refl _ _).alloc (Nat.le_refl _) _).alloc (by simp) _;have N:ar ((w.alloc (.cells #[.bool l,.slice ao A.length D,C0 x] 35)).alloc (.cells #[.bool false,.slice none 0 0,C0 0] 35)) w.heap.size (.bool l) (.slice ao A.length D) (C0 x):=(ar.new _ _ _ _).old _;have t:ar ((w.alloc (.cells #[.bool l,.slice ao A.length D,C0 x] 35)).alloc (.cells #[.bool false,.slice none 0 0,C0 0] 35)) (w.heap.size+1) (.bool false) (.slice none 0 0) (C0 0):=by
  have:=ar.new (w.alloc (.cells #[.bool l,.slice ao A.length D,C0 x] 35)) (.bool false) (.slice none 0 0) (C0 0)
  simpa using this
 have J:=ac G;have X0:=ac N;have X2:=ac t;clear G N t
 go_enter Tryz.func29,Tryz.ntmps29
 go_wp2_with fail;refine(uH Z _ (L.below (uH J))).mono ?_;rintro r w4 ⟨v,rfl,K,F⟩;obtain⟨n3,a3,c3,L3,rfl,i3⟩:=K.num;have t:=(uH X2).all F;have O:=(uH J).trans (F.mono (uH J).size);have y0:=t.c0;have y1:=t.c1;have y2:=t.c2;have f0:=t.free 0;have f1:=t.free 1;have f2:=t.free 2;have X3:=ac t;have B2:=ac O;have IV:=ac K;clear t O F K i3
 go_wp2
 refine bodyPost_ret (v:=.agg #[.bool n3,.slice a3 L3.length c3,C0 ox]) (by simp[results,Tryz.results29,go_sem,y0,y1,y2]) rfl ⟨_,rfl,(uH IV).put3 (uH X3) _ _ _,aJ (uH B2) (by omega) _ _ _⟩
end Go.Proofs.YtcbcmlaogehimaaGreatDoor
namespace Go.Proofs.YtcbcmlaogehimaaGreatDoor
open Go.RowKit
theorem wh:∀(t:Nat),0<t->t<4294967296->1<=Lib.bitLen t/\2^(Lib.bitLen t-1)<=t/\t<2^Lib.bitLen t:=by
 intro t
 induction t using Nat.strongRecOn with
 |ind t ih=>
  intro D F;have h:=pm t D F
  by_cases l:t=1
  ·subst l;decide
  ·obtain⟨G,H,I⟩:=ih (t/2) (by omega) (by omega) (by omega)
   rw[h];refine⟨by omega,?_,?_⟩
   ·rw[show 1+Lib.bitLen (t/2)-1=(Lib.bitLen (t/2)-1)+1 by omega,Nat.pow_succ]
    omega
   ·rw[show 1+Lib.bitLen (t/2)=Lib.bitLen (t/2)+1 by omega,Nat.pow_succ]
    omega
def mu(L:H3):Nat:=if L.length=0 then 0 else 32*(L.length-1)+Lib.bitLen (L[L.length-1]?.getD 0)
theorem jK(L:H3):fH L=(mu L:Int):=by
 unfold fH mu
 by_cases h:L.length=0
 ·rw[if_pos h,if_pos h];rfl
 ·rw[if_neg h,if_neg h];omega
theorem jL(L:H3)(F:bQ L)(H:cL L)(G:L≠ []):1<=mu L/\2^(mu L-1)<=aj L/\aj L<2^mu L:=by
 have M:0<L.length:=List.length_pos_iff.2 G;have N:L[L.length-1]?.getD 0≠0:=by
  rcases H with h|h
  ·exact absurd h G
  ·exact h
 have D:L[L.length-1]?.getD 0<4294967296:=by
  rw[List.getElem?_eq_getElem (by omega)];exact F _ (List.getElem_mem _)
 obtain⟨O,J,K⟩:=wh (L[L.length-1]?.getD 0) (by omega) D;have l:=aT L (L.length-1);rw[show L.length-1+1=L.length by omega,List.take_length]at l;have I:=jm L F (L.length-1);rw[show(4294967296:Nat)=2^32 by decide,<-Nat.pow_mul]at I l;unfold mu;rw[if_neg (by omega)];generalize L[L.length-1]?.getD 0=t at*;generalize Lib.bitLen t=b at*;generalize aj (L.take (L.length-1))=r at*;generalize Q:32*(L.length-1)=k at*;refine⟨by omega,?_,?_⟩
 ·rw[show k+b-1=k+(b-1) by omega,Nat.pow_add,l]
  have:2^k*2^(b-1)<=2^k*t:=Nat.mul_le_mul_left _ J;omega
 ·rw[Nat.pow_add,l]
  have:2^k*(t+1)<=2^k*2^b:=Nat.mul_le_mul_left _ K;rw[Nat.mul_add]at this;omega
theorem AX(v n d k:Nat)(G:1<=n)(t:2^(n-1)<=v)(D:v<2^n):v*2^d<2^k↔n+d<=k:=by
 constructor
 ·intro h
  apply Nat.le_of_not_lt
  intro F;have l:2^(n-1)*2^d<=v*2^d:=Nat.mul_le_mul_right _ t;rw[<-Nat.pow_add]at l;have H:2^k<=2^(n-1+d):=Nat.pow_le_pow_right (by decide) (by omega);omega
 ·intro h
  have l:v*2^d<2^n*2^d:=Nat.mul_lt_mul_of_pos_right D (Nat.pow_pos (by decide));rw[<-Nat.pow_add]at l;exact Nat.lt_of_lt_of_le l (Nat.pow_le_pow_right (by decide) h)
theorem Cu(n:Bool)(L:H3)(x l:Int):(up (af n L) x l).natAbs=aj L*2^(x-l).toNat:=by
 unfold up;rw[Int.natAbs_mul,aU,Int.natAbs_pow];rfl
theorem AY(n:Bool)(L:H3)(x l:Int)(D:bQ L)(F:aD n L=true)(G:L≠ [])(K:l<=x):gr (af n L) x l=0↔(x-l<=16384/\fH L+x-l<=16384):=by
 obtain⟨H,I,J⟩:=jL L D (aG F).2.1 G;have t:=AX (aj L) (mu L) (x-l).toNat (32*oD) H I J;rw[<-yS,<-Cu n L x l]at t;have M:32*oD=16384:=rfl;rw[jK]
 constructor
 ·intro h
  have:=t.1 (nJ h);omega
 ·intro h
  exact fL _ _ _ (t.2 (by omega)) h.1
def fA(b:Nat):Nat:=if fP b=0 then fF b else fF b+4503599627370496
def fM(b:Nat):Int:=sg (fS b) (fA b)
def fE(b:Nat):Int:=if fP b=0 then-1074 else(fP b:Int)-1075
theorem Mq(b:Nat):fA b<9007199254740992:=by unfold fA;have:=vM b;split<;>omega
theorem wi(b:Nat):(fM b).natAbs<9007199254740992:=by
 have:=Mq b;unfold fM sg
 split<;>omega
theorem Fb(b:Nat):-1074<=fE b/\fE b<=972:=by
 have:=tE b;unfold fE
 split<;>omega
theorem Cv(b:Nat)(w:World):
  BS 205 #[fV b] w (.tuple #[C0 (fM b),C0 (fE b)]):=by
 unfold fV fM fE fA;have H:=tE b;have I:=vM b;generalize fF b=f at*;generalize fP b=p at*;generalize fS b=s at*;have l:(0:Int)<=f:=by omega
 have t:(f:Int)<4503599627370496:=by omega
 have D:(p:Int)<2048:=by omega
 by_cases h:p=0
 ·subst h
  rw[if_pos rfl,if_pos rfl]
  cases s
  ·go_enter Tryz.func205,Tryz.ntmps205
   go_wp2
   exact bodyPost_ret (v:=.tuple #[C0 f,C0 (-1074)]) (by simp[results,Tryz.results205,go_sem]) rfl ⟨rfl,(Below.refl _ _).alloc (Nat.le_refl _) _⟩
  ·go_enter Tryz.func205,Tryz.ntmps205
   go_wp2
   exact bodyPost_ret (v:=.tuple #[C0 (-f),C0 (-1074)]) (by simp[results,Tryz.results205,go_sem]) rfl ⟨rfl,(Below.refl _ _).alloc (Nat.le_refl _) _⟩
 ·rw[if_neg h,if_neg h]
  have J:0<p:=by omega
  have K:decide (0<p)=true:=decide_eq_true J;have L:IntKind.i64.wrap (f:Int)=(f:Int):=by simp only[IntKind.wrap_i64];omega
  have M:IntKind.i64.wrap (p:Int)=(p:Int):=by simp only[IntKind.wrap_i64];omega
  obtain⟨a,F⟩:∃a:Nat,a=f+4503599627370496:=⟨_,rfl⟩;have N:IntKind.i64.wrap ((f:Int)+4503599627370496)=(a:Int):=by simp only[IntKind.wrap_i64];omega
  have O:IntKind.i64.wrap (-(a:Int))= -(a:Int):=by simp only[IntKind.wrap_i64];omega
  have Q:IntKind.i64.wrap ((p:Int)-1)=(p:Int)-1:=by simp only[IntKind.wrap_i64];omega
  have U:IntKind.i64.wrap (-1074+((p:Int)-1))=(p:Int)-1075:=by simp only[IntKind.wrap_i64];omega
  rw[<-F];clear h I H t D l F
  cases s
  ·go_enter Tryz.func205,Tryz.ntmps205
   go_wp2
   exact bodyPost_ret (v:=.tuple #[C0 a,C0 (p-1075)]) (by simp[results,Tryz.results205,go_sem]) rfl ⟨rfl,(Below.refl _ _).alloc (Nat.le_refl _) _⟩
  ·go_enter Tryz.func205,Tryz.ntmps205
   go_wp2
   exact bodyPost_ret (v:=.tuple #[C0 (-a),C0 (p-1075)]) (by simp[results,Tryz.results205,go_sem]) rfl ⟨rfl,(Below.refl _ _).alloc (Nat.le_refl _) _⟩
attribute [local go_sem ↓] Go.wp_at_zero Go.wp_at_succ
def oN(n m:Nat)(x y:Int):Int:=if n=0 then y else if m=0 then x else min x y
theorem Nq{t D:Bool}{A B:H3}{x y:Int}(F:aD t A=true)(G:aD D B=true):oN A.length B.length x y=cE (af t A) x (af D B) y:=by
 unfold oN cE
 by_cases h:A.length=0
 ·rw[if_pos h,if_pos ((aW F).2 h)]
 ·rw[if_neg h,if_neg (fun e=>h ((aW F).1 e))]
  by_cases l:B.length=0
  ·rw[if_pos l,if_pos ((aW G).2 l)]
  ·rw[if_neg l,if_neg (fun e=>l ((aW G).1 e))]
theorem Jz(J K:Bool)(ao L:GY)(M N n m:Nat)(x y:Int)(w:World):
  BS 55 #[.agg #[.bool J,.slice ao n M,C0 x],.agg #[.bool K,.slice L m N,C0 y]] w (C0 (oN n m x y)):=by
 have G:H8 w ((w.alloc (.cells #[.bool J,.slice ao n M,C0 x] 35)).alloc (.cells #[.bool K,.slice L m N,C0 y] 35)):=((Below.refl _ _).alloc (Nat.le_refl _) _).alloc (by simp) _;have H:=ac G;clear G
 by_cases D:n=0
 ·have h:oN n m x y=y:=by unfold oN;rw[if_pos D]
  rw[h];subst D;clear h
  go_enter Tryz.func55,Tryz.ntmps55
  go_wp2
  go_ret
  exact⟨rfl,uH H⟩
 have Q:((n:Int)==0)=false:=by rw[beq_eq_false_iff_ne];omega
 by_cases I:m=0
 ·have h:oN n m x y=x:=by unfold oN;rw[if_neg D,if_pos I]
  rw[h];subst I;clear h D
  go_enter Tryz.func55,Tryz.ntmps55
  go_wp2
  go_ret
  exact⟨rfl,uH H⟩
 have U:((m:Int)==0)=false:=by rw[beq_eq_false_iff_ne];omega
 have F:=ac (show oN n m x y=min x y by unfold oN;rw[if_neg D,if_neg I]);generalize oN n m x y=l at*;clear D I;rcases(show x<y\/x=y\/y<x by omega)with t|t|t
 ·have h:l=x:=by rw[uH F];omega
  subst h;clear F
  go_enter Tryz.func55,Tryz.ntmps55
  go_wp2
  go_ret
  exact⟨rfl,uH H⟩
 ·have h:l=x:=by rw[uH F];omega
  subst t;subst h;clear F
  go_enter Tryz.func55,Tryz.ntmps55
  go_wp2
  go_ret
  exact⟨rfl,uH H⟩
 ·have h:l=y:=by rw[uH F];omega
  subst h;clear F
  go_enter Tryz.func55,Tryz.ntmps55
  go_wp2
  go_ret
  exact⟨rfl,uH H⟩
end Go.Proofs.YtcbcmlaogehimaaGreatDoor
