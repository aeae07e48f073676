/- Part 11 of the texts. -/
import Derived.Test.YtcbcmlaogehimaaGreatDoorPartu10
set_option maxHeartbeats 4000000
namespace Go.Proofs.YtcbcmlaogehimaaGreatDoor
open Go.RowKit
attribute [local go_sem ↓] Go.wp_at_zero Go.wp_at_succ
theorem wj(n m:Nat)(x y:Int)(h:-16384<=x/\x<=16384)(l:-16384<=y/\y<=16384):-16384<=oN n m x y/\oN n m x y<=16384:=by
 unfold oN
 split
 ·omega
 ·split<;>omega
theorem tP(t:Bool)(ao:GY)(F:Nat)(A:H3)(x l:Int)(w:World)(hA:ai w ao F A)(J:aD t A=true)(h:A.length≠0->l<=x/\x-l<=16384)(hx:-16384<=x/\x<=16384)(hl:-16384<=l/\l<=16384):
  GF 57 #[.agg #[.bool t,.slice ao A.length F,C0 x],C0 l] w fun r G=>∃v,r=.returned v/\aA 0 G v (up (af t A) x l)/\H8 w G:=by
 have la:=(aG J).1;have N:=ac (show A.length=0->up (af t A) x l=0/\t=false from fun D=>by
  refine⟨by rw[(aW J).2 D,gt],?_⟩
  cases t
  ·rfl
  ·exact absurd (List.length_eq_zero_iff.1 D) ((aG J).2.2 rfl))
 have O:=ac (fun G M (D:A.length≠0)=>show GF 111 #[.agg #[.bool t,.slice ao A.length F],C0 (x-l)] G fun e K=>∃v,e=.returned v/\aA 0 K v (up (af t A) x l)/\H8 G K by
  have:=uw t ao F A (x-l) G M J (by have:=h D;omega)
  rwa[vX t A (x-l) (by have:=h D;omega)]at this)
 clear h J;generalize up (af t A) x l=z at*;obtain⟨ae,am⟩:=hx;obtain⟨ap,ax⟩:=hl;have L:H8 w ((w.alloc (.cells #[.bool t,.slice ao A.length F,C0 x] 35)).alloc (.cells #[.bool false,.slice none 0 0] 33)):=((Below.refl _ _).alloc (Nat.le_refl _) _).alloc (by simp) _;have x0:ar ((w.alloc (.cells #[.bool t,.slice ao A.length F,C0 x] 35)).alloc (.cells #[.bool false,.slice none 0 0] 33)) w.heap.size (.bool t) (.slice ao A.length F) (C0 x):=(ar.new _ _ _ _).old _;have H:aK ((w.alloc (.cells #[.bool t,.slice ao A.length F,C0 x] 35)).alloc (.cells #[.bool false,.slice none 0 0] 33)) (w.heap.size+1) (.bool false) (.slice none 0 0):=by
  have:=aK.new (w.alloc (.cells #[.bool t,.slice ao A.length F,C0 x] 35)) (.bool false) (.slice none 0 0)
  simpa using this
 have Q:=ac L;have X0:=ac x0;have X2:=ac H;clear L x0 H
 by_cases D:A.length=0
 ·obtain⟨rfl,rfl⟩:=uH N D
  have U:A= []:=List.length_eq_zero_iff.1 D;subst U;clear N O D
  go_enter Tryz.func57,Tryz.ntmps57
  go_wp2
  refine bodyPost_ret (v:=.agg #[.bool false,.slice ao 0 F]) (by simp[results,Tryz.results57,go_sem]) rfl ⟨_,rfl,aA.zero _ _ _ _,?_⟩;exact((Below.refl w.heap.size w).alloc (Nat.le_refl _) _).alloc (by simp) _
 have aa:((A.length:Int)==0)=false:=by rw[beq_eq_false_iff_ne];omega
 have Z:=ac (fun G M=>uH O G M D);clear N O D
 go_enter Tryz.func57,Tryz.ntmps57
 go_wp2_with fail;refine(uH Z _ (hA.below (uH Q))).mono ?_;rintro r w2 ⟨v,rfl,⟨n3,a3,c3,L3,rfl,i3⟩,I⟩;have H:=(uH X2).all I;have b2:=(uH Q).trans (I.mono (uH Q).size);have y0:=H.c0;have y1:=H.c1;have f0:=H.free 0;have f1:=H.free 1;have X3:=ac H;have B2:=ac b2;have I3:=ac i3;clear H b2 I i3
 go_wp2
 refine bodyPost_ret (v:=.agg #[.bool n3,.slice a3 L3.length c3]) (by simp[results,Tryz.results57,go_sem,y0,y1]) rfl ⟨_,rfl,⟨n3,a3,c3,L3,rfl,(uH I3).1.box (uH X3) _ _,(uH I3).2⟩,cR (uH B2) (by omega) _ _⟩
theorem Fc(t:Bool)(ao:GY)(D:Nat)(A:H3)(x:Int)(w:World)(hA:ai w ao D A)(la:A.length<=512):
  GF 112 #[.agg #[.bool t,.slice ao A.length D,C0 x]] w fun r l=>∃v,r=.returned v/\aH l v (-af t A) x/\H8 w l:=by
 have CN:=ac (fun l h=>qC t ao D A l h (by omega));generalize-af t A=z at*;have K:H8 w ((w.alloc (.cells #[.bool t,.slice ao A.length D,C0 x] 35)).alloc (.cells #[.bool false,.slice none 0 0,C0 0] 35)):=((Below.refl _ _).alloc (Nat.le_refl _) _).alloc (by simp) _;have G:ar ((w.alloc (.cells #[.bool t,.slice ao A.length D,C0 x] 35)).alloc (.cells #[.bool false,.slice none 0 0,C0 0] 35)) w.heap.size (.bool t) (.slice ao A.length D) (C0 x):=(ar.new _ _ _ _).old _;have J:ar ((w.alloc (.cells #[.bool t,.slice ao A.length D,C0 x] 35)).alloc (.cells #[.bool false,.slice none 0 0,C0 0] 35)) (w.heap.size+1) (.bool false) (.slice none 0 0) (C0 0):=by
  have:=ar.new (w.alloc (.cells #[.bool t,.slice ao A.length D,C0 x] 35)) (.bool false) (.slice none 0 0) (C0 0)
  simpa using this
 have B0:=ac K;have X0:=ac G;have Z:=ac J;clear K G J
 go_enter Tryz.func112,Tryz.ntmps112
 go_wp2_with fail;refine aB (fun W=>H8 w W/\ar W w.heap.size (.bool t) (.slice ao A.length D) (C0 x)/\ar W (w.heap.size+1) (.bool false) (.slice none 0 0) (C0 0)) ⟨uH B0,uH X0,uH Z⟩ ?_;clear B0 X0 Z;rintro M ⟨b0,G,J⟩;have s0:w.heap.size+1<M.heap.size:=J.lt;have hK:∀l,Below (w.heap.size+1) M l->Below (w.heap.size+1) M l/\l.cell? ⟨w.heap.size,0,none⟩=some (.bool t)/\l.cell? ⟨w.heap.size,1,none⟩=some (.slice ao A.length D)/\l.cell? ⟨w.heap.size,2,none⟩=some (C0 x):=fun l h=>
  ⟨h,(G.below h (by omega)).c0,(G.below h (by omega)).c1,(G.below h (by omega)).c2⟩
 have HK:=ac hK;have BB:=ac b0;have Z:=ac J;clear hK b0 G J
 go_region_held3(fun l=>Below (w.heap.size+1) M l/\l.cell? ⟨w.heap.size,0,none⟩=some (.bool t)/\l.cell? ⟨w.heap.size,1,none⟩=some (.slice ao A.length D)/\l.cell? ⟨w.heap.size,2,none⟩=some (C0 x))
  (first|exact uH HK _ (Below.refl _ _).drew|exact uH HK _ (by assumption)|exact uH HK _ (aJ L (by omega) _ _ _))
  (first|(go_at_call 116;refine(uH CN _ (hA.below ((uH BB).trans ((Below.refl _ _).drew)))).mono ?_;rintro e w3 ⟨v,rfl,⟨N,O,Q,U,rfl,H⟩,I⟩;have L:Below (w.heap.size+1) M w3:=((Below.refl _ _).drew).trans (I.mono (by simp;omega));have F:=((uH Z).drew.below I (by simp;omega));have IZ:=ac (show aA 0 w3 (.agg #[.bool N,.slice O U.length Q]) z from⟨N,O,Q,U,rfl,H.1,H.2.1,H.2.2.1,H.2.2.2.1,H.2.2.2.2.1,by have:=H.2.2.2.2.2;omega⟩);have y0:=F.c0;have y1:=F.c1;have y2:=F.c2;have f0:=F.free 0;have f1:=F.free 1;have f2:=F.free 2;have X5:=ac F;have aa:=ac ((uH BB).trans (L.mono (by omega)));clear I H F))
 go_wp2
 have j2:aH w3 (.agg #[.bool N,.slice O U.length Q,C0 x]) z x:=⟨N,O,Q,U,rfl,uH IZ⟩;refine bodyPost_ret (v:=.agg #[.bool N,.slice O U.length Q,C0 x]) (by simp[results,Tryz.results112,go_sem,y0,y1,y2]) rfl ⟨_,rfl,j2.put3 (uH X5) _ _ _,aJ (uH aa) (by omega) _ _ _⟩
theorem yU{B l:Nat}{w:World}{v u:Value}{x y:Int}(t:aA B w v x)(D:aA l w u y)(F:x.natAbs<eE)(G:y.natAbs<eE):
  GF 56 #[v,u] w fun e h=>∃r,e=.returned r/\aS 513 w.heap.size h r (x+y)/\H8 w h:=by
 obtain⟨K,ao,L,A,rfl,M,a2,N,a4⟩:=t.right F;obtain⟨O,Q,U,C,rfl,Z,b2,b3,b4⟩:=D.right G;have:=yI K O ao Q L U A C w M Z (by omega) (by omega);rw[N,b3]at this;exact this.mono fun e h ⟨r,H,I,J⟩=>⟨r,H,I.more (by omega),J⟩
theorem Fd{s x l:Int}(h:gr s x l=0):x-l<=16384:=by
 unfold gr at h
 by_cases t:(up s x l).natAbs<eE/\x-l<=16384
 ·exact t.2
 ·rw[if_neg t]at h;exact absurd h (by decide)
theorem qT(D F:Bool)(ao H:GY)(I J:Nat)(A B:H3)(x y:Int)(w:World)(hA:ai w ao I A)(hB:ai w H J B)(ra:aD D A=true)(rb:aD F B=true)(hx:-16384<=x/\x<=16384)(hy:-16384<=y/\y<=16384)(e1:gr (af D A) x (cE (af D A) x (af F B) y)=0)(e2:gr (af F B) y (cE (af D A) x (af F B) y)=0):
  GF 19 #[.agg #[.bool D,.slice ao A.length I,C0 x],.agg #[.bool F,.slice H B.length J,C0 y]] w fun r t=>∃v,r=.returned v/\aH t v (oM (dW (af D A) x (af F B) y)) (oE (dW (af D A) x (af F B) y) (cE (af D A) x (af F B) y))/\H8 w t:=by
 have CL:=ac (fun t=>Jz D F ao H I J A.length B.length x y t);have O:=wj A.length B.length x y hx hy;rw[Nq ra rb]at CL O;have g1:A.length≠0->cE (af D A) x (af F B) y<=x:=fun h=>by
  unfold cE;rw[if_neg (fun e=>h ((aW ra).1 e))]
  split<;>omega
 have g2:B.length≠0->cE (af D A) x (af F B) y<=y:=fun h=>by
  unfold cE
  split
  ·omega
  ·rw[if_neg (fun e=>h ((aW rb).1 e))];omega
 obtain⟨z,hz⟩:∃z,dW (af D A) x (af F B) y=z:=⟨_,rfl⟩;have aa:z=up (af D A) x (cE (af D A) x (af F B) y)+up (af F B) y (cE (af D A) x (af F B) y):=by rw[<-hz];rfl
 rw[hz];clear hz;generalize cE (af D A) x (af F B) y=l at*;have a6:=ac (fun t h=>tP D ao I A x l t h ra (fun h0=>⟨g1 h0,Fd e1⟩) hx O);have a7:=ac (fun t h=>tP F H J B y l t h rb (fun h0=>⟨g2 h0,Fd e2⟩) hy O);have ae:=ac (fun t u v (iu:aA 0 t u (up (af D A) x l)) (iv:aA 0 t v (up (af F B) y l))=>yU iu iv (nJ e1) (nJ e2));rw[<-aa]at ae;have CO:=ac (fun t u B' (iu:aS 513 B' t u z)=>ic l iu (by decide) (by omega));clear ra rb e1 e2 aa g1 g2 hx hy;generalize oE z l=ox at*;generalize oM z=om at*;generalize up (af D A) x l=za at*;generalize up (af F B) y l=zb at*;obtain⟨bm,bn⟩:=O;have am:H8 w (((w.alloc (.cells #[.bool D,.slice ao A.length I,C0 x] 35)).alloc (.cells #[.bool F,.slice H B.length J,C0 y] 35)).alloc (.cells #[.bool false,.slice none 0 0,C0 0] 35)):=
  (((Below.refl _ _).alloc (Nat.le_refl _) _).alloc (by simp) _).alloc (by simp;omega) _
 have M:ar (((w.alloc (.cells #[.bool D,.slice ao A.length I,C0 x] 35)).alloc (.cells #[.bool F,.slice H B.length J,C0 y] 35)).alloc (.cells #[.bool false,.slice none 0 0,C0 0] 35)) w.heap.size (.bool D) (.slice ao A.length I) (C0 x):=((ar.new _ _ _ _).old _).old _;have N:ar (((w.alloc (.cells #[.bool D,.slice ao A.length I,C0 x] 35)).alloc (.cells #[.bool F,.slice H B.length J,C0 y] 35)).alloc (.cells #[.bool false,.slice none 0 0,C0 0] 35)) (w.heap.size+1) (.bool F) (.slice H B.length J) (C0 y):=by
  have:=(ar.new (w.alloc (.cells #[.bool D,.slice ao A.length I,C0 x] 35)) (.bool F) (.slice H B.length J) (C0 y)).old (.cells #[.bool false,.slice none 0 0,C0 0] 35)
  simpa using this
 have Q:ar (((w.alloc (.cells #[.bool D,.slice ao A.length I,C0 x] 35)).alloc (.cells #[.bool F,.slice H B.length J,C0 y] 35)).alloc (.cells #[.bool false,.slice none 0 0,C0 0] 35)) (w.heap.size+1+1) (.bool false) (.slice none 0 0) (C0 0):=by
  have:=ar.new ((w.alloc (.cells #[.bool D,.slice ao A.length I,C0 x] 35)).alloc (.cells #[.bool F,.slice H B.length J,C0 y] 35)) (.bool false) (.slice none 0 0) (C0 0)
  simpa using this
 have B0:=ac am;have X0:=ac M;have X1:=ac N;have X2:=ac Q;clear am M N Q
 go_enter Tryz.func19,Tryz.ntmps19
 go_wp2_with fail;refine(uH CL _).mono ?_;rintro r w1 ⟨rfl,G⟩;have M:=(uH X0).all G;have N:=(uH X1).all G;have Q:=(uH X2).all G;have b1:=(uH B0).trans (G.mono (uH B0).size);have ap:=ac M;have ax:=ac N;have aI:=ac Q;have B1:=ac b1;clear G M N Q b1 X0 X1 X2 B0 CL;go_wp2_with fail;refine aB (fun W=>H8 w W/\ar W w.heap.size (.bool D) (.slice ao A.length I) (C0 x)/\ar W (w.heap.size+1) (.bool F) (.slice H B.length J) (C0 y)/\ar W (w.heap.size+1+1) (.bool false) (.slice none 0 0) (C0 0)) ⟨uH B1,uH ap,uH ax,uH aI⟩ ?_;clear B1 ap ax aI;rintro W0 ⟨b0,M,N,Q⟩;have s0:w.heap.size+1+1<W0.heap.size:=Q.lt;have hK:∀t,Below (w.heap.size+1+1) W0 t->Below (w.heap.size+1+1) W0 t/\t.cell? ⟨w.heap.size,0,none⟩=some (.bool D)/\t.cell? ⟨w.heap.size,1,none⟩=some (.slice ao A.length I)/\t.cell? ⟨w.heap.size,2,none⟩=some (C0 x)/\t.cell? ⟨w.heap.size+1,0,none⟩=some (.bool F)/\t.cell? ⟨w.heap.size+1,1,none⟩=some (.slice H B.length J)/\t.cell? ⟨w.heap.size+1,2,none⟩=some (C0 y):=fun t h=>
  ⟨h,(M.below h (by omega)).c0,(M.below h (by omega)).c1,(M.below h (by omega)).c2,(N.below h (by omega)).c0,(N.below h (by omega)).c1,(N.below h (by omega)).c2⟩
 have HK:=ac hK;have BB:=ac b0;have X2:=ac Q;clear hK b0 M N Q
 go_region_held3(fun t=>Below (w.heap.size+1+1) W0 t/\t.cell? ⟨w.heap.size,0,none⟩=some (.bool D)/\t.cell? ⟨w.heap.size,1,none⟩=some (.slice ao A.length I)/\t.cell? ⟨w.heap.size,2,none⟩=some (C0 x)/\t.cell? ⟨w.heap.size+1,0,none⟩=some (.bool F)/\t.cell? ⟨w.heap.size+1,1,none⟩=some (.slice H B.length J)/\t.cell? ⟨w.heap.size+1,2,none⟩=some (C0 y))
  (first|exact uH HK _ (Below.refl _ _).drew|exact uH HK _ (by assumption)|exact uH HK _ (aJ be (by omega) _ _ _))
  (first|(go_at_call_of 57 (Value.agg #[.bool D,.slice ao A.length I,C0 x]);refine(uH a6 _ (hA.below ((uH BB).trans ((Below.refl _ _).drew)))).mono ?_;rintro e w3 ⟨v,rfl,⟨n1,a1,c1,L1,rfl,i1⟩,G⟩;have a0:Below (w.heap.size+1+1) W0 w3:=((Below.refl _ _).drew).trans (G.mono (by simp;omega));have X3:=ac ((uH X2).drew.below G (by simp;omega));have IA:=ac (show aA 0 w3 (.agg #[.bool n1,.slice a1 L1.length c1]) za from⟨n1,a1,c1,L1,rfl,i1⟩);have s1:w.heap.size+1+1<w3.heap.size:=(by have:=G.size;simp at this;omega);have a4:=ac ((uH BB).trans (a0.mono (by omega)));clear G i1)|(go_at_call_of 57 (Value.agg #[.bool F,.slice H B.length J,C0 y]);refine(uH a7 _ (hB.below (uH a4))).mono ?_;rintro e w4 ⟨v,rfl,⟨n2,a2,c2,L2,rfl,i2⟩,K⟩;have a9:Below (w.heap.size+1+1) W0 w4:=a0.trans (K.mono (by omega));have X4:=ac ((uH X3).below K (by omega));have ba:=ac ((uH IA).below K);have IB:=ac (show aA 0 w4 (.agg #[.bool n2,.slice a2 L2.length c2]) zb from⟨n2,a2,c2,L2,rfl,i2⟩);have s2:w.heap.size+1+1<w4.heap.size:=(by have:=K.size;omega);have bb:=ac ((uH a4).trans (K.mono (by omega)));clear K i2)|(go_at_call 56;refine(uH ae _ _ _ (uH ba) (uH IB)).mono ?_;rintro e w5 ⟨v,rfl,⟨n3,a3,c3,L3,rfl,i3⟩,L⟩;have bc:Below (w.heap.size+1+1) W0 w5:=a9.trans (L.mono (by omega));have X5:=ac ((uH X4).below L (by omega));have IZ:=ac (show aS 513 w4.heap.size w5 (.agg #[.bool n3,.slice a3 L3.length c3]) z from⟨n3,a3,c3,L3,rfl,i3⟩);have s3:w.heap.size+1+1<w5.heap.size:=(by have:=L.size;omega);have bd:=ac ((uH bb).trans (L.mono (by omega)));clear L i3)|(go_at_call 27;refine(uH CO _ _ _ (uH IZ)).mono ?_;rintro e w6 ⟨u,rfl,iu,U⟩;obtain⟨n5,a5,c5,L5,rfl,i5⟩:=iu.num;have be:Below (w.heap.size+1+1) W0 w6:=bc.trans (U.mono (by omega));have Z:=(uH X5).below U (by omega);have y0:=Z.c0;have y1:=Z.c1;have y2:=Z.c2;have f0:=Z.free 0;have f1:=Z.free 1;have f2:=Z.free 2;have IU:=ac iu;have X7:=ac Z;have bi:=ac ((uH bd).trans (U.mono (by omega)));clear U iu i5 Z))
 go_wp2
 refine bodyPost_ret (v:=.agg #[.bool n5,.slice a5 L5.length c5,C0 ox]) (by simp[results,Tryz.results19,go_sem,y0,y1,y2]) rfl ⟨_,rfl,(uH IU).put3 (uH X7) _ _ _,aJ (uH bi) (by omega) _ _ _⟩
theorem qU(D t:Bool)(ao G:GY)(F H:Nat)(A B:H3)(x y:Int)(w:World)(hA:ai w ao F A)(hB:ai w G H B)(ra:aD D A=true)(rb:aD t B=true)(hx:-16384<=x/\x<=16384)(hy:-16384<=y/\y<=16384)(e1:gr (af D A) x (cE (af D A) x (-af t B) y)=0)(e2:gr (-af t B) y (cE (af D A) x (-af t B) y)=0):
  GF 58 #[.agg #[.bool D,.slice ao A.length F,C0 x],.agg #[.bool t,.slice G B.length H,C0 y]] w fun r l=>∃v,r=.returned v/\aH l v (oM (dW (af D A) x (-af t B) y)) (oE (dW (af D A) x (-af t B) y) (cE (af D A) x (-af t B) y))/\H8 w l:=by
 have lb:=(aG rb).1;have tb:=nI hB rb;have CN:=ac (fun l h=>Fc t G H B y l h lb);have am:=ac (fun l u (h:ai l ao F A) (Q:aH l u (-af t B) y)=>show GF 19 #[.agg #[.bool D,.slice ao A.length F,C0 x],u] l fun r U=>∃v,r=.returned v/\aH U v (oM (dW (af D A) x (-af t B) y)) (oE (dW (af D A) x (-af t B) y) (cE (af D A) x (-af t B) y))/\H8 l U by
  obtain⟨n1,a1,c1,L1,rfl,q1,q2,q3,q4,q5⟩:=Q.right (by rw[Int.natAbs_neg];exact tb);have:=qT D n1 ao a1 F c1 A L1 x y l h q1 ra q2 hx hy (by rw[q3];exact e1) (by rw[q3];exact e2)
  rwa[q3]at this)
 clear ra rb hx hy e1 e2 tb;generalize oE (dW (af D A) x (-af t B) y) (cE (af D A) x (-af t B) y)=ox at*;generalize oM (dW (af D A) x (-af t B) y)=om at*;generalize-af t B=sb at*;have Z:H8 w (((w.alloc (.cells #[.bool D,.slice ao A.length F,C0 x] 35)).alloc (.cells #[.bool t,.slice G B.length H,C0 y] 35)).alloc (.cells #[.bool false,.slice none 0 0,C0 0] 35)):=
  (((Below.refl _ _).alloc (Nat.le_refl _) _).alloc (by simp) _).alloc (by simp;omega) _
 have L:ar (((w.alloc (.cells #[.bool D,.slice ao A.length F,C0 x] 35)).alloc (.cells #[.bool t,.slice G B.length H,C0 y] 35)).alloc (.cells #[.bool false,.slice none 0 0,C0 0] 35)) w.heap.size (.bool D) (.slice ao A.length F) (C0 x):=((ar.new _ _ _ _).old _).old _;have M:ar (((w.alloc (.cells #[.bool D,.slice ao A.length F,C0 x] 35)).alloc (.cells #[.bool t,.slice G B.length H,C0 y] 35)).alloc (.cells #[.bool false,.slice none 0 0,C0 0] 35)) (w.heap.size+1) (.bool t) (.slice G B.length H) (C0 y):=by
  have:=(ar.new (w.alloc (.cells #[.bool D,.slice ao A.length F,C0 x] 35)) (.bool t) (.slice G B.length H) (C0 y)).old (.cells #[.bool false,.slice none 0 0,C0 0] 35)
  simpa using this
 have N:ar (((w.alloc (.cells #[.bool D,.slice ao A.length F,C0 x] 35)).alloc (.cells #[.bool t,.slice G B.length H,C0 y] 35)).alloc (.cells #[.bool false,.slice none 0 0,C0 0] 35)) (w.heap.size+1+1) (.bool false) (.slice none 0 0) (C0 0):=by
  have:=ar.new ((w.alloc (.cells #[.bool D,.slice ao A.length F,C0 x] 35)).alloc (.cells #[.bool t,.slice G B.length H,C0 y] 35)) (.bool false) (.slice none 0 0) (C0 0)
  simpa using this
 have B0:=ac Z;have X0:=ac L;have X1:=ac M;have X2:=ac N;clear Z L M N
 go_enter Tryz.func58,Tryz.ntmps58
 go_wp2_with fail;refine aB (fun W=>H8 w W/\ar W w.heap.size (.bool D) (.slice ao A.length F) (C0 x)/\ar W (w.heap.size+1) (.bool t) (.slice G B.length H) (C0 y)/\ar W (w.heap.size+1+1) (.bool false) (.slice none 0 0) (C0 0)) ⟨uH B0,uH X0,uH X1,uH X2⟩ ?_;clear B0 X0 X1 X2;rintro O ⟨b0,L,M,N⟩;have s0:w.heap.size+1+1<O.heap.size:=N.lt;have hK:∀l,Below (w.heap.size+1+1) O l->Below (w.heap.size+1+1) O l/\l.cell? ⟨w.heap.size,0,none⟩=some (.bool D)/\l.cell? ⟨w.heap.size,1,none⟩=some (.slice ao A.length F)/\l.cell? ⟨w.heap.size,2,none⟩=some (C0 x)/\l.cell? ⟨w.heap.size+1,0,none⟩=some (.bool t)/\l.cell? ⟨w.heap.size+1,1,none⟩=some (.slice G B.length H)/\l.cell? ⟨w.heap.size+1,2,none⟩=some (C0 y):=fun l h=>
  ⟨h,(L.below h (by omega)).c0,(L.below h (by omega)).c1,(L.below h (by omega)).c2,(M.below h (by omega)).c0,(M.below h (by omega)).c1,(M.below h (by omega)).c2⟩
 have HK:=ac hK;have BB:=ac b0;have X2:=ac N;clear hK b0 L M N
 go_region_held3(fun l=>Below (w.heap.size+1+1) O l/\l.cell? ⟨w.heap.size,0,none⟩=some (.bool D)/\l.cell? ⟨w.heap.size,1,none⟩=some (.slice ao A.length F)/\l.cell? ⟨w.heap.size,2,none⟩=some (C0 x)/\l.cell? ⟨w.heap.size+1,0,none⟩=some (.bool t)/\l.cell? ⟨w.heap.size+1,1,none⟩=some (.slice G B.length H)/\l.cell? ⟨w.heap.size+1,2,none⟩=some (C0 y))
  (first|exact uH HK _ (Below.refl _ _).drew|exact uH HK _ (by assumption)|exact uH HK _ (aJ ap (by omega) _ _ _))
  (first|(go_at_call 112;refine(uH CN _ (hB.below ((uH BB).trans ((Below.refl _ _).drew)))).mono ?_;rintro e w3 ⟨v,rfl,iv,I⟩;obtain⟨n1,a1,c1,L1,rfl,i1⟩:=iv.num;have aa:Below (w.heap.size+1+1) O w3:=((Below.refl _ _).drew).trans (I.mono (by simp;omega));have X3:=ac ((uH X2).drew.below I (by simp;omega));have IN:=ac iv;have s1:w.heap.size+1+1<w3.heap.size:=(by have:=I.size;simp at this;omega);have ae:=ac ((uH BB).trans (aa.mono (by omega)));clear I i1 iv)|(go_at_call 19;refine(uH am _ _ (hA.below (uH ae)) (uH IN)).mono ?_;rintro e w6 ⟨u,rfl,Q,J⟩;obtain⟨n5,a5,c5,L5,rfl,i5⟩:=Q.num;have ap:Below (w.heap.size+1+1) O w6:=aa.trans (J.mono (by omega));have K:=(uH X3).below J (by omega);have y0:=K.c0;have y1:=K.c1;have y2:=K.c2;have f0:=K.free 0;have f1:=K.free 1;have f2:=K.free 2;have IU:=ac Q;have X7:=ac K;have ax:=ac ((uH ae).trans (J.mono (by omega)));clear J Q i5 K))
 go_wp2
 refine bodyPost_ret (v:=.agg #[.bool n5,.slice a5 L5.length c5,C0 ox]) (by simp[results,Tryz.results58,go_sem,y0,y1,y2]) rfl ⟨_,rfl,(uH IU).put3 (uH X7) _ _ _,aJ (uH ax) (by omega) _ _ _⟩
end Go.Proofs.YtcbcmlaogehimaaGreatDoor
namespace Go.Proofs.YtcbcmlaogehimaaGreatDoor
open Go.RowKit
theorem Fe(s x l:Int):up (-s) x l= -up s x l:=by unfold up;rw[Int.neg_mul]
theorem JA(s x l:Int):gr (-s) x l=gr s x l:=by unfold gr;rw[Fe,Int.natAbs_neg]
theorem qW(t x l y:Int):cE t x (-l) y=cE t x l y:=by
 unfold cE
 by_cases h:l=0
 ·subst h;rfl
 ·rw[if_neg h,if_neg (show¬-l=0 by omega)]
attribute [local go_sem ↓] Go.wp_at_zero Go.wp_at_succ
theorem JB{h x l y:Int}(t:gr h x (cE h x l y)=0)(D:gr l y (cE h x l y)=0)(F:(dW h x l y).natAbs<eE):
  vZ h x l y=dU (dW h x l y) (cE h x l y)/\v4 h x l y=dM (dW h x l y) (cE h x l y)/\wg h x l y=dX (dW h x l y) (cE h x l y):=by
 have G:nH h x l y=true:=decide_eq_true ⟨t,D,F⟩;unfold vZ v4 wg;rw[G];exact⟨rfl,rfl,rfl⟩
end Go.Proofs.YtcbcmlaogehimaaGreatDoor
namespace Go.Proofs.YtcbcmlaogehimaaGreatDoor
open Go.RowKit
def iw(z:Int):Int:=if z<0 then-1 else if z=0 then 0 else 1
def nK(sa x sb y:Int):Int:=bY (up sa x (cE sa x sb y)) (up sb y (cE sa x sb y))
theorem dH{u:Int}(h:u<0):iw u= -1:=by unfold iw;rw[if_pos h]
theorem iX:iw 0=0:=rfl
theorem dI{u:Int}(h:0<u):iw u=1:=by unfold iw;rw[if_neg (by omega),if_neg (by omega)]
theorem j8(s:Int)(k:Nat):iw (s*2^k)=iw s:=by
 have l:(0:Int)<2^k:=Int.pow_pos (by decide);rcases Int.lt_trichotomy s 0 with h|h|h
 ·rw[dH h,dH (Int.mul_neg_of_neg_of_pos h l)]
 ·subst h;rw[Int.zero_mul]
 ·rw[dI h,dI (Int.mul_pos h l)]
theorem p8(s x l:Int):iw (up s x l)=iw s:=j8 s _
theorem mM{n:Bool}{L:H3}(h:aD n L=true):jv n L.length=iw (af n L):=by
 unfold jv;have D:=aW h
 by_cases l:L.length=0
 ·rw[if_pos l,D.2 l];rfl
 ·have t:af n L≠0:=fun e=>l (D.1 e)
  rw[if_neg l];unfold af at t⊢
  cases n
  ·simp only[Bool.false_eq_true,if_false]at t⊢
   rw[dI (by omega)]
  ·simp only[if_true]at t⊢
   rw[dH (by omega)]
theorem Ff{n:Bool}{L:H3}(h:aD n L=true):yP n L.length=iw (af n L):=by
 rw[<-mM h];unfold yP jv
 cases n
 ·rfl
 ·have:L.length≠0:=fun e=>(aG h).2.2 rfl (List.length_eq_zero_iff.1 e)
  simp[this]
theorem Cw(u v:Int)(h:iw u≠iw v):bY (iw u) (iw v)=bY u v/\min 1 (max (-1) (iw u-iw v))=bY u v:=by
 rcases Int.lt_trichotomy u 0 with l|l|l<;>rcases Int.lt_trichotomy v 0 with t|t|t
 ·rw[dH l,dH t]at h;exact absurd rfl h
 ·subst t;rw[dH l,iX,fk l];decide
 ·rw[dH l,dI t,fk (show u<v by omega)];decide
 ·subst l;rw[dH t,iX,gR t];decide
 ·subst l;subst t;exact absurd rfl h
 ·subst l;rw[dI t,iX,fk t];decide
 ·rw[dI l,dH t,gR (show v<u by omega)];decide
 ·subst t;rw[dI l,iX,gR l];decide
 ·rw[dI l,dI t]at h;exact absurd rfl h
theorem Fg(G H F l t D:Nat)(I:G<2^F)(J:2^(l-1)<=H)(K:1<=l)(h:F+t<l+D):G*2^t<H*2^D:=by
 have L:G*2^t<2^(F+t):=by rw[Nat.pow_add];exact Nat.mul_lt_mul_of_pos_right I (Nat.pow_pos (by decide))
 have M:2^(l-1+D)<=H*2^D:=by rw[Nat.pow_add];exact Nat.mul_le_mul_right _ J
 have N:2^(F+t)<=2^(l-1+D):=Nat.pow_le_pow_right (by decide) (by omega);omega
theorem AZ(n:Bool)(L:H3)(x l:Int):up (af n L) x l=sg n (aj L*2^(x-l).toNat):=by
 unfold up;rw[fm];unfold sg
 cases n
 ·simp
 ·simp[Int.neg_mul]
theorem Cx(u v:Int):bY v u= -bY u v:=by
 unfold bY;rcases Int.lt_trichotomy u v with h|h|h
 ·rw[if_neg (by omega),if_pos h,if_pos h];rfl
 ·subst h;simp
 ·rw[if_pos h,if_neg (by omega),if_pos h]
theorem qX(u v:Int):bY u v=iw (u-v):=by
 rcases Int.lt_trichotomy u v with h|h|h
 ·rw[fk h,dH (by omega)]
 ·subst h;rw[Jk rfl,Int.sub_self];rfl
 ·rw[gR h,dI (by omega)]
theorem tQ{t D:Bool}{A B:H3}{x y:Int}(fA:bQ A)(N:bQ B)(G:aD t A=true)(H:aD D B=true)(I:A.length≠0)(J:B.length≠0)(O:t=D)(h:fH A+x<fH B+y):
  nK (af t A) x (af D B) y=(if t then 1 else-1)/\nK (af D B) y (af t A) x=(if t then-1 else 1):=by
 have K:af t A≠0:=fun e=>I ((aW G).1 e)
 have L:af D B≠0:=fun e=>J ((aW H).1 e)
 have Q:=jL A fA (aG G).2.1 (fun e=>I (by rw[e];rfl));have M:=jL B N (aG H).2.1 (fun e=>J (by rw[e];rfl));rw[jK,jK]at h;have F:∀l,l<=x->l<=y->bY (up (af t A) x l) (up (af D B) y l)=(if t then 1 else-1):=by
  intro l Z h2;have U:=Fg (aj A) (aj B) (mu A) (mu B) (x-l).toNat (y-l).toNat Q.2.2 M.2.1 M.1 (by omega);rw[AZ,AZ,<-O];unfold sg
  cases t
  ·simp only[Bool.false_eq_true,if_false]
   exact fk (by omega)
  ·simp only[if_true]
   exact gR (by omega)
 constructor
 ·unfold nK
  rw[j7 _ _ _ _ K L];exact F _ (by omega) (by omega)
 ·unfold nK
  rw[j7 _ _ _ _ L K,Cx,F _ (by omega) (by omega)]
  cases t<;>rfl
theorem Fh{l t:Bool}{A B:H3}{x y:Int}(fA:bQ A)(D:bQ B)(F:aD l A=true)(G:aD t B=true)(H:A.length≠0)(I:B.length≠0)(h:fH A+x=fH B+y):
  gr (af l A) x (min x y)=0/\gr (af t B) y (min x y)=0:=by
 have bl:∀(n:Bool) (L:H3),bQ L->aD n L=true->L.length≠0->1<=fH L/\fH L<=16384:=fun n L f r M=>by
  have s:=jL L f (aG r).2.1 (fun e=>M (by rw[e];rfl));have J:=(eO L f (aG r).2.1).2 (aG r).1;have N:32*oD=16384:=rfl;rw[yS]at J;have K:=AX (aj L) (mu L) 0 (32*oD) s.1 s.2.1 s.2.2;rw[Nat.pow_zero,Nat.mul_one]at K;have:=K.1 J;rw[jK];omega
 have O:=bl l A fA F H;have Q:=bl t B D G I;rw[AY l A x _ fA F (fun e=>H (by rw[e];rfl)) (by omega),AY t B y _ D G (fun e=>I (by rw[e];rfl)) (by omega)];omega
attribute [local go_sem ↓] Go.wp_at_zero Go.wp_at_succ
theorem Fi{l t:Bool}{A B:H3}{x y:Int}(fA:bQ A)(M:bQ B)(N:np l A x=true)(O:np t B y=true):
  (jv l A.length≠jv t B.length/\bY (jv l A.length) (jv t B.length)=nK (af l A) x (af t B) y/\min 1 (max (-1) (jv l A.length-jv t B.length))=nK (af l A) x (af t B) y)\/
  (jv l A.length=jv t B.length/\∃s c:Int,(s=1\/s= -1)/\((c=1/\jw B y<jw A x)\/(c= -1/\jw A x<jw B y))/\jv l A.length=s/\bY (jw A x) (jw B y)=c/\nK (af l A) x (af t B) y=s*c)\/
  (jv l A.length=jv t B.length/\jw A x=jw B y/\gr (af l A) x (min x y)=0/\gr (af t B) y (min x y)=0/\bY (up (af l A) x (min x y)) (up (af t B) y (min x y))=nK (af l A) x (af t B) y/\cE (af l A) x (af t B) y=min x y):=by
 obtain⟨I,_,a1,a2,zx⟩:=cS N;obtain⟨J,_,b1,b2,zy⟩:=cS O;rw[mM I,mM J]
 by_cases D:iw (af l A)=iw (af t B)
 case neg=>
  left
  have h:=Cw (up (af l A) x (cE (af l A) x (af t B) y)) (up (af t B) y (cE (af l A) x (af t B) y)) (by rw[p8,p8];exact D);rw[p8,p8]at h;exact⟨D,h.1,h.2⟩
 right
 by_cases F:A.length=0
 ·have sa:=(aW I).2 F
  have sb:af t B=0:=by
   rw[sa,iX]at D;rcases Int.lt_trichotomy (af t B) 0 with h|h|h
   ·rw[dH h]at D;exact absurd D (by decide)
   ·exact h
   ·rw[dI h]at D;exact absurd D (by decide)
  have G:=(aW J).1 sb
  right
  refine⟨D,by unfold jw;rw[if_pos F,if_pos G],?_⟩;rw[sa,sb,zx F,zy G];refine⟨fL _ _ _ (by rw[gt];exact j5) (by decide),fL _ _ _ (by rw[gt];exact j5) (by decide),?_,by simp[cE]⟩;unfold nK
  simp[gt]
 have Q:af l A≠0:=fun e=>F ((aW I).1 e)
 have U:af t B≠0:=fun e=>by
  rw[e,iX]at D;rcases Int.lt_trichotomy (af l A) 0 with h|h|h
  ·rw[dH h]at D;exact absurd D (by decide)
  ·exact Q h
  ·rw[dI h]at D;exact absurd D (by decide)
 have G:B.length≠0:=fun e=>U ((aW J).2 e)
 have H:l=t/\iw (af l A)=if l then-1 else 1:=by
  have K:=mM I;have Z:=mM J;unfold jv at K Z;rw[if_neg F]at K;rw[if_neg G]at Z;refine⟨?_,K.symm⟩;rw[<-K,<-Z]at D
  cases l<;>cases t<;>first|rfl|exact absurd D (by decide)
 have tA:jw A x=fH A+x:=by unfold jw;rw[if_neg F]
 have tB:jw B y=fH B+y:=by unfold jw;rw[if_neg G]
 rw[tA,tB];rcases Int.lt_trichotomy (fH A+x) (fH B+y)with h|h|h
 ·left
  have L:=(tQ fA M I J F G H.1 h).1;refine⟨D,if l then-1 else 1,-1,?_,.inr ⟨rfl,h⟩,H.2,fk h,?_⟩
  ·cases l<;>simp
  ·rw[L];cases l<;>rfl
 ·right
  have hf:=Fh fA M I J F G h;refine⟨D,h,hf.1,hf.2,?_,j7 _ _ _ _ Q U⟩;unfold nK;rw[j7 _ _ _ _ Q U]
 ·left
  have L:=(tQ M fA J I G F H.1.symm h).2;rw[<-H.1]at L;refine⟨D,if l then-1 else 1,1,?_,.inl ⟨rfl,h⟩,H.2,gR h,?_⟩
  ·cases l<;>simp
  ·rw[H.1,<-H.1,L];cases l<;>rfl
theorem JC{neg:Bool}{L:H3}{m:Int}(D:cL L)(l:neg=decide (m<0))(t:aj L=m.natAbs):yP neg L.length=iw m:=by
 unfold yP;rcases Int.lt_trichotomy m 0 with h|h|h
 ·rw[l,decide_eq_true h,if_pos rfl,dH h]
 ·subst h
  have:L= []:=(aY L D).1 (by rw[t];rfl);rw[l,this];rfl
 ·have F:L.length≠0:=fun e=>by
   have:L= []:=List.length_eq_zero_iff.1 e;rw[this]at t;simp[aj]at t;omega
  rw[l,decide_eq_false (by omega),if_neg (by decide),if_neg F,dI h]
theorem A1(z:Int):iw (oM z)=iw z:=by
 by_cases h:z=0
 ·subst h;rw[bj]
 ·have:=(gN z h).1
  conv=>rhs;rw[this]
  rw[j8]
theorem qY(n:Bool)(k:Nat):jv n k= -1\/jv n k=0\/jv n k=1:=by
 unfold jv
 split
 ·exact .inr (.inl rfl)
 ·cases n
  ·exact .inr (.inr rfl)
  ·exact .inl rfl
theorem uB(G H:Bool)(ao K:GY)(L M:Nat)(A B:H3)(x y:Int)(w:World)(hA:ai w ao L A)(hB:ai w K M B)(a7:np G A x=true)(a9:np H B y=true):
  BS 33 #[.agg #[.bool G,.slice ao A.length L,C0 x],.agg #[.bool H,.slice K B.length M,C0 y]] w (C0 (nK (af G A) x (af H B) y)):=by
 have ax:=ac (Fi hA.2.1 hB.2.1 a7 a9);obtain⟨ra,la,bm,bn,zx⟩:=cS a7;obtain⟨rb,lb,bp,bq,zy⟩:=cS a9;have aI:=ac (fun t=>oL G ao L A.length x t);have a0:=ac (fun t=>oL H K M B.length y t);rw[Ff ra,<-mM ra]at aI;rw[Ff rb,<-mM rb]at a0;have a2:=ac (fun t h=>qN G ao L A x t h (by omega) (by omega));have a3:=ac (fun t h=>qN H K M B y t h (by omega) (by omega));have am:=ac (fun(aa:cE (af G A) x (af H B) y=min x y) (h1:gr (af G A) x (min x y)=0) (h2:gr (af H B) y (min x y)=0) t h h'=>qU G H ao K L M A B x y t h h' ra rb ⟨bm,bn⟩ ⟨bp,bq⟩ (by rw[qW,aa];exact h1) (by rw[qW,JA,aa];exact h2));have HZ:=ac (fun(aa:cE (af G A) x (af H B) y=min x y)=>show iw (oM (dW (af G A) x (-af H B) y))=bY (up (af G A) x (min x y)) (up (af H B) y (min x y)) by
  rw[A1,qX];unfold dW;rw[qW,aa,Fe,Int.sub_eq_add_neg])
 have a4:=ac (qY G A.length);have a6:=ac (qY H B.length);clear a7 a9 zx zy ra rb;generalize oE (dW (af G A) x (-af H B) y) (cE (af G A) x (-af H B) y)=oe at*;generalize oM (dW (af G A) x (-af H B) y)=om at*;generalize nK (af G A) x (af H B) y=cv at*;generalize gr (af G A) x (min x y)=ea at*;generalize gr (af H B) y (min x y)=eb at*;generalize up (af G A) x (min x y)=za at*;generalize up (af H B) y (min x y)=zb at*;generalize jw A x=ta at*;generalize jw B y=tb at*;generalize jv G A.length=bt at*;generalize jv H B.length=bv at*;generalize cE (af G A) x (af H B) y=l at*;have bc:H8 w ((w.alloc (.cells #[.bool G,.slice ao A.length L,C0 x] 35)).alloc (.cells #[.bool H,.slice K B.length M,C0 y] 35)):=((Below.refl _ _).alloc (Nat.le_refl _) _).alloc (by simp) _;have I:ar ((w.alloc (.cells #[.bool G,.slice ao A.length L,C0 x] 35)).alloc (.cells #[.bool H,.slice K B.length M,C0 y] 35)) w.heap.size (.bool G) (.slice ao A.length L) (C0 x):=(ar.new _ _ _ _).old _;have J:ar ((w.alloc (.cells #[.bool G,.slice ao A.length L,C0 x] 35)).alloc (.cells #[.bool H,.slice K B.length M,C0 y] 35)) (w.heap.size+1) (.bool H) (.slice K B.length M) (C0 y):=by
  have:=ar.new (w.alloc (.cells #[.bool G,.slice ao A.length L,C0 x] 35)) (.bool H) (.slice K B.length M) (C0 y)
  simpa using this
 have B0:=ac bc;have N:=ac I;have O:=ac J;clear bc I J;rcases uH ax with⟨ba,_,hc⟩|⟨ap,s,c,hs,hc,rfl,br,ae⟩|⟨ap,bs,h1,h2,ae,aa⟩
 ·clear ax a2 a3 am HZ
  rcases uH a4 with rfl|rfl|rfl<;>rcases uH a6 with rfl|rfl|rfl
  all_goals first|exact absurd rfl ba|skip
  all_goals
   have ae:cv=_:=hc.symm;clear ba hc a4 a6;simp only[show min (1:Int) (max (-1) (-1-0))= -1 by decide,show min (1:Int) (max (-1) (-1-1))= -1 by decide,show min (1:Int) (max (-1) (0- -1))=1 by decide,show min (1:Int) (max (-1) (0-1))= -1 by decide,show min (1:Int) (max (-1) (1- -1))=1 by decide,show min (1:Int) (max (-1) (1-0))=1 by decide]at ae;subst ae
   go_enter Tryz.func33,Tryz.ntmps33
   go_wp2_with fail;refine aB (fun W=>H8 w W/\ar W w.heap.size (.bool G) (.slice ao A.length L) (C0 x)/\ar W (w.heap.size+1) (.bool H) (.slice K B.length M) (C0 y)) ⟨uH B0,uH N,uH O⟩ ?_;clear B0 N O;rintro F ⟨U,I,J⟩;have hK:∀t,H8 F t->H8 F t/\t.cell? ⟨w.heap.size,0,none⟩=some (.bool G)/\t.cell? ⟨w.heap.size,1,none⟩=some (.slice ao A.length L)/\t.cell? ⟨w.heap.size,2,none⟩=some (C0 x)/\t.cell? ⟨w.heap.size+1,0,none⟩=some (.bool H)/\t.cell? ⟨w.heap.size+1,1,none⟩=some (.slice K B.length M)/\t.cell? ⟨w.heap.size+1,2,none⟩=some (C0 y):=fun t h=>
    ⟨h,(I.all h).c0,(I.all h).c1,(I.all h).c2,(J.all h).c0,(J.all h).c1,(J.all h).c2⟩
   have HK:=ac hK;have HA:=ac (hA.below U);have HB:=ac (hB.below U);have BB:=ac U;have N:=ac I;have O:=ac J;clear hK U I J
   go_region_held3(fun t=>H8 F t/\t.cell? ⟨w.heap.size,0,none⟩=some (.bool G)/\t.cell? ⟨w.heap.size,1,none⟩=some (.slice ao A.length L)/\t.cell? ⟨w.heap.size,2,none⟩=some (C0 x)/\t.cell? ⟨w.heap.size+1,0,none⟩=some (.bool H)/\t.cell? ⟨w.heap.size+1,1,none⟩=some (.slice K B.length M)/\t.cell? ⟨w.heap.size+1,2,none⟩=some (C0 y))
    (first|exact uH HK _ (Below.refl _ _).drew|exact uH HK _ (by assumption))
    (first|(go_at_call_of 68 (Value.agg #[.bool G,.slice ao A.length L,C0 x]);refine(uH aI _).mono ?_;rintro e Q ⟨rfl,D⟩;have Z:H8 F Q:=Below.trans (And.left (by assumption)) (D.mono (Below.size (And.left (by assumption))));clear D)|(go_at_call_of 68 (Value.agg #[.bool H,.slice K B.length M,C0 y]);refine(uH a0 _).mono ?_;rintro e Q ⟨rfl,D⟩;have Z:H8 F Q:=Below.trans (And.left (by assumption)) (D.mono (Below.size (And.left (by assumption))));clear D))
   go_wp2_with fail;have hn:H8 F Q:=And.left (by assumption);have b9:=(uH BB).trans (hn.mono (uH BB).size);have x9:=(uH N).all hn;have y9:=(uH O).all hn;clear HK HA HB BB N O hn;have B0:=ac b9;have N:=ac x9;have O:=ac y9;clear b9 x9 y9;refine aB (fun W=>H8 w W/\ar W w.heap.size (.bool G) (.slice ao A.length L) (C0 x)/\ar W (w.heap.size+1) (.bool H) (.slice K B.length M) (C0 y)) ⟨uH B0,uH N,uH O⟩ ?_;clear B0 N O;rintro F ⟨U,I,J⟩;have hK:∀t,H8 F t->H8 F t/\t.cell? ⟨w.heap.size,0,none⟩=some (.bool G)/\t.cell? ⟨w.heap.size,1,none⟩=some (.slice ao A.length L)/\t.cell? ⟨w.heap.size,2,none⟩=some (C0 x)/\t.cell? ⟨w.heap.size+1,0,none⟩=some (.bool H)/\t.cell? ⟨w.heap.size+1,1,none⟩=some (.slice K B.length M)/\t.cell? ⟨w.heap.size+1,2,none⟩=some (C0 y):=fun t h=>
    ⟨h,(I.all h).c0,(I.all h).c1,(I.all h).c2,(J.all h).c0,(J.all h).c1,(J.all h).c2⟩
   have HK:=ac hK;have HA:=ac (hA.below U);have HB:=ac (hB.below U);have BB:=ac U;have N:=ac I;have O:=ac J;clear hK U I J
   go_region_held3(fun t=>H8 F t/\t.cell? ⟨w.heap.size,0,none⟩=some (.bool G)/\t.cell? ⟨w.heap.size,1,none⟩=some (.slice ao A.length L)/\t.cell? ⟨w.heap.size,2,none⟩=some (C0 x)/\t.cell? ⟨w.heap.size+1,0,none⟩=some (.bool H)/\t.cell? ⟨w.heap.size+1,1,none⟩=some (.slice K B.length M)/\t.cell? ⟨w.heap.size+1,2,none⟩=some (C0 y))
    (first|exact uH HK _ (Below.refl _ _).drew|exact uH HK _ (by assumption))
    (first|(go_at_call_of 68 (Value.agg #[.bool G,.slice ao A.length L,C0 x]);refine(uH aI _).mono ?_;rintro e Q ⟨rfl,D⟩;have Z:H8 F Q:=Below.trans (And.left (by assumption)) (D.mono (Below.size (And.left (by assumption))));clear D)|(go_at_call_of 68 (Value.agg #[.bool H,.slice K B.length M,C0 y]);refine(uH a0 _).mono ?_;rintro e Q ⟨rfl,D⟩;have Z:H8 F Q:=Below.trans (And.left (by assumption)) (D.mono (Below.size (And.left (by assumption))));clear D))
   go_wp2
   go_ret
   exact⟨rfl,(uH BB).trans (Below.mono (And.left (by assumption)) (uH BB).size)⟩
 ·subst ap
  have bd:=ac ae;clear ax am HZ a4 a6 br ae;rcases hs with rfl|rfl
  all_goals
   rcases hc with⟨rfl,ht⟩|⟨rfl,ht⟩
  all_goals
   have ae:=uH bd;simp only[show(1:Int)*1=1 by decide,show(1:Int)* -1= -1 by decide,show(-1:Int)*1= -1 by decide,show(-1:Int)* -1=1 by decide]at ae;subst ae;have ba:(ta != tb)=true:=by rw[bne_iff_ne];omega
   first|(have g:decide (tb<ta)=true:=decide_eq_true (by omega))|(have g:decide (tb<ta)=false:=decide_eq_false (by omega))
   clear bd
   go_enter Tryz.func33,Tryz.ntmps33
   go_wp2_with fail;refine aB (fun W=>H8 w W/\ar W w.heap.size (.bool G) (.slice ao A.length L) (C0 x)/\ar W (w.heap.size+1) (.bool H) (.slice K B.length M) (C0 y)) ⟨uH B0,uH N,uH O⟩ ?_;clear B0 N O;rintro F ⟨U,I,J⟩;have hK:∀t,H8 F t->H8 F t/\t.cell? ⟨w.heap.size,0,none⟩=some (.bool G)/\t.cell? ⟨w.heap.size,1,none⟩=some (.slice ao A.length L)/\t.cell? ⟨w.heap.size,2,none⟩=some (C0 x)/\t.cell? ⟨w.heap.size+1,0,none⟩=some (.bool H)/\t.cell? ⟨w.heap.size+1,1,none⟩=some (.slice K B.length M)/\t.cell? ⟨w.heap.size+1,2,none⟩=some (C0 y):=fun t h=>
    ⟨h,(I.all h).c0,(I.all h).c1,(I.all h).c2,(J.all h).c0,(J.all h).c1,(J.all h).c2⟩
   have HK:=ac hK;have HA:=ac (hA.below U);have HB:=ac (hB.below U);have BB:=ac U;have N:=ac I;have O:=ac J;clear hK U I J
   go_region_held3(fun t=>H8 F t/\t.cell? ⟨w.heap.size,0,none⟩=some (.bool G)/\t.cell? ⟨w.heap.size,1,none⟩=some (.slice ao A.length L)/\t.cell? ⟨w.heap.size,2,none⟩=some (C0 x)/\t.cell? ⟨w.heap.size+1,0,none⟩=some (.bool H)/\t.cell? ⟨w.heap.size+1,1,none⟩=some (.slice K B.length M)/\t.cell? ⟨w.heap.size+1,2,none⟩=some (C0 y))
    (first|exact uH HK _ (Below.refl _ _).drew|exact uH HK _ (by assumption))
    (first|(go_at_call_of 68 (Value.agg #[.bool G,.slice ao A.length L,C0 x]);refine(uH aI _).mono ?_;rintro e Q ⟨rfl,D⟩;have Z:H8 F Q:=Below.trans (And.left (by assumption)) (D.mono (Below.size (And.left (by assumption))));clear D)|(go_at_call_of 68 (Value.agg #[.bool H,.slice K B.length M,C0 y]);refine(uH a0 _).mono ?_;rintro e Q ⟨rfl,D⟩;have Z:H8 F Q:=Below.trans (And.left (by assumption)) (D.mono (Below.size (And.left (by assumption))));clear D))
   go_wp2_with fail;have hn:H8 F Q:=And.left (by assumption);have b9:=(uH BB).trans (hn.mono (uH BB).size);have x9:=(uH N).all hn;have y9:=(uH O).all hn;clear HK HA HB BB N O hn;have B0:=ac b9;have N:=ac x9;have O:=ac y9;clear b9 x9 y9;refine aB (fun W=>H8 w W/\ar W w.heap.size (.bool G) (.slice ao A.length L) (C0 x)/\ar W (w.heap.size+1) (.bool H) (.slice K B.length M) (C0 y)) ⟨uH B0,uH N,uH O⟩ ?_;clear B0 N O;rintro F ⟨U,I,J⟩;have hK:∀t,H8 F t->H8 F t/\t.cell? ⟨w.heap.size,0,none⟩=some (.bool G)/\t.cell? ⟨w.heap.size,1,none⟩=some (.slice ao A.length L)/\t.cell? ⟨w.heap.size,2,none⟩=some (C0 x)/\t.cell? ⟨w.heap.size+1,0,none⟩=some (.bool H)/\t.cell? ⟨w.heap.size+1,1,none⟩=some (.slice K B.length M)/\t.cell? ⟨w.heap.size+1,2,none⟩=some (C0 y):=fun t h=>
    ⟨h,(I.all h).c0,(I.all h).c1,(I.all h).c2,(J.all h).c0,(J.all h).c1,(J.all h).c2⟩
   have HK:=ac hK;have HA:=ac (hA.below U);have HB:=ac (hB.below U);have BB:=ac U;have N:=ac I;have O:=ac J;clear hK U I J
   go_region_held3(fun t=>H8 F t/\t.cell? ⟨w.heap.size,0,none⟩=some (.bool G)/\t.cell? ⟨w.heap.size,1,none⟩=some (.slice ao A.length L)/\t.cell? ⟨w.heap.size,2,none⟩=some (C0 x)/\t.cell? ⟨w.heap.size+1,0,none⟩=some (.bool H)/\t.cell? ⟨w.heap.size+1,1,none⟩=some (.slice K B.length M)/\t.cell? ⟨w.heap.size+1,2,none⟩=some (C0 y))
    (first|exact uH HK _ (Below.refl _ _).drew|exact uH HK _ (by assumption))
    (first|(go_at_call_of 69 (Value.agg #[.bool G,.slice ao A.length L,C0 x]);refine(uH a2 _ ((uH HA).below (And.left (by assumption)))).mono ?_;rintro e Q ⟨rfl,D⟩;have Z:H8 F Q:=Below.trans (And.left (by assumption)) (D.mono (Below.size (And.left (by assumption))));clear D)|(go_at_call_of 69 (Value.agg #[.bool H,.slice K B.length M,C0 y]);refine(uH a3 _ ((uH HB).below (And.left (by assumption)))).mono ?_;rintro e Q ⟨rfl,D⟩;have Z:H8 F Q:=Below.trans (And.left (by assumption)) (D.mono (Below.size (And.left (by assumption))));clear D))
   go_wp2_with fail;have hn:H8 F Q:=And.left (by assumption);have b9:=(uH BB).trans (hn.mono (uH BB).size);have x9:=(uH N).all hn;have y9:=(uH O).all hn;clear HK HA HB BB N O hn;have B0:=ac b9;have N:=ac x9;have O:=ac y9;clear b9 x9 y9;refine aB (fun W=>H8 w W/\ar W w.heap.size (.bool G) (.slice ao A.length L) (C0 x)/\ar W (w.heap.size+1) (.bool H) (.slice K B.length M) (C0 y)) ⟨uH B0,uH N,uH O⟩ ?_;clear B0 N O;rintro F ⟨U,I,J⟩;have hK:∀t,H8 F t->H8 F t/\t.cell? ⟨w.heap.size,0,none⟩=some (.bool G)/\t.cell? ⟨w.heap.size,1,none⟩=some (.slice ao A.length L)/\t.cell? ⟨w.heap.size,2,none⟩=some (C0 x)/\t.cell? ⟨w.heap.size+1,0,none⟩=some (.bool H)/\t.cell? ⟨w.heap.size+1,1,none⟩=some (.slice K B.length M)/\t.cell? ⟨w.heap.size+1,2,none⟩=some (C0 y):=fun t h=>
    ⟨h,(I.all h).c0,(I.all h).c1,(I.all h).c2,(J.all h).c0,(J.all h).c1,(J.all h).c2⟩
   have HK:=ac hK;have HA:=ac (hA.below U);have HB:=ac (hB.below U);have BB:=ac U;have N:=ac I;have O:=ac J;clear hK U I J
   go_region_held3(fun t=>H8 F t/\t.cell? ⟨w.heap.size,0,none⟩=some (.bool G)/\t.cell? ⟨w.heap.size,1,none⟩=some (.slice ao A.length L)/\t.cell? ⟨w.heap.size,2,none⟩=some (C0 x)/\t.cell? ⟨w.heap.size+1,0,none⟩=some (.bool H)/\t.cell? ⟨w.heap.size+1,1,none⟩=some (.slice K B.length M)/\t.cell? ⟨w.heap.size+1,2,none⟩=some (C0 y))
    (first|exact uH HK _ (Below.refl _ _).drew|exact uH HK _ (by assumption))
    (first|(go_at_call_of 69 (Value.agg #[.bool G,.slice ao A.length L,C0 x]);refine(uH a2 _ ((uH HA).below (And.left (by assumption)))).mono ?_;rintro e Q ⟨rfl,D⟩;have Z:H8 F Q:=Below.trans (And.left (by assumption)) (D.mono (Below.size (And.left (by assumption))));clear D)|(go_at_call_of 69 (Value.agg #[.bool H,.slice K B.length M,C0 y]);refine(uH a3 _ ((uH HB).below (And.left (by assumption)))).mono ?_;rintro e Q ⟨rfl,D⟩;have Z:H8 F Q:=Below.trans (And.left (by assumption)) (D.mono (Below.size (And.left (by assumption))));clear D)|(go_at_call_of 68 (Value.agg #[.bool G,.slice ao A.length L,C0 x]);refine(uH aI _).mono ?_;rintro e Q ⟨rfl,D⟩;have Z:H8 F Q:=Below.trans (And.left (by assumption)) (D.mono (Below.size (And.left (by assumption))));clear D)|(go_at_call_of 68 (Value.agg #[.bool H,.slice K B.length M,C0 y]);refine(uH a0 _).mono ?_;rintro e Q ⟨rfl,D⟩;have Z:H8 F Q:=Below.trans (And.left (by assumption)) (D.mono (Below.size (And.left (by assumption))));clear D))
   go_wp2
   go_ret
   exact⟨rfl,(uH BB).trans (Below.mono (And.left (by assumption)) (uH BB).size)⟩
 ·subst ap
  subst bs;have hz:=uH HZ aa;rw[ae]at hz;have bi:=ac hz;have a1:=ac (uH am aa h1 h2);have am:=a1;clear ax a4 a6 HZ aa h1 h2 ae hz a1
  go_enter Tryz.func33,Tryz.ntmps33
  go_wp2_with fail;refine aB (fun W=>H8 w W/\ar W w.heap.size (.bool G) (.slice ao A.length L) (C0 x)/\ar W (w.heap.size+1) (.bool H) (.slice K B.length M) (C0 y)) ⟨uH B0,uH N,uH O⟩ ?_;clear B0 N O;rintro F ⟨U,I,J⟩;have hK:∀t,H8 F t->H8 F t/\t.cell? ⟨w.heap.size,0,none⟩=some (.bool G)/\t.cell? ⟨w.heap.size,1,none⟩=some (.slice ao A.length L)/\t.cell? ⟨w.heap.size,2,none⟩=some (C0 x)/\t.cell? ⟨w.heap.size+1,0,none⟩=some (.bool H)/\t.cell? ⟨w.heap.size+1,1,none⟩=some (.slice K B.length M)/\t.cell? ⟨w.heap.size+1,2,none⟩=some (C0 y):=fun t h=>
   ⟨h,(I.all h).c0,(I.all h).c1,(I.all h).c2,(J.all h).c0,(J.all h).c1,(J.all h).c2⟩
  have HK:=ac hK;have HA:=ac (hA.below U);have HB:=ac (hB.below U);have BB:=ac U;have N:=ac I;have O:=ac J;clear hK U I J
  go_region_held3(fun t=>H8 F t/\t.cell? ⟨w.heap.size,0,none⟩=some (.bool G)/\t.cell? ⟨w.heap.size,1,none⟩=some (.slice ao A.length L)/\t.cell? ⟨w.heap.size,2,none⟩=some (C0 x)/\t.cell? ⟨w.heap.size+1,0,none⟩=some (.bool H)/\t.cell? ⟨w.heap.size+1,1,none⟩=some (.slice K B.length M)/\t.cell? ⟨w.heap.size+1,2,none⟩=some (C0 y))
   (first|exact uH HK _ (Below.refl _ _).drew|exact uH HK _ (by assumption))
   (first|(go_at_call_of 68 (Value.agg #[.bool G,.slice ao A.length L,C0 x]);refine(uH aI _).mono ?_;rintro e Q ⟨rfl,D⟩;have Z:H8 F Q:=Below.trans (And.left (by assumption)) (D.mono (Below.size (And.left (by assumption))));clear D)|(go_at_call_of 68 (Value.agg #[.bool H,.slice K B.length M,C0 y]);refine(uH a0 _).mono ?_;rintro e Q ⟨rfl,D⟩;have Z:H8 F Q:=Below.trans (And.left (by assumption)) (D.mono (Below.size (And.left (by assumption))));clear D))
  go_wp2_with fail;have hn:H8 F Q:=And.left (by assumption);have b9:=(uH BB).trans (hn.mono (uH BB).size);have x9:=(uH N).all hn;have y9:=(uH O).all hn;clear HK HA HB BB N O hn;have B0:=ac b9;have N:=ac x9;have O:=ac y9;clear b9 x9 y9;refine aB (fun W=>H8 w W/\ar W w.heap.size (.bool G) (.slice ao A.length L) (C0 x)/\ar W (w.heap.size+1) (.bool H) (.slice K B.length M) (C0 y)) ⟨uH B0,uH N,uH O⟩ ?_;clear B0 N O;rintro F ⟨U,I,J⟩;have hK:∀t,H8 F t->H8 F t/\t.cell? ⟨w.heap.size,0,none⟩=some (.bool G)/\t.cell? ⟨w.heap.size,1,none⟩=some (.slice ao A.length L)/\t.cell? ⟨w.heap.size,2,none⟩=some (C0 x)/\t.cell? ⟨w.heap.size+1,0,none⟩=some (.bool H)/\t.cell? ⟨w.heap.size+1,1,none⟩=some (.slice K B.length M)/\t.cell? ⟨w.heap.size+1,2,none⟩=some (C0 y):=fun t h=>
   ⟨h,(I.all h).c0,(I.all h).c1,(I.all h).c2,(J.all h).c0,(J.all h).c1,(J.all h).c2⟩
  have HK:=ac hK;have HA:=ac (hA.below U);have HB:=ac (hB.below U);have BB:=ac U;have N:=ac I;have O:=ac J;clear hK U I J
  go_region_held3(fun t=>H8 F t/\t.cell? ⟨w.heap.size,0,none⟩=some (.bool G)/\t.cell? ⟨w.heap.size,1,none⟩=some (.slice ao A.length L)/\t.cell? ⟨w.heap.size,2,none⟩=some (C0 x)/\t.cell? ⟨w.heap.size+1,0,none⟩=some (.bool H)/\t.cell? ⟨w.heap.size+1,1,none⟩=some (.slice K B.length M)/\t.cell? ⟨w.heap.size+1,2,none⟩=some (C0 y))
   (first|exact uH HK _ (Below.refl _ _).drew|exact uH HK _ (by assumption))
   (first|(go_at_call_of 69 (Value.agg #[.bool G,.slice ao A.length L,C0 x]);refine(uH a2 _ ((uH HA).below (And.left (by assumption)))).mono ?_;rintro e Q ⟨rfl,D⟩;have Z:H8 F Q:=Below.trans (And.left (by assumption)) (D.mono (Below.size (And.left (by assumption))));clear D)|(go_at_call_of 69 (Value.agg #[.bool H,.slice K B.length M,C0 y]);refine(uH a3 _ ((uH HB).below (And.left (by assumption)))).mono ?_;rintro e Q ⟨rfl,D⟩;have Z:H8 F Q:=Below.trans (And.left (by assumption)) (D.mono (Below.size (And.left (by assumption))));clear D))
  go_wp2_with fail;have hn:H8 F Q:=And.left (by assumption);have b9:=(uH BB).trans (hn.mono (uH BB).size);have x9:=(uH N).all hn;have y9:=(uH O).all hn;clear HK HA HB BB N O hn;have B0:=ac b9;have N:=ac x9;have O:=ac y9;clear b9 x9 y9;refine(uH am _ (hA.below (uH B0)) (hB.below (uH B0))).mono ?_;rintro r w5 ⟨u,rfl,iu,D⟩;obtain⟨n5,a5,c5,L5,rfl,q1,q2,q3,q4,q5⟩:=iu.parts;have bb:=JC q2 q3 q4;rw[uH bi]at bb;have be:=ac (fun t=>oL n5 a5 c5 L5.length oe t);rw[bb]at be;have B1:=ac ((uH B0).trans (D.mono (uH B0).size));clear q1 q2 q3 q4 q5 iu D bb
  go_wp2_with(go_at_call 68;refine(uH be _).mono ?_;rintro r w6 ⟨rfl,D⟩)
  go_ret
  exact⟨rfl,(uH B1).trans (D.mono (uH B1).size)⟩
end Go.Proofs.YtcbcmlaogehimaaGreatDoor
