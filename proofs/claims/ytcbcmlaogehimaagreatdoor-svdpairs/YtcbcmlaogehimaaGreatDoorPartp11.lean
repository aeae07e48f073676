/- Part 11 of the texts. -/
import Derived.Test.YtcbcmlaogehimaaGreatDoorPartp10
set_option maxHeartbeats 4000000
namespace Go.Proofs.YtcbcmlaogehimaaGreatDoor
open Go.RowKit
attribute [local go_sem ↓] Go.wp_at_zero Go.wp_at_succ
theorem uc(n m:Nat)(x y:Int)(d:-16384≤x∧x≤16384)(h:-16384≤y∧y≤16384):-16384≤mH n m x y∧mH n m x y≤16384:=by
 unfold mH
 split
 ·omega
 ·split<;>omega
theorem qP(d:Bool)(D:Option Addr)(F:Nat)(A:List Nat)(x l:Int)(w:World)(hA:ag w D F A)(J:aw d A=true)(h:A.length≠0→l≤x∧x-l≤16384)(hx:-16384≤x∧x≤16384)(hl:-16384≤l∧l≤16384):
  Calls Tryz.prog 57 #[.agg #[.bool d,.slice D A.length F,.int .i64 x],.int .i64 l] w fun r G=>∃v,r=.returned v∧au 0 G v (up (af d A) x l)∧Below w.heap.size w G:=by
 have la:=(ay J).1
 have Q:=ac (show A.length=0→up (af d A) x l=0∧d=false from fun u=>by
  refine⟨by rw[(aS J).2 u,ei],?_⟩
  cases d
  ·rfl
  ·exact absurd (List.length_eq_zero_iff.1 u) ((ay J).2.2 rfl))
 have U:=ac (fun G O (u:A.length≠0)=>show Calls Tryz.prog 111 #[.agg #[.bool d,.slice D A.length F],.int .i64 (x-l)] G fun e K=>∃v,e=.returned v∧au 0 K v (up (af d A) x l)∧Below G.heap.size G K by
  have:=rC d D F A (x-l) G O J (by have:=h u;omega)
  rwa[tW d A (x-l) (by have:=h u;omega)]at this)
 clear h J
 generalize up (af d A) x l=z at*
 obtain⟨ae,ah⟩:=hx
 obtain⟨am,an⟩:=hl
 have L:Below w.heap.size w ((w.alloc (.cells #[.bool d,.slice D A.length F,.int .i64 x] 35)).alloc (.cells #[.bool false,.slice none 0 0] 33)):=((Below.refl _ _).alloc (Nat.le_refl _) _).alloc (by simp) _
 have x0:al ((w.alloc (.cells #[.bool d,.slice D A.length F,.int .i64 x] 35)).alloc (.cells #[.bool false,.slice none 0 0] 33)) w.heap.size (.bool d) (.slice D A.length F) (.int .i64 x):=(al.new _ _ _ _).old _
 have H:aB ((w.alloc (.cells #[.bool d,.slice D A.length F,.int .i64 x] 35)).alloc (.cells #[.bool false,.slice none 0 0] 33)) (w.heap.size+1) (.bool false) (.slice none 0 0):=by
  have:=aB.new (w.alloc (.cells #[.bool d,.slice D A.length F,.int .i64 x] 35)) (.bool false) (.slice none 0 0)
  simpa using this
 have X:=ac L;have X0:=ac x0;have X2:=ac H
 clear L x0 H
 by_cases u:A.length=0
 ·obtain⟨rfl,rfl⟩:=uH Q u
  have Y:A= []:=List.length_eq_zero_iff.1 u
  subst Y
  clear Q U u
  go_enter Tryz.func57,Tryz.ntmps57
  go_wp2
  refine bodyPost_ret (v:=.agg #[.bool false,.slice D 0 F]) (by simp[results,Tryz.results57,go_sem]) rfl ⟨_,rfl,au.zero _ _ _ _,?_⟩
  exact((Below.refl w.heap.size w).alloc (Nat.le_refl _) _).alloc (by simp) _
 have aa:((A.length:Int)==0)=false:=by rw[beq_eq_false_iff_ne];omega
 have Z:=ac (fun G O=>uH U G O u)
 clear Q U u
 go_enter Tryz.func57,Tryz.ntmps57
 go_wp2_with fail
 refine(uH Z _ (hA.below (uH X))).mono ?_
 rintro r w2 ⟨v,rfl,⟨n3,a3,c3,L3,rfl,i3⟩,I⟩
 have H:=(uH X2).all I
 have b2:=(uH X).trans (I.mono (uH X).size)
 have y0:=H.c0;have y1:=H.c1;have f0:=H.free 0;have f1:=H.free 1
 have X3:=ac H;have B2:=ac b2;have I3:=ac i3
 clear H b2 I i3
 go_wp2
 refine bodyPost_ret (v:=.agg #[.bool n3,.slice a3 L3.length c3]) (by simp[results,Tryz.results57,go_sem,y0,y1]) rfl ⟨_,rfl,⟨n3,a3,c3,L3,rfl,(uH I3).1.box (uH X3) _ _,(uH I3).2⟩,bZ (uH B2) (by omega) _ _⟩
theorem Ck(u:Bool)(D:Option Addr)(F:Nat)(A:List Nat)(x:Int)(w:World)(hA:ag w D F A)(la:A.length≤512):
  Calls Tryz.prog 112 #[.agg #[.bool u,.slice D A.length F,.int .i64 x]] w fun r d=>∃v,r=.returned v∧aC d v (-af u A) x∧Below w.heap.size w d:=by
 have CN:=ac (fun d h=>oK u D F A d h (by omega))
 generalize-af u A=z at*
 have L:Below w.heap.size w ((w.alloc (.cells #[.bool u,.slice D A.length F,.int .i64 x] 35)).alloc (.cells #[.bool false,.slice none 0 0,.int .i64 0] 35)):=((Below.refl _ _).alloc (Nat.le_refl _) _).alloc (by simp) _
 have H:al ((w.alloc (.cells #[.bool u,.slice D A.length F,.int .i64 x] 35)).alloc (.cells #[.bool false,.slice none 0 0,.int .i64 0] 35)) w.heap.size (.bool u) (.slice D A.length F) (.int .i64 x):=(al.new _ _ _ _).old _
 have K:al ((w.alloc (.cells #[.bool u,.slice D A.length F,.int .i64 x] 35)).alloc (.cells #[.bool false,.slice none 0 0,.int .i64 0] 35)) (w.heap.size+1) (.bool false) (.slice none 0 0) (.int .i64 0):=by
  have:=al.new (w.alloc (.cells #[.bool u,.slice D A.length F,.int .i64 x] 35)) (.bool false) (.slice none 0 0) (.int .i64 0)
  simpa using this
 have B0:=ac L;have X0:=ac H;have X2:=ac K
 clear L H K
 go_enter Tryz.func112,Tryz.ntmps112
 go_wp2_with fail
 refine ap (fun W=>Below w.heap.size w W∧al W w.heap.size (.bool u) (.slice D A.length F) (.int .i64 x)∧al W (w.heap.size+1) (.bool false) (.slice none 0 0) (.int .i64 0)) ⟨uH B0,uH X0,uH X2⟩ ?_
 clear B0 X0 X2
 rintro Q ⟨b0,H,K⟩
 have s0:w.heap.size+1<Q.heap.size:=K.lt
 have hK:∀d,Below (w.heap.size+1) Q d→Below (w.heap.size+1) Q d∧d.cell? ⟨w.heap.size,0,none⟩=some (.bool u)∧d.cell? ⟨w.heap.size,1,none⟩=some (.slice D A.length F)∧d.cell? ⟨w.heap.size,2,none⟩=some (.int .i64 x):=fun d h=>
  ⟨h,(H.below h (by omega)).c0,(H.below h (by omega)).c1,(H.below h (by omega)).c2⟩
 have HK:=ac hK;have BB:=ac b0;have X2:=ac K
 clear hK b0 H K
 go_region_held3(fun d=>Below (w.heap.size+1) Q d∧d.cell? ⟨w.heap.size,0,none⟩=some (.bool u)∧d.cell? ⟨w.heap.size,1,none⟩=some (.slice D A.length F)∧d.cell? ⟨w.heap.size,2,none⟩=some (.int .i64 x))
  (first|exact uH HK _ (Below.refl _ _).drew|exact uH HK _ (by assumption)|exact uH HK _ (aD O (by omega) _ _ _))
  (first|(go_at_call 116;refine(uH CN _ (hA.below ((uH BB).trans ((Below.refl _ _).drew)))).mono ?_;rintro e w3 ⟨v,rfl,⟨U,X,Y,Z,rfl,I⟩,J⟩;have O:Below (w.heap.size+1) Q w3:=((Below.refl _ _).drew).trans (J.mono (by simp;omega));have G:=((uH X2).drew.below J (by simp;omega));have IZ:=ac (show au 0 w3 (.agg #[.bool U,.slice X Z.length Y]) z from⟨U,X,Y,Z,rfl,I.1,I.2.1,I.2.2.1,I.2.2.2.1,I.2.2.2.2.1,by have:=I.2.2.2.2.2;omega⟩);have y0:=G.c0;have y1:=G.c1;have y2:=G.c2;have f0:=G.free 0;have f1:=G.free 1;have f2:=G.free 2;have X5:=ac G;have aa:=ac ((uH BB).trans (O.mono (by omega)));clear J I G))
 go_wp2
 have j2:aC w3 (.agg #[.bool U,.slice X Z.length Y,.int .i64 x]) z x:=⟨U,X,Y,Z,rfl,uH IZ⟩
 refine bodyPost_ret (v:=.agg #[.bool U,.slice X Z.length Y,.int .i64 x]) (by simp[results,Tryz.results112,go_sem,y0,y1,y2]) rfl ⟨_,rfl,j2.put3 (uH X5) _ _ _,aD (uH aa) (by omega) _ _ _⟩
theorem wH{B h:Nat}{w:World}{v u:Value}{x y:Int}(z:au B w v x)(D:au h w u y)(F:x.natAbs<du)(G:y.natAbs<du):
  Calls Tryz.prog 56 #[v,u] w fun e d=>∃r,e=.returned r∧aJ 513 w.heap.size d r (x+y)∧Below w.heap.size w d:=by
 obtain⟨K,L,O,A,rfl,Q,a2,U,a4⟩:=z.right F
 obtain⟨X,Y,Z,C,rfl,b1,b2,b3,b4⟩:=D.right G
 have:=wt K X L Y O Z A C w Q b1 (by omega) (by omega)
 rw[U,b3]at this
 exact this.mono fun e d ⟨r,H,I,J⟩=>⟨r,H,I.more (by omega),J⟩
theorem Cl{s x l:Int}(h:eh s x l=0):x-l≤16384:=by
 unfold eh at h
 by_cases d:(up s x l).natAbs<du∧x-l≤16384
 ·exact d.2
 ·rw[if_neg d]at h;exact absurd h (by decide)
theorem oX(D F:Bool)(H I:Option Addr)(J K:Nat)(A B:List Nat)(x y:Int)(w:World)(hA:ag w H J A)(hB:ag w I K B)(ra:aw D A=true)(rb:aw F B=true)(hx:-16384≤x∧x≤16384)(hy:-16384≤y∧y≤16384)(e1:eh (af D A) x (bP (af D A) x (af F B) y)=0)(e2:eh (af F B) y (bP (af D A) x (af F B) y)=0):
  Calls Tryz.prog 19 #[.agg #[.bool D,.slice H A.length J,.int .i64 x],.agg #[.bool F,.slice I B.length K,.int .i64 y]] w fun r d=>∃v,r=.returned v∧aC d v (oM (cV (af D A) x (af F B) y)) (oE (cV (af D A) x (af F B) y) (bP (af D A) x (af F B) y))∧Below w.heap.size w d:=by
 have CL:=ac (fun d=>Gh D F H I J K A.length B.length x y d)
 have X:=uc A.length B.length x y hx hy
 rw[JC ra rb]at CL X
 have g1:A.length≠0→bP (af D A) x (af F B) y≤x:=fun h=>by
  unfold bP
  rw[if_neg (fun e=>h ((aS ra).1 e))]
  split<;>omega
 have g2:B.length≠0→bP (af D A) x (af F B) y≤y:=fun h=>by
  unfold bP
  split
  ·omega
  ·rw[if_neg (fun e=>h ((aS rb).1 e))];omega
 obtain⟨z,hz⟩:∃z,cV (af D A) x (af F B) y=z:=⟨_,rfl⟩
 have aa:z=up (af D A) x (bP (af D A) x (af F B) y)+up (af F B) y (bP (af D A) x (af F B) y):=by rw[←hz];rfl
 rw[hz]
 clear hz
 generalize bP (af D A) x (af F B) y=l at*
 have aI:=ac (fun d h=>qP D H J A x l d h ra (fun h0=>⟨g1 h0,Cl e1⟩) hx X)
 have a0:=ac (fun d h=>qP F I K B y l d h rb (fun h0=>⟨g2 h0,Cl e2⟩) hy X)
 have ae:=ac (fun d u v (iu:au 0 d u (up (af D A) x l)) (iv:au 0 d v (up (af F B) y l))=>wH iu iv (lk e1) (lk e2))
 rw[←aa]at ae
 have CO:=ac (fun d u B' (iu:aJ 513 B' d u z)=>f8 l iu (by decide) (by omega))
 clear ra rb e1 e2 aa g1 g2 hx hy
 generalize oE z l=ox at*
 generalize oM z=om at*
 generalize up (af D A) x l=za at*
 generalize up (af F B) y l=zb at*
 obtain⟨be,bg⟩:=X
 have ah:Below w.heap.size w (((w.alloc (.cells #[.bool D,.slice H A.length J,.int .i64 x] 35)).alloc (.cells #[.bool F,.slice I B.length K,.int .i64 y] 35)).alloc (.cells #[.bool false,.slice none 0 0,.int .i64 0] 35)):=
  (((Below.refl _ _).alloc (Nat.le_refl _) _).alloc (by simp) _).alloc (by simp;omega) _
 have Q:al (((w.alloc (.cells #[.bool D,.slice H A.length J,.int .i64 x] 35)).alloc (.cells #[.bool F,.slice I B.length K,.int .i64 y] 35)).alloc (.cells #[.bool false,.slice none 0 0,.int .i64 0] 35)) w.heap.size (.bool D) (.slice H A.length J) (.int .i64 x):=((al.new _ _ _ _).old _).old _
 have U:al (((w.alloc (.cells #[.bool D,.slice H A.length J,.int .i64 x] 35)).alloc (.cells #[.bool F,.slice I B.length K,.int .i64 y] 35)).alloc (.cells #[.bool false,.slice none 0 0,.int .i64 0] 35)) (w.heap.size+1) (.bool F) (.slice I B.length K) (.int .i64 y):=by
  have:=(al.new (w.alloc (.cells #[.bool D,.slice H A.length J,.int .i64 x] 35)) (.bool F) (.slice I B.length K) (.int .i64 y)).old (.cells #[.bool false,.slice none 0 0,.int .i64 0] 35)
  simpa using this
 have Y:al (((w.alloc (.cells #[.bool D,.slice H A.length J,.int .i64 x] 35)).alloc (.cells #[.bool F,.slice I B.length K,.int .i64 y] 35)).alloc (.cells #[.bool false,.slice none 0 0,.int .i64 0] 35)) (w.heap.size+1+1) (.bool false) (.slice none 0 0) (.int .i64 0):=by
  have:=al.new ((w.alloc (.cells #[.bool D,.slice H A.length J,.int .i64 x] 35)).alloc (.cells #[.bool F,.slice I B.length K,.int .i64 y] 35)) (.bool false) (.slice none 0 0) (.int .i64 0)
  simpa using this
 have B0:=ac ah;have X0:=ac Q;have X1:=ac U;have X2:=ac Y
 clear ah Q U Y
 go_enter Tryz.func19,Tryz.ntmps19
 go_wp2_with fail
 refine(uH CL _).mono ?_
 rintro r w1 ⟨rfl,G⟩
 have Q:=(uH X0).all G;have U:=(uH X1).all G;have Y:=(uH X2).all G
 have b1:=(uH B0).trans (G.mono (uH B0).size)
 have am:=ac Q;have an:=ac U;have ar:=ac Y;have B1:=ac b1
 clear G Q U Y b1 X0 X1 X2 B0 CL
 go_wp2_with fail
 refine ap (fun W=>Below w.heap.size w W∧al W w.heap.size (.bool D) (.slice H A.length J) (.int .i64 x)∧al W (w.heap.size+1) (.bool F) (.slice I B.length K) (.int .i64 y)∧al W (w.heap.size+1+1) (.bool false) (.slice none 0 0) (.int .i64 0)) ⟨uH B1,uH am,uH an,uH ar⟩ ?_
 clear B1 am an ar
 rintro W0 ⟨b0,Q,U,Y⟩
 have s0:w.heap.size+1+1<W0.heap.size:=Y.lt
 have hK:∀d,Below (w.heap.size+1+1) W0 d→Below (w.heap.size+1+1) W0 d∧d.cell? ⟨w.heap.size,0,none⟩=some (.bool D)∧d.cell? ⟨w.heap.size,1,none⟩=some (.slice H A.length J)∧d.cell? ⟨w.heap.size,2,none⟩=some (.int .i64 x)∧d.cell? ⟨w.heap.size+1,0,none⟩=some (.bool F)∧d.cell? ⟨w.heap.size+1,1,none⟩=some (.slice I B.length K)∧d.cell? ⟨w.heap.size+1,2,none⟩=some (.int .i64 y):=fun d h=>
  ⟨h,(Q.below h (by omega)).c0,(Q.below h (by omega)).c1,(Q.below h (by omega)).c2,(U.below h (by omega)).c0,(U.below h (by omega)).c1,(U.below h (by omega)).c2⟩
 have HK:=ac hK;have BB:=ac b0;have X2:=ac Y
 clear hK b0 Q U Y
 go_region_held3(fun d=>Below (w.heap.size+1+1) W0 d∧d.cell? ⟨w.heap.size,0,none⟩=some (.bool D)∧d.cell? ⟨w.heap.size,1,none⟩=some (.slice H A.length J)∧d.cell? ⟨w.heap.size,2,none⟩=some (.int .i64 x)∧d.cell? ⟨w.heap.size+1,0,none⟩=some (.bool F)∧d.cell? ⟨w.heap.size+1,1,none⟩=some (.slice I B.length K)∧d.cell? ⟨w.heap.size+1,2,none⟩=some (.int .i64 y))
  (first|exact uH HK _ (Below.refl _ _).drew|exact uH HK _ (by assumption)|exact uH HK _ (aD bb (by omega) _ _ _))
  (first|(go_at_call_of 57 (Value.agg #[.bool D,.slice H A.length J,.int .i64 x]);refine(uH aI _ (hA.below ((uH BB).trans ((Below.refl _ _).drew)))).mono ?_;rintro e w3 ⟨v,rfl,⟨n1,a1,c1,L1,rfl,i1⟩,G⟩;have ax:Below (w.heap.size+1+1) W0 w3:=((Below.refl _ _).drew).trans (G.mono (by simp;omega));have X3:=ac ((uH X2).drew.below G (by simp;omega));have IA:=ac (show au 0 w3 (.agg #[.bool n1,.slice a1 L1.length c1]) za from⟨n1,a1,c1,L1,rfl,i1⟩);have s1:w.heap.size+1+1<w3.heap.size:=(by have:=G.size;simp at this;omega);have az:=ac ((uH BB).trans (ax.mono (by omega)));clear G i1)|(go_at_call_of 57 (Value.agg #[.bool F,.slice I B.length K,.int .i64 y]);refine(uH a0 _ (hB.below (uH az))).mono ?_;rintro e w4 ⟨v,rfl,⟨n2,a2,c2,L2,rfl,i2⟩,L⟩;have a4:Below (w.heap.size+1+1) W0 w4:=ax.trans (L.mono (by omega));have X4:=ac ((uH X3).below L (by omega));have a6:=ac ((uH IA).below L);have IB:=ac (show au 0 w4 (.agg #[.bool n2,.slice a2 L2.length c2]) zb from⟨n2,a2,c2,L2,rfl,i2⟩);have s2:w.heap.size+1+1<w4.heap.size:=(by have:=L.size;omega);have a7:=ac ((uH az).trans (L.mono (by omega)));clear L i2)|(go_at_call 56;refine(uH ae _ _ _ (uH a6) (uH IB)).mono ?_;rintro e w5 ⟨v,rfl,⟨n3,a3,c3,L3,rfl,i3⟩,O⟩;have a9:Below (w.heap.size+1+1) W0 w5:=a4.trans (O.mono (by omega));have X5:=ac ((uH X4).below O (by omega));have IZ:=ac (show aJ 513 w4.heap.size w5 (.agg #[.bool n3,.slice a3 L3.length c3]) z from⟨n3,a3,c3,L3,rfl,i3⟩);have s3:w.heap.size+1+1<w5.heap.size:=(by have:=O.size;omega);have ba:=ac ((uH a7).trans (O.mono (by omega)));clear O i3)|(go_at_call 27;refine(uH CO _ _ _ (uH IZ)).mono ?_;rintro e w6 ⟨u,rfl,iu,Z⟩;obtain⟨n5,a5,c5,L5,rfl,i5⟩:=iu.num;have bb:Below (w.heap.size+1+1) W0 w6:=a9.trans (Z.mono (by omega));have X6:=(uH X5).below Z (by omega);have y0:=X6.c0;have y1:=X6.c1;have y2:=X6.c2;have f0:=X6.free 0;have f1:=X6.free 1;have f2:=X6.free 2;have IU:=ac iu;have X7:=ac X6;have bd:=ac ((uH ba).trans (Z.mono (by omega)));clear Z iu i5 X6))
 go_wp2
 refine bodyPost_ret (v:=.agg #[.bool n5,.slice a5 L5.length c5,.int .i64 ox]) (by simp[results,Tryz.results19,go_sem,y0,y1,y2]) rfl ⟨_,rfl,(uH IU).put3 (uH X7) _ _ _,aD (uH bd) (by omega) _ _ _⟩
theorem oY(D z:Bool)(F H:Option Addr)(G I:Nat)(A B:List Nat)(x y:Int)(w:World)(hA:ag w F G A)(hB:ag w H I B)(ra:aw D A=true)(rb:aw z B=true)(hx:-16384≤x∧x≤16384)(hy:-16384≤y∧y≤16384)(e1:eh (af D A) x (bP (af D A) x (-af z B) y)=0)(e2:eh (-af z B) y (bP (af D A) x (-af z B) y)=0):
  Calls Tryz.prog 58 #[.agg #[.bool D,.slice F A.length G,.int .i64 x],.agg #[.bool z,.slice H B.length I,.int .i64 y]] w fun r d=>∃v,r=.returned v∧aC d v (oM (cV (af D A) x (-af z B) y)) (oE (cV (af D A) x (-af z B) y) (bP (af D A) x (-af z B) y))∧Below w.heap.size w d:=by
 have lb:=(ay rb).1
 have tb:=lj hB rb
 have CN:=ac (fun d h=>Ck z H I B y d h lb)
 have am:=ac (fun d u (h:ag d F G A) (Y:aC d u (-af z B) y)=>show Calls Tryz.prog 19 #[.agg #[.bool D,.slice F A.length G,.int .i64 x],u] d fun r Z=>∃v,r=.returned v∧aC Z v (oM (cV (af D A) x (-af z B) y)) (oE (cV (af D A) x (-af z B) y) (bP (af D A) x (-af z B) y))∧Below d.heap.size d Z by
  obtain⟨n1,a1,c1,L1,rfl,q1,q2,q3,q4,q5⟩:=Y.right (by rw[Int.natAbs_neg];exact tb)
  have:=oX D n1 F a1 G c1 A L1 x y d h q1 ra q2 hx hy (by rw[q3];exact e1) (by rw[q3];exact e2)
  rwa[q3]at this)
 clear ra rb hx hy e1 e2 tb
 generalize oE (cV (af D A) x (-af z B) y) (bP (af D A) x (-af z B) y)=ox at*
 generalize oM (cV (af D A) x (-af z B) y)=om at*
 generalize-af z B=sb at*
 have aa:Below w.heap.size w (((w.alloc (.cells #[.bool D,.slice F A.length G,.int .i64 x] 35)).alloc (.cells #[.bool z,.slice H B.length I,.int .i64 y] 35)).alloc (.cells #[.bool false,.slice none 0 0,.int .i64 0] 35)):=
  (((Below.refl _ _).alloc (Nat.le_refl _) _).alloc (by simp) _).alloc (by simp;omega) _
 have O:al (((w.alloc (.cells #[.bool D,.slice F A.length G,.int .i64 x] 35)).alloc (.cells #[.bool z,.slice H B.length I,.int .i64 y] 35)).alloc (.cells #[.bool false,.slice none 0 0,.int .i64 0] 35)) w.heap.size (.bool D) (.slice F A.length G) (.int .i64 x):=((al.new _ _ _ _).old _).old _
 have Q:al (((w.alloc (.cells #[.bool D,.slice F A.length G,.int .i64 x] 35)).alloc (.cells #[.bool z,.slice H B.length I,.int .i64 y] 35)).alloc (.cells #[.bool false,.slice none 0 0,.int .i64 0] 35)) (w.heap.size+1) (.bool z) (.slice H B.length I) (.int .i64 y):=by
  have:=(al.new (w.alloc (.cells #[.bool D,.slice F A.length G,.int .i64 x] 35)) (.bool z) (.slice H B.length I) (.int .i64 y)).old (.cells #[.bool false,.slice none 0 0,.int .i64 0] 35)
  simpa using this
 have U:al (((w.alloc (.cells #[.bool D,.slice F A.length G,.int .i64 x] 35)).alloc (.cells #[.bool z,.slice H B.length I,.int .i64 y] 35)).alloc (.cells #[.bool false,.slice none 0 0,.int .i64 0] 35)) (w.heap.size+1+1) (.bool false) (.slice none 0 0) (.int .i64 0):=by
  have:=al.new ((w.alloc (.cells #[.bool D,.slice F A.length G,.int .i64 x] 35)).alloc (.cells #[.bool z,.slice H B.length I,.int .i64 y] 35)) (.bool false) (.slice none 0 0) (.int .i64 0)
  simpa using this
 have B0:=ac aa;have X0:=ac O;have X1:=ac Q;have X2:=ac U
 clear aa O Q U
 go_enter Tryz.func58,Tryz.ntmps58
 go_wp2_with fail
 refine ap (fun W=>Below w.heap.size w W∧al W w.heap.size (.bool D) (.slice F A.length G) (.int .i64 x)∧al W (w.heap.size+1) (.bool z) (.slice H B.length I) (.int .i64 y)∧al W (w.heap.size+1+1) (.bool false) (.slice none 0 0) (.int .i64 0)) ⟨uH B0,uH X0,uH X1,uH X2⟩ ?_
 clear B0 X0 X1 X2
 rintro X ⟨b0,O,Q,U⟩
 have s0:w.heap.size+1+1<X.heap.size:=U.lt
 have hK:∀d,Below (w.heap.size+1+1) X d→Below (w.heap.size+1+1) X d∧d.cell? ⟨w.heap.size,0,none⟩=some (.bool D)∧d.cell? ⟨w.heap.size,1,none⟩=some (.slice F A.length G)∧d.cell? ⟨w.heap.size,2,none⟩=some (.int .i64 x)∧d.cell? ⟨w.heap.size+1,0,none⟩=some (.bool z)∧d.cell? ⟨w.heap.size+1,1,none⟩=some (.slice H B.length I)∧d.cell? ⟨w.heap.size+1,2,none⟩=some (.int .i64 y):=fun d h=>
  ⟨h,(O.below h (by omega)).c0,(O.below h (by omega)).c1,(O.below h (by omega)).c2,(Q.below h (by omega)).c0,(Q.below h (by omega)).c1,(Q.below h (by omega)).c2⟩
 have HK:=ac hK;have BB:=ac b0;have X2:=ac U
 clear hK b0 O Q U
 go_region_held3(fun d=>Below (w.heap.size+1+1) X d∧d.cell? ⟨w.heap.size,0,none⟩=some (.bool D)∧d.cell? ⟨w.heap.size,1,none⟩=some (.slice F A.length G)∧d.cell? ⟨w.heap.size,2,none⟩=some (.int .i64 x)∧d.cell? ⟨w.heap.size+1,0,none⟩=some (.bool z)∧d.cell? ⟨w.heap.size+1,1,none⟩=some (.slice H B.length I)∧d.cell? ⟨w.heap.size+1,2,none⟩=some (.int .i64 y))
  (first|exact uH HK _ (Below.refl _ _).drew|exact uH HK _ (by assumption)|exact uH HK _ (aD an (by omega) _ _ _))
  (first|(go_at_call 112;refine(uH CN _ (hB.below ((uH BB).trans ((Below.refl _ _).drew)))).mono ?_;rintro e w3 ⟨v,rfl,iv,J⟩;obtain⟨n1,a1,c1,L1,rfl,i1⟩:=iv.num;have ae:Below (w.heap.size+1+1) X w3:=((Below.refl _ _).drew).trans (J.mono (by simp;omega));have X3:=ac ((uH X2).drew.below J (by simp;omega));have IN:=ac iv;have s1:w.heap.size+1+1<w3.heap.size:=(by have:=J.size;simp at this;omega);have ah:=ac ((uH BB).trans (ae.mono (by omega)));clear J i1 iv)|(go_at_call 19;refine(uH am _ _ (hA.below (uH ah)) (uH IN)).mono ?_;rintro e w6 ⟨u,rfl,Y,K⟩;obtain⟨n5,a5,c5,L5,rfl,i5⟩:=Y.num;have an:Below (w.heap.size+1+1) X w6:=ae.trans (K.mono (by omega));have L:=(uH X3).below K (by omega);have y0:=L.c0;have y1:=L.c1;have y2:=L.c2;have f0:=L.free 0;have f1:=L.free 1;have f2:=L.free 2;have IU:=ac Y;have X7:=ac L;have ar:=ac ((uH ah).trans (K.mono (by omega)));clear K Y i5 L))
 go_wp2
 refine bodyPost_ret (v:=.agg #[.bool n5,.slice a5 L5.length c5,.int .i64 ox]) (by simp[results,Tryz.results58,go_sem,y0,y1,y2]) rfl ⟨_,rfl,(uH IU).put3 (uH X7) _ _ _,aD (uH ar) (by omega) _ _ _⟩
end Go.Proofs.YtcbcmlaogehimaaGreatDoor
namespace Go.Proofs.YtcbcmlaogehimaaGreatDoor
open Go.RowKit
theorem Cm(s x l:Int):up (-s) x l= -up s x l:=by unfold up;rw[Int.neg_mul]
theorem Gi(s x l:Int):eh (-s) x l=eh s x l:=by unfold eh;rw[Cm,Int.natAbs_neg]
theorem oZ(u x d y:Int):bP u x (-d) y=bP u x d y:=by
 unfold bP
 by_cases h:d=0
 ·subst h;rfl
 ·rw[if_neg h,if_neg (show¬-d=0 by omega)]
attribute [local go_sem ↓] Go.wp_at_zero Go.wp_at_succ
theorem Gj{d x h y:Int}(u:eh d x (bP d x h y)=0)(z:eh h y (bP d x h y)=0)(A:(cV d x h y).natAbs<du):
  tY d x h y=cU (cV d x h y) (bP d x h y)∧tZ d x h y=dM (cV d x h y) (bP d x h y)∧t7 d x h y=dX (cV d x h y) (bP d x h y):=by
 have D:li d x h y=true:=decide_eq_true ⟨u,z,A⟩
 unfold tY tZ t7
 rw[D]
 exact⟨rfl,rfl,rfl⟩
end Go.Proofs.YtcbcmlaogehimaaGreatDoor
namespace Go.Proofs.YtcbcmlaogehimaaGreatDoor
open Go.RowKit
def gt(z:Int):Int:=if z<0 then-1 else if z=0 then 0 else 1
def lm(sa x sb y:Int):Int:=bD (up sa x (bP sa x sb y)) (up sb y (bP sa x sb y))
theorem cN{u:Int}(h:u<0):gt u= -1:=by unfold gt;rw[if_pos h]
theorem gI:gt 0=0:=rfl
theorem cP{u:Int}(h:0<u):gt u=1:=by unfold gt;rw[if_neg (by omega),if_neg (by omega)]
theorem iY(s:Int)(k:Nat):gt (s*2^k)=gt s:=by
 have d:(0:Int)<2^k:=Int.pow_pos (by decide)
 rcases Int.lt_trichotomy s 0 with h|h|h
 ·rw[cN h,cN (Int.mul_neg_of_neg_of_pos h d)]
 ·subst h;rw[Int.zero_mul]
 ·rw[cP h,cP (Int.mul_pos h d)]
theorem nR(s x l:Int):gt (up s x l)=gt s:=iY s _
theorem kB{n:Bool}{L:List Nat}(h:aw n L=true):ij n L.length=gt (af n L):=by
 unfold ij
 have z:=aS h
 by_cases d:L.length=0
 ·rw[if_pos d,z.2 d];rfl
 ·have u:af n L≠0:=fun e=>d (z.1 e)
  rw[if_neg d]
  unfold af at u⊢
  cases n
  ·simp only[Bool.false_eq_true,if_false]at u⊢
   rw[cP (by omega)]
  ·simp only[if_true]at u⊢
   rw[cN (by omega)]
theorem Cn{n:Bool}{L:List Nat}(h:aw n L=true):wC n L.length=gt (af n L):=by
 rw[←kB h]
 unfold wC ij
 cases n
 ·rfl
 ·have:L.length≠0:=fun e=>(ay h).2.2 rfl (List.length_eq_zero_iff.1 e)
  simp[this]
theorem zW(u v:Int)(h:gt u≠gt v):bD (gt u) (gt v)=bD u v∧min 1 (max (-1) (gt u-gt v))=bD u v:=by
 rcases Int.lt_trichotomy u 0 with d|d|d<;>rcases Int.lt_trichotomy v 0 with z|z|z
 ·rw[cN d,cN z]at h;exact absurd rfl h
 ·subst z;rw[cN d,gI,dL d];decide
 ·rw[cN d,cP z,dL (show u<v by omega)];decide
 ·subst d;rw[cN z,gI,e9 z];decide
 ·subst d;subst z;exact absurd rfl h
 ·subst d;rw[cP z,gI,dL z];decide
 ·rw[cP d,cN z,e9 (show v<u by omega)];decide
 ·subst z;rw[cP d,gI,e9 d];decide
 ·rw[cP d,cP z]at h;exact absurd rfl h
theorem Co(D F A d u z:Nat)(G:D<2^A)(H:2^(d-1)≤F)(I:1≤d)(h:A+u<d+z):D*2^u<F*2^z:=by
 have J:D*2^u<2^(A+u):=by rw[Nat.pow_add];exact Nat.mul_lt_mul_of_pos_right G (Nat.pow_pos (by decide))
 have K:2^(d-1+z)≤F*2^z:=by rw[Nat.pow_add];exact Nat.mul_le_mul_right _ H
 have L:2^(A+u)≤2^(d-1+z):=Nat.pow_le_pow_right (by decide) (by omega)
 omega
theorem yn(n:Bool)(L:List Nat)(x l:Int):up (af n L) x l=sg n (aj L*2^(x-l).toNat):=by
 unfold up
 rw[dN]
 unfold sg
 cases n
 ·simp
 ·simp[Int.neg_mul]
theorem zX(u v:Int):bD v u= -bD u v:=by
 unfold bD
 rcases Int.lt_trichotomy u v with h|h|h
 ·rw[if_neg (by omega),if_pos h,if_pos h];rfl
 ·subst h;simp
 ·rw[if_pos h,if_neg (by omega),if_pos h]
theorem o4(u v:Int):bD u v=gt (u-v):=by
 rcases Int.lt_trichotomy u v with h|h|h
 ·rw[dL h,cN (by omega)]
 ·subst h;rw[F0 rfl,Int.sub_self];rfl
 ·rw[e9 h,cP (by omega)]
theorem qQ{d u:Bool}{A B:List Nat}{x y:Int}(fA:bm A)(L:bm B)(D:aw d A=true)(F:aw u B=true)(G:A.length≠0)(H:B.length≠0)(O:d=u)(h:dU A+x<dU B+y):
  lm (af d A) x (af u B) y=(if d then 1 else-1)∧lm (af u B) y (af d A) x=(if d then-1 else 1):=by
 have I:af d A≠0:=fun e=>G ((aS D).1 e)
 have J:af u B≠0:=fun e=>H ((aS F).1 e)
 have Q:=iD A fA (ay D).2.1 (fun e=>G (by rw[e];rfl))
 have K:=iD B L (ay F).2.1 (fun e=>H (by rw[e];rfl))
 rw[iC,iC]at h
 have z:∀l,l≤x→l≤y→bD (up (af d A) x l) (up (af u B) y l)=(if d then 1 else-1):=by
  intro l X Y
  have U:=Co (aj A) (aj B) (ki A) (ki B) (x-l).toNat (y-l).toNat Q.2.2 K.2.1 K.1 (by omega)
  rw[yn,yn,←O]
  unfold sg
  cases d
  ·simp only[Bool.false_eq_true,if_false]
   exact dL (by omega)
  ·simp only[if_true]
   exact e9 (by omega)
 constructor
 ·unfold lm
  rw[iX _ _ _ _ I J]
  exact z _ (by omega) (by omega)
 ·unfold lm
  rw[iX _ _ _ _ J I,zX,z _ (by omega) (by omega)]
  cases d<;>rfl
theorem Cp{d u:Bool}{A B:List Nat}{x y:Int}(fA:bm A)(z:bm B)(D:aw d A=true)(F:aw u B=true)(G:A.length≠0)(H:B.length≠0)(h:dU A+x=dU B+y):
  eh (af d A) x (min x y)=0∧eh (af u B) y (min x y)=0:=by
 have bl:∀(n:Bool) (L:List Nat),bm L→aw n L=true→L.length≠0→1≤dU L∧dU L≤16384:=fun n L f r K=>by
  have s:=iD L f (ay r).2.1 (fun e=>K (by rw[e];rfl))
  have I:=(dC L f (ay r).2.1).2 (ay r).1
  have O:32*mu=16384:=rfl
  rw[wF]at I
  have J:=yl (aj L) (ki L) 0 (32*mu) s.1 s.2.1 s.2.2
  rw[Nat.pow_zero,Nat.mul_one]at J
  have:=J.1 I
  rw[iC]
  omega
 have Q:=bl d A fA D G
 have U:=bl u B z F H
 rw[ym d A x _ fA D (fun e=>G (by rw[e];rfl)) (by omega),ym u B y _ z F (fun e=>H (by rw[e];rfl)) (by omega)]
 omega
attribute [local go_sem ↓] Go.wp_at_zero Go.wp_at_succ
theorem Cq{d u:Bool}{A B:List Nat}{x y:Int}(fA:bm A)(L:bm B)(O:kQ d A x=true)(Q:kQ u B y=true):
  (ij d A.length≠ij u B.length∧bD (ij d A.length) (ij u B.length)=lm (af d A) x (af u B) y∧min 1 (max (-1) (ij d A.length-ij u B.length))=lm (af d A) x (af u B) y)∨
  (ij d A.length=ij u B.length∧∃s c:Int,(s=1∨s= -1)∧((c=1∧ik B y<ik A x)∨(c= -1∧ik A x<ik B y))∧ij d A.length=s∧bD (ik A x) (ik B y)=c∧lm (af d A) x (af u B) y=s*c)∨
  (ij d A.length=ij u B.length∧ik A x=ik B y∧eh (af d A) x (min x y)=0∧eh (af u B) y (min x y)=0∧bD (up (af d A) x (min x y)) (up (af u B) y (min x y))=lm (af d A) x (af u B) y∧bP (af d A) x (af u B) y=min x y):=by
 obtain⟨H,_,a1,a2,zx⟩:=cd O
 obtain⟨I,_,b1,b2,zy⟩:=cd Q
 rw[kB H,kB I]
 by_cases z:gt (af d A)=gt (af u B)
 case neg=>
  left
  have h:=zW (up (af d A) x (bP (af d A) x (af u B) y)) (up (af u B) y (bP (af d A) x (af u B) y)) (by rw[nR,nR];exact z)
  rw[nR,nR]at h
  exact⟨z,h.1,h.2⟩
 right
 by_cases D:A.length=0
 ·have Z:=(aS H).2 D
  have sb:af u B=0:=by
   rw[Z,gI]at z
   rcases Int.lt_trichotomy (af u B) 0 with h|h|h
   ·rw[cN h]at z;exact absurd z (by decide)
   ·exact h
   ·rw[cP h]at z;exact absurd z (by decide)
  have F:=(aS I).1 sb
  right
  refine⟨z,by unfold ik;rw[if_pos D,if_pos F],?_⟩
  rw[Z,sb,zx D,zy F]
  refine⟨dW _ _ _ (by rw[ei];exact iV) (by decide),dW _ _ _ (by rw[ei];exact iV) (by decide),?_,by simp[bP]⟩
  unfold lm
  simp[ei]
 have U:af d A≠0:=fun e=>D ((aS H).1 e)
 have X:af u B≠0:=fun e=>by
  rw[e,gI]at z
  rcases Int.lt_trichotomy (af d A) 0 with h|h|h
  ·rw[cN h]at z;exact absurd z (by decide)
  ·exact U h
  ·rw[cP h]at z;exact absurd z (by decide)
 have F:B.length≠0:=fun e=>X ((aS I).2 e)
 have G:d=u∧gt (af d A)=if d then-1 else 1:=by
  have J:=kB H
  have Y:=kB I
  unfold ij at J Y
  rw[if_neg D]at J
  rw[if_neg F]at Y
  refine⟨?_,J.symm⟩
  rw[←J,←Y]at z
  cases d<;>cases u<;>first|rfl|exact absurd z (by decide)
 have tA:ik A x=dU A+x:=by unfold ik;rw[if_neg D]
 have tB:ik B y=dU B+y:=by unfold ik;rw[if_neg F]
 rw[tA,tB]
 rcases Int.lt_trichotomy (dU A+x) (dU B+y)with h|h|h
 ·left
  have K:=(qQ fA L H I D F G.1 h).1
  refine⟨z,if d then-1 else 1,-1,?_,.inr ⟨rfl,h⟩,G.2,dL h,?_⟩
  ·cases d<;>simp
  ·rw[K];cases d<;>rfl
 ·right
  have hf:=Cp fA L H I D F h
  refine⟨z,h,hf.1,hf.2,?_,iX _ _ _ _ U X⟩
  unfold lm
  rw[iX _ _ _ _ U X]
 ·left
  have K:=(qQ L fA I H F D G.1.symm h).2
  rw[←G.1]at K
  refine⟨z,if d then-1 else 1,1,?_,.inl ⟨rfl,h⟩,G.2,e9 h,?_⟩
  ·cases d<;>simp
  ·rw[G.1,←G.1,K];cases d<;>rfl
theorem Gk{neg:Bool}{L:List Nat}{m:Int}(z:bT L)(d:neg=decide (m<0))(u:aj L=m.natAbs):wC neg L.length=gt m:=by
 unfold wC
 rcases Int.lt_trichotomy m 0 with h|h|h
 ·rw[d,decide_eq_true h,if_pos rfl,cN h]
 ·subst h
  have:L= []:=(aT L z).1 (by rw[u];rfl)
  rw[d,this]
  rfl
 ·have A:L.length≠0:=fun e=>by
   have:L= []:=List.length_eq_zero_iff.1 e
   rw[this]at u;simp[aj]at u;omega
  rw[d,decide_eq_false (by omega),if_neg (by decide),if_neg A,cP h]
theorem yp(z:Int):gt (oM z)=gt z:=by
 by_cases h:z=0
 ·subst h;rw[aX]
 ·have:=(eR z h).1
  conv=>rhs;rw[this]
  rw[iY]
theorem o6(n:Bool)(k:Nat):ij n k= -1∨ij n k=0∨ij n k=1:=by
 unfold ij
 split
 ·exact .inr (.inl rfl)
 ·cases n
  ·exact .inr (.inr rfl)
  ·exact .inl rfl
theorem rH(F G:Bool)(J K:Option Addr)(L O:Nat)(A B:List Nat)(x y:Int)(w:World)(hA:ag w J L A)(hB:ag w K O B)(a3:kQ F A x=true)(a4:kQ G B y=true):
  Calls Tryz.prog 33 #[.agg #[.bool F,.slice J A.length L,.int .i64 x],.agg #[.bool G,.slice K B.length O,.int .i64 y]] w fun r d=>r=.returned (.int .i64 (lm (af F A) x (af G B) y))∧Below w.heap.size w d:=by
 have an:=ac (Cq hA.2.1 hB.2.1 a3 a4)
 obtain⟨ra,la,be,bg,zx⟩:=cd a3
 obtain⟨rb,lb,bi,bn,zy⟩:=cd a4
 have ar:=ac (fun d=>mG F J L A.length x d)
 have ax:=ac (fun d=>mG G K O B.length y d)
 rw[Cn ra,←kB ra]at ar
 rw[Cn rb,←kB rb]at ax
 have aI:=ac (fun d h=>oT F J L A x d h (by omega) (by omega))
 have a0:=ac (fun d h=>oT G K O B y d h (by omega) (by omega))
 have ah:=ac (fun(aa:bP (af F A) x (af G B) y=min x y) (h1:eh (af F A) x (min x y)=0) (h2:eh (af G B) y (min x y)=0) d h h'=>oY F G J K L O A B x y d h h' ra rb ⟨be,bg⟩ ⟨bi,bn⟩ (by rw[oZ,aa];exact h1) (by rw[oZ,Gi,aa];exact h2))
 have HZ:=ac (fun(aa:bP (af F A) x (af G B) y=min x y)=>show gt (oM (cV (af F A) x (-af G B) y))=bD (up (af F A) x (min x y)) (up (af G B) y (min x y)) by
  rw[yp,o4]
  unfold cV
  rw[oZ,aa,Cm,Int.sub_eq_add_neg])
 have a1:=ac (o6 F A.length);have a2:=ac (o6 G B.length)
 clear a3 a4 zx zy ra rb
 generalize oE (cV (af F A) x (-af G B) y) (bP (af F A) x (-af G B) y)=oe at*
 generalize oM (cV (af F A) x (-af G B) y)=om at*
 generalize lm (af F A) x (af G B) y=cv at*
 generalize eh (af F A) x (min x y)=ea at*
 generalize eh (af G B) y (min x y)=eb at*
 generalize up (af F A) x (min x y)=za at*
 generalize up (af G B) y (min x y)=zb at*
 generalize ik A x=ta at*
 generalize ik B y=tb at*
 generalize ij F A.length=bs at*
 generalize ij G B.length=bv at*
 generalize bP (af F A) x (af G B) y=l at*
 have a9:Below w.heap.size w ((w.alloc (.cells #[.bool F,.slice J A.length L,.int .i64 x] 35)).alloc (.cells #[.bool G,.slice K B.length O,.int .i64 y] 35)):=((Below.refl _ _).alloc (Nat.le_refl _) _).alloc (by simp) _
 have H:al ((w.alloc (.cells #[.bool F,.slice J A.length L,.int .i64 x] 35)).alloc (.cells #[.bool G,.slice K B.length O,.int .i64 y] 35)) w.heap.size (.bool F) (.slice J A.length L) (.int .i64 x):=(al.new _ _ _ _).old _
 have I:al ((w.alloc (.cells #[.bool F,.slice J A.length L,.int .i64 x] 35)).alloc (.cells #[.bool G,.slice K B.length O,.int .i64 y] 35)) (w.heap.size+1) (.bool G) (.slice K B.length O) (.int .i64 y):=by
  have:=al.new (w.alloc (.cells #[.bool F,.slice J A.length L,.int .i64 x] 35)) (.bool G) (.slice K B.length O) (.int .i64 y)
  simpa using this
 have B0:=ac a9;have Q:=ac H;have U:=ac I
 clear a9 H I
 rcases uH an with⟨a6,_,hc⟩|⟨am,s,c,hs,hc,rfl,bp,ae⟩|⟨am,bq,h1,h2,ae,aa⟩
 ·clear an aI a0 ah HZ
  rcases uH a1 with rfl|rfl|rfl<;>rcases uH a2 with rfl|rfl|rfl
  all_goals first|exact absurd rfl a6|skip
  all_goals
   have ae:cv=_:=hc.symm
   clear a6 hc a1 a2
   simp only[show min (1:Int) (max (-1) (-1-0))= -1 by decide,show min (1:Int) (max (-1) (-1-1))= -1 by decide,show min (1:Int) (max (-1) (0- -1))=1 by decide,show min (1:Int) (max (-1) (0-1))= -1 by decide,show min (1:Int) (max (-1) (1- -1))=1 by decide,show min (1:Int) (max (-1) (1-0))=1 by decide]at ae
   subst ae
   go_enter Tryz.func33,Tryz.ntmps33
   go_wp2_with fail
   refine ap (fun W=>Below w.heap.size w W∧al W w.heap.size (.bool F) (.slice J A.length L) (.int .i64 x)∧al W (w.heap.size+1) (.bool G) (.slice K B.length O) (.int .i64 y)) ⟨uH B0,uH Q,uH U⟩ ?_
   clear B0 Q U
   rintro D ⟨Y,H,I⟩
   have hK:∀d,Below D.heap.size D d→Below D.heap.size D d∧d.cell? ⟨w.heap.size,0,none⟩=some (.bool F)∧d.cell? ⟨w.heap.size,1,none⟩=some (.slice J A.length L)∧d.cell? ⟨w.heap.size,2,none⟩=some (.int .i64 x)∧d.cell? ⟨w.heap.size+1,0,none⟩=some (.bool G)∧d.cell? ⟨w.heap.size+1,1,none⟩=some (.slice K B.length O)∧d.cell? ⟨w.heap.size+1,2,none⟩=some (.int .i64 y):=fun d h=>
    ⟨h,(H.all h).c0,(H.all h).c1,(H.all h).c2,(I.all h).c0,(I.all h).c1,(I.all h).c2⟩
   have HK:=ac hK
   have HA:=ac (hA.below Y);have HB:=ac (hB.below Y);have BB:=ac Y;have Q:=ac H;have U:=ac I
   clear hK Y H I
   go_region_held3(fun d=>Below D.heap.size D d∧d.cell? ⟨w.heap.size,0,none⟩=some (.bool F)∧d.cell? ⟨w.heap.size,1,none⟩=some (.slice J A.length L)∧d.cell? ⟨w.heap.size,2,none⟩=some (.int .i64 x)∧d.cell? ⟨w.heap.size+1,0,none⟩=some (.bool G)∧d.cell? ⟨w.heap.size+1,1,none⟩=some (.slice K B.length O)∧d.cell? ⟨w.heap.size+1,2,none⟩=some (.int .i64 y))
    (first|exact uH HK _ (Below.refl _ _).drew|exact uH HK _ (by assumption))
    (first|(go_at_call_of 68 (Value.agg #[.bool F,.slice J A.length L,.int .i64 x]);refine(uH ar _).mono ?_;rintro e X ⟨rfl,z⟩;have Z:Below D.heap.size D X:=Below.trans (And.left (by assumption)) (z.mono (Below.size (And.left (by assumption))));clear z)|(go_at_call_of 68 (Value.agg #[.bool G,.slice K B.length O,.int .i64 y]);refine(uH ax _).mono ?_;rintro e X ⟨rfl,z⟩;have Z:Below D.heap.size D X:=Below.trans (And.left (by assumption)) (z.mono (Below.size (And.left (by assumption))));clear z))
   go_wp2_with fail
   have hn:Below D.heap.size D X:=And.left (by assumption)
   have b9:=(uH BB).trans (hn.mono (uH BB).size);have x9:=(uH Q).all hn;have y9:=(uH U).all hn
   clear HK HA HB BB Q U hn
   have B0:=ac b9;have Q:=ac x9;have U:=ac y9
   clear b9 x9 y9
   refine ap (fun W=>Below w.heap.size w W∧al W w.heap.size (.bool F) (.slice J A.length L) (.int .i64 x)∧al W (w.heap.size+1) (.bool G) (.slice K B.length O) (.int .i64 y)) ⟨uH B0,uH Q,uH U⟩ ?_
   clear B0 Q U
   rintro D ⟨Y,H,I⟩
   have hK:∀d,Below D.heap.size D d→Below D.heap.size D d∧d.cell? ⟨w.heap.size,0,none⟩=some (.bool F)∧d.cell? ⟨w.heap.size,1,none⟩=some (.slice J A.length L)∧d.cell? ⟨w.heap.size,2,none⟩=some (.int .i64 x)∧d.cell? ⟨w.heap.size+1,0,none⟩=some (.bool G)∧d.cell? ⟨w.heap.size+1,1,none⟩=some (.slice K B.length O)∧d.cell? ⟨w.heap.size+1,2,none⟩=some (.int .i64 y):=fun d h=>
    ⟨h,(H.all h).c0,(H.all h).c1,(H.all h).c2,(I.all h).c0,(I.all h).c1,(I.all h).c2⟩
   have HK:=ac hK
   have HA:=ac (hA.below Y);have HB:=ac (hB.below Y);have BB:=ac Y;have Q:=ac H;have U:=ac I
   clear hK Y H I
   go_region_held3(fun d=>Below D.heap.size D d∧d.cell? ⟨w.heap.size,0,none⟩=some (.bool F)∧d.cell? ⟨w.heap.size,1,none⟩=some (.slice J A.length L)∧d.cell? ⟨w.heap.size,2,none⟩=some (.int .i64 x)∧d.cell? ⟨w.heap.size+1,0,none⟩=some (.bool G)∧d.cell? ⟨w.heap.size+1,1,none⟩=some (.slice K B.length O)∧d.cell? ⟨w.heap.size+1,2,none⟩=some (.int .i64 y))
    (first|exact uH HK _ (Below.refl _ _).drew|exact uH HK _ (by assumption))
    (first|(go_at_call_of 68 (Value.agg #[.bool F,.slice J A.length L,.int .i64 x]);refine(uH ar _).mono ?_;rintro e X ⟨rfl,z⟩;have Z:Below D.heap.size D X:=Below.trans (And.left (by assumption)) (z.mono (Below.size (And.left (by assumption))));clear z)|(go_at_call_of 68 (Value.agg #[.bool G,.slice K B.length O,.int .i64 y]);refine(uH ax _).mono ?_;rintro e X ⟨rfl,z⟩;have Z:Below D.heap.size D X:=Below.trans (And.left (by assumption)) (z.mono (Below.size (And.left (by assumption))));clear z))
   go_wp2
   go_ret
   exact⟨rfl,(uH BB).trans (Below.mono (And.left (by assumption)) (uH BB).size)⟩
 ·subst am
  have ba:=ac ae
  clear an ah HZ a1 a2 bp ae
  rcases hs with rfl|rfl
  all_goals
   rcases hc with⟨rfl,ht⟩|⟨rfl,ht⟩
  all_goals
   have ae:=uH ba
   simp only[show(1:Int)*1=1 by decide,show(1:Int)* -1= -1 by decide,show(-1:Int)*1= -1 by decide,show(-1:Int)* -1=1 by decide]at ae
   subst ae
   have a6:(ta != tb)=true:=by rw[bne_iff_ne];omega
   first|(have g:decide (tb<ta)=true:=decide_eq_true (by omega))|(have g:decide (tb<ta)=false:=decide_eq_false (by omega))
   clear ba
   go_enter Tryz.func33,Tryz.ntmps33
   go_wp2_with fail
   refine ap (fun W=>Below w.heap.size w W∧al W w.heap.size (.bool F) (.slice J A.length L) (.int .i64 x)∧al W (w.heap.size+1) (.bool G) (.slice K B.length O) (.int .i64 y)) ⟨uH B0,uH Q,uH U⟩ ?_
   clear B0 Q U
   rintro D ⟨Y,H,I⟩
   have hK:∀d,Below D.heap.size D d→Below D.heap.size D d∧d.cell? ⟨w.heap.size,0,none⟩=some (.bool F)∧d.cell? ⟨w.heap.size,1,none⟩=some (.slice J A.length L)∧d.cell? ⟨w.heap.size,2,none⟩=some (.int .i64 x)∧d.cell? ⟨w.heap.size+1,0,none⟩=some (.bool G)∧d.cell? ⟨w.heap.size+1,1,none⟩=some (.slice K B.length O)∧d.cell? ⟨w.heap.size+1,2,none⟩=some (.int .i64 y):=fun d h=>
    ⟨h,(H.all h).c0,(H.all h).c1,(H.all h).c2,(I.all h).c0,(I.all h).c1,(I.all h).c2⟩
   have HK:=ac hK
   have HA:=ac (hA.below Y);have HB:=ac (hB.below Y);have BB:=ac Y;have Q:=ac H;have U:=ac I
   clear hK Y H I
   go_region_held3(fun d=>Below D.heap.size D d∧d.cell? ⟨w.heap.size,0,none⟩=some (.bool F)∧d.cell? ⟨w.heap.size,1,none⟩=some (.slice J A.length L)∧d.cell? ⟨w.heap.size,2,none⟩=some (.int .i64 x)∧d.cell? ⟨w.heap.size+1,0,none⟩=some (.bool G)∧d.cell? ⟨w.heap.size+1,1,none⟩=some (.slice K B.length O)∧d.cell? ⟨w.heap.size+1,2,none⟩=some (.int .i64 y))
    (first|exact uH HK _ (Below.refl _ _).drew|exact uH HK _ (by assumption))
    (first|(go_at_call_of 68 (Value.agg #[.bool F,.slice J A.length L,.int .i64 x]);refine(uH ar _).mono ?_;rintro e X ⟨rfl,z⟩;have Z:Below D.heap.size D X:=Below.trans (And.left (by assumption)) (z.mono (Below.size (And.left (by assumption))));clear z)|(go_at_call_of 68 (Value.agg #[.bool G,.slice K B.length O,.int .i64 y]);refine(uH ax _).mono ?_;rintro e X ⟨rfl,z⟩;have Z:Below D.heap.size D X:=Below.trans (And.left (by assumption)) (z.mono (Below.size (And.left (by assumption))));clear z))
   go_wp2_with fail
   have hn:Below D.heap.size D X:=And.left (by assumption)
   have b9:=(uH BB).trans (hn.mono (uH BB).size);have x9:=(uH Q).all hn;have y9:=(uH U).all hn
   clear HK HA HB BB Q U hn
   have B0:=ac b9;have Q:=ac x9;have U:=ac y9
   clear b9 x9 y9
   refine ap (fun W=>Below w.heap.size w W∧al W w.heap.size (.bool F) (.slice J A.length L) (.int .i64 x)∧al W (w.heap.size+1) (.bool G) (.slice K B.length O) (.int .i64 y)) ⟨uH B0,uH Q,uH U⟩ ?_
   clear B0 Q U
   rintro D ⟨Y,H,I⟩
   have hK:∀d,Below D.heap.size D d→Below D.heap.size D d∧d.cell? ⟨w.heap.size,0,none⟩=some (.bool F)∧d.cell? ⟨w.heap.size,1,none⟩=some (.slice J A.length L)∧d.cell? ⟨w.heap.size,2,none⟩=some (.int .i64 x)∧d.cell? ⟨w.heap.size+1,0,none⟩=some (.bool G)∧d.cell? ⟨w.heap.size+1,1,none⟩=some (.slice K B.length O)∧d.cell? ⟨w.heap.size+1,2,none⟩=some (.int .i64 y):=fun d h=>
    ⟨h,(H.all h).c0,(H.all h).c1,(H.all h).c2,(I.all h).c0,(I.all h).c1,(I.all h).c2⟩
   have HK:=ac hK
   have HA:=ac (hA.below Y);have HB:=ac (hB.below Y);have BB:=ac Y;have Q:=ac H;have U:=ac I
   clear hK Y H I
   go_region_held3(fun d=>Below D.heap.size D d∧d.cell? ⟨w.heap.size,0,none⟩=some (.bool F)∧d.cell? ⟨w.heap.size,1,none⟩=some (.slice J A.length L)∧d.cell? ⟨w.heap.size,2,none⟩=some (.int .i64 x)∧d.cell? ⟨w.heap.size+1,0,none⟩=some (.bool G)∧d.cell? ⟨w.heap.size+1,1,none⟩=some (.slice K B.length O)∧d.cell? ⟨w.heap.size+1,2,none⟩=some (.int .i64 y))
    (first|exact uH HK _ (Below.refl _ _).drew|exact uH HK _ (by assumption))
    (first|(go_at_call_of 69 (Value.agg #[.bool F,.slice J A.length L,.int .i64 x]);refine(uH aI _ ((uH HA).below (And.left (by assumption)))).mono ?_;rintro e X ⟨rfl,z⟩;have Z:Below D.heap.size D X:=Below.trans (And.left (by assumption)) (z.mono (Below.size (And.left (by assumption))));clear z)|(go_at_call_of 69 (Value.agg #[.bool G,.slice K B.length O,.int .i64 y]);refine(uH a0 _ ((uH HB).below (And.left (by assumption)))).mono ?_;rintro e X ⟨rfl,z⟩;have Z:Below D.heap.size D X:=Below.trans (And.left (by assumption)) (z.mono (Below.size (And.left (by assumption))));clear z))
   go_wp2_with fail
   have hn:Below D.heap.size D X:=And.left (by assumption)
   have b9:=(uH BB).trans (hn.mono (uH BB).size);have x9:=(uH Q).all hn;have y9:=(uH U).all hn
   clear HK HA HB BB Q U hn
   have B0:=ac b9;have Q:=ac x9;have U:=ac y9
   clear b9 x9 y9
   refine ap (fun W=>Below w.heap.size w W∧al W w.heap.size (.bool F) (.slice J A.length L) (.int .i64 x)∧al W (w.heap.size+1) (.bool G) (.slice K B.length O) (.int .i64 y)) ⟨uH B0,uH Q,uH U⟩ ?_
   clear B0 Q U
   rintro D ⟨Y,H,I⟩
   have hK:∀d,Below D.heap.size D d→Below D.heap.size D d∧d.cell? ⟨w.heap.size,0,none⟩=some (.bool F)∧d.cell? ⟨w.heap.size,1,none⟩=some (.slice J A.length L)∧d.cell? ⟨w.heap.size,2,none⟩=some (.int .i64 x)∧d.cell? ⟨w.heap.size+1,0,none⟩=some (.bool G)∧d.cell? ⟨w.heap.size+1,1,none⟩=some (.slice K B.length O)∧d.cell? ⟨w.heap.size+1,2,none⟩=some (.int .i64 y):=fun d h=>
    ⟨h,(H.all h).c0,(H.all h).c1,(H.all h).c2,(I.all h).c0,(I.all h).c1,(I.all h).c2⟩
   have HK:=ac hK
   have HA:=ac (hA.below Y);have HB:=ac (hB.below Y);have BB:=ac Y;have Q:=ac H;have U:=ac I
   clear hK Y H I
   go_region_held3(fun d=>Below D.heap.size D d∧d.cell? ⟨w.heap.size,0,none⟩=some (.bool F)∧d.cell? ⟨w.heap.size,1,none⟩=some (.slice J A.length L)∧d.cell? ⟨w.heap.size,2,none⟩=some (.int .i64 x)∧d.cell? ⟨w.heap.size+1,0,none⟩=some (.bool G)∧d.cell? ⟨w.heap.size+1,1,none⟩=some (.slice K B.length O)∧d.cell? ⟨w.heap.size+1,2,none⟩=some (.int .i64 y))
    (first|exact uH HK _ (Below.refl _ _).drew|exact uH HK _ (by assumption))
    (first|(go_at_call_of 69 (Value.agg #[.bool F,.slice J A.length L,.int .i64 x]);refine(uH aI _ ((uH HA).below (And.left (by assumption)))).mono ?_;rintro e X ⟨rfl,z⟩;have Z:Below D.heap.size D X:=Below.trans (And.left (by assumption)) (z.mono (Below.size (And.left (by assumption))));clear z)|(go_at_call_of 69 (Value.agg #[.bool G,.slice K B.length O,.int .i64 y]);refine(uH a0 _ ((uH HB).below (And.left (by assumption)))).mono ?_;rintro e X ⟨rfl,z⟩;have Z:Below D.heap.size D X:=Below.trans (And.left (by assumption)) (z.mono (Below.size (And.left (by assumption))));clear z)|(go_at_call_of 68 (Value.agg #[.bool F,.slice J A.length L,.int .i64 x]);refine(uH ar _).mono ?_;rintro e X ⟨rfl,z⟩;have Z:Below D.heap.size D X:=Below.trans (And.left (by assumption)) (z.mono (Below.size (And.left (by assumption))));clear z)|(go_at_call_of 68 (Value.agg #[.bool G,.slice K B.length O,.int .i64 y]);refine(uH ax _).mono ?_;rintro e X ⟨rfl,z⟩;have Z:Below D.heap.size D X:=Below.trans (And.left (by assumption)) (z.mono (Below.size (And.left (by assumption))));clear z))
   go_wp2
   go_ret
   exact⟨rfl,(uH BB).trans (Below.mono (And.left (by assumption)) (uH BB).size)⟩
 ·subst am
  subst bq
  have hz:=uH HZ aa
  rw[ae]at hz
  have bd:=ac hz
  have az:=ac (uH ah aa h1 h2)
  have ah:=az
  clear an a1 a2 HZ aa h1 h2 ae hz az
  go_enter Tryz.func33,Tryz.ntmps33
  go_wp2_with fail
  refine ap (fun W=>Below w.heap.size w W∧al W w.heap.size (.bool F) (.slice J A.length L) (.int .i64 x)∧al W (w.heap.size+1) (.bool G) (.slice K B.length O) (.int .i64 y)) ⟨uH B0,uH Q,uH U⟩ ?_
  clear B0 Q U
  rintro D ⟨Y,H,I⟩
  have hK:∀d,Below D.heap.size D d→Below D.heap.size D d∧d.cell? ⟨w.heap.size,0,none⟩=some (.bool F)∧d.cell? ⟨w.heap.size,1,none⟩=some (.slice J A.length L)∧d.cell? ⟨w.heap.size,2,none⟩=some (.int .i64 x)∧d.cell? ⟨w.heap.size+1,0,none⟩=some (.bool G)∧d.cell? ⟨w.heap.size+1,1,none⟩=some (.slice K B.length O)∧d.cell? ⟨w.heap.size+1,2,none⟩=some (.int .i64 y):=fun d h=>
   ⟨h,(H.all h).c0,(H.all h).c1,(H.all h).c2,(I.all h).c0,(I.all h).c1,(I.all h).c2⟩
  have HK:=ac hK
  have HA:=ac (hA.below Y);have HB:=ac (hB.below Y);have BB:=ac Y;have Q:=ac H;have U:=ac I
  clear hK Y H I
  go_region_held3(fun d=>Below D.heap.size D d∧d.cell? ⟨w.heap.size,0,none⟩=some (.bool F)∧d.cell? ⟨w.heap.size,1,none⟩=some (.slice J A.length L)∧d.cell? ⟨w.heap.size,2,none⟩=some (.int .i64 x)∧d.cell? ⟨w.heap.size+1,0,none⟩=some (.bool G)∧d.cell? ⟨w.heap.size+1,1,none⟩=some (.slice K B.length O)∧d.cell? ⟨w.heap.size+1,2,none⟩=some (.int .i64 y))
   (first|exact uH HK _ (Below.refl _ _).drew|exact uH HK _ (by assumption))
   (first|(go_at_call_of 68 (Value.agg #[.bool F,.slice J A.length L,.int .i64 x]);refine(uH ar _).mono ?_;rintro e X ⟨rfl,z⟩;have Z:Below D.heap.size D X:=Below.trans (And.left (by assumption)) (z.mono (Below.size (And.left (by assumption))));clear z)|(go_at_call_of 68 (Value.agg #[.bool G,.slice K B.length O,.int .i64 y]);refine(uH ax _).mono ?_;rintro e X ⟨rfl,z⟩;have Z:Below D.heap.size D X:=Below.trans (And.left (by assumption)) (z.mono (Below.size (And.left (by assumption))));clear z))
  go_wp2_with fail
  have hn:Below D.heap.size D X:=And.left (by assumption)
  have b9:=(uH BB).trans (hn.mono (uH BB).size);have x9:=(uH Q).all hn;have y9:=(uH U).all hn
  clear HK HA HB BB Q U hn
  have B0:=ac b9;have Q:=ac x9;have U:=ac y9
  clear b9 x9 y9
  refine ap (fun W=>Below w.heap.size w W∧al W w.heap.size (.bool F) (.slice J A.length L) (.int .i64 x)∧al W (w.heap.size+1) (.bool G) (.slice K B.length O) (.int .i64 y)) ⟨uH B0,uH Q,uH U⟩ ?_
  clear B0 Q U
  rintro D ⟨Y,H,I⟩
  have hK:∀d,Below D.heap.size D d→Below D.heap.size D d∧d.cell? ⟨w.heap.size,0,none⟩=some (.bool F)∧d.cell? ⟨w.heap.size,1,none⟩=some (.slice J A.length L)∧d.cell? ⟨w.heap.size,2,none⟩=some (.int .i64 x)∧d.cell? ⟨w.heap.size+1,0,none⟩=some (.bool G)∧d.cell? ⟨w.heap.size+1,1,none⟩=some (.slice K B.length O)∧d.cell? ⟨w.heap.size+1,2,none⟩=some (.int .i64 y):=fun d h=>
   ⟨h,(H.all h).c0,(H.all h).c1,(H.all h).c2,(I.all h).c0,(I.all h).c1,(I.all h).c2⟩
  have HK:=ac hK
  have HA:=ac (hA.below Y);have HB:=ac (hB.below Y);have BB:=ac Y;have Q:=ac H;have U:=ac I
  clear hK Y H I
  go_region_held3(fun d=>Below D.heap.size D d∧d.cell? ⟨w.heap.size,0,none⟩=some (.bool F)∧d.cell? ⟨w.heap.size,1,none⟩=some (.slice J A.length L)∧d.cell? ⟨w.heap.size,2,none⟩=some (.int .i64 x)∧d.cell? ⟨w.heap.size+1,0,none⟩=some (.bool G)∧d.cell? ⟨w.heap.size+1,1,none⟩=some (.slice K B.length O)∧d.cell? ⟨w.heap.size+1,2,none⟩=some (.int .i64 y))
   (first|exact uH HK _ (Below.refl _ _).drew|exact uH HK _ (by assumption))
   (first|(go_at_call_of 69 (Value.agg #[.bool F,.slice J A.length L,.int .i64 x]);refine(uH aI _ ((uH HA).below (And.left (by assumption)))).mono ?_;rintro e X ⟨rfl,z⟩;have Z:Below D.heap.size D X:=Below.trans (And.left (by assumption)) (z.mono (Below.size (And.left (by assumption))));clear z)|(go_at_call_of 69 (Value.agg #[.bool G,.slice K B.length O,.int .i64 y]);refine(uH a0 _ ((uH HB).below (And.left (by assumption)))).mono ?_;rintro e X ⟨rfl,z⟩;have Z:Below D.heap.size D X:=Below.trans (And.left (by assumption)) (z.mono (Below.size (And.left (by assumption))));clear z))
  go_wp2_with fail
  have hn:Below D.heap.size D X:=And.left (by assumption)
  have b9:=(uH BB).trans (hn.mono (uH BB).size);have x9:=(uH Q).all hn;have y9:=(uH U).all hn
  clear HK HA HB BB Q U hn
  have B0:=ac b9;have Q:=ac x9;have U:=ac y9
  clear b9 x9 y9
  refine(uH ah _ (hA.below (uH B0)) (hB.below (uH B0))).mono ?_
  rintro r w5 ⟨u,rfl,iu,z⟩
  obtain⟨n5,a5,c5,L5,rfl,q1,q2,q3,q4,q5⟩:=iu.parts
  have a7:=Gk q2 q3 q4
  rw[uH bd]at a7
  have bb:=ac (fun d=>mG n5 a5 c5 L5.length oe d)
  rw[a7]at bb
  have B1:=ac ((uH B0).trans (z.mono (uH B0).size))
  clear q1 q2 q3 q4 q5 iu z a7
  go_wp2_with(go_at_call 68;refine(uH bb _).mono ?_;rintro r w6 ⟨rfl,z⟩)
  go_ret
  exact⟨rfl,(uH B1).trans (z.mono (uH B1).size)⟩
end Go.Proofs.YtcbcmlaogehimaaGreatDoor
