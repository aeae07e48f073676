/- Part 11 of the texts. -/
import Derived.Test.YtcbcmlaogehimaaGreatDoorPartt10
set_option maxHeartbeats 4000000
namespace Go.Proofs.YtcbcmlaogehimaaGreatDoor
open Go.RowKit
attribute [local go_sem ↓] Go.wp_at_zero Go.wp_at_succ
theorem tw(n m:Nat)(x y:Int)(d:-16384≤x∧x≤16384)(h:-16384≤y∧y≤16384):-16384≤mn n m x y∧mn n m x y≤16384:=by
 unfold mn
 split
 ·omega
 ·split<;>omega
theorem qu(d:Bool)(D:Option Addr)(F:Nat)(A:List Nat)(x l:Int)(w:World)(hA:ag w D F A)(J:av d A=true)(h:A.length≠0→l≤x∧x-l≤16384)(hx:-16384≤x∧x≤16384)(hl:-16384≤l∧l≤16384):
  Calls Tryz.prog 57 #[.agg #[.bool d,.slice D A.length F,.int .i64 x],.int .i64 l] w fun r G=>∃v,r=.returned v∧au 0 G v (up (af d A) x l)∧Below w.heap.size w G:=by
 have la:=(ay J).1
 have O:=ac (show A.length=0→up (af d A) x l=0∧d=false from fun u=>by
  refine⟨by rw[(aP J).2 u,ei],?_⟩
  cases d
  ·rfl
  ·exact absurd (List.length_eq_zero_iff.1 u) ((ay J).2.2 rfl))
 have Q:=ac (fun G N (u:A.length≠0)=>show Calls Tryz.prog 111 #[.agg #[.bool d,.slice D A.length F],.int .i64 (x-l)] G fun e K=>∃v,e=.returned v∧au 0 K v (up (af d A) x l)∧Below G.heap.size G K by
  have:=re d D F A (x-l) G N J (by have:=h u;omega)
  rwa[tk d A (x-l) (by have:=h u;omega)]at this)
 clear h J
 generalize up (af d A) x l=z at*
 obtain⟨ae,ah⟩:=hx
 obtain⟨am,an⟩:=hl
 have L:Below w.heap.size w ((w.alloc (.cells #[.bool d,.slice D A.length F,.int .i64 x] 35)).alloc (.cells #[.bool false,.slice none 0 0] 33)):=((Below.refl _ _).alloc (Nat.le_refl _) _).alloc (by simp) _
 have Z:ak ((w.alloc (.cells #[.bool d,.slice D A.length F,.int .i64 x] 35)).alloc (.cells #[.bool false,.slice none 0 0] 33)) w.heap.size (.bool d) (.slice D A.length F) (.int .i64 x):=(ak.new _ _ _ _).old _
 have H:aB ((w.alloc (.cells #[.bool d,.slice D A.length F,.int .i64 x] 35)).alloc (.cells #[.bool false,.slice none 0 0] 33)) (w.heap.size+1) (.bool false) (.slice none 0 0):=by
  have:=aB.new (w.alloc (.cells #[.bool d,.slice D A.length F,.int .i64 x] 35)) (.bool false) (.slice none 0 0)
  simpa using this
 have U:=ac L;have X0:=ac Z;have X2:=ac H
 clear L Z H
 by_cases u:A.length=0
 ·obtain⟨rfl,rfl⟩:=uH O u
  have X:A= []:=List.length_eq_zero_iff.1 u
  subst X
  clear O Q u
  go_enter Tryz.func57,Tryz.ntmps57
  go_wp2
  refine bodyPost_ret (v:=.agg #[.bool false,.slice D 0 F]) (by simp[results,Tryz.results57,go_sem]) rfl ⟨_,rfl,au.zero _ _ _ _,?_⟩
  exact((Below.refl w.heap.size w).alloc (Nat.le_refl _) _).alloc (by simp) _
 have aa:((A.length:Int)==0)=false:=by rw[beq_eq_false_iff_ne];omega
 have Y:=ac (fun G N=>uH Q G N u)
 clear O Q u
 go_enter Tryz.func57,Tryz.ntmps57
 go_wp2_with fail
 refine(uH Y _ (hA.below (uH U))).mono ?_
 rintro r w2 ⟨v,rfl,⟨n3,a3,c3,L3,rfl,i3⟩,I⟩
 have H:=(uH X2).all I
 have b2:=(uH U).trans (I.mono (uH U).size)
 have y0:=H.c0;have y1:=H.c1;have f0:=H.free 0;have f1:=H.free 1
 have X3:=ac H;have B2:=ac b2;have I3:=ac i3
 clear H b2 I i3
 go_wp2
 refine bodyPost_ret (v:=.agg #[.bool n3,.slice a3 L3.length c3]) (by simp[results,Tryz.results57,go_sem,y0,y1]) rfl ⟨_,rfl,⟨n3,a3,c3,L3,rfl,(uH I3).1.box (uH X3) _ _,(uH I3).2⟩,bW (uH B2) (by omega) _ _⟩
theorem Bu(u:Bool)(D:Option Addr)(F:Nat)(A:List Nat)(x:Int)(w:World)(hA:ag w D F A)(la:A.length≤512):
  Calls Tryz.prog 112 #[.agg #[.bool u,.slice D A.length F,.int .i64 x]] w fun r d=>∃v,r=.returned v∧aC d v (-af u A) x∧Below w.heap.size w d:=by
 have CN:=ac (fun d h=>oc u D F A d h (by omega))
 generalize-af u A=z at*
 have L:Below w.heap.size w ((w.alloc (.cells #[.bool u,.slice D A.length F,.int .i64 x] 35)).alloc (.cells #[.bool false,.slice none 0 0,.int .i64 0] 35)):=((Below.refl _ _).alloc (Nat.le_refl _) _).alloc (by simp) _
 have H:ak ((w.alloc (.cells #[.bool u,.slice D A.length F,.int .i64 x] 35)).alloc (.cells #[.bool false,.slice none 0 0,.int .i64 0] 35)) w.heap.size (.bool u) (.slice D A.length F) (.int .i64 x):=(ak.new _ _ _ _).old _
 have K:ak ((w.alloc (.cells #[.bool u,.slice D A.length F,.int .i64 x] 35)).alloc (.cells #[.bool false,.slice none 0 0,.int .i64 0] 35)) (w.heap.size+1) (.bool false) (.slice none 0 0) (.int .i64 0):=by
  have:=ak.new (w.alloc (.cells #[.bool u,.slice D A.length F,.int .i64 x] 35)) (.bool false) (.slice none 0 0) (.int .i64 0)
  simpa using this
 have B0:=ac L;have X0:=ac H;have Z:=ac K
 clear L H K
 go_enter Tryz.func112,Tryz.ntmps112
 go_wp2_with fail
 refine ap (fun W=>Below w.heap.size w W∧ak W w.heap.size (.bool u) (.slice D A.length F) (.int .i64 x)∧ak W (w.heap.size+1) (.bool false) (.slice none 0 0) (.int .i64 0)) ⟨uH B0,uH X0,uH Z⟩ ?_
 clear B0 X0 Z
 rintro O ⟨b0,H,K⟩
 have s0:w.heap.size+1<O.heap.size:=K.lt
 have hK:∀d,Below (w.heap.size+1) O d→Below (w.heap.size+1) O d∧d.cell? ⟨w.heap.size,0,none⟩=some (.bool u)∧d.cell? ⟨w.heap.size,1,none⟩=some (.slice D A.length F)∧d.cell? ⟨w.heap.size,2,none⟩=some (.int .i64 x):=fun d h=>
  ⟨h,(H.below h (by omega)).c0,(H.below h (by omega)).c1,(H.below h (by omega)).c2⟩
 have HK:=ac hK;have BB:=ac b0;have Z:=ac K
 clear hK b0 H K
 go_region_held3(fun d=>Below (w.heap.size+1) O d∧d.cell? ⟨w.heap.size,0,none⟩=some (.bool u)∧d.cell? ⟨w.heap.size,1,none⟩=some (.slice D A.length F)∧d.cell? ⟨w.heap.size,2,none⟩=some (.int .i64 x))
  (first|exact uH HK _ (Below.refl _ _).drew|exact uH HK _ (by assumption)|exact uH HK _ (aA N (by omega) _ _ _))
  (first|(go_at_call 116;refine(uH CN _ (hA.below ((uH BB).trans ((Below.refl _ _).drew)))).mono ?_;rintro e w3 ⟨v,rfl,⟨Q,U,X,Y,rfl,I⟩,J⟩;have N:Below (w.heap.size+1) O w3:=((Below.refl _ _).drew).trans (J.mono (by simp;omega));have G:=((uH Z).drew.below J (by simp;omega));have IZ:=ac (show au 0 w3 (.agg #[.bool Q,.slice U Y.length X]) z from⟨Q,U,X,Y,rfl,I.1,I.2.1,I.2.2.1,I.2.2.2.1,I.2.2.2.2.1,by have:=I.2.2.2.2.2;omega⟩);have y0:=G.c0;have y1:=G.c1;have y2:=G.c2;have f0:=G.free 0;have f1:=G.free 1;have f2:=G.free 2;have X5:=ac G;have aa:=ac ((uH BB).trans (N.mono (by omega)));clear J I G))
 go_wp2
 have j2:aC w3 (.agg #[.bool Q,.slice U Y.length X,.int .i64 x]) z x:=⟨Q,U,X,Y,rfl,uH IZ⟩
 refine bodyPost_ret (v:=.agg #[.bool Q,.slice U Y.length X,.int .i64 x]) (by simp[results,Tryz.results112,go_sem,y0,y1,y2]) rfl ⟨_,rfl,j2.put3 (uH X5) _ _ _,aA (uH aa) (by omega) _ _ _⟩
theorem vP{B h:Nat}{w:World}{v u:Value}{x y:Int}(z:au B w v x)(D:au h w u y)(F:x.natAbs<du)(G:y.natAbs<du):
  Calls Tryz.prog 56 #[v,u] w fun e d=>∃r,e=.returned r∧aJ 513 w.heap.size d r (x+y)∧Below w.heap.size w d:=by
 obtain⟨K,L,N,A,rfl,O,a2,Q,a4⟩:=z.right F
 obtain⟨U,X,Y,C,rfl,Z,b2,b3,b4⟩:=D.right G
 have:=vD K U L X N Y A C w O Z (by omega) (by omega)
 rw[Q,b3]at this
 exact this.mono fun e d ⟨r,H,I,J⟩=>⟨r,H,I.more (by omega),J⟩
theorem Bv{s x l:Int}(h:eh s x l=0):x-l≤16384:=by
 unfold eh at h
 by_cases d:(up s x l).natAbs<du∧x-l≤16384
 ·exact d.2
 ·rw[if_neg d]at h;exact absurd h (by decide)
theorem oB(D F:Bool)(H I:Option Addr)(J K:Nat)(A B:List Nat)(x y:Int)(w:World)(hA:ag w H J A)(hB:ag w I K B)(ra:av D A=true)(rb:av F B=true)(hx:-16384≤x∧x≤16384)(hy:-16384≤y∧y≤16384)(e1:eh (af D A) x (bL (af D A) x (af F B) y)=0)(e2:eh (af F B) y (bL (af D A) x (af F B) y)=0):
  Calls Tryz.prog 19 #[.agg #[.bool D,.slice H A.length J,.int .i64 x],.agg #[.bool F,.slice I B.length K,.int .i64 y]] w fun r d=>∃v,r=.returned v∧aC d v (oM (cW (af D A) x (af F B) y)) (oE (cW (af D A) x (af F B) y) (bL (af D A) x (af F B) y))∧Below w.heap.size w d:=by
 have CL:=ac (fun d=>Fx D F H I J K A.length B.length x y d)
 have U:=tw A.length B.length x y hx hy
 rw[IG ra rb]at CL U
 have g1:A.length≠0→bL (af D A) x (af F B) y≤x:=fun h=>by
  unfold bL
  rw[if_neg (fun e=>h ((aP ra).1 e))]
  split<;>omega
 have g2:B.length≠0→bL (af D A) x (af F B) y≤y:=fun h=>by
  unfold bL
  split
  ·omega
  ·rw[if_neg (fun e=>h ((aP rb).1 e))];omega
 obtain⟨z,hz⟩:∃z,cW (af D A) x (af F B) y=z:=⟨_,rfl⟩
 have aa:z=up (af D A) x (bL (af D A) x (af F B) y)+up (af F B) y (bL (af D A) x (af F B) y):=by rw[←hz];rfl
 rw[hz]
 clear hz
 generalize bL (af D A) x (af F B) y=l at*
 have aI:=ac (fun d h=>qu D H J A x l d h ra (fun h0=>⟨g1 h0,Bv e1⟩) hx U)
 have a0:=ac (fun d h=>qu F I K B y l d h rb (fun h0=>⟨g2 h0,Bv e2⟩) hy U)
 have ae:=ac (fun d u v (iu:au 0 d u (up (af D A) x l)) (iv:au 0 d v (up (af F B) y l))=>vP iu iv (kT e1) (kT e2))
 rw[←aa]at ae
 have CO:=ac (fun d u B' (iu:aJ 513 B' d u z)=>dO l iu (by decide) (by omega))
 clear ra rb e1 e2 aa g1 g2 hx hy
 generalize oE z l=ox at*
 generalize oM z=om at*
 generalize up (af D A) x l=za at*
 generalize up (af F B) y l=zb at*
 obtain⟨be,bg⟩:=U
 have ah:Below w.heap.size w (((w.alloc (.cells #[.bool D,.slice H A.length J,.int .i64 x] 35)).alloc (.cells #[.bool F,.slice I B.length K,.int .i64 y] 35)).alloc (.cells #[.bool false,.slice none 0 0,.int .i64 0] 35)):=
  (((Below.refl _ _).alloc (Nat.le_refl _) _).alloc (by simp) _).alloc (by simp;omega) _
 have O:ak (((w.alloc (.cells #[.bool D,.slice H A.length J,.int .i64 x] 35)).alloc (.cells #[.bool F,.slice I B.length K,.int .i64 y] 35)).alloc (.cells #[.bool false,.slice none 0 0,.int .i64 0] 35)) w.heap.size (.bool D) (.slice H A.length J) (.int .i64 x):=((ak.new _ _ _ _).old _).old _
 have Q:ak (((w.alloc (.cells #[.bool D,.slice H A.length J,.int .i64 x] 35)).alloc (.cells #[.bool F,.slice I B.length K,.int .i64 y] 35)).alloc (.cells #[.bool false,.slice none 0 0,.int .i64 0] 35)) (w.heap.size+1) (.bool F) (.slice I B.length K) (.int .i64 y):=by
  have:=(ak.new (w.alloc (.cells #[.bool D,.slice H A.length J,.int .i64 x] 35)) (.bool F) (.slice I B.length K) (.int .i64 y)).old (.cells #[.bool false,.slice none 0 0,.int .i64 0] 35)
  simpa using this
 have X:ak (((w.alloc (.cells #[.bool D,.slice H A.length J,.int .i64 x] 35)).alloc (.cells #[.bool F,.slice I B.length K,.int .i64 y] 35)).alloc (.cells #[.bool false,.slice none 0 0,.int .i64 0] 35)) (w.heap.size+1+1) (.bool false) (.slice none 0 0) (.int .i64 0):=by
  have:=ak.new ((w.alloc (.cells #[.bool D,.slice H A.length J,.int .i64 x] 35)).alloc (.cells #[.bool F,.slice I B.length K,.int .i64 y] 35)) (.bool false) (.slice none 0 0) (.int .i64 0)
  simpa using this
 have B0:=ac ah;have X0:=ac O;have X1:=ac Q;have X2:=ac X
 clear ah O Q X
 go_enter Tryz.func19,Tryz.ntmps19
 go_wp2_with fail
 refine(uH CL _).mono ?_
 rintro r w1 ⟨rfl,G⟩
 have O:=(uH X0).all G;have Q:=(uH X1).all G;have X:=(uH X2).all G
 have b1:=(uH B0).trans (G.mono (uH B0).size)
 have am:=ac O;have an:=ac Q;have ar:=ac X;have B1:=ac b1
 clear G O Q X b1 X0 X1 X2 B0 CL
 go_wp2_with fail
 refine ap (fun W=>Below w.heap.size w W∧ak W w.heap.size (.bool D) (.slice H A.length J) (.int .i64 x)∧ak W (w.heap.size+1) (.bool F) (.slice I B.length K) (.int .i64 y)∧ak W (w.heap.size+1+1) (.bool false) (.slice none 0 0) (.int .i64 0)) ⟨uH B1,uH am,uH an,uH ar⟩ ?_
 clear B1 am an ar
 rintro W0 ⟨b0,O,Q,X⟩
 have s0:w.heap.size+1+1<W0.heap.size:=X.lt
 have hK:∀d,Below (w.heap.size+1+1) W0 d→Below (w.heap.size+1+1) W0 d∧d.cell? ⟨w.heap.size,0,none⟩=some (.bool D)∧d.cell? ⟨w.heap.size,1,none⟩=some (.slice H A.length J)∧d.cell? ⟨w.heap.size,2,none⟩=some (.int .i64 x)∧d.cell? ⟨w.heap.size+1,0,none⟩=some (.bool F)∧d.cell? ⟨w.heap.size+1,1,none⟩=some (.slice I B.length K)∧d.cell? ⟨w.heap.size+1,2,none⟩=some (.int .i64 y):=fun d h=>
  ⟨h,(O.below h (by omega)).c0,(O.below h (by omega)).c1,(O.below h (by omega)).c2,(Q.below h (by omega)).c0,(Q.below h (by omega)).c1,(Q.below h (by omega)).c2⟩
 have HK:=ac hK;have BB:=ac b0;have X2:=ac X
 clear hK b0 O Q X
 go_region_held3(fun d=>Below (w.heap.size+1+1) W0 d∧d.cell? ⟨w.heap.size,0,none⟩=some (.bool D)∧d.cell? ⟨w.heap.size,1,none⟩=some (.slice H A.length J)∧d.cell? ⟨w.heap.size,2,none⟩=some (.int .i64 x)∧d.cell? ⟨w.heap.size+1,0,none⟩=some (.bool F)∧d.cell? ⟨w.heap.size+1,1,none⟩=some (.slice I B.length K)∧d.cell? ⟨w.heap.size+1,2,none⟩=some (.int .i64 y))
  (first|exact uH HK _ (Below.refl _ _).drew|exact uH HK _ (by assumption)|exact uH HK _ (aA bb (by omega) _ _ _))
  (first|(go_at_call_of 57 (Value.agg #[.bool D,.slice H A.length J,.int .i64 x]);refine(uH aI _ (hA.below ((uH BB).trans ((Below.refl _ _).drew)))).mono ?_;rintro e w3 ⟨v,rfl,⟨n1,a1,c1,L1,rfl,i1⟩,G⟩;have ax:Below (w.heap.size+1+1) W0 w3:=((Below.refl _ _).drew).trans (G.mono (by simp;omega));have X3:=ac ((uH X2).drew.below G (by simp;omega));have IA:=ac (show au 0 w3 (.agg #[.bool n1,.slice a1 L1.length c1]) za from⟨n1,a1,c1,L1,rfl,i1⟩);have s1:w.heap.size+1+1<w3.heap.size:=(by have:=G.size;simp at this;omega);have az:=ac ((uH BB).trans (ax.mono (by omega)));clear G i1)|(go_at_call_of 57 (Value.agg #[.bool F,.slice I B.length K,.int .i64 y]);refine(uH a0 _ (hB.below (uH az))).mono ?_;rintro e w4 ⟨v,rfl,⟨n2,a2,c2,L2,rfl,i2⟩,L⟩;have a4:Below (w.heap.size+1+1) W0 w4:=ax.trans (L.mono (by omega));have X4:=ac ((uH X3).below L (by omega));have a6:=ac ((uH IA).below L);have IB:=ac (show au 0 w4 (.agg #[.bool n2,.slice a2 L2.length c2]) zb from⟨n2,a2,c2,L2,rfl,i2⟩);have s2:w.heap.size+1+1<w4.heap.size:=(by have:=L.size;omega);have a7:=ac ((uH az).trans (L.mono (by omega)));clear L i2)|(go_at_call 56;refine(uH ae _ _ _ (uH a6) (uH IB)).mono ?_;rintro e w5 ⟨v,rfl,⟨n3,a3,c3,L3,rfl,i3⟩,N⟩;have a9:Below (w.heap.size+1+1) W0 w5:=a4.trans (N.mono (by omega));have X5:=ac ((uH X4).below N (by omega));have IZ:=ac (show aJ 513 w4.heap.size w5 (.agg #[.bool n3,.slice a3 L3.length c3]) z from⟨n3,a3,c3,L3,rfl,i3⟩);have s3:w.heap.size+1+1<w5.heap.size:=(by have:=N.size;omega);have ba:=ac ((uH a7).trans (N.mono (by omega)));clear N i3)|(go_at_call 27;refine(uH CO _ _ _ (uH IZ)).mono ?_;rintro e w6 ⟨u,rfl,iu,Y⟩;obtain⟨n5,a5,c5,L5,rfl,i5⟩:=iu.num;have bb:Below (w.heap.size+1+1) W0 w6:=a9.trans (Y.mono (by omega));have Z:=(uH X5).below Y (by omega);have y0:=Z.c0;have y1:=Z.c1;have y2:=Z.c2;have f0:=Z.free 0;have f1:=Z.free 1;have f2:=Z.free 2;have IU:=ac iu;have X7:=ac Z;have bd:=ac ((uH ba).trans (Y.mono (by omega)));clear Y iu i5 Z))
 go_wp2
 refine bodyPost_ret (v:=.agg #[.bool n5,.slice a5 L5.length c5,.int .i64 ox]) (by simp[results,Tryz.results19,go_sem,y0,y1,y2]) rfl ⟨_,rfl,(uH IU).put3 (uH X7) _ _ _,aA (uH bd) (by omega) _ _ _⟩
theorem oC(D z:Bool)(F H:Option Addr)(G I:Nat)(A B:List Nat)(x y:Int)(w:World)(hA:ag w F G A)(hB:ag w H I B)(ra:av D A=true)(rb:av z B=true)(hx:-16384≤x∧x≤16384)(hy:-16384≤y∧y≤16384)(e1:eh (af D A) x (bL (af D A) x (-af z B) y)=0)(e2:eh (-af z B) y (bL (af D A) x (-af z B) y)=0):
  Calls Tryz.prog 58 #[.agg #[.bool D,.slice F A.length G,.int .i64 x],.agg #[.bool z,.slice H B.length I,.int .i64 y]] w fun r d=>∃v,r=.returned v∧aC d v (oM (cW (af D A) x (-af z B) y)) (oE (cW (af D A) x (-af z B) y) (bL (af D A) x (-af z B) y))∧Below w.heap.size w d:=by
 have lb:=(ay rb).1
 have tb:=kR hB rb
 have CN:=ac (fun d h=>Bu z H I B y d h lb)
 have ah:=ac (fun d u (h:ag d F G A) (X:aC d u (-af z B) y)=>show Calls Tryz.prog 19 #[.agg #[.bool D,.slice F A.length G,.int .i64 x],u] d fun r Y=>∃v,r=.returned v∧aC Y v (oM (cW (af D A) x (-af z B) y)) (oE (cW (af D A) x (-af z B) y) (bL (af D A) x (-af z B) y))∧Below d.heap.size d Y by
  obtain⟨n1,a1,c1,L1,rfl,q1,q2,q3,q4,q5⟩:=X.right (by rw[Int.natAbs_neg];exact tb)
  have:=oB D n1 F a1 G c1 A L1 x y d h q1 ra q2 hx hy (by rw[q3];exact e1) (by rw[q3];exact e2)
  rwa[q3]at this)
 clear ra rb hx hy e1 e2 tb
 generalize oE (cW (af D A) x (-af z B) y) (bL (af D A) x (-af z B) y)=ox at*
 generalize oM (cW (af D A) x (-af z B) y)=om at*
 generalize-af z B=sb at*
 have Z:Below w.heap.size w (((w.alloc (.cells #[.bool D,.slice F A.length G,.int .i64 x] 35)).alloc (.cells #[.bool z,.slice H B.length I,.int .i64 y] 35)).alloc (.cells #[.bool false,.slice none 0 0,.int .i64 0] 35)):=
  (((Below.refl _ _).alloc (Nat.le_refl _) _).alloc (by simp) _).alloc (by simp;omega) _
 have N:ak (((w.alloc (.cells #[.bool D,.slice F A.length G,.int .i64 x] 35)).alloc (.cells #[.bool z,.slice H B.length I,.int .i64 y] 35)).alloc (.cells #[.bool false,.slice none 0 0,.int .i64 0] 35)) w.heap.size (.bool D) (.slice F A.length G) (.int .i64 x):=((ak.new _ _ _ _).old _).old _
 have O:ak (((w.alloc (.cells #[.bool D,.slice F A.length G,.int .i64 x] 35)).alloc (.cells #[.bool z,.slice H B.length I,.int .i64 y] 35)).alloc (.cells #[.bool false,.slice none 0 0,.int .i64 0] 35)) (w.heap.size+1) (.bool z) (.slice H B.length I) (.int .i64 y):=by
  have:=(ak.new (w.alloc (.cells #[.bool D,.slice F A.length G,.int .i64 x] 35)) (.bool z) (.slice H B.length I) (.int .i64 y)).old (.cells #[.bool false,.slice none 0 0,.int .i64 0] 35)
  simpa using this
 have Q:ak (((w.alloc (.cells #[.bool D,.slice F A.length G,.int .i64 x] 35)).alloc (.cells #[.bool z,.slice H B.length I,.int .i64 y] 35)).alloc (.cells #[.bool false,.slice none 0 0,.int .i64 0] 35)) (w.heap.size+1+1) (.bool false) (.slice none 0 0) (.int .i64 0):=by
  have:=ak.new ((w.alloc (.cells #[.bool D,.slice F A.length G,.int .i64 x] 35)).alloc (.cells #[.bool z,.slice H B.length I,.int .i64 y] 35)) (.bool false) (.slice none 0 0) (.int .i64 0)
  simpa using this
 have B0:=ac Z;have X0:=ac N;have X1:=ac O;have X2:=ac Q
 clear Z N O Q
 go_enter Tryz.func58,Tryz.ntmps58
 go_wp2_with fail
 refine ap (fun W=>Below w.heap.size w W∧ak W w.heap.size (.bool D) (.slice F A.length G) (.int .i64 x)∧ak W (w.heap.size+1) (.bool z) (.slice H B.length I) (.int .i64 y)∧ak W (w.heap.size+1+1) (.bool false) (.slice none 0 0) (.int .i64 0)) ⟨uH B0,uH X0,uH X1,uH X2⟩ ?_
 clear B0 X0 X1 X2
 rintro U ⟨b0,N,O,Q⟩
 have s0:w.heap.size+1+1<U.heap.size:=Q.lt
 have hK:∀d,Below (w.heap.size+1+1) U d→Below (w.heap.size+1+1) U d∧d.cell? ⟨w.heap.size,0,none⟩=some (.bool D)∧d.cell? ⟨w.heap.size,1,none⟩=some (.slice F A.length G)∧d.cell? ⟨w.heap.size,2,none⟩=some (.int .i64 x)∧d.cell? ⟨w.heap.size+1,0,none⟩=some (.bool z)∧d.cell? ⟨w.heap.size+1,1,none⟩=some (.slice H B.length I)∧d.cell? ⟨w.heap.size+1,2,none⟩=some (.int .i64 y):=fun d h=>
  ⟨h,(N.below h (by omega)).c0,(N.below h (by omega)).c1,(N.below h (by omega)).c2,(O.below h (by omega)).c0,(O.below h (by omega)).c1,(O.below h (by omega)).c2⟩
 have HK:=ac hK;have BB:=ac b0;have X2:=ac Q
 clear hK b0 N O Q
 go_region_held3(fun d=>Below (w.heap.size+1+1) U d∧d.cell? ⟨w.heap.size,0,none⟩=some (.bool D)∧d.cell? ⟨w.heap.size,1,none⟩=some (.slice F A.length G)∧d.cell? ⟨w.heap.size,2,none⟩=some (.int .i64 x)∧d.cell? ⟨w.heap.size+1,0,none⟩=some (.bool z)∧d.cell? ⟨w.heap.size+1,1,none⟩=some (.slice H B.length I)∧d.cell? ⟨w.heap.size+1,2,none⟩=some (.int .i64 y))
  (first|exact uH HK _ (Below.refl _ _).drew|exact uH HK _ (by assumption)|exact uH HK _ (aA am (by omega) _ _ _))
  (first|(go_at_call 112;refine(uH CN _ (hB.below ((uH BB).trans ((Below.refl _ _).drew)))).mono ?_;rintro e w3 ⟨v,rfl,iv,J⟩;obtain⟨n1,a1,c1,L1,rfl,i1⟩:=iv.num;have aa:Below (w.heap.size+1+1) U w3:=((Below.refl _ _).drew).trans (J.mono (by simp;omega));have X3:=ac ((uH X2).drew.below J (by simp;omega));have IN:=ac iv;have s1:w.heap.size+1+1<w3.heap.size:=(by have:=J.size;simp at this;omega);have ae:=ac ((uH BB).trans (aa.mono (by omega)));clear J i1 iv)|(go_at_call 19;refine(uH ah _ _ (hA.below (uH ae)) (uH IN)).mono ?_;rintro e w6 ⟨u,rfl,X,K⟩;obtain⟨n5,a5,c5,L5,rfl,i5⟩:=X.num;have am:Below (w.heap.size+1+1) U w6:=aa.trans (K.mono (by omega));have L:=(uH X3).below K (by omega);have y0:=L.c0;have y1:=L.c1;have y2:=L.c2;have f0:=L.free 0;have f1:=L.free 1;have f2:=L.free 2;have IU:=ac X;have X7:=ac L;have an:=ac ((uH ae).trans (K.mono (by omega)));clear K X i5 L))
 go_wp2
 refine bodyPost_ret (v:=.agg #[.bool n5,.slice a5 L5.length c5,.int .i64 ox]) (by simp[results,Tryz.results58,go_sem,y0,y1,y2]) rfl ⟨_,rfl,(uH IU).put3 (uH X7) _ _ _,aA (uH an) (by omega) _ _ _⟩
end Go.Proofs.YtcbcmlaogehimaaGreatDoor
namespace Go.Proofs.YtcbcmlaogehimaaGreatDoor
open Go.RowKit
theorem Bw(s x l:Int):up (-s) x l= -up s x l:=by unfold up;rw[Int.neg_mul]
theorem Fy(s x l:Int):eh (-s) x l=eh s x l:=by unfold eh;rw[Bw,Int.natAbs_neg]
theorem oD(u x d y:Int):bL u x (-d) y=bL u x d y:=by
 unfold bL
 by_cases h:d=0
 ·subst h;rfl
 ·rw[if_neg h,if_neg (show¬-d=0 by omega)]
attribute [local go_sem ↓] Go.wp_at_zero Go.wp_at_succ
theorem Fz{d x h y:Int}(u:eh d x (bL d x h y)=0)(z:eh h y (bL d x h y)=0)(A:(cW d x h y).natAbs<du):
  tm d x h y=cV (cW d x h y) (bL d x h y)∧tn d x h y=dM (cW d x h y) (bL d x h y)∧tq d x h y=dX (cW d x h y) (bL d x h y):=by
 have D:kQ d x h y=true:=decide_eq_true ⟨u,z,A⟩
 unfold tm tn tq
 rw[D]
 exact⟨rfl,rfl,rfl⟩
end Go.Proofs.YtcbcmlaogehimaaGreatDoor
namespace Go.Proofs.YtcbcmlaogehimaaGreatDoor
open Go.RowKit
def gc(z:Int):Int:=if z<0 then-1 else if z=0 then 0 else 1
def kU(sa x sb y:Int):Int:=bt (up sa x (bL sa x sb y)) (up sb y (bL sa x sb y))
theorem cN{u:Int}(h:u<0):gc u= -1:=by unfold gc;rw[if_pos h]
theorem gE:gc 0=0:=rfl
theorem cP{u:Int}(h:0<u):gc u=1:=by unfold gc;rw[if_neg (by omega),if_neg (by omega)]
theorem iV(s:Int)(k:Nat):gc (s*2^k)=gc s:=by
 have d:(0:Int)<2^k:=Int.pow_pos (by decide)
 rcases Int.lt_trichotomy s 0 with h|h|h
 ·rw[cN h,cN (Int.mul_neg_of_neg_of_pos h d)]
 ·subst h;rw[Int.zero_mul]
 ·rw[cP h,cP (Int.mul_pos h d)]
theorem nA(s x l:Int):gc (up s x l)=gc s:=iV s _
theorem kn{n:Bool}{L:List Nat}(h:av n L=true):ib n L.length=gc (af n L):=by
 unfold ib
 have z:=aP h
 by_cases d:L.length=0
 ·rw[if_pos d,z.2 d];rfl
 ·have u:af n L≠0:=fun e=>d (z.1 e)
  rw[if_neg d]
  unfold af at u⊢
  cases n
  ·simp only[Bool.false_eq_true,if_false]at u⊢
   rw[cP (by omega)]
  ·simp only[if_true]at u⊢
   rw[cN (by omega)]
theorem Bx{n:Bool}{L:List Nat}(h:av n L=true):vK n L.length=gc (af n L):=by
 rw[←kn h]
 unfold vK ib
 cases n
 ·rfl
 ·have:L.length≠0:=fun e=>(ay h).2.2 rfl (List.length_eq_zero_iff.1 e)
  simp[this]
theorem zn(u v:Int)(h:gc u≠gc v):bt (gc u) (gc v)=bt u v∧min 1 (max (-1) (gc u-gc v))=bt u v:=by
 rcases Int.lt_trichotomy u 0 with d|d|d<;>rcases Int.lt_trichotomy v 0 with z|z|z
 ·rw[cN d,cN z]at h;exact absurd rfl h
 ·subst z;rw[cN d,gE,dL d];decide
 ·rw[cN d,cP z,dL (show u<v by omega)];decide
 ·subst d;rw[cN z,gE,eW z];decide
 ·subst d;subst z;exact absurd rfl h
 ·subst d;rw[cP z,gE,dL z];decide
 ·rw[cP d,cN z,eW (show v<u by omega)];decide
 ·subst z;rw[cP d,gE,eW d];decide
 ·rw[cP d,cP z]at h;exact absurd rfl h
theorem Bz(D F A d u z:Nat)(G:D<2^A)(H:2^(d-1)≤F)(I:1≤d)(h:A+u<d+z):D*2^u<F*2^z:=by
 have J:D*2^u<2^(A+u):=by rw[Nat.pow_add];exact Nat.mul_lt_mul_of_pos_right G (Nat.pow_pos (by decide))
 have K:2^(d-1+z)≤F*2^z:=by rw[Nat.pow_add];exact Nat.mul_le_mul_right _ H
 have L:2^(A+u)≤2^(d-1+z):=Nat.pow_le_pow_right (by decide) (by omega)
 omega
theorem xJ(n:Bool)(L:List Nat)(x l:Int):up (af n L) x l=sg n (ai L*2^(x-l).toNat):=by
 unfold up
 rw[dN]
 unfold sg
 cases n
 ·simp
 ·simp[Int.neg_mul]
theorem zo(u v:Int):bt v u= -bt u v:=by
 unfold bt
 rcases Int.lt_trichotomy u v with h|h|h
 ·rw[if_neg (by omega),if_pos h,if_pos h];rfl
 ·subst h;simp
 ·rw[if_pos h,if_neg (by omega),if_pos h]
theorem oF(u v:Int):bt u v=gc (u-v):=by
 rcases Int.lt_trichotomy u v with h|h|h
 ·rw[dL h,cN (by omega)]
 ·subst h;rw[Fi rfl,Int.sub_self];rfl
 ·rw[eW h,cP (by omega)]
theorem qv{d u:Bool}{A B:List Nat}{x y:Int}(fA:bh A)(L:bh B)(D:av d A=true)(F:av u B=true)(G:A.length≠0)(H:B.length≠0)(N:d=u)(h:dW A+x<dW B+y):
  kU (af d A) x (af u B) y=(if d then 1 else-1)∧kU (af u B) y (af d A) x=(if d then-1 else 1):=by
 have I:af d A≠0:=fun e=>G ((aP D).1 e)
 have J:af u B≠0:=fun e=>H ((aP F).1 e)
 have O:=iw A fA (ay D).2.1 (fun e=>G (by rw[e];rfl))
 have K:=iw B L (ay F).2.1 (fun e=>H (by rw[e];rfl))
 rw[ir,ir]at h
 have z:∀l,l≤x→l≤y→bt (up (af d A) x l) (up (af u B) y l)=(if d then 1 else-1):=by
  intro l U X
  have Q:=Bz (ai A) (ai B) (j4 A) (j4 B) (x-l).toNat (y-l).toNat O.2.2 K.2.1 K.1 (by omega)
  rw[xJ,xJ,←N]
  unfold sg
  cases d
  ·simp only[Bool.false_eq_true,if_false]
   exact dL (by omega)
  ·simp only[if_true]
   exact eW (by omega)
 constructor
 ·unfold kU
  rw[iU _ _ _ _ I J]
  exact z _ (by omega) (by omega)
 ·unfold kU
  rw[iU _ _ _ _ J I,zo,z _ (by omega) (by omega)]
  cases d<;>rfl
theorem BC{d u:Bool}{A B:List Nat}{x y:Int}(fA:bh A)(z:bh B)(D:av d A=true)(F:av u B=true)(G:A.length≠0)(H:B.length≠0)(h:dW A+x=dW B+y):
  eh (af d A) x (min x y)=0∧eh (af u B) y (min x y)=0:=by
 have bl:∀(n:Bool) (L:List Nat),bh L→av n L=true→L.length≠0→1≤dW L∧dW L≤16384:=fun n L f r K=>by
  have s:=iw L f (ay r).2.1 (fun e=>K (by rw[e];rfl))
  have I:=(dz L f (ay r).2.1).2 (ay r).1
  have N:32*mb=16384:=rfl
  rw[vN]at I
  have J:=xH (ai L) (j4 L) 0 (32*mb) s.1 s.2.1 s.2.2
  rw[Nat.pow_zero,Nat.mul_one]at J
  have:=J.1 I
  rw[ir]
  omega
 have O:=bl d A fA D G
 have Q:=bl u B z F H
 rw[xI d A x _ fA D (fun e=>G (by rw[e];rfl)) (by omega),xI u B y _ z F (fun e=>H (by rw[e];rfl)) (by omega)]
 omega
attribute [local go_sem ↓] Go.wp_at_zero Go.wp_at_succ
theorem BG{d u:Bool}{A B:List Nat}{x y:Int}(fA:bh A)(L:bh B)(N:kC d A x=true)(O:kC u B y=true):
  (ib d A.length≠ib u B.length∧bt (ib d A.length) (ib u B.length)=kU (af d A) x (af u B) y∧min 1 (max (-1) (ib d A.length-ib u B.length))=kU (af d A) x (af u B) y)∨
  (ib d A.length=ib u B.length∧∃s c:Int,(s=1∨s= -1)∧((c=1∧ic B y<ic A x)∨(c= -1∧ic A x<ic B y))∧ib d A.length=s∧bt (ic A x) (ic B y)=c∧kU (af d A) x (af u B) y=s*c)∨
  (ib d A.length=ib u B.length∧ic A x=ic B y∧eh (af d A) x (min x y)=0∧eh (af u B) y (min x y)=0∧bt (up (af d A) x (min x y)) (up (af u B) y (min x y))=kU (af d A) x (af u B) y∧bL (af d A) x (af u B) y=min x y):=by
 obtain⟨H,_,a1,a2,zx⟩:=bX N
 obtain⟨I,_,b1,b2,zy⟩:=bX O
 rw[kn H,kn I]
 by_cases z:gc (af d A)=gc (af u B)
 case neg=>
  left
  have h:=zn (up (af d A) x (bL (af d A) x (af u B) y)) (up (af u B) y (bL (af d A) x (af u B) y)) (by rw[nA,nA];exact z)
  rw[nA,nA]at h
  exact⟨z,h.1,h.2⟩
 right
 by_cases D:A.length=0
 ·have Y:=(aP H).2 D
  have Z:af u B=0:=by
   rw[Y,gE]at z
   rcases Int.lt_trichotomy (af u B) 0 with h|h|h
   ·rw[cN h]at z;exact absurd z (by decide)
   ·exact h
   ·rw[cP h]at z;exact absurd z (by decide)
  have F:=(aP I).1 Z
  right
  refine⟨z,by unfold ic;rw[if_pos D,if_pos F],?_⟩
  rw[Y,Z,zx D,zy F]
  refine⟨dY _ _ _ (by rw[ei];exact iS) (by decide),dY _ _ _ (by rw[ei];exact iS) (by decide),?_,by simp[bL]⟩
  unfold kU
  simp[ei]
 have Q:af d A≠0:=fun e=>D ((aP H).1 e)
 have U:af u B≠0:=fun e=>by
  rw[e,gE]at z
  rcases Int.lt_trichotomy (af d A) 0 with h|h|h
  ·rw[cN h]at z;exact absurd z (by decide)
  ·exact Q h
  ·rw[cP h]at z;exact absurd z (by decide)
 have F:B.length≠0:=fun e=>U ((aP I).2 e)
 have G:d=u∧gc (af d A)=if d then-1 else 1:=by
  have J:=kn H
  have X:=kn I
  unfold ib at J X
  rw[if_neg D]at J
  rw[if_neg F]at X
  refine⟨?_,J.symm⟩
  rw[←J,←X]at z
  cases d<;>cases u<;>first|rfl|exact absurd z (by decide)
 have tA:ic A x=dW A+x:=by unfold ic;rw[if_neg D]
 have tB:ic B y=dW B+y:=by unfold ic;rw[if_neg F]
 rw[tA,tB]
 rcases Int.lt_trichotomy (dW A+x) (dW B+y)with h|h|h
 ·left
  have K:=(qv fA L H I D F G.1 h).1
  refine⟨z,if d then-1 else 1,-1,?_,.inr ⟨rfl,h⟩,G.2,dL h,?_⟩
  ·cases d<;>simp
  ·rw[K];cases d<;>rfl
 ·right
  have hf:=BC fA L H I D F h
  refine⟨z,h,hf.1,hf.2,?_,iU _ _ _ _ Q U⟩
  unfold kU
  rw[iU _ _ _ _ Q U]
 ·left
  have K:=(qv L fA I H F D G.1.symm h).2
  rw[←G.1]at K
  refine⟨z,if d then-1 else 1,1,?_,.inl ⟨rfl,h⟩,G.2,eW h,?_⟩
  ·cases d<;>simp
  ·rw[G.1,←G.1,K];cases d<;>rfl
theorem FA{neg:Bool}{L:List Nat}{m:Int}(z:bQ L)(d:neg=decide (m<0))(u:ai L=m.natAbs):vK neg L.length=gc m:=by
 unfold vK
 rcases Int.lt_trichotomy m 0 with h|h|h
 ·rw[d,decide_eq_true h,if_pos rfl,cN h]
 ·subst h
  have:L= []:=(aR L z).1 (by rw[u];rfl)
  rw[d,this]
  rfl
 ·have A:L.length≠0:=fun e=>by
   have:L= []:=List.length_eq_zero_iff.1 e
   rw[this]at u;simp[ai]at u;omega
  rw[d,decide_eq_false (by omega),if_neg (by decide),if_neg A,cP h]
theorem xK(z:Int):gc (oM z)=gc z:=by
 by_cases h:z=0
 ·subst h;rw[aX]
 ·have:=(eQ z h).1
  conv=>rhs;rw[this]
  rw[iV]
theorem oG(n:Bool)(k:Nat):ib n k= -1∨ib n k=0∨ib n k=1:=by
 unfold ib
 split
 ·exact .inr (.inl rfl)
 ·cases n
  ·exact .inr (.inr rfl)
  ·exact .inl rfl
theorem rj(F G:Bool)(J K:Option Addr)(L N:Nat)(A B:List Nat)(x y:Int)(w:World)(hA:ag w J L A)(hB:ag w K N B)(a2:kC F A x=true)(a3:kC G B y=true):
  Calls Tryz.prog 33 #[.agg #[.bool F,.slice J A.length L,.int .i64 x],.agg #[.bool G,.slice K B.length N,.int .i64 y]] w fun r d=>r=.returned (.int .i64 (kU (af F A) x (af G B) y))∧Below w.heap.size w d:=by
 have am:=ac (BG hA.2.1 hB.2.1 a2 a3)
 obtain⟨ra,la,bd,be,zx⟩:=bX a2
 obtain⟨rb,lb,bg,bi,zy⟩:=bX a3
 have an:=ac (fun d=>ml F J L A.length x d)
 have ar:=ac (fun d=>ml G K N B.length y d)
 rw[Bx ra,←kn ra]at an
 rw[Bx rb,←kn rb]at ar
 have az:=ac (fun d h=>ow F J L A x d h (by omega) (by omega))
 have aI:=ac (fun d h=>ow G K N B y d h (by omega) (by omega))
 have ae:=ac (fun(Z:bL (af F A) x (af G B) y=min x y) (h1:eh (af F A) x (min x y)=0) (h2:eh (af G B) y (min x y)=0) d h h'=>oC F G J K L N A B x y d h h' ra rb ⟨bd,be⟩ ⟨bg,bi⟩ (by rw[oD,Z];exact h1) (by rw[oD,Fy,Z];exact h2))
 have HZ:=ac (fun(Z:bL (af F A) x (af G B) y=min x y)=>show gc (oM (cW (af F A) x (-af G B) y))=bt (up (af F A) x (min x y)) (up (af G B) y (min x y)) by
  rw[xK,oF]
  unfold cW
  rw[oD,Z,Bw,Int.sub_eq_add_neg])
 have a0:=ac (oG F A.length);have a1:=ac (oG G B.length)
 clear a2 a3 zx zy ra rb
 generalize oE (cW (af F A) x (-af G B) y) (bL (af F A) x (-af G B) y)=oe at*
 generalize oM (cW (af F A) x (-af G B) y)=om at*
 generalize kU (af F A) x (af G B) y=cv at*
 generalize eh (af F A) x (min x y)=ea at*
 generalize eh (af G B) y (min x y)=eb at*
 generalize up (af F A) x (min x y)=za at*
 generalize up (af G B) y (min x y)=zb at*
 generalize ic A x=ta at*
 generalize ic B y=tb at*
 generalize ib F A.length=bq at*
 generalize ib G B.length=bs at*
 generalize bL (af F A) x (af G B) y=l at*
 have a7:Below w.heap.size w ((w.alloc (.cells #[.bool F,.slice J A.length L,.int .i64 x] 35)).alloc (.cells #[.bool G,.slice K B.length N,.int .i64 y] 35)):=((Below.refl _ _).alloc (Nat.le_refl _) _).alloc (by simp) _
 have H:ak ((w.alloc (.cells #[.bool F,.slice J A.length L,.int .i64 x] 35)).alloc (.cells #[.bool G,.slice K B.length N,.int .i64 y] 35)) w.heap.size (.bool F) (.slice J A.length L) (.int .i64 x):=(ak.new _ _ _ _).old _
 have I:ak ((w.alloc (.cells #[.bool F,.slice J A.length L,.int .i64 x] 35)).alloc (.cells #[.bool G,.slice K B.length N,.int .i64 y] 35)) (w.heap.size+1) (.bool G) (.slice K B.length N) (.int .i64 y):=by
  have:=ak.new (w.alloc (.cells #[.bool F,.slice J A.length L,.int .i64 x] 35)) (.bool G) (.slice K B.length N) (.int .i64 y)
  simpa using this
 have B0:=ac a7;have O:=ac H;have Q:=ac I
 clear a7 H I
 rcases uH am with⟨a4,_,hc⟩|⟨ah,s,c,hs,hc,rfl,bn,aa⟩|⟨ah,bp,h1,h2,aa,Z⟩
 ·clear am az aI ae HZ
  rcases uH a0 with rfl|rfl|rfl<;>rcases uH a1 with rfl|rfl|rfl
  all_goals first|exact absurd rfl a4|skip
  all_goals
   have aa:cv=_:=hc.symm
   clear a4 hc a0 a1
   simp only[show min (1:Int) (max (-1) (-1-0))= -1 by decide,show min (1:Int) (max (-1) (-1-1))= -1 by decide,show min (1:Int) (max (-1) (0- -1))=1 by decide,show min (1:Int) (max (-1) (0-1))= -1 by decide,show min (1:Int) (max (-1) (1- -1))=1 by decide,show min (1:Int) (max (-1) (1-0))=1 by decide]at aa
   subst aa
   go_enter Tryz.func33,Tryz.ntmps33
   go_wp2_with fail
   refine ap (fun W=>Below w.heap.size w W∧ak W w.heap.size (.bool F) (.slice J A.length L) (.int .i64 x)∧ak W (w.heap.size+1) (.bool G) (.slice K B.length N) (.int .i64 y)) ⟨uH B0,uH O,uH Q⟩ ?_
   clear B0 O Q
   rintro D ⟨X,H,I⟩
   have hK:∀d,Below D.heap.size D d→Below D.heap.size D d∧d.cell? ⟨w.heap.size,0,none⟩=some (.bool F)∧d.cell? ⟨w.heap.size,1,none⟩=some (.slice J A.length L)∧d.cell? ⟨w.heap.size,2,none⟩=some (.int .i64 x)∧d.cell? ⟨w.heap.size+1,0,none⟩=some (.bool G)∧d.cell? ⟨w.heap.size+1,1,none⟩=some (.slice K B.length N)∧d.cell? ⟨w.heap.size+1,2,none⟩=some (.int .i64 y):=fun d h=>
    ⟨h,(H.all h).c0,(H.all h).c1,(H.all h).c2,(I.all h).c0,(I.all h).c1,(I.all h).c2⟩
   have HK:=ac hK
   have HA:=ac (hA.below X);have HB:=ac (hB.below X);have BB:=ac X;have O:=ac H;have Q:=ac I
   clear hK X H I
   go_region_held3(fun d=>Below D.heap.size D d∧d.cell? ⟨w.heap.size,0,none⟩=some (.bool F)∧d.cell? ⟨w.heap.size,1,none⟩=some (.slice J A.length L)∧d.cell? ⟨w.heap.size,2,none⟩=some (.int .i64 x)∧d.cell? ⟨w.heap.size+1,0,none⟩=some (.bool G)∧d.cell? ⟨w.heap.size+1,1,none⟩=some (.slice K B.length N)∧d.cell? ⟨w.heap.size+1,2,none⟩=some (.int .i64 y))
    (first|exact uH HK _ (Below.refl _ _).drew|exact uH HK _ (by assumption))
    (first|(go_at_call_of 68 (Value.agg #[.bool F,.slice J A.length L,.int .i64 x]);refine(uH an _).mono ?_;rintro e U ⟨rfl,z⟩;have Y:Below D.heap.size D U:=Below.trans (And.left (by assumption)) (z.mono (Below.size (And.left (by assumption))));clear z)|(go_at_call_of 68 (Value.agg #[.bool G,.slice K B.length N,.int .i64 y]);refine(uH ar _).mono ?_;rintro e U ⟨rfl,z⟩;have Y:Below D.heap.size D U:=Below.trans (And.left (by assumption)) (z.mono (Below.size (And.left (by assumption))));clear z))
   go_wp2_with fail
   have hn:Below D.heap.size D U:=And.left (by assumption)
   have b9:=(uH BB).trans (hn.mono (uH BB).size);have x9:=(uH O).all hn;have y9:=(uH Q).all hn
   clear HK HA HB BB O Q hn
   have B0:=ac b9;have O:=ac x9;have Q:=ac y9
   clear b9 x9 y9
   refine ap (fun W=>Below w.heap.size w W∧ak W w.heap.size (.bool F) (.slice J A.length L) (.int .i64 x)∧ak W (w.heap.size+1) (.bool G) (.slice K B.length N) (.int .i64 y)) ⟨uH B0,uH O,uH Q⟩ ?_
   clear B0 O Q
   rintro D ⟨X,H,I⟩
   have hK:∀d,Below D.heap.size D d→Below D.heap.size D d∧d.cell? ⟨w.heap.size,0,none⟩=some (.bool F)∧d.cell? ⟨w.heap.size,1,none⟩=some (.slice J A.length L)∧d.cell? ⟨w.heap.size,2,none⟩=some (.int .i64 x)∧d.cell? ⟨w.heap.size+1,0,none⟩=some (.bool G)∧d.cell? ⟨w.heap.size+1,1,none⟩=some (.slice K B.length N)∧d.cell? ⟨w.heap.size+1,2,none⟩=some (.int .i64 y):=fun d h=>
    ⟨h,(H.all h).c0,(H.all h).c1,(H.all h).c2,(I.all h).c0,(I.all h).c1,(I.all h).c2⟩
   have HK:=ac hK
   have HA:=ac (hA.below X);have HB:=ac (hB.below X);have BB:=ac X;have O:=ac H;have Q:=ac I
   clear hK X H I
   go_region_held3(fun d=>Below D.heap.size D d∧d.cell? ⟨w.heap.size,0,none⟩=some (.bool F)∧d.cell? ⟨w.heap.size,1,none⟩=some (.slice J A.length L)∧d.cell? ⟨w.heap.size,2,none⟩=some (.int .i64 x)∧d.cell? ⟨w.heap.size+1,0,none⟩=some (.bool G)∧d.cell? ⟨w.heap.size+1,1,none⟩=some (.slice K B.length N)∧d.cell? ⟨w.heap.size+1,2,none⟩=some (.int .i64 y))
    (first|exact uH HK _ (Below.refl _ _).drew|exact uH HK _ (by assumption))
    (first|(go_at_call_of 68 (Value.agg #[.bool F,.slice J A.length L,.int .i64 x]);refine(uH an _).mono ?_;rintro e U ⟨rfl,z⟩;have Y:Below D.heap.size D U:=Below.trans (And.left (by assumption)) (z.mono (Below.size (And.left (by assumption))));clear z)|(go_at_call_of 68 (Value.agg #[.bool G,.slice K B.length N,.int .i64 y]);refine(uH ar _).mono ?_;rintro e U ⟨rfl,z⟩;have Y:Below D.heap.size D U:=Below.trans (And.left (by assumption)) (z.mono (Below.size (And.left (by assumption))));clear z))
   go_wp2
   go_ret
   exact⟨rfl,(uH BB).trans (Below.mono (And.left (by assumption)) (uH BB).size)⟩
 ·subst ah
  have a9:=ac aa
  clear am ae HZ a0 a1 bn aa
  rcases hs with rfl|rfl
  all_goals
   rcases hc with⟨rfl,ht⟩|⟨rfl,ht⟩
  all_goals
   have aa:=uH a9
   simp only[show(1:Int)*1=1 by decide,show(1:Int)* -1= -1 by decide,show(-1:Int)*1= -1 by decide,show(-1:Int)* -1=1 by decide]at aa
   subst aa
   have a4:(ta != tb)=true:=by rw[bne_iff_ne];omega
   first|(have g:decide (tb<ta)=true:=decide_eq_true (by omega))|(have g:decide (tb<ta)=false:=decide_eq_false (by omega))
   clear a9
   go_enter Tryz.func33,Tryz.ntmps33
   go_wp2_with fail
   refine ap (fun W=>Below w.heap.size w W∧ak W w.heap.size (.bool F) (.slice J A.length L) (.int .i64 x)∧ak W (w.heap.size+1) (.bool G) (.slice K B.length N) (.int .i64 y)) ⟨uH B0,uH O,uH Q⟩ ?_
   clear B0 O Q
   rintro D ⟨X,H,I⟩
   have hK:∀d,Below D.heap.size D d→Below D.heap.size D d∧d.cell? ⟨w.heap.size,0,none⟩=some (.bool F)∧d.cell? ⟨w.heap.size,1,none⟩=some (.slice J A.length L)∧d.cell? ⟨w.heap.size,2,none⟩=some (.int .i64 x)∧d.cell? ⟨w.heap.size+1,0,none⟩=some (.bool G)∧d.cell? ⟨w.heap.size+1,1,none⟩=some (.slice K B.length N)∧d.cell? ⟨w.heap.size+1,2,none⟩=some (.int .i64 y):=fun d h=>
    ⟨h,(H.all h).c0,(H.all h).c1,(H.all h).c2,(I.all h).c0,(I.all h).c1,(I.all h).c2⟩
   have HK:=ac hK
   have HA:=ac (hA.below X);have HB:=ac (hB.below X);have BB:=ac X;have O:=ac H;have Q:=ac I
   clear hK X H I
   go_region_held3(fun d=>Below D.heap.size D d∧d.cell? ⟨w.heap.size,0,none⟩=some (.bool F)∧d.cell? ⟨w.heap.size,1,none⟩=some (.slice J A.length L)∧d.cell? ⟨w.heap.size,2,none⟩=some (.int .i64 x)∧d.cell? ⟨w.heap.size+1,0,none⟩=some (.bool G)∧d.cell? ⟨w.heap.size+1,1,none⟩=some (.slice K B.length N)∧d.cell? ⟨w.heap.size+1,2,none⟩=some (.int .i64 y))
    (first|exact uH HK _ (Below.refl _ _).drew|exact uH HK _ (by assumption))
    (first|(go_at_call_of 68 (Value.agg #[.bool F,.slice J A.length L,.int .i64 x]);refine(uH an _).mono ?_;rintro e U ⟨rfl,z⟩;have Y:Below D.heap.size D U:=Below.trans (And.left (by assumption)) (z.mono (Below.size (And.left (by assumption))));clear z)|(go_at_call_of 68 (Value.agg #[.bool G,.slice K B.length N,.int .i64 y]);refine(uH ar _).mono ?_;rintro e U ⟨rfl,z⟩;have Y:Below D.heap.size D U:=Below.trans (And.left (by assumption)) (z.mono (Below.size (And.left (by assumption))));clear z))
   go_wp2_with fail
   have hn:Below D.heap.size D U:=And.left (by assumption)
   have b9:=(uH BB).trans (hn.mono (uH BB).size);have x9:=(uH O).all hn;have y9:=(uH Q).all hn
   clear HK HA HB BB O Q hn
   have B0:=ac b9;have O:=ac x9;have Q:=ac y9
   clear b9 x9 y9
   refine ap (fun W=>Below w.heap.size w W∧ak W w.heap.size (.bool F) (.slice J A.length L) (.int .i64 x)∧ak W (w.heap.size+1) (.bool G) (.slice K B.length N) (.int .i64 y)) ⟨uH B0,uH O,uH Q⟩ ?_
   clear B0 O Q
   rintro D ⟨X,H,I⟩
   have hK:∀d,Below D.heap.size D d→Below D.heap.size D d∧d.cell? ⟨w.heap.size,0,none⟩=some (.bool F)∧d.cell? ⟨w.heap.size,1,none⟩=some (.slice J A.length L)∧d.cell? ⟨w.heap.size,2,none⟩=some (.int .i64 x)∧d.cell? ⟨w.heap.size+1,0,none⟩=some (.bool G)∧d.cell? ⟨w.heap.size+1,1,none⟩=some (.slice K B.length N)∧d.cell? ⟨w.heap.size+1,2,none⟩=some (.int .i64 y):=fun d h=>
    ⟨h,(H.all h).c0,(H.all h).c1,(H.all h).c2,(I.all h).c0,(I.all h).c1,(I.all h).c2⟩
   have HK:=ac hK
   have HA:=ac (hA.below X);have HB:=ac (hB.below X);have BB:=ac X;have O:=ac H;have Q:=ac I
   clear hK X H I
   go_region_held3(fun d=>Below D.heap.size D d∧d.cell? ⟨w.heap.size,0,none⟩=some (.bool F)∧d.cell? ⟨w.heap.size,1,none⟩=some (.slice J A.length L)∧d.cell? ⟨w.heap.size,2,none⟩=some (.int .i64 x)∧d.cell? ⟨w.heap.size+1,0,none⟩=some (.bool G)∧d.cell? ⟨w.heap.size+1,1,none⟩=some (.slice K B.length N)∧d.cell? ⟨w.heap.size+1,2,none⟩=some (.int .i64 y))
    (first|exact uH HK _ (Below.refl _ _).drew|exact uH HK _ (by assumption))
    (first|(go_at_call_of 69 (Value.agg #[.bool F,.slice J A.length L,.int .i64 x]);refine(uH az _ ((uH HA).below (And.left (by assumption)))).mono ?_;rintro e U ⟨rfl,z⟩;have Y:Below D.heap.size D U:=Below.trans (And.left (by assumption)) (z.mono (Below.size (And.left (by assumption))));clear z)|(go_at_call_of 69 (Value.agg #[.bool G,.slice K B.length N,.int .i64 y]);refine(uH aI _ ((uH HB).below (And.left (by assumption)))).mono ?_;rintro e U ⟨rfl,z⟩;have Y:Below D.heap.size D U:=Below.trans (And.left (by assumption)) (z.mono (Below.size (And.left (by assumption))));clear z))
   go_wp2_with fail
   have hn:Below D.heap.size D U:=And.left (by assumption)
   have b9:=(uH BB).trans (hn.mono (uH BB).size);have x9:=(uH O).all hn;have y9:=(uH Q).all hn
   clear HK HA HB BB O Q hn
   have B0:=ac b9;have O:=ac x9;have Q:=ac y9
   clear b9 x9 y9
   refine ap (fun W=>Below w.heap.size w W∧ak W w.heap.size (.bool F) (.slice J A.length L) (.int .i64 x)∧ak W (w.heap.size+1) (.bool G) (.slice K B.length N) (.int .i64 y)) ⟨uH B0,uH O,uH Q⟩ ?_
   clear B0 O Q
   rintro D ⟨X,H,I⟩
   have hK:∀d,Below D.heap.size D d→Below D.heap.size D d∧d.cell? ⟨w.heap.size,0,none⟩=some (.bool F)∧d.cell? ⟨w.heap.size,1,none⟩=some (.slice J A.length L)∧d.cell? ⟨w.heap.size,2,none⟩=some (.int .i64 x)∧d.cell? ⟨w.heap.size+1,0,none⟩=some (.bool G)∧d.cell? ⟨w.heap.size+1,1,none⟩=some (.slice K B.length N)∧d.cell? ⟨w.heap.size+1,2,none⟩=some (.int .i64 y):=fun d h=>
    ⟨h,(H.all h).c0,(H.all h).c1,(H.all h).c2,(I.all h).c0,(I.all h).c1,(I.all h).c2⟩
   have HK:=ac hK
   have HA:=ac (hA.below X);have HB:=ac (hB.below X);have BB:=ac X;have O:=ac H;have Q:=ac I
   clear hK X H I
   go_region_held3(fun d=>Below D.heap.size D d∧d.cell? ⟨w.heap.size,0,none⟩=some (.bool F)∧d.cell? ⟨w.heap.size,1,none⟩=some (.slice J A.length L)∧d.cell? ⟨w.heap.size,2,none⟩=some (.int .i64 x)∧d.cell? ⟨w.heap.size+1,0,none⟩=some (.bool G)∧d.cell? ⟨w.heap.size+1,1,none⟩=some (.slice K B.length N)∧d.cell? ⟨w.heap.size+1,2,none⟩=some (.int .i64 y))
    (first|exact uH HK _ (Below.refl _ _).drew|exact uH HK _ (by assumption))
    (first|(go_at_call_of 69 (Value.agg #[.bool F,.slice J A.length L,.int .i64 x]);refine(uH az _ ((uH HA).below (And.left (by assumption)))).mono ?_;rintro e U ⟨rfl,z⟩;have Y:Below D.heap.size D U:=Below.trans (And.left (by assumption)) (z.mono (Below.size (And.left (by assumption))));clear z)|(go_at_call_of 69 (Value.agg #[.bool G,.slice K B.length N,.int .i64 y]);refine(uH aI _ ((uH HB).below (And.left (by assumption)))).mono ?_;rintro e U ⟨rfl,z⟩;have Y:Below D.heap.size D U:=Below.trans (And.left (by assumption)) (z.mono (Below.size (And.left (by assumption))));clear z)|(go_at_call_of 68 (Value.agg #[.bool F,.slice J A.length L,.int .i64 x]);refine(uH an _).mono ?_;rintro e U ⟨rfl,z⟩;have Y:Below D.heap.size D U:=Below.trans (And.left (by assumption)) (z.mono (Below.size (And.left (by assumption))));clear z)|(go_at_call_of 68 (Value.agg #[.bool G,.slice K B.length N,.int .i64 y]);refine(uH ar _).mono ?_;rintro e U ⟨rfl,z⟩;have Y:Below D.heap.size D U:=Below.trans (And.left (by assumption)) (z.mono (Below.size (And.left (by assumption))));clear z))
   go_wp2
   go_ret
   exact⟨rfl,(uH BB).trans (Below.mono (And.left (by assumption)) (uH BB).size)⟩
 ·subst ah
  subst bp
  have hz:=uH HZ Z
  rw[aa]at hz
  have bb:=ac hz
  have ax:=ac (uH ae Z h1 h2)
  have ae:=ax
  clear am a0 a1 HZ Z h1 h2 aa hz ax
  go_enter Tryz.func33,Tryz.ntmps33
  go_wp2_with fail
  refine ap (fun W=>Below w.heap.size w W∧ak W w.heap.size (.bool F) (.slice J A.length L) (.int .i64 x)∧ak W (w.heap.size+1) (.bool G) (.slice K B.length N) (.int .i64 y)) ⟨uH B0,uH O,uH Q⟩ ?_
  clear B0 O Q
  rintro D ⟨X,H,I⟩
  have hK:∀d,Below D.heap.size D d→Below D.heap.size D d∧d.cell? ⟨w.heap.size,0,none⟩=some (.bool F)∧d.cell? ⟨w.heap.size,1,none⟩=some (.slice J A.length L)∧d.cell? ⟨w.heap.size,2,none⟩=some (.int .i64 x)∧d.cell? ⟨w.heap.size+1,0,none⟩=some (.bool G)∧d.cell? ⟨w.heap.size+1,1,none⟩=some (.slice K B.length N)∧d.cell? ⟨w.heap.size+1,2,none⟩=some (.int .i64 y):=fun d h=>
   ⟨h,(H.all h).c0,(H.all h).c1,(H.all h).c2,(I.all h).c0,(I.all h).c1,(I.all h).c2⟩
  have HK:=ac hK
  have HA:=ac (hA.below X);have HB:=ac (hB.below X);have BB:=ac X;have O:=ac H;have Q:=ac I
  clear hK X H I
  go_region_held3(fun d=>Below D.heap.size D d∧d.cell? ⟨w.heap.size,0,none⟩=some (.bool F)∧d.cell? ⟨w.heap.size,1,none⟩=some (.slice J A.length L)∧d.cell? ⟨w.heap.size,2,none⟩=some (.int .i64 x)∧d.cell? ⟨w.heap.size+1,0,none⟩=some (.bool G)∧d.cell? ⟨w.heap.size+1,1,none⟩=some (.slice K B.length N)∧d.cell? ⟨w.heap.size+1,2,none⟩=some (.int .i64 y))
   (first|exact uH HK _ (Below.refl _ _).drew|exact uH HK _ (by assumption))
   (first|(go_at_call_of 68 (Value.agg #[.bool F,.slice J A.length L,.int .i64 x]);refine(uH an _).mono ?_;rintro e U ⟨rfl,z⟩;have Y:Below D.heap.size D U:=Below.trans (And.left (by assumption)) (z.mono (Below.size (And.left (by assumption))));clear z)|(go_at_call_of 68 (Value.agg #[.bool G,.slice K B.length N,.int .i64 y]);refine(uH ar _).mono ?_;rintro e U ⟨rfl,z⟩;have Y:Below D.heap.size D U:=Below.trans (And.left (by assumption)) (z.mono (Below.size (And.left (by assumption))));clear z))
  go_wp2_with fail
  have hn:Below D.heap.size D U:=And.left (by assumption)
  have b9:=(uH BB).trans (hn.mono (uH BB).size);have x9:=(uH O).all hn;have y9:=(uH Q).all hn
  clear HK HA HB BB O Q hn
  have B0:=ac b9;have O:=ac x9;have Q:=ac y9
  clear b9 x9 y9
  refine ap (fun W=>Below w.heap.size w W∧ak W w.heap.size (.bool F) (.slice J A.length L) (.int .i64 x)∧ak W (w.heap.size+1) (.bool G) (.slice K B.length N) (.int .i64 y)) ⟨uH B0,uH O,uH Q⟩ ?_
  clear B0 O Q
  rintro D ⟨X,H,I⟩
  have hK:∀d,Below D.heap.size D d→Below D.heap.size D d∧d.cell? ⟨w.heap.size,0,none⟩=some (.bool F)∧d.cell? ⟨w.heap.size,1,none⟩=some (.slice J A.length L)∧d.cell? ⟨w.heap.size,2,none⟩=some (.int .i64 x)∧d.cell? ⟨w.heap.size+1,0,none⟩=some (.bool G)∧d.cell? ⟨w.heap.size+1,1,none⟩=some (.slice K B.length N)∧d.cell? ⟨w.heap.size+1,2,none⟩=some (.int .i64 y):=fun d h=>
   ⟨h,(H.all h).c0,(H.all h).c1,(H.all h).c2,(I.all h).c0,(I.all h).c1,(I.all h).c2⟩
  have HK:=ac hK
  have HA:=ac (hA.below X);have HB:=ac (hB.below X);have BB:=ac X;have O:=ac H;have Q:=ac I
  clear hK X H I
  go_region_held3(fun d=>Below D.heap.size D d∧d.cell? ⟨w.heap.size,0,none⟩=some (.bool F)∧d.cell? ⟨w.heap.size,1,none⟩=some (.slice J A.length L)∧d.cell? ⟨w.heap.size,2,none⟩=some (.int .i64 x)∧d.cell? ⟨w.heap.size+1,0,none⟩=some (.bool G)∧d.cell? ⟨w.heap.size+1,1,none⟩=some (.slice K B.length N)∧d.cell? ⟨w.heap.size+1,2,none⟩=some (.int .i64 y))
   (first|exact uH HK _ (Below.refl _ _).drew|exact uH HK _ (by assumption))
   (first|(go_at_call_of 69 (Value.agg #[.bool F,.slice J A.length L,.int .i64 x]);refine(uH az _ ((uH HA).below (And.left (by assumption)))).mono ?_;rintro e U ⟨rfl,z⟩;have Y:Below D.heap.size D U:=Below.trans (And.left (by assumption)) (z.mono (Below.size (And.left (by assumption))));clear z)|(go_at_call_of 69 (Value.agg #[.bool G,.slice K B.length N,.int .i64 y]);refine(uH aI _ ((uH HB).below (And.left (by assumption)))).mono ?_;rintro e U ⟨rfl,z⟩;have Y:Below D.heap.size D U:=Below.trans (And.left (by assumption)) (z.mono (Below.size (And.left (by assumption))));clear z))
  go_wp2_with fail
  have hn:Below D.heap.size D U:=And.left (by assumption)
  have b9:=(uH BB).trans (hn.mono (uH BB).size);have x9:=(uH O).all hn;have y9:=(uH Q).all hn
  clear HK HA HB BB O Q hn
  have B0:=ac b9;have O:=ac x9;have Q:=ac y9
  clear b9 x9 y9
  refine(uH ae _ (hA.below (uH B0)) (hB.below (uH B0))).mono ?_
  rintro r w5 ⟨u,rfl,iu,z⟩
  obtain⟨n5,a5,c5,L5,rfl,q1,q2,q3,q4,q5⟩:=iu.parts
  have a6:=FA q2 q3 q4
  rw[uH bb]at a6
  have ba:=ac (fun d=>ml n5 a5 c5 L5.length oe d)
  rw[a6]at ba
  have B1:=ac ((uH B0).trans (z.mono (uH B0).size))
  clear q1 q2 q3 q4 q5 iu z a6
  go_wp2_with(go_at_call 68;refine(uH ba _).mono ?_;rintro r w6 ⟨rfl,z⟩)
  go_ret
  exact⟨rfl,(uH B1).trans (z.mono (uH B1).size)⟩
end Go.Proofs.YtcbcmlaogehimaaGreatDoor
