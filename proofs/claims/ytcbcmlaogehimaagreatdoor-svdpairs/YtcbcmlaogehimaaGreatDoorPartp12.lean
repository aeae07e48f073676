/- Part 12 of the texts. -/
import Derived.Test.YtcbcmlaogehimaaGreatDoorPartp11
import Derived.Deep.Cut
set_option maxHeartbeats 4000000
namespace Go.Proofs.YtcbcmlaogehimaaGreatDoor
open Go.RowKit
theorem Gl(k:Nat):(2:Int)^k≠0:=Int.pow_ne_zero (by decide)
theorem gu(z:Int)(k:Nat)(e:Int):oM (z*2^k)=oM z∧oE (z*2^k) e=oE z (e+k):=by
 by_cases h:z=0
 ·subst h;rw[Int.zero_mul,aX,bf,bf];exact⟨rfl,rfl⟩
 ·have u:z*2^k≠0:=fun e=>by rcases Int.mul_eq_zero.1 e with e|e;exact h e;exact Gl k e
  have d:=eR z h
  have A:iq (z*2^k) (oM z) (tz z.natAbs+k):=by
   refine⟨?_,d.2⟩
   conv=>lhs;rw[d.1]
   rw[Int.mul_assoc,←Int.pow_add]
  obtain⟨_,D,F⟩:=A.eq
  refine⟨D.symm,?_⟩
  rw[cw _ _ u,cw _ _ h,←F]
  omega
theorem JD(z1 z2:Int):oM (z1*z2)=oM z1*oM z2:=by
 by_cases d:z1=0
 ·subst d;rw[Int.zero_mul,aX,Int.zero_mul]
 by_cases u:z2=0
 ·subst u;rw[Int.mul_zero,aX,Int.mul_zero]
 have a:=eR z1 d
 have b:=eR z2 u
 have h:iq (z1*z2) (oM z1*oM z2) (tz z1.natAbs+tz z2.natAbs):=by
  refine⟨?_,?_⟩
  ·conv=>lhs;rw[a.1,b.1]
   rw[Int.pow_add]
   simp only[Int.mul_assoc,Int.mul_left_comm]
  ·rw[Int.mul_emod,a.2,b.2];rfl
 exact h.eq.2.1.symm
theorem Gm(z1 z2:Int)(d:z1≠0)(u:z2≠0):tz (z1*z2).natAbs=tz z1.natAbs+tz z2.natAbs:=by
 have a:=eR z1 d
 have b:=eR z2 u
 have h:iq (z1*z2) (oM z1*oM z2) (tz z1.natAbs+tz z2.natAbs):=by
  refine⟨?_,?_⟩
  ·conv=>lhs;rw[a.1,b.1]
   rw[Int.pow_add]
   simp only[Int.mul_assoc,Int.mul_left_comm]
  ·rw[Int.mul_emod,a.2,b.2];rfl
 exact h.eq.2.2.symm
theorem JE(z:Int):oM (-z)= -oM z∧∀e,oE (-z) e=oE z e:=by
 by_cases h:z=0
 ·subst h;rw[Int.neg_zero,aX];exact⟨rfl,fun _=>rfl⟩
 ·have a:=eR z h
  have d:iq (-z) (-oM z) (tz z.natAbs):=by
   refine⟨?_,by have:=a.2;omega⟩
   conv=>lhs;rw[a.1]
   rw[Int.neg_mul]
  refine⟨d.eq.2.1.symm,fun e=>?_⟩
  rw[cw _ _ (by omega),cw _ _ h,Int.natAbs_neg]
def fv(lo:Int)(W:Nat)(z:Int):Prop:=z.natAbs<2^W∧-16384≤lo∧lo+W≤16384∧W≤16384
theorem fv.tzs{lo:Int}{W:Nat}{z:Int}(h:fv lo W z)(d:z≠0):tz z.natAbs<W:=kf _ _ (by omega) h.1
theorem fv.tops{lo:Int}{W:Nat}{z:Int}(h:fv lo W z):z.natAbs<du:=kz h.1 h.2.2.2
theorem fv.right{lo:Int}{W:Nat}{z:Int}(h:fv lo W z):qh (oM z) (oE z lo)=true∧(oM z).natAbs<du:=by
 refine⟨?_,Nat.lt_of_le_of_lt (qO z) h.tops⟩
 unfold qh
 by_cases d:z=0
 ·subst d;rw[aX,bf];rfl
 ·obtain⟨u,A⟩:=fH z d
  have D:=h.tzs d
  obtain⟨_,F,G,_⟩:=h
  rw[if_neg u,cw _ _ d,decide_eq_true A,decide_eq_true (show-16384≤lo+(tz z.natAbs:Int)∧lo+(tz z.natAbs:Int)≤16384 by omega)]
  rfl
theorem ju(z lo:Int)(h:z≠0):oM z*2^(oE z lo-lo).toNat=z:=by
 rw[cw _ _ h,show(lo+(tz z.natAbs:Int)-lo).toNat=tz z.natAbs by omega]
 exact(eR z h).1.symm
theorem o7(m e:Int)(h:qh m e=true):cU m e=0∧dM m e=m∧dX m e=e:=by
 unfold qh at h
 by_cases d:m=0
 ·subst d
  rw[if_pos rfl]at h
  have z:=of_decide_eq_true h
  subst z
  decide
 ·rw[if_neg d,Bool.and_eq_true]at h
  have A:=of_decide_eq_true h.1
  have H:=of_decide_eq_true h.2
  have D:iq m m 0:=⟨by simp,A⟩
  obtain⟨_,G,u⟩:=D.eq
  have F:mE m e=true:=by
   unfold mE
   rw[←u,decide_eq_true (show-32768≤e∧e≤32768 by omega),decide_eq_true (show-16384≤e+((0:Nat):Int)∧e+((0:Nat):Int)≤16384 by omega)]
   simp
  unfold cU dM dX
  rw[F,←G,cw _ _ d,←u]
  simp
theorem Cr{lo:Int}{W:Nat}{z1 z2:Int}(L:fv lo W z1)(O:fv lo W z2)(h3:fv lo W (z1+z2)):
  tY (oM z1) (oE z1 lo) (oM z2) (oE z2 lo)=0∧tZ (oM z1) (oE z1 lo) (oM z2) (oE z2 lo)=oM (z1+z2)∧t7 (oM z1) (oE z1 lo) (oM z2) (oE z2 lo)=oE (z1+z2) lo:=by
 have Q:=L.right
 have U:=O.right
 have bE:∀m e,qh m e=true→-16384≤e∧e≤16384:=fun m e h=>by
  unfold qh at h
  by_cases h0:m=0
  ·rw[if_pos h0]at h;have:=of_decide_eq_true h;omega
  ·rw[if_neg h0,Bool.and_eq_true]at h;exact of_decide_eq_true h.2
 by_cases F:z1=0
 ·subst F
  rw[aX,bf,Int.zero_add]
  obtain⟨J,p2,K⟩:=oU (oM z2) (oE z2 lo) (bE _ _ U.1) U.2
  rw[J,p2,K]
  exact o7 _ _ U.1
 by_cases G:z2=0
 ·subst G
  rw[aX,bf,Int.add_zero]
  obtain⟨J,p2,K⟩:=oV (oM z1) (oE z1 lo) (bE _ _ Q.1) Q.2 (fH z1 F).1
  rw[J,p2,K]
  exact o7 _ _ Q.1
 have sa:=(fH z1 F).1
 have sb:=(fH z2 G).1
 have x1:=cw z1 lo F
 have x2:=cw z2 lo G
 have t1:=L.tzs F
 have t2:=O.tzs G
 have A:=L.tops
 obtain⟨_,l1,l2,l3⟩:=L
 have H:=iX (oM z1) (oE z1 lo) (oM z2) (oE z2 lo) sa sb
 obtain⟨l,ah⟩:∃l,min (oE z1 lo) (oE z2 lo)=l:=⟨_,rfl⟩
 rw[ah]at H
 have am:lo≤l:=by omega
 obtain⟨k,hk⟩:∃k:Nat,(k:Int)=l-lo:=⟨(l-lo).toNat,by omega⟩
 have X:lo+(k:Int)=l:=by omega
 have u1:up (oM z1) (oE z1 lo) l*2^k=z1:=by
  conv=>rhs;rw[←ju z1 lo F]
  unfold up
  rw[Int.mul_assoc,←Int.pow_add]
  congr 2
  omega
 have u2:up (oM z2) (oE z2 lo) l*2^k=z2:=by
  conv=>rhs;rw[←ju z2 lo G]
  unfold up
  rw[Int.mul_assoc,←Int.pow_add]
  congr 2
  omega
 have D:=O.tops
 have Y:oE z1 lo-l≤16384:=by clear A D;omega
 have aa:oE z2 lo-l≤16384:=by clear A D;omega
 have d:∀u z:Int,u*2^k=z→u.natAbs≤z.natAbs:=fun u z h=>by
  rw[←h,Int.natAbs_mul,Int.natAbs_pow]
  exact Nat.le_mul_of_pos_right _ (Nat.pow_pos (by decide))
 have hZ:cV (oM z1) (oE z1 lo) (oM z2) (oE z2 lo)*2^k=z1+z2:=by
  unfold cV
  rw[H,Int.add_mul,u1,u2]
 have e1:eh (oM z1) (oE z1 lo) l=0:=dW _ _ _ (Nat.lt_of_le_of_lt (d _ _ u1) A) Y
 have e2:eh (oM z2) (oE z2 lo) l=0:=dW _ _ _ (Nat.lt_of_le_of_lt (d _ _ u2) D) aa
 have I:(cV (oM z1) (oE z1 lo) (oM z2) (oE z2 lo)).natAbs<du:=Nat.lt_of_le_of_lt (d _ _ hZ) h3.tops
 obtain⟨J,p2,K⟩:=Gj (by rw[H];exact e1) (by rw[H];exact e2) I
 rw[J,p2,K,H]
 generalize cV (oM z1) (oE z1 lo) (oM z2) (oE z2 lo)=Z at*
 have hs:=gu Z k lo
 rw[hZ]at hs
 have hx:oE (z1+z2) lo=oE Z l:=by rw[hs.2,X]
 have r3:=h3.right.1
 rw[hs.1,hx]at r3⊢
 have ae:-32768≤l∧l≤32768:=by clear A D I;omega
 exact(zS Z l ae).1 r3
theorem zY{lo1 lo2:Int}{W1 W2 W:Nat}{z1 z2:Int}(F:fv (lo1+lo2) W (z1*z2))(z:fv lo1 W1 z1)(A:fv lo2 W2 z2):
  (oM z1*oM z2).natAbs<du∧cU (oM z1*oM z2) (oE z1 lo1+oE z2 lo2)=0∧dM (oM z1*oM z2) (oE z1 lo1+oE z2 lo2)=oM (z1*z2)∧dX (oM z1*oM z2) (oE z1 lo1+oE z2 lo2)=oE (z1*z2) (lo1+lo2):=by
 have D:=F.right
 rw[←JD]
 refine⟨D.2,?_⟩
 by_cases h:z1=0
 ·subst h
  have G:-16384≤oE z2 lo2∧oE z2 lo2≤16384:=by
   by_cases d:z2=0
   ·subst d;rw[bf];decide
   ·have:=A.tzs d
    rw[cw _ _ d]
    have:=A.2
    omega
  rw[Int.zero_mul,aX,bf,bf,Int.zero_add]
  have u:mE 0 (oE z2 lo2)=true:=by unfold mE;rw[decide_eq_true (show-32768≤oE z2 lo2∧oE z2 lo2≤32768 by omega)];simp
  unfold cU dM dX
  rw[u]
  simp[aX,bf]
 by_cases d:z2=0
 ·subst d
  have G:-16384≤oE z1 lo1∧oE z1 lo1≤16384:=by
   have:=z.tzs h
   rw[cw _ _ h]
   have:=z.2
   omega
  rw[Int.mul_zero,aX,bf,bf,Int.add_zero]
  have u:mE 0 (oE z1 lo1)=true:=by unfold mE;rw[decide_eq_true (show-32768≤oE z1 lo1∧oE z1 lo1≤32768 by omega)];simp
  unfold cU dM dX
  rw[u]
  simp[aX,bf]
 have H:oE z1 lo1+oE z2 lo2=oE (z1*z2) (lo1+lo2):=by
  have I:z1*z2≠0:=fun e=>by rcases Int.mul_eq_zero.1 e with e|e;exact h e;exact d e
  rw[cw _ _ h,cw _ _ d,cw _ _ I,Gm z1 z2 h d]
  omega
 rw[H]
 exact o7 _ _ D.1
theorem MV{w:World}{v u:Value}{lo:Int}{W:Nat}{z1 z2:Int}(G:aC w v (oM z1) (oE z1 lo))(H:aC w u (oM z2) (oE z2 lo))(d:fv lo W z1)(h:fv lo W z2)(I:fv lo W (z1+z2))(t:cr w):
  Calls Tryz.prog 275 #[v,u] w fun r z=>nF z r 0 (oM (z1+z2)) (oE (z1+z2) lo)∧Below w.heap.size w z:=by
 obtain⟨J,K,L,A,rfl,O,a2,Q,a4,D⟩:=G.right d.right.2
 obtain⟨U,X,Y,B,rfl,Z,b2,b3,b4,F⟩:=H.right h.right.2
 rw[d.right.1]at D
 rw[h.right.1]at F
 have:=wD J U K X L Y A B _ _ w O Z D F t
 obtain⟨e1,e2,e3⟩:=Cr d h I
 rwa[Q,b3,e1,e2,e3]at this
theorem MX{w:World}{v u:Value}{lo1 lo2:Int}{W1 W2 W:Nat}{z1 z2:Int}(I:aC w v (oM z1) (oE z1 lo1))(J:aC w u (oM z2) (oE z2 lo2))(d:fv lo1 W1 z1)(h:fv lo2 W2 z2)(K:fv (lo1+lo2) W (z1*z2))(t:cr w):
  Calls Tryz.prog 282 #[v,u] w fun r z=>nF z r 0 (oM (z1*z2)) (oE (z1*z2) (lo1+lo2))∧Below w.heap.size w z:=by
 obtain⟨L,O,Q,A,rfl,U,a2,D,a4,F⟩:=I.right d.right.2
 obtain⟨X,Y,Z,B,rfl,b1,b2,G,b4,H⟩:=J.right h.right.2
 rw[d.right.1]at F
 rw[h.right.1]at H
 obtain⟨e0,e1,e2,e3⟩:=zY K d h
 have:=wE L X O Y Q Z A B _ _ w U b1 F H (by rw[D,G];exact e0) t
 rwa[D,G,e1,e2,e3]at this
def fD(b:Nat):Int:=oM (fM b)
def fX(b:Nat):Int:=oE (fM b) (fE b)
theorem LN(b:Nat)(h:fM b≠0):tz (fM b).natAbs<53:=kf _ _ (by omega) (by rw[BL];exact t9 b)
theorem LO(b:Nat):cU (fM b) (fE b)=0∧dM (fM b) (fE b)=fD b∧dX (fM b) (fE b)=fX b:=by
 have u:=Cj b
 have d:mE (fM b) (fE b)=true:=by
  unfold mE
  rw[decide_eq_true (by omega)]
  by_cases h:fM b=0
  ·rw[decide_eq_true h];rfl
  ·have:=LN b h
   rw[decide_eq_true (p:=-16384≤_∧_) (by omega)]
   simp
 unfold cU dM dX
 rw[if_pos d,if_pos d,if_pos d]
 exact⟨rfl,rfl,rfl⟩
theorem JF(b:Nat):(fM b).natAbs<du:=kz (k:=53) (by rw[BL];exact t9 b) (by decide)
theorem JG(b:Nat)(w:World)(h:b<18446744073709551616)(G:ai b=false):
  Calls Tryz.prog 168 #[.int .u64 b] w fun r A=>nF A r 7 0 0∧Below w.heap.size w A:=by
 have D:=ac (fun A=>g8 b A h)
 rw[G]at D
 clear G h
 have z:Below w.heap.size w (w.alloc (.cells #[.bool false,.slice none 0 0,.int .i64 0] 35)):=(Below.refl _ _).alloc (Nat.le_refl _) _
 have F:=ac z;have H:=ac (al.new w (.bool false) (.slice none 0 0) (.int .i64 0))
 clear z
 go_enter Tryz.func168,Tryz.ntmps168
 go_wp2_with fail
 refine(uH D _).mono ?_
 rintro r X ⟨rfl,u⟩
 have d:=(uH H).all u
 have I:=ac ((uH F).trans (u.mono (uH F).size))
 have J:=d.c0;have K:=d.c1;have L:=d.c2;have O:=d.free 0;have Q:=d.free 1;have U:=d.free 2
 clear u d H F D
 go_wp2
 exact bodyPost_ret (v:=.tuple #[.agg #[.bool false,.slice none 0 0,.int .i64 0],.int .i64 7]) (by simp[results,Tryz.results168,go_sem,J,K,L]) rfl ⟨⟨_,rfl,aC.zero _ _ _⟩,aD (uH I) (Nat.le_refl _) _ _ _⟩
theorem dG(b:Nat)(w:World)(h:b<18446744073709551616)(hf:ai b=true)(hT:cr w):
  Calls Tryz.prog 168 #[.int .u64 b] w fun r d=>nF d r 0 (fD b) (fX b)∧Below w.heap.size w d:=by
 have L:=ac (fun d=>g8 b d h)
 rw[hf]at L
 have CS:=ac (fun d=>fO b d h)
 have CP:=ac (fun d=>zV b d)
 have CO:=ac (fun d=>wy (fM b) d (by have:=t9 b;omega) (by have:=t9 b;omega))
 obtain⟨k1,k2,k3⟩:=LO b
 have O:=ac (fun d v B (K:au B d v (fM b)) (t:cr d)=>jt (fE b) K (JF b) (by have:=Cj b;omega) t)
 rw[k1,k2,k3]at O
 clear k1 k2 k3
 unfold fV at*
 generalize fM b=m at*
 generalize fE b=e at*
 generalize fD b=M at*
 generalize fX b=X at*
 generalize fS b=s at*
 generalize fP b=p at*
 generalize fF b=f at*
 clear hf h
 have I:Below w.heap.size w (w.alloc (.cells #[.bool false,.slice none 0 0,.int .i64 0] 35)):=(Below.refl _ _).alloc (Nat.le_refl _) _
 have Q:=ac I;have X2:=ac (al.new w (.bool false) (.slice none 0 0) (.int .i64 0))
 clear I
 go_enter Tryz.func168,Tryz.ntmps168
 go_wp2_with fail
 refine(uH L _).mono ?_
 rintro r w1 ⟨rfl,A⟩
 have X3:=ac ((uH X2).all A)
 have U:=ac ((uH Q).trans (A.mono (uH Q).size))
 clear A X2 Q L
 go_wp2_with fail
 refine(uH CS _).mono ?_
 rintro r w2 ⟨rfl,D⟩
 have X4:=ac ((uH X3).all D)
 have Y:=ac ((uH U).trans (D.mono (uH U).size))
 clear D X3 U CS
 go_wp2_with fail
 refine(uH CP _).mono ?_
 rintro r w3 ⟨rfl,F⟩
 have X5:=ac ((uH X4).all F)
 have Z:=ac ((uH Y).trans (F.mono (uH Y).size))
 clear F X4 Y CP
 go_wp2_with fail
 refine(uH CO _).mono ?_
 rintro r w4 ⟨v,rfl,K,G⟩
 have X6:=ac ((uH X5).all G)
 have b4:=(uH Z).trans (G.mono (uH Z).size)
 have B4:=ac b4
 have HT:=ac (hT.all b4)
 have HV:=ac K
 clear G X5 Z CO b4 K
 go_wp2_with fail
 refine(uH O _ _ _ (uH HV) (uH HT)).mono ?_
 rintro r w5 ⟨u,rfl,hu,H⟩
 have z:=(uH X6).all H
 have X7:=ac z
 have B5:=ac ((uH B4).trans (H.mono (uH B4).size))
 obtain⟨n2,a2,c2,L2,rfl,j2⟩:=hu
 have J:=ac (show aC w5 (.agg #[.bool n2,.slice a2 L2.length c2,.int .i64 X]) M X from⟨n2,a2,c2,L2,rfl,j2⟩)
 have y0:=z.c0;have y1:=z.c1;have y2:=z.c2;have f0:=z.free 0;have f1:=z.free 1;have f2:=z.free 2
 clear H z X6 B4 O j2
 go_wp2
 exact bodyPost_ret (v:=.tuple #[.agg #[.bool n2,.slice a2 L2.length c2,.int .i64 X],.int .i64 0]) (by simp[results,Tryz.results168,go_sem,y0,y1,y2]) rfl ⟨⟨_,rfl,(uH J).put3 (uH X7) _ _ _⟩,aD (uH B5) (Nat.le_refl _) _ _ _⟩
theorem o8{M B:Nat}{w:World}{v:Value}{z:Int}(A:aJ M B w v z)(J:M≤1000000):
  Calls Tryz.prog 116 #[v] w fun e d=>∃u,e=.returned u∧aJ M 0 d u (-z)∧Below w.heap.size w d:=by
 obtain⟨n,a,c,L,rfl,D,K,O,F,G,H⟩:=A
 refine(oK n a c L w D (by omega)).mono ?_
 rintro e d ⟨u,rfl,h,I⟩
 rw[kx F G]at h
 exact⟨u,rfl,h.more H,I⟩
def tk(w W:World)(g:Nat)(n:Bool)(a:Option Addr)(l c:Nat)(z:Int):Prop:=
 Below w.heap.size w W∧al W w.heap.size (.bool false) (.slice none 0 0) (.int .i64 0)∧aB W g (.bool n) (.slice a l c)∧w.heap.size<g∧aJ 2 0 W (.agg #[.bool n,.slice a l c]) z
theorem aJ.zeroB{M B:Nat}{w:World}{v:Value}{x:Int}(h:aJ M B w v x):aJ M 0 w v x:=by
 obtain⟨neg,z,d,L,A,u,F,D⟩:=h
 exact⟨neg,z,d,L,A,u,bI.zero u,D⟩
theorem aJ.box{M B:Nat}{w:World}{v:Value}{x:Int}(h:aJ M B w v x){g:Nat}{y:Bool}{a:Option Addr}{n c:Nat}(A:aB w g (.bool y) (.slice a n c))(u z:Value):aJ M B ((w.setCell ⟨g,0,none⟩ u).setCell ⟨g,1,none⟩ z) v x:=by
 obtain⟨neg,D,d,L,F,G,H⟩:=h
 exact⟨neg,D,d,L,F,G.box A u z,H⟩
theorem tk.below{w W u:World}{g:Nat}{n:Bool}{a:Option Addr}{l c:Nat}{z:Int}(h:tk w W g n a l c z)(d:Below W.heap.size W u):tk w u g n a l c z:=
 ⟨h.1.trans (d.mono h.1.size),h.2.1.all d,h.2.2.1.all d,h.2.2.2.1,h.2.2.2.2.below d⟩
theorem tk.put{w W:World}{g:Nat}{n d:Bool}{a u:Option Addr}{l c A D:Nat}{z F:Int}(h:tk w W g n a l c z)(H:aJ 2 0 W (.agg #[.bool d,.slice u A D]) F):
  tk w ((W.setCell ⟨g,0,none⟩ (.bool d)).setCell ⟨g,1,none⟩ (.slice u A D)) g d u A D F:=by
 obtain⟨I,J,G,K,L⟩:=h
 exact⟨bZ I (by omega) _ _,(J.other (by simp;omega) _).other (by simp;omega) _,G.put _ _,K,H.box G _ _⟩
theorem zZ(b:Nat)(f:Nat)(G m e X Y:Int)(w:World)(aa:IntKind.i64.wrap (f:Int)=G)
  (CF:∀h,Calls Tryz.prog 113 #[.int .u64 b] h fun r d=>r=.returned (.int .u64 f)∧h=d)
  (CP:∀h,Calls Tryz.prog 114 #[.int .u64 b] h fun r d=>r=.returned (.int .i64 0)∧h=d)
  (CN:∀h,Calls Tryz.prog 115 #[.int .u64 b] h fun r d=>r=.returned (.bool false)∧h=d)
  (CO:∀h,Calls Tryz.prog 28 #[.int .i64 G] h fun r d=>∃v,r=.returned v∧aJ 2 h.heap.size d v G∧Below h.heap.size h d)
  (CV:∀h v,aJ 2 0 h v m→Calls Tryz.prog 27 #[v,.int .i64 e] h fun r d=>∃u,r=.returned u∧aC d u X Y∧Below h.heap.size h d)
  (he:e= -1074) (hm:G=m)
  :Calls Tryz.prog 60 #[.int .u64 b] w fun r h=>∃u,r=.returned u∧aC h u X Y∧Below w.heap.size w h:=by
 subst he hm
 have KF:=ac CF;have KP:=ac CP;have KN:=ac CN;have KO:=ac CO;have KV:=ac CV
 clear CF CP CN CO CV
 have H:Below w.heap.size w (w.alloc (.cells #[.bool false,.slice none 0 0,.int .i64 0] 35)):=(Below.refl _ _).alloc (Nat.le_refl _) _
 have U:=ac H;have X2:=ac (al.new w (.bool false) (.slice none 0 0) (.int .i64 0))
 clear H
 go_enter Tryz.func60,Tryz.ntmps60
 go_wp2_with(go_at_call 113;refine(uH KF _).mono ?_;rintro r w2 ⟨rfl,rfl⟩)
 refine(uH KO _).mono ?_
 rintro r Q ⟨v,rfl,hv,D⟩
 obtain⟨L,A,O,I,rfl,i1⟩:=hv
 have Z:=(uH U).trans (D.mono (uH U).size)
 have z:tk w (Q.alloc (.cells #[.bool L,.slice A I.length O] 33)) Q.heap.size L A I.length O G:=
  ⟨Z.alloc Z.size _,((uH X2).all D).old _,aB.new _ _ _,by have:=D.size;simp at this;omega,(aJ.zeroB ⟨L,A,O,I,rfl,i1⟩).below ((Below.refl _ _).alloc (Nat.le_refl _) _)⟩
 have V1:=ac z
 clear Z z D i1 U X2 KO
 go_upto_region 3 with(fail)
 refine ap (fun W=>tk w W Q.heap.size L A I.length O G) (uH V1) ?_
 clear V1
 intro W1 z
 generalize Q.heap.size=g at*
 generalize I.length=l1 at*
 have VV:=ac z
 have y0:=z.2.2.1.c0;have y1:=z.2.2.1.c1;have f0:=z.2.2.1.free 0;have f1:=z.2.2.1.free 1
 clear z
 go_wp2_with(first|(go_at_call 114;refine(uH KP _).mono ?_;rintro r w2 ⟨rfl,rfl⟩)|(go_at_call 115;refine(uH KN _).mono ?_;rintro r w2 ⟨rfl,rfl⟩))
 refine(uH KV _ _ (uH VV).2.2.2.2).mono ?_
 rintro r w9 ⟨u,rfl,hu,K⟩
 have v9:=(uH VV).below K
 have F:=v9.2.1
 have V9:=ac v9
 obtain⟨n9,a9,c9,L9,rfl,j9⟩:=hu
 have J:=ac (show aC w9 (.agg #[.bool n9,.slice a9 L9.length c9,.int .i64 Y]) X Y from⟨n9,a9,c9,L9,rfl,j9⟩)
 clear y0 y1 f0 f1
 have y0:=F.c0;have y1:=F.c1;have y2:=F.c2;have f0:=F.free 0;have f1:=F.free 1;have f2:=F.free 2
 clear K v9 F VV j9
 go_wp2
 exact bodyPost_ret (v:=.agg #[.bool n9,.slice a9 L9.length c9,.int .i64 Y]) (by simp[results,Tryz.results60,go_sem,y0,y1,y2]) rfl ⟨_,rfl,(uH J).put3 (uH V9).2.1 _ _ _,aD (uH V9).1 (Nat.le_refl _) _ _ _⟩
theorem Aa(b:Nat)(f:Nat)(L m e X Y:Int)(w:World)(ah:IntKind.i64.wrap (f:Int)=L)
  (CF:∀h,Calls Tryz.prog 113 #[.int .u64 b] h fun r d=>r=.returned (.int .u64 f)∧h=d)
  (CP:∀h,Calls Tryz.prog 114 #[.int .u64 b] h fun r d=>r=.returned (.int .i64 0)∧h=d)
  (CN:∀h,Calls Tryz.prog 115 #[.int .u64 b] h fun r d=>r=.returned (.bool true)∧h=d)
  (CO:∀h,Calls Tryz.prog 28 #[.int .i64 L] h fun r d=>∃v,r=.returned v∧aJ 2 h.heap.size d v L∧Below h.heap.size h d)
  (CV:∀h v,aJ 2 0 h v (-m)→Calls Tryz.prog 27 #[v,.int .i64 e] h fun r d=>∃u,r=.returned u∧aC d u X Y∧Below h.heap.size h d)
  (he:e= -1074) (hm:L=m)
  :Calls Tryz.prog 60 #[.int .u64 b] w fun r h=>∃u,r=.returned u∧aC h u X Y∧Below w.heap.size w h:=by
 subst he hm
 have KF:=ac CF;have KP:=ac CP;have KN:=ac CN;have KO:=ac CO;have KV:=ac CV
 clear CF CP CN CO CV
 have U:Below w.heap.size w (w.alloc (.cells #[.bool false,.slice none 0 0,.int .i64 0] 35)):=(Below.refl _ _).alloc (Nat.le_refl _) _
 have B0:=ac U;have X2:=ac (al.new w (.bool false) (.slice none 0 0) (.int .i64 0))
 clear U
 go_enter Tryz.func60,Tryz.ntmps60
 go_wp2_with(go_at_call 113;refine(uH KF _).mono ?_;rintro r w2 ⟨rfl,rfl⟩)
 refine(uH KO _).mono ?_
 rintro r w1 ⟨v,rfl,hv,F⟩
 obtain⟨n1,D,c1,Z,rfl,i1⟩:=hv
 have b1:=(uH B0).trans (F.mono (uH B0).size)
 have A:tk w (w1.alloc (.cells #[.bool n1,.slice D Z.length c1] 33)) w1.heap.size n1 D Z.length c1 L:=
  ⟨b1.alloc b1.size _,((uH X2).all F).old _,aB.new _ _ _,by have:=F.size;simp at this;omega,(aJ.zeroB ⟨n1,D,c1,Z,rfl,i1⟩).below ((Below.refl _ _).alloc (Nat.le_refl _) _)⟩
 have V1:=ac A
 clear b1 A F i1 B0 X2 KO
 go_upto_region 3 with(fail)
 refine ap (fun W=>tk w W w1.heap.size n1 D Z.length c1 L) (uH V1) ?_
 clear V1
 intro W1 A
 generalize w1.heap.size=g at*
 generalize Z.length=l1 at*
 have G:=ac A
 have H:=A.2.2.1.c0;have I:=A.2.2.1.c1;have O:=A.2.2.1.free 0;have Q:=A.2.2.1.free 1
 clear A
 go_wp2_with(first|(go_at_call 114;refine(uH KP _).mono ?_;rintro r w2 ⟨rfl,rfl⟩)|(go_at_call 115;refine(uH KN _).mono ?_;rintro r w2 ⟨rfl,rfl⟩))
 refine(o8 (uH G).2.2.2.2 (by decide)).mono ?_
 rintro r w7 ⟨v,rfl,hv,aa⟩
 have z:=(uH G).below aa
 clear G aa H I O Q
 obtain⟨n7,a7,c7,L7,rfl,i7⟩:=hv
 have v6:=z.put ⟨n7,a7,c7,L7,rfl,i7⟩
 have V6:=ac v6
 have H:=z.2.2.1.c0;have I:=z.2.2.1.c1;have O:=z.2.2.1.free 0;have Q:=z.2.2.1.free 1
 clear z v6 i7
 go_upto_region 8 with(fail)
 refine ap (fun W=>tk w W g n7 a7 L7.length c7 _) (uH V6) ?_
 clear V6 H I O Q
 intro W7 z
 generalize L7.length=l7 at*
 have G:=ac z
 have H:=z.2.2.1.c0;have I:=z.2.2.1.c1;have O:=z.2.2.1.free 0;have Q:=z.2.2.1.free 1
 clear z
 go_wp2_with fail
 refine(uH KV _ _ (uH G).2.2.2.2).mono ?_
 rintro r w9 ⟨u,rfl,hu,ae⟩
 have v9:=(uH G).below ae
 have K:=v9.2.1
 have V9:=ac v9
 obtain⟨n9,a9,c9,L9,rfl,j9⟩:=hu
 have J:=ac (show aC w9 (.agg #[.bool n9,.slice a9 L9.length c9,.int .i64 Y]) X Y from⟨n9,a9,c9,L9,rfl,j9⟩)
 clear H I O Q
 have H:=K.c0;have I:=K.c1;have y2:=K.c2;have O:=K.free 0;have Q:=K.free 1;have f2:=K.free 2
 clear ae v9 K G j9
 go_wp2
 exact bodyPost_ret (v:=.agg #[.bool n9,.slice a9 L9.length c9,.int .i64 Y]) (by simp[results,Tryz.results60,go_sem,H,I,y2]) rfl ⟨_,rfl,(uH J).put3 (uH V9).2.1 _ _ _,aD (uH V9).1 (Nat.le_refl _) _ _ _⟩
theorem Ab(b:Nat)(p:Nat)(f:Nat)(H a1 m e X Y:Int)(w:World)(h1:0<p)(ah:IntKind.i64.wrap (f:Int)=H)
  (CF:∀h,Calls Tryz.prog 113 #[.int .u64 b] h fun r d=>r=.returned (.int .u64 f)∧h=d)
  (CP:∀h,Calls Tryz.prog 114 #[.int .u64 b] h fun r d=>r=.returned (.int .i64 p)∧h=d)
  (CN:∀h,Calls Tryz.prog 115 #[.int .u64 b] h fun r d=>r=.returned (.bool false)∧h=d)
  (CO:∀h,Calls Tryz.prog 28 #[.int .i64 H] h fun r d=>∃v,r=.returned v∧aJ 2 h.heap.size d v H∧Below h.heap.size h d)
  (CV:∀h v,aJ 2 0 h v m→Calls Tryz.prog 27 #[v,.int .i64 e] h fun r d=>∃u,r=.returned u∧aC d u X Y∧Below h.heap.size h d)
  (I:IntKind.u64.wrap ((f:Int)+4503599627370496)=a1) (K:IntKind.i64.wrap a1=m) (w3:IntKind.i64.wrap ((p:Int)-1075)=e)
  (C1:∀h,Calls Tryz.prog 28 #[.int .i64 m] h fun r d=>∃v,r=.returned v∧aJ 2 h.heap.size d v m∧Below h.heap.size h d)
  :Calls Tryz.prog 60 #[.int .u64 b] w fun r h=>∃u,r=.returned u∧aC h u X Y∧Below w.heap.size w h:=by
 have am:decide (0<p)=true:=decide_eq_true h1
 have KF:=ac CF;have KP:=ac CP;have KN:=ac CN;have KO:=ac CO;have KV:=ac CV
 clear CF CP CN CO CV
 have K1:=ac C1
 clear C1
 have L:Below w.heap.size w (w.alloc (.cells #[.bool false,.slice none 0 0,.int .i64 0] 35)):=(Below.refl _ _).alloc (Nat.le_refl _) _
 have B0:=ac L;have X2:=ac (al.new w (.bool false) (.slice none 0 0) (.int .i64 0))
 clear L
 go_enter Tryz.func60,Tryz.ntmps60
 go_wp2_with(go_at_call 113;refine(uH KF _).mono ?_;rintro r K ⟨rfl,rfl⟩)
 refine(uH KO _).mono ?_
 rintro r I ⟨v,rfl,hv,D⟩
 obtain⟨n1,A,c1,Z,rfl,i1⟩:=hv
 have b1:=(uH B0).trans (D.mono (uH B0).size)
 have O:tk w (I.alloc (.cells #[.bool n1,.slice A Z.length c1] 33)) I.heap.size n1 A Z.length c1 H:=
  ⟨b1.alloc b1.size _,((uH X2).all D).old _,aB.new _ _ _,by have:=D.size;simp at this;omega,(aJ.zeroB ⟨n1,A,c1,Z,rfl,i1⟩).below ((Below.refl _ _).alloc (Nat.le_refl _) _)⟩
 have V1:=ac O
 clear b1 O D i1 B0 X2 KO
 go_upto_region 3 with(fail)
 refine ap (fun W=>tk w W I.heap.size n1 A Z.length c1 H) (uH V1) ?_
 clear V1
 intro W1 O
 generalize I.heap.size=g at*
 generalize Z.length=l1 at*
 have G:=ac O
 clear O
 go_wp2_with(first|(go_at_call 114;refine(uH KP _).mono ?_;rintro r K ⟨rfl,rfl⟩)|(go_at_call 113;refine(uH KF _).mono ?_;rintro r K ⟨rfl,rfl⟩))
 refine(uH K1 _).mono ?_
 rintro r w5 ⟨v,rfl,hv,aa⟩
 have z:=(uH G).below aa
 clear G aa K1
 obtain⟨n5,a5,c5,L5,rfl,i5⟩:=hv
 have v6:=z.put (aJ.zeroB ⟨n5,a5,c5,L5,rfl,i5⟩)
 have V6:=ac v6
 have Q:=z.2.2.1.c0;have U:=z.2.2.1.c1;have f0:=z.2.2.1.free 0;have f1:=z.2.2.1.free 1
 clear z v6 i5
 go_upto_region 5 with(fail)
 refine ap (fun W=>tk w W g n5 a5 L5.length c5 m) (uH V6) ?_
 clear V6 Q U f0 f1
 intro W5 z
 generalize L5.length=l5 at*
 have G:=ac z
 have Q:=z.2.2.1.c0;have U:=z.2.2.1.c1;have f0:=z.2.2.1.free 0;have f1:=z.2.2.1.free 1
 clear z
 go_wp2_with(first|(go_at_call 114;refine(uH KP _).mono ?_;rintro r K ⟨rfl,rfl⟩)|(go_at_call 115;refine(uH KN _).mono ?_;rintro r K ⟨rfl,rfl⟩))
 refine(uH KV _ _ (uH G).2.2.2.2).mono ?_
 rintro r w9 ⟨u,rfl,hu,ae⟩
 have v9:=(uH G).below ae
 have F:=v9.2.1
 have V9:=ac v9
 obtain⟨n9,a9,c9,L9,rfl,j9⟩:=hu
 have J:=ac (show aC w9 (.agg #[.bool n9,.slice a9 L9.length c9,.int .i64 Y]) X Y from⟨n9,a9,c9,L9,rfl,j9⟩)
 clear Q U f0 f1
 have Q:=F.c0;have U:=F.c1;have y2:=F.c2;have f0:=F.free 0;have f1:=F.free 1;have f2:=F.free 2
 clear ae v9 F G j9
 go_wp2
 exact bodyPost_ret (v:=.agg #[.bool n9,.slice a9 L9.length c9,.int .i64 Y]) (by simp[results,Tryz.results60,go_sem,Q,U,y2]) rfl ⟨_,rfl,(uH J).put3 (uH V9).2.1 _ _ _,aD (uH V9).1 (Nat.le_refl _) _ _ _⟩
theorem Ac(b:Nat)(p:Nat)(f:Nat)(O a1 m e X Y:Int)(w:World)(h1:0<p)(am:IntKind.i64.wrap (f:Int)=O)
  (CF:∀z,Calls Tryz.prog 113 #[.int .u64 b] z fun r d=>r=.returned (.int .u64 f)∧z=d)
  (CP:∀z,Calls Tryz.prog 114 #[.int .u64 b] z fun r d=>r=.returned (.int .i64 p)∧z=d)
  (CN:∀z,Calls Tryz.prog 115 #[.int .u64 b] z fun r d=>r=.returned (.bool true)∧z=d)
  (CO:∀z,Calls Tryz.prog 28 #[.int .i64 O] z fun r d=>∃v,r=.returned v∧aJ 2 z.heap.size d v O∧Below z.heap.size z d)
  (CV:∀z v,aJ 2 0 z v (-m)→Calls Tryz.prog 27 #[v,.int .i64 e] z fun r d=>∃u,r=.returned u∧aC d u X Y∧Below z.heap.size z d)
  (Q:IntKind.u64.wrap ((f:Int)+4503599627370496)=a1) (U:IntKind.i64.wrap a1=m) (w3:IntKind.i64.wrap ((p:Int)-1075)=e)
  (C1:∀z,Calls Tryz.prog 28 #[.int .i64 m] z fun r d=>∃v,r=.returned v∧aJ 2 z.heap.size d v m∧Below z.heap.size z d)
  :Calls Tryz.prog 60 #[.int .u64 b] w fun r z=>∃u,r=.returned u∧aC z u X Y∧Below w.heap.size w z:=by
 have an:decide (0<p)=true:=decide_eq_true h1
 have KF:=ac CF;have KP:=ac CP;have KN:=ac CN;have KO:=ac CO;have KV:=ac CV
 clear CF CP CN CO CV
 have K1:=ac C1
 clear C1
 have Z:Below w.heap.size w (w.alloc (.cells #[.bool false,.slice none 0 0,.int .i64 0] 35)):=(Below.refl _ _).alloc (Nat.le_refl _) _
 have B0:=ac Z;have X2:=ac (al.new w (.bool false) (.slice none 0 0) (.int .i64 0))
 clear Z
 go_enter Tryz.func60,Tryz.ntmps60
 go_wp2_with(go_at_call 113;refine(uH KF _).mono ?_;rintro r U ⟨rfl,rfl⟩)
 refine(uH KO _).mono ?_
 rintro r Q ⟨v,rfl,hv,H⟩
 obtain⟨n1,G,c1,L1,rfl,i1⟩:=hv
 have b1:=(uH B0).trans (H.mono (uH B0).size)
 have v1:tk w (Q.alloc (.cells #[.bool n1,.slice G L1.length c1] 33)) Q.heap.size n1 G L1.length c1 O:=
  ⟨b1.alloc b1.size _,((uH X2).all H).old _,aB.new _ _ _,by have:=H.size;simp at this;omega,(aJ.zeroB ⟨n1,G,c1,L1,rfl,i1⟩).below ((Below.refl _ _).alloc (Nat.le_refl _) _)⟩
 have V1:=ac v1
 clear b1 v1 H i1 B0 X2 KO
 go_upto_region 3 with(fail)
 refine ap (fun W=>tk w W Q.heap.size n1 G L1.length c1 O) (uH V1) ?_
 clear V1
 intro W1 v1
 generalize Q.heap.size=g at*
 generalize L1.length=l1 at*
 have A:=ac v1
 clear v1
 go_wp2_with(first|(go_at_call 114;refine(uH KP _).mono ?_;rintro r U ⟨rfl,rfl⟩)|(go_at_call 113;refine(uH KF _).mono ?_;rintro r U ⟨rfl,rfl⟩))
 refine(uH K1 _).mono ?_
 rintro r w5 ⟨v,rfl,hv,aa⟩
 have h:=(uH A).below aa
 clear A aa K1
 obtain⟨n5,a5,c5,L5,rfl,i5⟩:=hv
 have v6:=h.put (aJ.zeroB ⟨n5,a5,c5,L5,rfl,i5⟩)
 have V6:=ac v6
 have D:=h.2.2.1.c0;have F:=h.2.2.1.c1;have I:=h.2.2.1.free 0;have K:=h.2.2.1.free 1
 clear h v6 i5
 go_upto_region 5 with(fail)
 refine ap (fun W=>tk w W g n5 a5 L5.length c5 m) (uH V6) ?_
 clear V6 D F I K
 intro W5 h
 generalize L5.length=l5 at*
 have A:=ac h
 have D:=h.2.2.1.c0;have F:=h.2.2.1.c1;have I:=h.2.2.1.free 0;have K:=h.2.2.1.free 1
 clear h
 go_wp2_with(first|(go_at_call 114;refine(uH KP _).mono ?_;rintro r U ⟨rfl,rfl⟩)|(go_at_call 115;refine(uH KN _).mono ?_;rintro r U ⟨rfl,rfl⟩))
 refine(o8 (uH A).2.2.2.2 (by decide)).mono ?_
 rintro r w7 ⟨v,rfl,hv,ae⟩
 have h:=(uH A).below ae
 clear A ae D F I K
 obtain⟨n7,a7,c7,L7,rfl,i7⟩:=hv
 have v6:=h.put ⟨n7,a7,c7,L7,rfl,i7⟩
 have V6:=ac v6
 have D:=h.2.2.1.c0;have F:=h.2.2.1.c1;have I:=h.2.2.1.free 0;have K:=h.2.2.1.free 1
 clear h v6 i7
 go_upto_region 8 with(fail)
 refine ap (fun W=>tk w W g n7 a7 L7.length c7 _) (uH V6) ?_
 clear V6 D F I K
 intro W7 h
 generalize L7.length=l7 at*
 have A:=ac h
 have D:=h.2.2.1.c0;have F:=h.2.2.1.c1;have I:=h.2.2.1.free 0;have K:=h.2.2.1.free 1
 clear h
 go_wp2_with fail
 refine(uH KV _ _ (uH A).2.2.2.2).mono ?_
 rintro r w9 ⟨u,rfl,hu,ah⟩
 have v9:=(uH A).below ah
 have L:=v9.2.1
 have V9:=ac v9
 obtain⟨n9,a9,c9,L9,rfl,j9⟩:=hu
 have J:=ac (show aC w9 (.agg #[.bool n9,.slice a9 L9.length c9,.int .i64 Y]) X Y from⟨n9,a9,c9,L9,rfl,j9⟩)
 clear D F I K
 have D:=L.c0;have F:=L.c1;have y2:=L.c2;have I:=L.free 0;have K:=L.free 1;have f2:=L.free 2
 clear ah v9 L A j9
 go_wp2
 exact bodyPost_ret (v:=.agg #[.bool n9,.slice a9 L9.length c9,.int .i64 Y]) (by simp[results,Tryz.results60,go_sem,D,F,y2]) rfl ⟨_,rfl,(uH J).put3 (uH V9).2.1 _ _ _,aD (uH V9).1 (Nat.le_refl _) _ _ _⟩
theorem iZ(b:Nat)(w:World)(h:b<18446744073709551616):
  Calls Tryz.prog 60 #[.int .u64 b] w fun r d=>∃u,r=.returned u∧aC d u (fD b) (fX b)∧Below w.heap.size w d:=by
 have L:=fun d=>qG b d h
 have I:=fun d=>kw b d h
 have A:=fun d=>jN b d h
 have Z:=tI b
 have hp:=qE b
 have hE:=Cj b
 have O:fD b=oM (fM b):=rfl
 have Q:fX b=oE (fM b) (fE b):=rfl
 have D:fM b=sg (fS b) (fA b):=rfl
 rw[O,Q]
 by_cases J:fP b=0
 ·have F:fE b= -1074:=by unfold fE;rw[if_pos J]
  have G:fA b=fF b:=by unfold fA;rw[if_pos J]
  rw[J]at I
  have K:IntKind.i64.wrap (fF b:Int)=(fF b:Int):=by simp only[IntKind.wrap_i64];omega
  cases hs:fS b with
  |false=>
   rw[hs]at A D
   have H:(fF b:Int)=fM b:=by rw[D,G];rfl
   exact zZ b (fF b) (fF b:Int) (fM b) (fE b) _ _ w K L I A (fun d=>fY _ d (by omega) (by omega)) (fun d v z=>f8 (fE b) z (by decide) (by omega)) F H
  |true=>
   rw[hs]at A D
   have H:(fF b:Int)= -fM b:=by rw[D,G];simp[sg]
   refine Aa b (fF b) (fF b:Int) (fF b:Int) (fE b) _ _ w K L I A (fun d=>fY _ d (by omega) (by omega)) (fun d v z=>?_) F rfl
   have:-(fF b:Int)=fM b:=by omega
   rw[this]at z
   exact f8 (fE b) z (by decide) (by omega)
 ·have F:fE b=(fP b:Int)-1075:=by unfold fE;rw[if_neg J]
  have G:fA b=fF b+4503599627370496:=by unfold fA;rw[if_neg J]
  have K:IntKind.i64.wrap (fF b:Int)=(fF b:Int):=by simp only[IntKind.wrap_i64];omega
  have U:IntKind.u64.wrap ((fF b:Int)+4503599627370496)=(fA b:Int):=by simp only[IntKind.wrap_u64];omega
  have X:IntKind.i64.wrap (fA b:Int)=(fA b:Int):=by simp only[IntKind.wrap_i64];omega
  have Y:IntKind.i64.wrap ((fP b:Int)-1075)=fE b:=by simp only[IntKind.wrap_i64];omega
  have hl:=IQ b
  cases hs:fS b with
  |false=>
   rw[hs]at A D
   have H:(fA b:Int)=fM b:=by rw[D];rfl
   refine Ab b (fP b) (fF b) (fF b:Int) (fA b:Int) (fA b:Int) (fE b) _ _ w (by omega) K L I A (fun d=>fY _ d (by omega) (by omega)) (fun d v z=>?_) U X Y (fun d=>fY _ d (by omega) (by omega))
   rw[H]at z
   exact f8 (fE b) z (by decide) (by omega)
  |true=>
   rw[hs]at A D
   have H:-(fA b:Int)=fM b:=by rw[D];simp[sg]
   refine Ac b (fP b) (fF b) (fF b:Int) (fA b:Int) (fA b:Int) (fE b) _ _ w (by omega) K L I A (fun d=>fY _ d (by omega) (by omega)) (fun d v z=>?_) U X Y (fun d=>fY _ d (by omega) (by omega))
   rw[H]at z
   exact f8 (fE b) z (by decide) (by omega)
theorem i8{L:List Nat}{n:Bool}(h:bm L)(u:aw n L=true):dU L=(bl (aj L):Int):=by
 rw[iC]
 by_cases d:L= []
 ·subst d;rfl
 ·obtain⟨z,A,D⟩:=iD L h (ay u).2.1 d
  rw[ni z A D]
theorem jS{B:Nat}{w:World}{v:Value}{z:Int}(G:au B w v z)(H:-9223372036854775808≤z∧z≤9223372036854775807):
  Calls Tryz.prog 290 #[v] w fun e I=>e=.returned (.tuple #[.int .i64 z,.int .i64 0])∧Below w.heap.size w I:=by
 obtain⟨d,L,O,A,rfl,Q,u,F,_⟩:=G.right (kz (k:=64) (by have:(2:Nat)^64=18446744073709551616:=(by decide);omega) (by decide))
 have h:=qN d L O A w Q (by have:=(ay u).1;omega)
 have D:iT (af d A)=true:=by unfold iT;rw[F];exact decide_eq_true H
 have J:tj d A=z:=by unfold tj;rw[u,D];simpa using F
 have K:ti d A=0:=by unfold ti;rw[u,D];rfl
 rw[J,K]at h
 exact h
theorem Ad(n:Nat)(h:n<1152921504606846976):bits .and .i64 (n:Int) 1=((n%2:Nat):Int):=by
 have d:=Go.bits_nat .i64 62 (by decide) (fun x z d=>by rw[IntKind.wrap_i64];simp at d;omega) n 1 (by simp;omega) (by decide)
 have u:=d.1
 refine u.trans ?_
 rw[Nat.and_one_is_mod]
theorem Ae(n:Nat)(h:n<1152921504606846976):bits .and .i64 (n:Int) 2=((2*(n/2%2):Nat):Int):=by
 have d:=Go.bits_nat .i64 62 (by decide) (fun x D d=>by rw[IntKind.wrap_i64];simp at d;omega) n 2 (by simp;omega) (by decide)
 have z:=d.1
 refine z.trans ?_
 have A:(n&&& 2)%2=0:=by
  have:=Nat.and_mod_two_pow (a:=n) (b:=2) (n:=1)
  simpa using this
 have u:(n&&& 2)/2=(n/2)&&& 1:=by
  have:=Nat.and_div_two_pow (a:=n) (b:=2) (n:=1)
  simpa using this
 rw[Nat.and_one_is_mod]at u
 have:=Nat.div_add_mod (n&&& 2) 2
 rw[A,u]at this
 congr 1
 omega
theorem Af(I:Bool)(u:Option Addr)(z l N:Nat)(E d:Int)(q:Bool)(w:World)(hE:-20000≤E∧E≤20000)(hL:-20000≤d∧d≤20000)(aa:(0:Int)≤N)(hN:(N:Int)<1152921504606846976)
  (CS:∀A,Below w.heap.size w A→Calls Tryz.prog 238 #[.agg #[.bool false,.slice u l z],.int .i64 (E-d+1)] A fun e G=>∃v,e=.returned (.tuple #[v,.int .i64 0])∧au A.heap.size G v N∧Below A.heap.size A G)
  (p1:bits .and .i64 (N:Int) 1=0) (t1:(E==d-1)=q):
  Calls Tryz.prog 281 #[.agg #[.bool I,.slice u l z,.int .i64 E],.int .i64 d] w fun e A=>e=.returned (.int .u64 ((N/2:Nat):Int))∧Below w.heap.size w A:=by
 have KS:=ac CS
 clear CS
 obtain⟨r1,r2⟩:=hE
 obtain⟨r3,r4⟩:=hL
 have H:Below w.heap.size w ((w.alloc (.cells #[.bool I,.slice u l z,.int .i64 E] 35)).alloc (.cells #[.bool false,.slice u l z] 33)):=((Below.refl _ _).alloc (Nat.le_refl _) _).alloc (by simp) _
 have J:=ac H
 have X0:=ac (show al ((w.alloc (.cells #[.bool I,.slice u l z,.int .i64 E] 35)).alloc (.cells #[.bool false,.slice u l z] 33)) w.heap.size (.bool I) (.slice u l z) (.int .i64 E)from(al.new _ _ _ _).old _)
 clear H
 go_enter Tryz.func281,Tryz.ntmps281
 go_wp2_with fail
 refine(uH KS _ (uH J)).mono ?_
 rintro e Q ⟨v,rfl,hv,D⟩
 have U:=(uH J).trans (D.mono (uH J).size)
 have x1:=(uH X0).all D
 obtain⟨Y,Z,c1,L,rfl,O⟩:=hv
 have h:Below Q.heap.size Q (Q.alloc (.cells #[.bool Y,.slice Z L.length c1] 33)):=(Below.refl _ _).alloc (Nat.le_refl _) _
 have HV:=ac ((show au 0 Q (.agg #[.bool Y,.slice Z L.length c1]) N from⟨Y,Z,c1,L,rfl,O.1,bI.zero O.1,O.2.2⟩).below h)
 have X:=ac (U.trans (h.mono U.size))
 have X2:=ac (x1.all h)
 clear D U x1 O h J X0 KS
 generalize L.length=l1 at*
 go_wp2_with fail
 refine(jS (uH HV) (by omega)).mono ?_
 rintro e w3 ⟨rfl,F⟩
 have K:=(uH X2).all F
 have B3:=ac ((uH X).trans (F.mono (uH X).size))
 have y0:=K.c0;have y1:=K.c1;have y2:=K.c2
 clear F K X2 X HV
 go_wp2
 go_ret
 exact⟨rfl,uH B3⟩
theorem Ag(I:Bool)(u:Option Addr)(z l N:Nat)(E d:Int)(w:World)(hE:-20000≤E∧E≤20000)(hL:-20000≤d∧d≤20000)(aa:(0:Int)≤N)(hN:(N:Int)<1152921504606846976)
  (CS:∀A,Below w.heap.size w A→Calls Tryz.prog 238 #[.agg #[.bool false,.slice u l z],.int .i64 (E-d+1)] A fun e G=>∃v,e=.returned (.tuple #[v,.int .i64 0])∧au A.heap.size G v N∧Below A.heap.size A G)
  (p1:bits .and .i64 (N:Int) 1=1) (t1:(E==d-1)=false):
  Calls Tryz.prog 281 #[.agg #[.bool I,.slice u l z,.int .i64 E],.int .i64 d] w fun e A=>e=.returned (.int .u64 (((N+1)/2:Nat):Int))∧Below w.heap.size w A:=by
 have KS:=ac CS
 clear CS
 obtain⟨r1,r2⟩:=hE
 obtain⟨r3,r4⟩:=hL
 have H:Below w.heap.size w ((w.alloc (.cells #[.bool I,.slice u l z,.int .i64 E] 35)).alloc (.cells #[.bool false,.slice u l z] 33)):=((Below.refl _ _).alloc (Nat.le_refl _) _).alloc (by simp) _
 have J:=ac H
 have X0:=ac (show al ((w.alloc (.cells #[.bool I,.slice u l z,.int .i64 E] 35)).alloc (.cells #[.bool false,.slice u l z] 33)) w.heap.size (.bool I) (.slice u l z) (.int .i64 E)from(al.new _ _ _ _).old _)
 clear H
 go_enter Tryz.func281,Tryz.ntmps281
 go_wp2_with fail
 refine(uH KS _ (uH J)).mono ?_
 rintro e Q ⟨v,rfl,hv,D⟩
 have U:=(uH J).trans (D.mono (uH J).size)
 have x1:=(uH X0).all D
 obtain⟨Y,Z,c1,L,rfl,O⟩:=hv
 have h:Below Q.heap.size Q (Q.alloc (.cells #[.bool Y,.slice Z L.length c1] 33)):=(Below.refl _ _).alloc (Nat.le_refl _) _
 have HV:=ac ((show au 0 Q (.agg #[.bool Y,.slice Z L.length c1]) N from⟨Y,Z,c1,L,rfl,O.1,bI.zero O.1,O.2.2⟩).below h)
 have X:=ac (U.trans (h.mono U.size))
 have X2:=ac (x1.all h)
 clear D U x1 O h J X0 KS
 generalize L.length=l1 at*
 go_wp2_with fail
 refine(jS (uH HV) (by omega)).mono ?_
 rintro e w3 ⟨rfl,F⟩
 have K:=(uH X2).all F
 have B3:=ac ((uH X).trans (F.mono (uH X).size))
 have y0:=K.c0;have y1:=K.c1;have y2:=K.c2
 clear F K X2 X HV
 go_wp2
 go_ret
 exact⟨rfl,uH B3⟩
theorem Ah(I:Bool)(u:Option Addr)(z l N:Nat)(E d:Int)(w:World)(hE:-20000≤E∧E≤20000)(hL:-20000≤d∧d≤20000)(aa:(0:Int)≤N)(hN:(N:Int)<1152921504606846976)
  (CS:∀A,Below w.heap.size w A→Calls Tryz.prog 238 #[.agg #[.bool false,.slice u l z],.int .i64 (E-d+1)] A fun e G=>∃v,e=.returned (.tuple #[v,.int .i64 0])∧au A.heap.size G v N∧Below A.heap.size A G)
  (p1:bits .and .i64 (N:Int) 1=1) (t1:(E==d-1)=true) (p2:bits .and .i64 (N:Int) 2=2):
  Calls Tryz.prog 281 #[.agg #[.bool I,.slice u l z,.int .i64 E],.int .i64 d] w fun e A=>e=.returned (.int .u64 (((N+1)/2:Nat):Int))∧Below w.heap.size w A:=by
 have KS:=ac CS
 clear CS
 obtain⟨r1,r2⟩:=hE
 obtain⟨r3,r4⟩:=hL
 have H:Below w.heap.size w ((w.alloc (.cells #[.bool I,.slice u l z,.int .i64 E] 35)).alloc (.cells #[.bool false,.slice u l z] 33)):=((Below.refl _ _).alloc (Nat.le_refl _) _).alloc (by simp) _
 have J:=ac H
 have X0:=ac (show al ((w.alloc (.cells #[.bool I,.slice u l z,.int .i64 E] 35)).alloc (.cells #[.bool false,.slice u l z] 33)) w.heap.size (.bool I) (.slice u l z) (.int .i64 E)from(al.new _ _ _ _).old _)
 clear H
 go_enter Tryz.func281,Tryz.ntmps281
 go_wp2_with fail
 refine(uH KS _ (uH J)).mono ?_
 rintro e Q ⟨v,rfl,hv,D⟩
 have U:=(uH J).trans (D.mono (uH J).size)
 have x1:=(uH X0).all D
 obtain⟨Y,Z,c1,L,rfl,O⟩:=hv
 have h:Below Q.heap.size Q (Q.alloc (.cells #[.bool Y,.slice Z L.length c1] 33)):=(Below.refl _ _).alloc (Nat.le_refl _) _
 have HV:=ac ((show au 0 Q (.agg #[.bool Y,.slice Z L.length c1]) N from⟨Y,Z,c1,L,rfl,O.1,bI.zero O.1,O.2.2⟩).below h)
 have X:=ac (U.trans (h.mono U.size))
 have X2:=ac (x1.all h)
 clear D U x1 O h J X0 KS
 generalize L.length=l1 at*
 go_wp2_with fail
 refine(jS (uH HV) (by omega)).mono ?_
 rintro e w3 ⟨rfl,F⟩
 have K:=(uH X2).all F
 have B3:=ac ((uH X).trans (F.mono (uH X).size))
 have y0:=K.c0;have y1:=K.c1;have y2:=K.c2
 clear F K X2 X HV
 go_wp2
 go_ret
 exact⟨rfl,uH B3⟩
theorem Ai(I:Bool)(u:Option Addr)(z l N:Nat)(E d:Int)(w:World)(hE:-20000≤E∧E≤20000)(hL:-20000≤d∧d≤20000)(aa:(0:Int)≤N)(hN:(N:Int)<1152921504606846976)
  (CS:∀A,Below w.heap.size w A→Calls Tryz.prog 238 #[.agg #[.bool false,.slice u l z],.int .i64 (E-d+1)] A fun e G=>∃v,e=.returned (.tuple #[v,.int .i64 0])∧au A.heap.size G v N∧Below A.heap.size A G)
  (p1:bits .and .i64 (N:Int) 1=1) (t1:(E==d-1)=true) (p2:bits .and .i64 (N:Int) 2=0):
  Calls Tryz.prog 281 #[.agg #[.bool I,.slice u l z,.int .i64 E],.int .i64 d] w fun e A=>e=.returned (.int .u64 ((N/2:Nat):Int))∧Below w.heap.size w A:=by
 have KS:=ac CS
 clear CS
 obtain⟨r1,r2⟩:=hE
 obtain⟨r3,r4⟩:=hL
 have H:Below w.heap.size w ((w.alloc (.cells #[.bool I,.slice u l z,.int .i64 E] 35)).alloc (.cells #[.bool false,.slice u l z] 33)):=((Below.refl _ _).alloc (Nat.le_refl _) _).alloc (by simp) _
 have J:=ac H
 have X0:=ac (show al ((w.alloc (.cells #[.bool I,.slice u l z,.int .i64 E] 35)).alloc (.cells #[.bool false,.slice u l z] 33)) w.heap.size (.bool I) (.slice u l z) (.int .i64 E)from(al.new _ _ _ _).old _)
 clear H
 go_enter Tryz.func281,Tryz.ntmps281
 go_wp2_with fail
 refine(uH KS _ (uH J)).mono ?_
 rintro e Q ⟨v,rfl,hv,D⟩
 have U:=(uH J).trans (D.mono (uH J).size)
 have x1:=(uH X0).all D
 obtain⟨Y,Z,c1,L,rfl,O⟩:=hv
 have h:Below Q.heap.size Q (Q.alloc (.cells #[.bool Y,.slice Z L.length c1] 33)):=(Below.refl _ _).alloc (Nat.le_refl _) _
 have HV:=ac ((show au 0 Q (.agg #[.bool Y,.slice Z L.length c1]) N from⟨Y,Z,c1,L,rfl,O.1,bI.zero O.1,O.2.2⟩).below h)
 have X:=ac (U.trans (h.mono U.size))
 have X2:=ac (x1.all h)
 clear D U x1 O h J X0 KS
 generalize L.length=l1 at*
 go_wp2_with fail
 refine(jS (uH HV) (by omega)).mono ?_
 rintro e w3 ⟨rfl,F⟩
 have K:=(uH X2).all F
 have B3:=ac ((uH X).trans (F.mono (uH X).size))
 have y0:=K.c0;have y1:=K.c1;have y2:=K.c2
 clear F K X2 X HV
 go_wp2
 go_ret
 exact⟨rfl,uH B3⟩
theorem Gn{n:Bool}{L:List Nat}{e:Int}(h:kQ n L e=true)(d:L≠ []):aj L%2=1:=by
 unfold kQ at h
 have z:L.length≠0:=fun u=>d (List.length_eq_zero_iff.1 u)
 rw[if_neg z]at h
 simp only[Bool.and_eq_true,decide_eq_true_eq]at h
 exact h.2.1
theorem wI{n:Bool}{L:List Nat}(h:aw n L=true):aw false L=true:=by
 unfold aw at*
 revert h
 cases n<;>simp
 intro d z u
 exact⟨d,u⟩
theorem Cs{z:Bool}{A:List Nat}(j:Int)(D:aw z A=true)(F:-16384≤j+1∧j+1≤16384)(G:pN (aj A) j<1152921504606846976):
  vT false A (j+1)=0∧tP false A (j+1)=(pN (aj A) j:Int):=by
 have d:mD false A (j+1)=true:=by unfold mD;rw[wI D,decide_eq_true F];rfl
 have h:qa false A (j+1)=(pN (aj A) j:Int):=by unfold qa pN sg;rfl
 have u:(qa false A (j+1)).natAbs<du:=by
  rw[h]
  exact kz (k:=60) (by have:(2:Nat)^60=1152921504606846976:=(by decide);omega) (by decide)
 unfold vT tP
 rw[if_pos d,if_pos d,gq _ u,gr _ u,h]
 exact⟨rfl,rfl⟩
theorem ud(F:Bool)(z:Option Addr)(D:Nat)(A:List Nat)(E d:Int)(w:World)(hA:ag w z D A)(hr:kQ F A E=true)(h0:A≠ [])(hL:-2000≤d∧d≤2000)(hj:-16384≤E-d+1∧E-d+1≤16384)(O:pN (aj A) (E-d)<1152921504606846976):
  Calls Tryz.prog 281 #[.agg #[.bool F,.slice z A.length D,.int .i64 E],.int .i64 d] w fun e h=>e=.returned (.int .u64 (mS (aj A) (E-d):Nat))∧Below w.heap.size w h:=by
 obtain⟨d1,d2,d3,d4,d5⟩:=cd hr
 have ho:=Gn hr h0
 obtain⟨s1,s2⟩:=Cs (E-d) d1 hj O
 have I:∀h,Below w.heap.size w h→Calls Tryz.prog 238 #[.agg #[.bool false,.slice z A.length D],.int .i64 (E-d+1)] h fun e H=>∃v,e=.returned (.tuple #[v,.int .i64 0])∧au h.heap.size H v (pN (aj A) (E-d))∧Below h.heap.size h H:=by
  intro h hb
  have:=iA false z D A (E-d+1) h (hA.below hb) (by omega) (by omega)
  rw[s1,s2]at this
  exact this
 have G:=Ad _ O
 have J:=Ae _ O
 rw[←LM _ _ ho]
 have Q:pM (aj A) (E-d)=(pN (aj A) (E-d)+(LD (aj A) (E-d)).toNat)/2:=rfl
 have U:LD (aj A) (E-d)=(decide (pN (aj A) (E-d)%2=1)&&(!decide (E-d= -1)||decide (pN (aj A) (E-d)/2%2=1))):=rfl
 rw[Q,U]
 generalize pN (aj A) (E-d)=N at*
 have K:-20000≤E∧E≤20000:=by omega
 have u:-20000≤d∧d≤20000:=by omega
 by_cases X:N%2=1
 ·rw[X]at G
  rw[decide_eq_true X]
  by_cases c2:E-d= -1
  ·have L:(E==d-1)=true:=by simp;omega
   rw[decide_eq_true c2]
   by_cases Y:N/2%2=1
   ·rw[Y]at J
    rw[decide_eq_true Y]
    exact Ah F z D A.length N E d w K u (by omega) (by omega) I G L J
   ·have Z:N/2%2=0:=by omega
    rw[Z]at J
    rw[decide_eq_false Y]
    exact Ai F z D A.length N E d w K u (by omega) (by omega) I G L J
  ·have L:(E==d-1)=false:=by simp;omega
   rw[decide_eq_false c2]
   exact Ag F z D A.length N E d w K u (by omega) (by omega) I G L
 ·have aa:N%2=0:=by omega
  rw[aa]at G
  rw[decide_eq_false X]
  exact Af F z D A.length N E d _ w K u (by omega) (by omega) I G rfl
end Go.Proofs.YtcbcmlaogehimaaGreatDoor
