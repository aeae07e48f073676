/- Part 18 of the texts. -/
import Derived.Test.YtmpkkhackbpflaaGreatDoorPartg17
import Derived.Deep.Cut
set_option maxHeartbeats 4000000
namespace Go.Proofs.YtmpkkhackbpflaaGreatDoor
open Go.RowKit
theorem Gy(k:Nat):(2:Int)^k≠0:=Int.pow_ne_zero (by decide)
theorem mp(z:Int)(k:Nat)(e:Int):oM (z*2^k)=oM z∧oE (z*2^k) e=oE z (e+k):=by
 by_cases h:z=0
 ·subst h;rw[Int.zero_mul,de,dP,dP];exact⟨rfl,rfl⟩
 ·have l:z*2^k≠0:=fun e=>by rcases Int.mul_eq_zero.1 e with e|e;exact h e;exact Gy k e
  have d:=gW z h
  have t:jE (z*2^k) (oM z) (tz z.natAbs+k):=by
   refine⟨?_,d.2⟩
   conv=>lhs;rw[d.1]
   rw[Int.mul_assoc,←Int.pow_add]
  obtain⟨_,D,F⟩:=t.eq
  refine⟨D.symm,?_⟩
  rw[d9 _ _ l,d9 _ _ h,←F]
  omega
theorem JQ(z1 z2:Int):oM (z1*z2)=oM z1*oM z2:=by
 by_cases d:z1=0
 ·subst d;rw[Int.zero_mul,de,Int.zero_mul]
 by_cases l:z2=0
 ·subst l;rw[Int.mul_zero,de,Int.mul_zero]
 have a:=gW z1 d
 have b:=gW z2 l
 have h:jE (z1*z2) (oM z1*oM z2) (tz z1.natAbs+tz z2.natAbs):=by
  refine⟨?_,?_⟩
  ·conv=>lhs;rw[a.1,b.1]
   rw[Int.pow_add]
   simp only[Int.mul_assoc,Int.mul_left_comm]
  ·rw[Int.mul_emod,a.2,b.2];rfl
 exact h.eq.2.1.symm
theorem Gz(z1 z2:Int)(d:z1≠0)(l:z2≠0):tz (z1*z2).natAbs=tz z1.natAbs+tz z2.natAbs:=by
 have a:=gW z1 d
 have b:=gW z2 l
 have h:jE (z1*z2) (oM z1*oM z2) (tz z1.natAbs+tz z2.natAbs):=by
  refine⟨?_,?_⟩
  ·conv=>lhs;rw[a.1,b.1]
   rw[Int.pow_add]
   simp only[Int.mul_assoc,Int.mul_left_comm]
  ·rw[Int.mul_emod,a.2,b.2];rfl
 exact h.eq.2.2.symm
def qQ(lo:Int)(W:Nat)(z:Int):Prop:=z.natAbs<2^W∧-16384≤lo∧lo+W≤16384∧W≤16384
theorem qQ.tzs{lo:Int}{W:Nat}{z:Int}(h:qQ lo W z)(d:z≠0):tz z.natAbs<W:=kK _ _ (by omega) h.1
theorem qQ.tops{lo:Int}{W:Nat}{z:Int}(h:qQ lo W z):z.natAbs<eN:=pq h.1 h.2.2.2
theorem qQ.right{lo:Int}{W:Nat}{z:Int}(h:qQ lo W z):sM (oM z) (oE z lo)=true∧(oM z).natAbs<eN:=by
 refine⟨?_,Nat.lt_of_le_of_lt (rI z) h.tops⟩
 unfold sM
 by_cases d:z=0
 ·subst d;rw[de,dP];rfl
 ·obtain⟨l,t⟩:=iB z d
  have D:=h.tzs d
  obtain⟨_,F,G,_⟩:=h
  rw[if_neg l,d9 _ _ d,decide_eq_true t,decide_eq_true (show-16384≤lo+(tz z.natAbs:Int)∧lo+(tz z.natAbs:Int)≤16384 by omega)]
  rfl
theorem mq(z lo:Int)(h:z≠0):oM z*2^(oE z lo-lo).toNat=z:=by
 rw[d9 _ _ h,show(lo+(tz z.natAbs:Int)-lo).toNat=tz z.natAbs by omega]
 exact(gW z h).1.symm
theorem pr(m e:Int)(h:sM m e=true):dz m e=0∧dM m e=m∧dX m e=e:=by
 unfold sM at h
 by_cases d:m=0
 ·subst d
  rw[if_pos rfl]at h
  have t:=of_decide_eq_true h
  subst t
  decide
 ·rw[if_neg d,Bool.and_eq_true]at h
  have z:=of_decide_eq_true h.1
  have H:=of_decide_eq_true h.2
  have D:jE m m 0:=⟨by simp,z⟩
  obtain⟨_,G,l⟩:=D.eq
  have F:nE m e=true:=by
   unfold nE
   rw[←l,decide_eq_true (show-32768≤e∧e≤32768 by omega),decide_eq_true (show-16384≤e+((0:Nat):Int)∧e+((0:Nat):Int)≤16384 by omega)]
   simp
  unfold dz dM dX
  rw[F,←G,d9 _ _ d,←l]
  simp
theorem Dr{lo:Int}{W:Nat}{z1 z2:Int}(M:qQ lo W z1)(N:qQ lo W z2)(h3:qQ lo W (z1+z2)):
  uF (oM z1) (oE z1 lo) (oM z2) (oE z2 lo)=0∧uG (oM z1) (oE z1 lo) (oM z2) (oE z2 lo)=oM (z1+z2)∧uI (oM z1) (oE z1 lo) (oM z2) (oE z2 lo)=oE (z1+z2) lo:=by
 have O:=M.right
 have Q:=N.right
 have bE:∀m e,sM m e=true→-16384≤e∧e≤16384:=fun m e h=>by
  unfold sM at h
  by_cases h0:m=0
  ·rw[if_pos h0]at h;have:=of_decide_eq_true h;omega
  ·rw[if_neg h0,Bool.and_eq_true]at h;exact of_decide_eq_true h.2
 by_cases F:z1=0
 ·subst F
  rw[de,dP,Int.zero_add]
  obtain⟨J,p2,L⟩:=pm (oM z2) (oE z2 lo) (bE _ _ Q.1) Q.2
  rw[J,p2,L]
  exact pr _ _ Q.1
 by_cases G:z2=0
 ·subst G
  rw[de,dP,Int.add_zero]
  obtain⟨J,p2,L⟩:=pn (oM z1) (oE z1 lo) (bE _ _ O.1) O.2 (iB z1 F).1
  rw[J,p2,L]
  exact pr _ _ O.1
 have sa:=(iB z1 F).1
 have sb:=(iB z2 G).1
 have x1:=d9 z1 lo F
 have x2:=d9 z2 lo G
 have t1:=M.tzs F
 have t2:=N.tzs G
 have t:=M.tops
 obtain⟨_,l1,l2,l3⟩:=M
 have H:=zf (oM z1) (oE z1 lo) (oM z2) (oE z2 lo) sa sb
 obtain⟨l,aa⟩:∃l,min (oE z1 lo) (oE z2 lo)=l:=⟨_,rfl⟩
 rw[aa]at H
 have ad:lo≤l:=by omega
 obtain⟨k,hk⟩:∃k:Nat,(k:Int)=l-lo:=⟨(l-lo).toNat,by omega⟩
 have T:lo+(k:Int)=l:=by omega
 have u1:up (oM z1) (oE z1 lo) l*2^k=z1:=by
  conv=>rhs;rw[←mq z1 lo F]
  unfold up
  rw[Int.mul_assoc,←Int.pow_add]
  congr 2
  omega
 have u2:up (oM z2) (oE z2 lo) l*2^k=z2:=by
  conv=>rhs;rw[←mq z2 lo G]
  unfold up
  rw[Int.mul_assoc,←Int.pow_add]
  congr 2
  omega
 have D:=N.tops
 have U:oE z1 lo-l≤16384:=by clear t D;omega
 have V:oE z2 lo-l≤16384:=by clear t D;omega
 have d:∀u z:Int,u*2^k=z→u.natAbs≤z.natAbs:=fun u z h=>by
  rw[←h,Int.natAbs_mul,Int.natAbs_pow]
  exact Nat.le_mul_of_pos_right _ (Nat.pow_pos (by decide))
 have hZ:jH (oM z1) (oE z1 lo) (oM z2) (oE z2 lo)*2^k=z1+z2:=by
  unfold jH
  rw[H,Int.add_mul,u1,u2]
 have e1:jp (oM z1) (oE z1 lo) l=0:=nF _ _ _ (Nat.lt_of_le_of_lt (d _ _ u1) t) U
 have e2:jp (oM z2) (oE z2 lo) l=0:=nF _ _ _ (Nat.lt_of_le_of_lt (d _ _ u2) D) V
 have I:(jH (oM z1) (oE z1 lo) (oM z2) (oE z2 lo)).natAbs<eN:=Nat.lt_of_le_of_lt (d _ _ hZ) h3.tops
 obtain⟨J,p2,L⟩:=Gw (by rw[H];exact e1) (by rw[H];exact e2) I
 rw[J,p2,L,H]
 generalize jH (oM z1) (oE z1 lo) (oM z2) (oE z2 lo)=Z at*
 have X:=mp Z k lo
 rw[hZ]at X
 have hx:oE (z1+z2) lo=oE Z l:=by rw[X.2,T]
 have r3:=h3.right.1
 rw[X.1,hx]at r3⊢
 have Y:-32768≤l∧l≤32768:=by clear t D I;omega
 exact(AG Z l Y).1 r3
theorem AM{lo1 lo2:Int}{W1 W2 W:Nat}{z1 z2:Int}(F:qQ (lo1+lo2) W (z1*z2))(t:qQ lo1 W1 z1)(z:qQ lo2 W2 z2):
  (oM z1*oM z2).natAbs<eN∧dz (oM z1*oM z2) (oE z1 lo1+oE z2 lo2)=0∧dM (oM z1*oM z2) (oE z1 lo1+oE z2 lo2)=oM (z1*z2)∧dX (oM z1*oM z2) (oE z1 lo1+oE z2 lo2)=oE (z1*z2) (lo1+lo2):=by
 have D:=F.right
 rw[←JQ]
 refine⟨D.2,?_⟩
 by_cases h:z1=0
 ·subst h
  have G:-16384≤oE z2 lo2∧oE z2 lo2≤16384:=by
   by_cases d:z2=0
   ·subst d;rw[dP];decide
   ·have:=z.tzs d
    rw[d9 _ _ d]
    have:=z.2
    omega
  rw[Int.zero_mul,de,dP,dP,Int.zero_add]
  have l:nE 0 (oE z2 lo2)=true:=by unfold nE;rw[decide_eq_true (show-32768≤oE z2 lo2∧oE z2 lo2≤32768 by omega)];simp
  unfold dz dM dX
  rw[l]
  simp[de,dP]
 by_cases d:z2=0
 ·subst d
  have G:-16384≤oE z1 lo1∧oE z1 lo1≤16384:=by
   have:=t.tzs h
   rw[d9 _ _ h]
   have:=t.2
   omega
  rw[Int.mul_zero,de,dP,dP,Int.add_zero]
  have l:nE 0 (oE z1 lo1)=true:=by unfold nE;rw[decide_eq_true (show-32768≤oE z1 lo1∧oE z1 lo1≤32768 by omega)];simp
  unfold dz dM dX
  rw[l]
  simp[de,dP]
 have H:oE z1 lo1+oE z2 lo2=oE (z1*z2) (lo1+lo2):=by
  have I:z1*z2≠0:=fun e=>by rcases Int.mul_eq_zero.1 e with e|e;exact h e;exact d e
  rw[d9 _ _ h,d9 _ _ d,d9 _ _ I,Gz z1 z2 h d]
  omega
 rw[H]
 exact pr _ _ D.1
theorem Nz{w:World}{v u:Value}{lo:Int}{W:Nat}{z1 z2:Int}(F:bc w v (oM z1) (oE z1 lo))(G:bc w u (oM z2) (oE z2 lo))(d:qQ lo W z1)(h:qQ lo W z2)(H:qQ lo W (z1+z2))(t:c8 w):
  Calls Tryz.prog 252 #[v,u] w fun r l=>ow l r 0 (oM (z1+z2)) (oE (z1+z2) lo)∧Below w.heap.size w l:=by
 obtain⟨I,J,L,A,rfl,M,a2,N,a4,z⟩:=F.right d.right.2
 obtain⟨O,Q,T,B,rfl,U,b2,V,b4,D⟩:=G.right h.right.2
 rw[d.right.1]at z
 rw[h.right.1]at D
 have:=xj I O J Q L T A B _ _ w M U z D t
 obtain⟨X,Y,Z⟩:=Dr d h H
 rwa[N,V,X,Y,Z]at this
theorem NA{w:World}{v u:Value}{lo1 lo2:Int}{W1 W2 W:Nat}{z1 z2:Int}(H:bc w v (oM z1) (oE z1 lo1))(I:bc w u (oM z2) (oE z2 lo2))(d:qQ lo1 W1 z1)(h:qQ lo2 W2 z2)(J:qQ (lo1+lo2) W (z1*z2))(t:c8 w):
  Calls Tryz.prog 241 #[v,u] w fun r l=>ow l r 0 (oM (z1*z2)) (oE (z1*z2) (lo1+lo2))∧Below w.heap.size w l:=by
 obtain⟨L,M,N,A,rfl,O,a2,z,a4,D⟩:=H.right d.right.2
 obtain⟨Q,T,U,B,rfl,V,b2,F,b4,G⟩:=I.right h.right.2
 rw[d.right.1]at D
 rw[h.right.1]at G
 obtain⟨X,Y,Z,e3⟩:=AM J d h
 have:=xk L Q M T N U A B _ _ w O V D G (by rw[z,F];exact X) t
 rwa[z,F,Y,Z,e3]at this
def fD(b:Nat):Int:=oM (fM b)
def fX(b:Nat):Int:=oE (fM b) (fE b)
theorem Mz(b:Nat)(h:fM b≠0):tz (fM b).natAbs<53:=kK _ _ (by omega) (by rw[Df];exact uL b)
theorem MC(b:Nat):dz (fM b) (fE b)=0∧dM (fM b) (fE b)=fD b∧dX (fM b) (fE b)=fX b:=by
 have l:=Dq b
 have d:nE (fM b) (fE b)=true:=by
  unfold nE
  rw[decide_eq_true (by omega)]
  by_cases h:fM b=0
  ·rw[decide_eq_true h];rfl
  ·have:=Mz b h
   rw[decide_eq_true (p:=-16384≤_∧_) (by omega)]
   simp
 unfold dz dM dX
 rw[if_pos d,if_pos d,if_pos d]
 exact⟨rfl,rfl,rfl⟩
theorem JR(b:Nat):(fM b).natAbs<eN:=pq (k:=53) (by rw[Df];exact uL b) (by decide)
theorem JS(b:Nat)(w:World)(h:b<18446744073709551616)(G:ah b=false):
  Calls Tryz.prog 193 #[.int .u64 b] w fun r z=>ow z r 7 0 0∧Below w.heap.size w z:=by
 have D:=ac (fun z=>fi b z h)
 rw[G]at D
 clear G h
 have t:Below w.heap.size w (w.alloc (.cells #[.bool false,.slice none 0 0,.int .i64 0] 57)):=(Below.refl _ _).alloc (Nat.le_refl _) _
 have F:=ac t;have H:=ac (a8.new w (.bool false) (.slice none 0 0) (.int .i64 0))
 clear t
 go_enter Tryz.func193,Tryz.ntmps193
 go_wp2_with fail
 refine(uH D _).mono ?_
 rintro r T ⟨rfl,l⟩
 have d:=(uH H).all l
 have I:=ac ((uH F).trans (l.mono (uH F).size))
 have J:=d.c0;have L:=d.c1;have M:=d.c2;have N:=d.free 0;have O:=d.free 1;have Q:=d.free 2
 clear l d H F D
 go_wp2
 exact bodyPost_ret (v:=.tuple #[.agg #[.bool false,.slice none 0 0,.int .i64 0],.int .i64 7]) (by simp[results,Tryz.results193,go_sem,J,L,M]) rfl ⟨⟨_,rfl,bc.zero _ _ _⟩,bC (uH I) (Nat.le_refl _) _ _ _⟩
theorem ef(b:Nat)(w:World)(h:b<18446744073709551616)(hf:ah b=true)(hT:c8 w):
  Calls Tryz.prog 193 #[.int .u64 b] w fun r d=>ow d r 0 (fD b) (fX b)∧Below w.heap.size w d:=by
 have N:=ac (fun d=>fi b d h)
 rw[hf]at N
 have CS:=ac (fun d=>gq b d h)
 have CP:=ac (fun d=>AL b d)
 have CO:=ac (fun d=>wQ (fM b) d (by have:=uL b;omega) (by have:=uL b;omega))
 obtain⟨k1,k2,k3⟩:=MC b
 have O:=ac (fun d v B (L:ar B d v (fM b)) (t:c8 d)=>jO (fE b) L (JR b) (by have:=Dq b;omega) t)
 rw[k1,k2,k3]at O
 clear k1 k2 k3
 unfold fV at*
 generalize fM b=m at*
 generalize fE b=e at*
 generalize fD b=M at*
 generalize fX b=X at*
 generalize fS b=s at*
 generalize fP b=p at*
 generalize fF b=f at*
 clear hf h
 have I:Below w.heap.size w (w.alloc (.cells #[.bool false,.slice none 0 0,.int .i64 0] 57)):=(Below.refl _ _).alloc (Nat.le_refl _) _
 have Q:=ac I;have X2:=ac (a8.new w (.bool false) (.slice none 0 0) (.int .i64 0))
 clear I
 go_enter Tryz.func193,Tryz.ntmps193
 go_wp2_with fail
 refine(uH N _).mono ?_
 rintro r w1 ⟨rfl,z⟩
 have X3:=ac ((uH X2).all z)
 have T:=ac ((uH Q).trans (z.mono (uH Q).size))
 clear z X2 Q N
 go_wp2_with fail
 refine(uH CS _).mono ?_
 rintro r w2 ⟨rfl,D⟩
 have X4:=ac ((uH X3).all D)
 have U:=ac ((uH T).trans (D.mono (uH T).size))
 clear D X3 T CS
 go_wp2_with fail
 refine(uH CP _).mono ?_
 rintro r w3 ⟨rfl,F⟩
 have X5:=ac ((uH X4).all F)
 have V:=ac ((uH U).trans (F.mono (uH U).size))
 clear F X4 U CP
 go_wp2_with fail
 refine(uH CO _).mono ?_
 rintro r w4 ⟨v,rfl,L,G⟩
 have X6:=ac ((uH X5).all G)
 have Y:=(uH V).trans (G.mono (uH V).size)
 have Z:=ac Y
 have HT:=ac (hT.all Y)
 have HV:=ac L
 clear G X5 V CO Y L
 go_wp2_with fail
 refine(uH O _ _ _ (uH HV) (uH HT)).mono ?_
 rintro r w5 ⟨u,rfl,hu,H⟩
 have l:=(uH X6).all H
 have X7:=ac l
 have B5:=ac ((uH Z).trans (H.mono (uH Z).size))
 obtain⟨n2,a2,c2,L2,rfl,j2⟩:=hu
 have J:=ac (show bc w5 (.agg #[.bool n2,.slice a2 L2.length c2,.int .i64 X]) M X from⟨n2,a2,c2,L2,rfl,j2⟩)
 have y0:=l.c0;have y1:=l.c1;have y2:=l.c2;have f0:=l.free 0;have f1:=l.free 1;have f2:=l.free 2
 clear H l X6 Z O j2
 go_wp2
 exact bodyPost_ret (v:=.tuple #[.agg #[.bool n2,.slice a2 L2.length c2,.int .i64 X],.int .i64 0]) (by simp[results,Tryz.results193,go_sem,y0,y1,y2]) rfl ⟨⟨_,rfl,(uH J).put3 (uH X7) _ _ _⟩,bC (uH B5) (Nat.le_refl _) _ _ _⟩
theorem pt{M B:Nat}{w:World}{v:Value}{z:Int}(l:aP M B w v z)(I:M≤1000000):
  Calls Tryz.prog 115 #[v] w fun e d=>∃u,e=.returned u∧aP M 0 d u (-z)∧Below w.heap.size w d:=by
 obtain⟨n,a,c,L,rfl,t,J,N,D,F,G⟩:=l
 refine(o0 n a c L w t (by omega)).mono ?_
 rintro e d ⟨u,rfl,h,H⟩
 rw[ie D F]at h
 exact⟨u,rfl,h.more G,H⟩
def tU(w W:World)(g:Nat)(n:Bool)(a:Option Addr)(l c:Nat)(z:Int):Prop:=
 Below w.heap.size w W∧a8 W w.heap.size (.bool false) (.slice none 0 0) (.int .i64 0)∧aC W g (.bool n) (.slice a l c)∧w.heap.size<g∧aP 2 0 W (.agg #[.bool n,.slice a l c]) z
theorem aP.zeroB{M B:Nat}{w:World}{v:Value}{x:Int}(h:aP M B w v x):aP M 0 w v x:=by
 obtain⟨neg,t,d,L,z,l,F,D⟩:=h
 exact⟨neg,t,d,L,z,l,bB.zero l,D⟩
theorem aP.box{M B:Nat}{w:World}{v:Value}{x:Int}(h:aP M B w v x){g:Nat}{y:Bool}{a:Option Addr}{n c:Nat}(l:aC w g (.bool y) (.slice a n c))(u u':Value):aP M B ((w.setCell ⟨g,0,none⟩ u).setCell ⟨g,1,none⟩ u') v x:=by
 obtain⟨neg,t,d,L,z,D,F⟩:=h
 exact⟨neg,t,d,L,z,D.box l u u',F⟩
theorem tU.below{w W t:World}{g:Nat}{n:Bool}{a:Option Addr}{l c:Nat}{z:Int}(h:tU w W g n a l c z)(d:Below W.heap.size W t):tU w t g n a l c z:=
 ⟨h.1.trans (d.mono h.1.size),h.2.1.all d,h.2.2.1.all d,h.2.2.2.1,h.2.2.2.2.below d⟩
theorem tU.put{w W:World}{g:Nat}{n d:Bool}{a a':Option Addr}{l c t D:Nat}{z F:Int}(h:tU w W g n a l c z)(H:aP 2 0 W (.agg #[.bool d,.slice a' t D]) F):
  tU w ((W.setCell ⟨g,0,none⟩ (.bool d)).setCell ⟨g,1,none⟩ (.slice a' t D)) g d a' t D F:=by
 obtain⟨I,J,G,L,M⟩:=h
 exact⟨cJ I (by omega) _ _,(J.other (by simp;omega) _).other (by simp;omega) _,G.put _ _,L,H.box G _ _⟩
theorem AN(b:Nat)(f:Nat)(F m e X Y:Int)(w:World)(aa:IntKind.i64.wrap (f:Int)=F)
  (CF:∀h,Calls Tryz.prog 112 #[.int .u64 b] h fun r d=>r=.returned (.int .u64 f)∧h=d)
  (CP:∀h,Calls Tryz.prog 113 #[.int .u64 b] h fun r d=>r=.returned (.int .i64 0)∧h=d)
  (CN:∀h,Calls Tryz.prog 114 #[.int .u64 b] h fun r d=>r=.returned (.bool false)∧h=d)
  (CO:∀h,Calls Tryz.prog 94 #[.int .i64 F] h fun r d=>∃v,r=.returned v∧aP 2 h.heap.size d v F∧Below h.heap.size h d)
  (CV:∀h v,aP 2 0 h v m→Calls Tryz.prog 89 #[v,.int .i64 e] h fun r d=>∃u,r=.returned u∧bc d u X Y∧Below h.heap.size h d)
  (he:e= -1074) (hm:F=m)
  :Calls Tryz.prog 49 #[.int .u64 b] w fun r h=>∃u,r=.returned u∧bc h u X Y∧Below w.heap.size w h:=by
 subst he hm
 have KF:=ac CF;have KP:=ac CP;have KN:=ac CN;have KO:=ac CO;have KV:=ac CV
 clear CF CP CN CO CV
 have G:Below w.heap.size w (w.alloc (.cells #[.bool false,.slice none 0 0,.int .i64 0] 57)):=(Below.refl _ _).alloc (Nat.le_refl _) _
 have O:=ac G;have X2:=ac (a8.new w (.bool false) (.slice none 0 0) (.int .i64 0))
 clear G
 go_enter Tryz.func49,Tryz.ntmps49
 go_wp2_with(go_at_call 112;refine(uH KF _).mono ?_;rintro r w2 ⟨rfl,rfl⟩)
 refine(uH KO _).mono ?_
 rintro r N ⟨v,rfl,hv,z⟩
 obtain⟨L,t,M,H,rfl,i1⟩:=hv
 have Q:=(uH O).trans (z.mono (uH O).size)
 have l:tU w (N.alloc (.cells #[.bool L,.slice t H.length M] 55)) N.heap.size L t H.length M F:=
  ⟨Q.alloc Q.size _,((uH X2).all z).old _,aC.new _ _ _,by have:=z.size;simp at this;omega,(aP.zeroB ⟨L,t,M,H,rfl,i1⟩).below ((Below.refl _ _).alloc (Nat.le_refl _) _)⟩
 have V1:=ac l
 clear Q l z i1 O X2 KO
 go_upto_region 3 with(fail)
 refine aG (fun W=>tU w W N.heap.size L t H.length M F) (uH V1) ?_
 clear V1
 intro W1 l
 generalize N.heap.size=g at*
 generalize H.length=l1 at*
 have T:=ac l
 have U:=l.2.2.1.c0;have V:=l.2.2.1.c1;have f0:=l.2.2.1.free 0;have f1:=l.2.2.1.free 1
 clear l
 go_wp2_with(first|(go_at_call 113;refine(uH KP _).mono ?_;rintro r w2 ⟨rfl,rfl⟩)|(go_at_call 114;refine(uH KN _).mono ?_;rintro r w2 ⟨rfl,rfl⟩))
 refine(uH KV _ _ (uH T).2.2.2.2).mono ?_
 rintro r w9 ⟨u,rfl,hu,I⟩
 have Z:=(uH T).below I
 have D:=Z.2.1
 have V9:=ac Z
 obtain⟨n9,a9,c9,L9,rfl,j9⟩:=hu
 have J:=ac (show bc w9 (.agg #[.bool n9,.slice a9 L9.length c9,.int .i64 Y]) X Y from⟨n9,a9,c9,L9,rfl,j9⟩)
 clear U V f0 f1
 have U:=D.c0;have V:=D.c1;have y2:=D.c2;have f0:=D.free 0;have f1:=D.free 1;have f2:=D.free 2
 clear I Z D T j9
 go_wp2
 exact bodyPost_ret (v:=.agg #[.bool n9,.slice a9 L9.length c9,.int .i64 Y]) (by simp[results,Tryz.results49,go_sem,U,V,y2]) rfl ⟨_,rfl,(uH J).put3 (uH V9).2.1 _ _ _,bC (uH V9).1 (Nat.le_refl _) _ _ _⟩
theorem AO(b:Nat)(f:Nat)(L m e X Y:Int)(w:World)(aa:IntKind.i64.wrap (f:Int)=L)
  (CF:∀h,Calls Tryz.prog 112 #[.int .u64 b] h fun r d=>r=.returned (.int .u64 f)∧h=d)
  (CP:∀h,Calls Tryz.prog 113 #[.int .u64 b] h fun r d=>r=.returned (.int .i64 0)∧h=d)
  (CN:∀h,Calls Tryz.prog 114 #[.int .u64 b] h fun r d=>r=.returned (.bool true)∧h=d)
  (CO:∀h,Calls Tryz.prog 94 #[.int .i64 L] h fun r d=>∃v,r=.returned v∧aP 2 h.heap.size d v L∧Below h.heap.size h d)
  (CV:∀h v,aP 2 0 h v (-m)→Calls Tryz.prog 89 #[v,.int .i64 e] h fun r d=>∃u,r=.returned u∧bc d u X Y∧Below h.heap.size h d)
  (he:e= -1074) (hm:L=m)
  :Calls Tryz.prog 49 #[.int .u64 b] w fun r h=>∃u,r=.returned u∧bc h u X Y∧Below w.heap.size w h:=by
 subst he hm
 have KF:=ac CF;have KP:=ac CP;have KN:=ac CN;have KO:=ac CO;have KV:=ac CV
 clear CF CP CN CO CV
 have O:Below w.heap.size w (w.alloc (.cells #[.bool false,.slice none 0 0,.int .i64 0] 57)):=(Below.refl _ _).alloc (Nat.le_refl _) _
 have B0:=ac O;have X2:=ac (a8.new w (.bool false) (.slice none 0 0) (.int .i64 0))
 clear O
 go_enter Tryz.func49,Tryz.ntmps49
 go_wp2_with(go_at_call 112;refine(uH KF _).mono ?_;rintro r w2 ⟨rfl,rfl⟩)
 refine(uH KO _).mono ?_
 rintro r w1 ⟨v,rfl,hv,D⟩
 obtain⟨V,z,Z,Q,rfl,i1⟩:=hv
 have b1:=(uH B0).trans (D.mono (uH B0).size)
 have t:tU w (w1.alloc (.cells #[.bool V,.slice z Q.length Z] 55)) w1.heap.size V z Q.length Z L:=
  ⟨b1.alloc b1.size _,((uH X2).all D).old _,aC.new _ _ _,by have:=D.size;simp at this;omega,(aP.zeroB ⟨V,z,Z,Q,rfl,i1⟩).below ((Below.refl _ _).alloc (Nat.le_refl _) _)⟩
 have V1:=ac t
 clear b1 t D i1 B0 X2 KO
 go_upto_region 3 with(fail)
 refine aG (fun W=>tU w W w1.heap.size V z Q.length Z L) (uH V1) ?_
 clear V1
 intro W1 t
 generalize w1.heap.size=g at*
 generalize Q.length=l1 at*
 have F:=ac t
 have G:=t.2.2.1.c0;have H:=t.2.2.1.c1;have M:=t.2.2.1.free 0;have N:=t.2.2.1.free 1
 clear t
 go_wp2_with(first|(go_at_call 113;refine(uH KP _).mono ?_;rintro r w2 ⟨rfl,rfl⟩)|(go_at_call 114;refine(uH KN _).mono ?_;rintro r w2 ⟨rfl,rfl⟩))
 refine(pt (uH F).2.2.2.2 (by decide)).mono ?_
 rintro r w7 ⟨v,rfl,hv,T⟩
 have l:=(uH F).below T
 clear F T G H M N
 obtain⟨n7,a7,c7,L7,rfl,i7⟩:=hv
 have v6:=l.put ⟨n7,a7,c7,L7,rfl,i7⟩
 have V6:=ac v6
 have G:=l.2.2.1.c0;have H:=l.2.2.1.c1;have M:=l.2.2.1.free 0;have N:=l.2.2.1.free 1
 clear l v6 i7
 go_upto_region 8 with(fail)
 refine aG (fun W=>tU w W g n7 a7 L7.length c7 _) (uH V6) ?_
 clear V6 G H M N
 intro W7 l
 generalize L7.length=l7 at*
 have F:=ac l
 have G:=l.2.2.1.c0;have H:=l.2.2.1.c1;have M:=l.2.2.1.free 0;have N:=l.2.2.1.free 1
 clear l
 go_wp2_with fail
 refine(uH KV _ _ (uH F).2.2.2.2).mono ?_
 rintro r w9 ⟨u,rfl,hu,U⟩
 have v9:=(uH F).below U
 have I:=v9.2.1
 have V9:=ac v9
 obtain⟨n9,a9,c9,L9,rfl,j9⟩:=hu
 have J:=ac (show bc w9 (.agg #[.bool n9,.slice a9 L9.length c9,.int .i64 Y]) X Y from⟨n9,a9,c9,L9,rfl,j9⟩)
 clear G H M N
 have G:=I.c0;have H:=I.c1;have y2:=I.c2;have M:=I.free 0;have N:=I.free 1;have f2:=I.free 2
 clear U v9 I F j9
 go_wp2
 exact bodyPost_ret (v:=.agg #[.bool n9,.slice a9 L9.length c9,.int .i64 Y]) (by simp[results,Tryz.results49,go_sem,G,H,y2]) rfl ⟨_,rfl,(uH J).put3 (uH V9).2.1 _ _ _,bC (uH V9).1 (Nat.le_refl _) _ _ _⟩
theorem AQ(b:Nat)(p:Nat)(f:Nat)(G a1 m e X Y:Int)(w:World)(h1:0<p)(aa:IntKind.i64.wrap (f:Int)=G)
  (CF:∀h,Calls Tryz.prog 112 #[.int .u64 b] h fun r d=>r=.returned (.int .u64 f)∧h=d)
  (CP:∀h,Calls Tryz.prog 113 #[.int .u64 b] h fun r d=>r=.returned (.int .i64 p)∧h=d)
  (CN:∀h,Calls Tryz.prog 114 #[.int .u64 b] h fun r d=>r=.returned (.bool false)∧h=d)
  (CO:∀h,Calls Tryz.prog 94 #[.int .i64 G] h fun r d=>∃v,r=.returned v∧aP 2 h.heap.size d v G∧Below h.heap.size h d)
  (CV:∀h v,aP 2 0 h v m→Calls Tryz.prog 89 #[v,.int .i64 e] h fun r d=>∃u,r=.returned u∧bc d u X Y∧Below h.heap.size h d)
  (H:IntKind.u64.wrap ((f:Int)+4503599627370496)=a1) (I:IntKind.i64.wrap a1=m) (w3:IntKind.i64.wrap ((p:Int)-1075)=e)
  (C1:∀h,Calls Tryz.prog 94 #[.int .i64 m] h fun r d=>∃v,r=.returned v∧aP 2 h.heap.size d v m∧Below h.heap.size h d)
  :Calls Tryz.prog 49 #[.int .u64 b] w fun r h=>∃u,r=.returned u∧bc h u X Y∧Below w.heap.size w h:=by
 have ad:decide (0<p)=true:=decide_eq_true h1
 have KF:=ac CF;have KP:=ac CP;have KN:=ac CN;have KO:=ac CO;have KV:=ac CV
 clear CF CP CN CO CV
 have K1:=ac C1
 clear C1
 have L:Below w.heap.size w (w.alloc (.cells #[.bool false,.slice none 0 0,.int .i64 0] 57)):=(Below.refl _ _).alloc (Nat.le_refl _) _
 have B0:=ac L;have X2:=ac (a8.new w (.bool false) (.slice none 0 0) (.int .i64 0))
 clear L
 go_enter Tryz.func49,Tryz.ntmps49
 go_wp2_with(go_at_call 112;refine(uH KF _).mono ?_;rintro r I ⟨rfl,rfl⟩)
 refine(uH KO _).mono ?_
 rintro r H ⟨v,rfl,hv,z⟩
 obtain⟨n1,t,c1,Q,rfl,i1⟩:=hv
 have b1:=(uH B0).trans (z.mono (uH B0).size)
 have M:tU w (H.alloc (.cells #[.bool n1,.slice t Q.length c1] 55)) H.heap.size n1 t Q.length c1 G:=
  ⟨b1.alloc b1.size _,((uH X2).all z).old _,aC.new _ _ _,by have:=z.size;simp at this;omega,(aP.zeroB ⟨n1,t,c1,Q,rfl,i1⟩).below ((Below.refl _ _).alloc (Nat.le_refl _) _)⟩
 have V1:=ac M
 clear b1 M z i1 B0 X2 KO
 go_upto_region 3 with(fail)
 refine aG (fun W=>tU w W H.heap.size n1 t Q.length c1 G) (uH V1) ?_
 clear V1
 intro W1 M
 generalize H.heap.size=g at*
 generalize Q.length=l1 at*
 have F:=ac M
 clear M
 go_wp2_with(first|(go_at_call 113;refine(uH KP _).mono ?_;rintro r I ⟨rfl,rfl⟩)|(go_at_call 112;refine(uH KF _).mono ?_;rintro r I ⟨rfl,rfl⟩))
 refine(uH K1 _).mono ?_
 rintro r w5 ⟨v,rfl,hv,T⟩
 have l:=(uH F).below T
 clear F T K1
 obtain⟨n5,a5,c5,L5,rfl,i5⟩:=hv
 have v6:=l.put (aP.zeroB ⟨n5,a5,c5,L5,rfl,i5⟩)
 have V6:=ac v6
 have N:=l.2.2.1.c0;have O:=l.2.2.1.c1;have V:=l.2.2.1.free 0;have Z:=l.2.2.1.free 1
 clear l v6 i5
 go_upto_region 5 with(fail)
 refine aG (fun W=>tU w W g n5 a5 L5.length c5 m) (uH V6) ?_
 clear V6 N O V Z
 intro W5 l
 generalize L5.length=l5 at*
 have F:=ac l
 have N:=l.2.2.1.c0;have O:=l.2.2.1.c1;have V:=l.2.2.1.free 0;have Z:=l.2.2.1.free 1
 clear l
 go_wp2_with(first|(go_at_call 113;refine(uH KP _).mono ?_;rintro r I ⟨rfl,rfl⟩)|(go_at_call 114;refine(uH KN _).mono ?_;rintro r I ⟨rfl,rfl⟩))
 refine(uH KV _ _ (uH F).2.2.2.2).mono ?_
 rintro r w9 ⟨u,rfl,hu,U⟩
 have v9:=(uH F).below U
 have D:=v9.2.1
 have V9:=ac v9
 obtain⟨n9,a9,c9,L9,rfl,j9⟩:=hu
 have J:=ac (show bc w9 (.agg #[.bool n9,.slice a9 L9.length c9,.int .i64 Y]) X Y from⟨n9,a9,c9,L9,rfl,j9⟩)
 clear N O V Z
 have N:=D.c0;have O:=D.c1;have y2:=D.c2;have V:=D.free 0;have Z:=D.free 1;have f2:=D.free 2
 clear U v9 D F j9
 go_wp2
 exact bodyPost_ret (v:=.agg #[.bool n9,.slice a9 L9.length c9,.int .i64 Y]) (by simp[results,Tryz.results49,go_sem,N,O,y2]) rfl ⟨_,rfl,(uH J).put3 (uH V9).2.1 _ _ _,bC (uH V9).1 (Nat.le_refl _) _ _ _⟩
theorem AR(b:Nat)(p:Nat)(f:Nat)(M a1 m e X Y:Int)(w:World)(h1:0<p)(ai:IntKind.i64.wrap (f:Int)=M)
  (CF:∀l,Calls Tryz.prog 112 #[.int .u64 b] l fun r d=>r=.returned (.int .u64 f)∧l=d)
  (CP:∀l,Calls Tryz.prog 113 #[.int .u64 b] l fun r d=>r=.returned (.int .i64 p)∧l=d)
  (CN:∀l,Calls Tryz.prog 114 #[.int .u64 b] l fun r d=>r=.returned (.bool true)∧l=d)
  (CO:∀l,Calls Tryz.prog 94 #[.int .i64 M] l fun r d=>∃v,r=.returned v∧aP 2 l.heap.size d v M∧Below l.heap.size l d)
  (CV:∀l v,aP 2 0 l v (-m)→Calls Tryz.prog 89 #[v,.int .i64 e] l fun r d=>∃u,r=.returned u∧bc d u X Y∧Below l.heap.size l d)
  (N:IntKind.u64.wrap ((f:Int)+4503599627370496)=a1) (O:IntKind.i64.wrap a1=m) (w3:IntKind.i64.wrap ((p:Int)-1075)=e)
  (C1:∀l,Calls Tryz.prog 94 #[.int .i64 m] l fun r d=>∃v,r=.returned v∧aP 2 l.heap.size d v m∧Below l.heap.size l d)
  :Calls Tryz.prog 49 #[.int .u64 b] w fun r l=>∃u,r=.returned u∧bc l u X Y∧Below w.heap.size w l:=by
 have am:decide (0<p)=true:=decide_eq_true h1
 have KF:=ac CF;have KP:=ac CP;have KN:=ac CN;have KO:=ac CO;have KV:=ac CV
 clear CF CP CN CO CV
 have K1:=ac C1
 clear C1
 have Q:Below w.heap.size w (w.alloc (.cells #[.bool false,.slice none 0 0,.int .i64 0] 57)):=(Below.refl _ _).alloc (Nat.le_refl _) _
 have B0:=ac Q;have X2:=ac (a8.new w (.bool false) (.slice none 0 0) (.int .i64 0))
 clear Q
 go_enter Tryz.func49,Tryz.ntmps49
 go_wp2_with(go_at_call 112;refine(uH KF _).mono ?_;rintro r O ⟨rfl,rfl⟩)
 refine(uH KO _).mono ?_
 rintro r N ⟨v,rfl,hv,G⟩
 obtain⟨n1,F,c1,Z,rfl,i1⟩:=hv
 have b1:=(uH B0).trans (G.mono (uH B0).size)
 have T:tU w (N.alloc (.cells #[.bool n1,.slice F Z.length c1] 55)) N.heap.size n1 F Z.length c1 M:=
  ⟨b1.alloc b1.size _,((uH X2).all G).old _,aC.new _ _ _,by have:=G.size;simp at this;omega,(aP.zeroB ⟨n1,F,c1,Z,rfl,i1⟩).below ((Below.refl _ _).alloc (Nat.le_refl _) _)⟩
 have V1:=ac T
 clear b1 T G i1 B0 X2 KO
 go_upto_region 3 with(fail)
 refine aG (fun W=>tU w W N.heap.size n1 F Z.length c1 M) (uH V1) ?_
 clear V1
 intro W1 T
 generalize N.heap.size=g at*
 generalize Z.length=l1 at*
 have t:=ac T
 clear T
 go_wp2_with(first|(go_at_call 113;refine(uH KP _).mono ?_;rintro r O ⟨rfl,rfl⟩)|(go_at_call 112;refine(uH KF _).mono ?_;rintro r O ⟨rfl,rfl⟩))
 refine(uH K1 _).mono ?_
 rintro r w5 ⟨v,rfl,hv,aa⟩
 have h:=(uH t).below aa
 clear t aa K1
 obtain⟨n5,a5,c5,L5,rfl,i5⟩:=hv
 have U:=h.put (aP.zeroB ⟨n5,a5,c5,L5,rfl,i5⟩)
 have V:=ac U
 have z:=h.2.2.1.c0;have D:=h.2.2.1.c1;have H:=h.2.2.1.free 0;have I:=h.2.2.1.free 1
 clear h U i5
 go_upto_region 5 with(fail)
 refine aG (fun W=>tU w W g n5 a5 L5.length c5 m) (uH V) ?_
 clear V z D H I
 intro W5 h
 generalize L5.length=l5 at*
 have t:=ac h
 have z:=h.2.2.1.c0;have D:=h.2.2.1.c1;have H:=h.2.2.1.free 0;have I:=h.2.2.1.free 1
 clear h
 go_wp2_with(first|(go_at_call 113;refine(uH KP _).mono ?_;rintro r O ⟨rfl,rfl⟩)|(go_at_call 114;refine(uH KN _).mono ?_;rintro r O ⟨rfl,rfl⟩))
 refine(pt (uH t).2.2.2.2 (by decide)).mono ?_
 rintro r w7 ⟨v,rfl,hv,ad⟩
 have h:=(uH t).below ad
 clear t ad z D H I
 obtain⟨n7,a7,c7,L7,rfl,i7⟩:=hv
 have U:=h.put ⟨n7,a7,c7,L7,rfl,i7⟩
 have V:=ac U
 have z:=h.2.2.1.c0;have D:=h.2.2.1.c1;have H:=h.2.2.1.free 0;have I:=h.2.2.1.free 1
 clear h U i7
 go_upto_region 8 with(fail)
 refine aG (fun W=>tU w W g n7 a7 L7.length c7 _) (uH V) ?_
 clear V z D H I
 intro W7 h
 generalize L7.length=l7 at*
 have t:=ac h
 have z:=h.2.2.1.c0;have D:=h.2.2.1.c1;have H:=h.2.2.1.free 0;have I:=h.2.2.1.free 1
 clear h
 go_wp2_with fail
 refine(uH KV _ _ (uH t).2.2.2.2).mono ?_
 rintro r w9 ⟨u,rfl,hu,ae⟩
 have v9:=(uH t).below ae
 have L:=v9.2.1
 have V9:=ac v9
 obtain⟨n9,a9,c9,L9,rfl,j9⟩:=hu
 have J:=ac (show bc w9 (.agg #[.bool n9,.slice a9 L9.length c9,.int .i64 Y]) X Y from⟨n9,a9,c9,L9,rfl,j9⟩)
 clear z D H I
 have z:=L.c0;have D:=L.c1;have y2:=L.c2;have H:=L.free 0;have I:=L.free 1;have f2:=L.free 2
 clear ae v9 L t j9
 go_wp2
 exact bodyPost_ret (v:=.agg #[.bool n9,.slice a9 L9.length c9,.int .i64 Y]) (by simp[results,Tryz.results49,go_sem,z,D,y2]) rfl ⟨_,rfl,(uH J).put3 (uH V9).2.1 _ _ _,bC (uH V9).1 (Nat.le_refl _) _ _ _⟩
theorem pu(b:Nat)(w:World)(h:b<18446744073709551616):
  Calls Tryz.prog 49 #[.int .u64 b] w fun r d=>∃u,r=.returned u∧bc d u (fD b) (fX b)∧Below w.heap.size w d:=by
 have L:=fun d=>rE b d h
 have H:=fun d=>kW b d h
 have t:=fun d=>Ay b d h
 have U:=ux b
 have V:=rD b
 have X:=Dq b
 have M:fD b=oM (fM b):=rfl
 have N:fX b=oE (fM b) (fE b):=rfl
 have z:fM b=sg (fS b) (fA b):=rfl
 rw[M,N]
 by_cases I:fP b=0
 ·have D:fE b= -1074:=by unfold fE;rw[if_pos I]
  have F:fA b=fF b:=by unfold fA;rw[if_pos I]
  rw[I]at H
  have J:IntKind.i64.wrap (fF b:Int)=(fF b:Int):=by simp only[IntKind.wrap_i64];omega
  cases hs:fS b with
  |false=>
   rw[hs]at t z
   have G:(fF b:Int)=fM b:=by rw[z,F];rfl
   exact AN b (fF b) (fF b:Int) (fM b) (fE b) _ _ w J L H t (fun d=>g7 _ d (by omega) (by omega)) (fun d v l=>kh (fE b) l (by decide) (by omega)) D G
  |true=>
   rw[hs]at t z
   have G:(fF b:Int)= -fM b:=by rw[z,F];simp[sg]
   refine AO b (fF b) (fF b:Int) (fF b:Int) (fE b) _ _ w J L H t (fun d=>g7 _ d (by omega) (by omega)) (fun d v l=>?_) D rfl
   have:-(fF b:Int)=fM b:=by omega
   rw[this]at l
   exact kh (fE b) l (by decide) (by omega)
 ·have D:fE b=(fP b:Int)-1075:=by unfold fE;rw[if_neg I]
  have F:fA b=fF b+4503599627370496:=by unfold fA;rw[if_neg I]
  have J:IntKind.i64.wrap (fF b:Int)=(fF b:Int):=by simp only[IntKind.wrap_i64];omega
  have O:IntKind.u64.wrap ((fF b:Int)+4503599627370496)=(fA b:Int):=by simp only[IntKind.wrap_u64];omega
  have Q:IntKind.i64.wrap (fA b:Int)=(fA b:Int):=by simp only[IntKind.wrap_i64];omega
  have T:IntKind.i64.wrap ((fP b:Int)-1075)=fE b:=by simp only[IntKind.wrap_i64];omega
  have Y:=Jg b
  cases hs:fS b with
  |false=>
   rw[hs]at t z
   have G:(fA b:Int)=fM b:=by rw[z];rfl
   refine AQ b (fP b) (fF b) (fF b:Int) (fA b:Int) (fA b:Int) (fE b) _ _ w (by omega) J L H t (fun d=>g7 _ d (by omega) (by omega)) (fun d v l=>?_) O Q T (fun d=>g7 _ d (by omega) (by omega))
   rw[G]at l
   exact kh (fE b) l (by decide) (by omega)
  |true=>
   rw[hs]at t z
   have G:-(fA b:Int)=fM b:=by rw[z];simp[sg]
   refine AR b (fP b) (fF b) (fF b:Int) (fA b:Int) (fA b:Int) (fE b) _ _ w (by omega) J L H t (fun d=>g7 _ d (by omega) (by omega)) (fun d v l=>?_) O Q T (fun d=>g7 _ d (by omega) (by omega))
   rw[G]at l
   exact kh (fE b) l (by decide) (by omega)
theorem jq{L:List Nat}{n:Bool}(h:bM L)(l:aE n L=true):iq L=(bl (val L):Int):=by
 rw[AJ]
 by_cases d:L= []
 ·subst d;rfl
 ·obtain⟨t,z,D⟩:=AK L h (aN l).2.1 d
  rw[oc t z D]
end Go.Proofs.YtmpkkhackbpflaaGreatDoor
