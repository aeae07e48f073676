/- Part 12 of the texts. -/
import Derived.Test.YtcbcmlaogehimaaGreatDoorPartu11
import Derived.Deep.Cut
set_option maxHeartbeats 4000000
namespace Go.Proofs.YtcbcmlaogehimaaGreatDoor
open Go.RowKit
theorem JD(k:Nat):(2:Int)^k≠0:=Int.pow_ne_zero (by decide)
theorem iy(z:Int)(k:Nat)(e:Int):oM (z*2^k)=oM z/\oE (z*2^k) e=oE z (e+k):=by
 by_cases h:z=0
 ·subst h;rw[Int.zero_mul,bj,bL,bL];exact⟨rfl,rfl⟩
 ·have t:z*2^k≠0:=fun e=>by rcases Int.mul_eq_zero.1 e with e|e;exact h e;exact JD k e
  have l:=gN z h;have D:jE (z*2^k) (oM z) (tz z.natAbs+k):=by
   refine⟨?_,l.2⟩
   conv=>lhs;rw[l.1]
   rw[Int.mul_assoc,<-Int.pow_add]
  obtain⟨_,F,G⟩:=D.eq;refine⟨F.symm,?_⟩;rw[dc _ _ t,dc _ _ h,<-G];omega
theorem Nr(z1 z2:Int):oM (z1*z2)=oM z1*oM z2:=by
 by_cases l:z1=0
 ·subst l;rw[Int.zero_mul,bj,Int.zero_mul]
 by_cases t:z2=0
 ·subst t;rw[Int.mul_zero,bj,Int.mul_zero]
 have a:=gN z1 l;have b:=gN z2 t;have h:jE (z1*z2) (oM z1*oM z2) (tz z1.natAbs+tz z2.natAbs):=by
  refine⟨?_,?_⟩
  ·conv=>lhs;rw[a.1,b.1]
   rw[Int.pow_add];simp only[Int.mul_assoc,Int.mul_left_comm]
  ·rw[Int.mul_emod,a.2,b.2];rfl
 exact h.eq.2.1.symm
theorem JE(z1 z2:Int)(l:z1≠0)(t:z2≠0):tz (z1*z2).natAbs=tz z1.natAbs+tz z2.natAbs:=by
 have a:=gN z1 l;have b:=gN z2 t;have h:jE (z1*z2) (oM z1*oM z2) (tz z1.natAbs+tz z2.natAbs):=by
  refine⟨?_,?_⟩
  ·conv=>lhs;rw[a.1,b.1]
   rw[Int.pow_add];simp only[Int.mul_assoc,Int.mul_left_comm]
  ·rw[Int.mul_emod,a.2,b.2];rfl
 exact h.eq.2.2.symm
theorem Ns(z:Int):oM (-z)= -oM z/\∀e,oE (-z) e=oE z e:=by
 by_cases h:z=0
 ·subst h;rw[Int.neg_zero,bj];exact⟨rfl,fun _=>rfl⟩
 ·have a:=gN z h
  have l:jE (-z) (-oM z) (tz z.natAbs):=by
   refine⟨?_,by have:=a.2;omega⟩
   conv=>lhs;rw[a.1]
   rw[Int.neg_mul]
  refine⟨l.eq.2.1.symm,fun e=>?_⟩;rw[dc _ _ (by omega),dc _ _ h,Int.natAbs_neg]
def ga(lo:Int)(W:Nat)(z:Int):Prop:=z.natAbs<2^W/\-16384<=lo/\lo+W<=16384/\W<=16384
theorem ga.tzs{lo:Int}{W:Nat}{z:Int}(h:ga lo W z)(l:z≠0):tz z.natAbs<W:=mr _ _ (by omega) h.1
theorem ga.tops{lo:Int}{W:Nat}{z:Int}(h:ga lo W z):z.natAbs<eE:=mK h.1 h.2.2.2
theorem ga.right{lo:Int}{W:Nat}{z:Int}(h:ga lo W z):sR (oM z) (oE z lo)=true/\(oM z).natAbs<eE:=by
 refine⟨?_,Nat.lt_of_le_of_lt (tO z) h.tops⟩;unfold sR
 by_cases l:z=0
 ·subst l;rw[bj,bL];rfl
 ·obtain⟨t,D⟩:=g6 z l
  have F:=h.tzs l;obtain⟨_,G,H,_⟩:=h;rw[if_neg t,dc _ _ l,decide_eq_true D,decide_eq_true (show-16384<=lo+(tz z.natAbs:Int)/\lo+(tz z.natAbs:Int)<=16384 by omega)];rfl
theorem kI(z lo:Int)(h:z≠0):oM z*2^(oE z lo-lo).toNat=z:=by
 rw[dc _ _ h,show(lo+(tz z.natAbs:Int)-lo).toNat=tz z.natAbs by omega];exact(gN z h).1.symm
theorem qZ(m e:Int)(h:sR m e=true):dU m e=0/\dM m e=m/\dX m e=e:=by
 unfold sR at h
 by_cases l:m=0
 ·subst l
  rw[if_pos rfl]at h;have D:=of_decide_eq_true h;subst D
  decide
 ·rw[if_neg l,Bool.and_eq_true]at h
  have F:=of_decide_eq_true h.1;have J:=of_decide_eq_true h.2;have G:jE m m 0:=⟨by simp,F⟩;obtain⟨_,I,t⟩:=G.eq;have H:oK m e=true:=by
   unfold oK;rw[<-t,decide_eq_true (show-32768<=e/\e<=32768 by omega),decide_eq_true (show-16384<=e+((0:Nat):Int)/\e+((0:Nat):Int)<=16384 by omega)]
   simp
  unfold dU dM dX;rw[H,<-I,dc _ _ l,<-t]
  simp
theorem Fj{lo:Int}{W:Nat}{z1 z2:Int}(M:ga lo W z1)(N:ga lo W z2)(h3:ga lo W (z1+z2)):
  vZ (oM z1) (oE z1 lo) (oM z2) (oE z2 lo)=0/\v4 (oM z1) (oE z1 lo) (oM z2) (oE z2 lo)=oM (z1+z2)/\wg (oM z1) (oE z1 lo) (oM z2) (oE z2 lo)=oE (z1+z2) lo:=by
 have O:=M.right;have Q:=N.right;have bE:∀m e,sR m e=true->-16384<=e/\e<=16384:=fun m e h=>by
  unfold sR at h
  by_cases h0:m=0
  ·rw[if_pos h0]at h;have:=of_decide_eq_true h;omega
  ·rw[if_neg h0,Bool.and_eq_true]at h;exact of_decide_eq_true h.2
 by_cases G:z1=0
 ·subst G
  rw[bj,bL,Int.zero_add];obtain⟨K,p2,L⟩:=qO (oM z2) (oE z2 lo) (bE _ _ Q.1) Q.2;rw[K,p2,L];exact qZ _ _ Q.1
 by_cases H:z2=0
 ·subst H
  rw[bj,bL,Int.add_zero];obtain⟨K,p2,L⟩:=qP (oM z1) (oE z1 lo) (bE _ _ O.1) O.2 (g6 z1 G).1;rw[K,p2,L];exact qZ _ _ O.1
 have sa:=(g6 z1 G).1;have sb:=(g6 z2 H).1;have x1:=dc z1 lo G;have x2:=dc z2 lo H;have t1:=M.tzs G;have t2:=N.tzs H;have D:=M.tops;obtain⟨_,l1,l2,l3⟩:=M;have I:=j7 (oM z1) (oE z1 lo) (oM z2) (oE z2 lo) sa sb;obtain⟨l,ap⟩:∃l,min (oE z1 lo) (oE z2 lo)=l:=⟨_,rfl⟩;rw[ap]at I;have ax:lo<=l:=by omega
 obtain⟨k,hk⟩:∃k:Nat,(k:Int)=l-lo:=⟨(l-lo).toNat,by omega⟩;have U:lo+(k:Int)=l:=by omega
 have u1:up (oM z1) (oE z1 lo) l*2^k=z1:=by
  conv=>rhs;rw[<-kI z1 lo G]
  unfold up;rw[Int.mul_assoc,<-Int.pow_add]
  congr 2
  omega
 have u2:up (oM z2) (oE z2 lo) l*2^k=z2:=by
  conv=>rhs;rw[<-kI z2 lo H]
  unfold up;rw[Int.mul_assoc,<-Int.pow_add]
  congr 2
  omega
 have F:=N.tops;have aa:oE z1 lo-l<=16384:=by clear D F;omega
 have ae:oE z2 lo-l<=16384:=by clear D F;omega
 have t:∀u z:Int,u*2^k=z->u.natAbs<=z.natAbs:=fun u z h=>by
  rw[<-h,Int.natAbs_mul,Int.natAbs_pow];exact Nat.le_mul_of_pos_right _ (Nat.pow_pos (by decide))
 have hZ:dW (oM z1) (oE z1 lo) (oM z2) (oE z2 lo)*2^k=z1+z2:=by
  unfold dW;rw[I,Int.add_mul,u1,u2]
 have e1:gr (oM z1) (oE z1 lo) l=0:=fL _ _ _ (Nat.lt_of_le_of_lt (t _ _ u1) D) aa;have e2:gr (oM z2) (oE z2 lo) l=0:=fL _ _ _ (Nat.lt_of_le_of_lt (t _ _ u2) F) ae;have J:(dW (oM z1) (oE z1 lo) (oM z2) (oE z2 lo)).natAbs<eE:=Nat.lt_of_le_of_lt (t _ _ hZ) h3.tops;obtain⟨K,p2,L⟩:=JB (by rw[I];exact e1) (by rw[I];exact e2) J;rw[K,p2,L,I];generalize dW (oM z1) (oE z1 lo) (oM z2) (oE z2 lo)=Z at*;have hs:=iy Z k lo;rw[hZ]at hs;have hx:oE (z1+z2) lo=oE Z l:=by rw[hs.2,U]
 have r3:=h3.right.1;rw[hs.1,hx]at r3⊢;have am:-32768<=l/\l<=32768:=by clear D F J;omega
 exact(Cs Z l am).1 r3
theorem Cy{lo1 lo2:Int}{W1 W2 W:Nat}{z1 z2:Int}(H:ga (lo1+lo2) W (z1*z2))(D:ga lo1 W1 z1)(F:ga lo2 W2 z2):
  (oM z1*oM z2).natAbs<eE/\dU (oM z1*oM z2) (oE z1 lo1+oE z2 lo2)=0/\dM (oM z1*oM z2) (oE z1 lo1+oE z2 lo2)=oM (z1*z2)/\dX (oM z1*oM z2) (oE z1 lo1+oE z2 lo2)=oE (z1*z2) (lo1+lo2):=by
 have G:=H.right;rw[<-Nr];refine⟨G.2,?_⟩
 by_cases l:z1=0
 ·subst l
  have I:-16384<=oE z2 lo2/\oE z2 lo2<=16384:=by
   by_cases h:z2=0
   ·subst h;rw[bL];decide
   ·have:=F.tzs h
    rw[dc _ _ h];have:=F.2;omega
  rw[Int.zero_mul,bj,bL,bL,Int.zero_add];have t:oK 0 (oE z2 lo2)=true:=by unfold oK;rw[decide_eq_true (show-32768<=oE z2 lo2/\oE z2 lo2<=32768 by omega)];simp
  unfold dU dM dX;rw[t]
  simp[bj,bL]
 by_cases h:z2=0
 ·subst h
  have I:-16384<=oE z1 lo1/\oE z1 lo1<=16384:=by
   have:=D.tzs l;rw[dc _ _ l];have:=D.2;omega
  rw[Int.mul_zero,bj,bL,bL,Int.add_zero];have t:oK 0 (oE z1 lo1)=true:=by unfold oK;rw[decide_eq_true (show-32768<=oE z1 lo1/\oE z1 lo1<=32768 by omega)];simp
  unfold dU dM dX;rw[t]
  simp[bj,bL]
 have J:oE z1 lo1+oE z2 lo2=oE (z1*z2) (lo1+lo2):=by
  have K:z1*z2≠0:=fun e=>by rcases Int.mul_eq_zero.1 e with e|e;exact l e;exact h e
  rw[dc _ _ l,dc _ _ h,dc _ _ K,JE z1 z2 l h];omega
 rw[J];exact qZ _ _ G.1
theorem QU{w:World}{v u:Value}{lo:Int}{W:Nat}{z1 z2:Int}(H:aH w v (oM z1) (oE z1 lo))(I:aH w u (oM z2) (oE z2 lo))(h:ga lo W z1)(l:ga lo W z2)(J:ga lo W (z1+z2))(t:cX w):
  GF 275 #[v,u] w fun r D=>pG D r 0 (oM (z1+z2)) (oE (z1+z2) lo)/\H8 w D:=by
 obtain⟨K,ao,L,A,rfl,M,a2,N,a4,F⟩:=H.right h.right.2;obtain⟨O,Q,U,B,rfl,Z,b2,b3,b4,G⟩:=I.right l.right.2;rw[h.right.1]at F;rw[l.right.1]at G;have:=yQ K O ao Q L U A B _ _ w M Z F G t;obtain⟨e1,e2,e3⟩:=Fj h l J
 rwa[N,b3,e1,e2,e3]at this
theorem QW{w:World}{v u:Value}{lo1 lo2:Int}{W1 W2 W:Nat}{z1 z2:Int}(J:aH w v (oM z1) (oE z1 lo1))(K:aH w u (oM z2) (oE z2 lo2))(h:ga lo1 W1 z1)(l:ga lo2 W2 z2)(L:ga (lo1+lo2) W (z1*z2))(t:cX w):
  GF 282 #[v,u] w fun r D=>pG D r 0 (oM (z1*z2)) (oE (z1*z2) (lo1+lo2))/\H8 w D:=by
 obtain⟨M,ao,N,A,rfl,O,a2,F,a4,G⟩:=J.right h.right.2;obtain⟨Q,U,Z,B,rfl,b1,b2,H,b4,I⟩:=K.right l.right.2;rw[h.right.1]at G;rw[l.right.1]at I;obtain⟨e0,e1,e2,e3⟩:=Cy L h l;have:=yR M Q ao U N Z A B _ _ w O b1 G I (by rw[F,H];exact e0) t
 rwa[F,H,e1,e2,e3]at this
def fD(b:Nat):Int:=oM (fM b)
def fX(b:Nat):Int:=oE (fM b) (fE b)
theorem Px(b:Nat)(h:fM b≠0):tz (fM b).natAbs<53:=mr _ _ (by omega) (by rw[IF];exact wi b)
theorem Py(b:Nat):dU (fM b) (fE b)=0/\dM (fM b) (fE b)=fD b/\dX (fM b) (fE b)=fX b:=by
 have t:=Fb b;have h:oK (fM b) (fE b)=true:=by
  unfold oK;rw[decide_eq_true (by omega)]
  by_cases l:fM b=0
  ·rw[decide_eq_true l];rfl
  ·have:=Px b l
   rw[decide_eq_true (p:=-16384<=_/\_) (by omega)]
   simp
 unfold dU dM dX;rw[if_pos h,if_pos h,if_pos h];exact⟨rfl,rfl,rfl⟩
theorem Nt(b:Nat):(fM b).natAbs<eE:=mK (k:=53) (by rw[IF];exact wi b) (by decide)
theorem Nu(b:Nat)(w:World)(h:b<18446744073709551616)(I:ah b=false):
  GF 168 #[CI b] w fun r F=>pG F r 7 0 0/\H8 w F:=by
 have G:=ac (fun F=>gE b F h);rw[I]at G;clear I h;have D:H8 w (w.alloc (.cells #[.bool false,.slice none 0 0,C0 0] 35)):=(Below.refl _ _).alloc (Nat.le_refl _) _;have H:=ac D;have J:=ac (ar.new w (.bool false) (.slice none 0 0) (C0 0));clear D
 go_enter Tryz.func168,Tryz.ntmps168
 go_wp2_with fail;refine(uH G _).mono ?_;rintro r Z ⟨rfl,t⟩;have l:=(uH J).all t;have K:=ac ((uH H).trans (t.mono (uH H).size));have L:=l.c0;have M:=l.c1;have N:=l.c2;have O:=l.free 0;have Q:=l.free 1;have U:=l.free 2;clear t l J H G
 go_wp2
 exact bodyPost_ret (v:=.tuple #[.agg #[.bool false,.slice none 0 0,C0 0],C0 7]) (by simp[results,Tryz.results168,go_sem,L,M,N]) rfl ⟨⟨_,rfl,aH.zero _ _ _⟩,aJ (uH K) (Nat.le_refl _) _ _ _⟩
theorem fh(b:Nat)(w:World)(h:b<18446744073709551616)(hf:ah b=true)(hT:cX w):
  GF 168 #[CI b] w fun r l=>pG l r 0 (fD b) (fX b)/\H8 w l:=by
 have O:=ac (fun l=>gE b l h);rw[hf]at O;have CS:=ac (fun l=>h9 b l h);have CP:=ac (fun l=>Cv b l);have CO:=ac (fun l=>yL (fM b) l (by have:=wi b;omega) (by have:=wi b;omega));obtain⟨k1,k2,k3⟩:=Py b;have Q:=ac (fun l v B (N:aA B l v (fM b)) (t:cX l)=>kH (fE b) N (Nt b) (by have:=Fb b;omega) t);rw[k1,k2,k3]at Q;clear k1 k2 k3;unfold fV at*;generalize fM b=m at*;generalize fE b=e at*;generalize fD b=M at*;generalize fX b=X at*;generalize fS b=s at*;generalize fP b=p at*;generalize fF b=f at*;clear hf h;have L:H8 w (w.alloc (.cells #[.bool false,.slice none 0 0,C0 0] 35)):=(Below.refl _ _).alloc (Nat.le_refl _) _;have U:=ac L;have X2:=ac (ar.new w (.bool false) (.slice none 0 0) (C0 0));clear L
 go_enter Tryz.func168,Tryz.ntmps168
 go_wp2_with fail;refine(uH O _).mono ?_;rintro r w1 ⟨rfl,F⟩;have X3:=ac ((uH X2).all F);have Z:=ac ((uH U).trans (F.mono (uH U).size));clear F X2 U O;go_wp2_with fail;refine(uH CS _).mono ?_;rintro r w2 ⟨rfl,G⟩;have X4:=ac ((uH X3).all G);have B2:=ac ((uH Z).trans (G.mono (uH Z).size));clear G X3 Z CS;go_wp2_with fail;refine(uH CP _).mono ?_;rintro r w3 ⟨rfl,H⟩;have X5:=ac ((uH X4).all H);have B3:=ac ((uH B2).trans (H.mono (uH B2).size));clear H X4 B2 CP;go_wp2_with fail;refine(uH CO _).mono ?_;rintro r w4 ⟨v,rfl,N,I⟩;have X6:=ac ((uH X5).all I);have b4:=(uH B3).trans (I.mono (uH B3).size);have B4:=ac b4;have HT:=ac (hT.all b4);have HV:=ac N;clear I X5 B3 CO b4 N;go_wp2_with fail;refine(uH Q _ _ _ (uH HV) (uH HT)).mono ?_;rintro r w5 ⟨u,rfl,hu,K⟩;have D:=(uH X6).all K;have X7:=ac D;have B5:=ac ((uH B4).trans (K.mono (uH B4).size));obtain⟨n2,a2,c2,L2,rfl,j2⟩:=hu;have J:=ac (show aH w5 (.agg #[.bool n2,.slice a2 L2.length c2,C0 X]) M X from⟨n2,a2,c2,L2,rfl,j2⟩);have y0:=D.c0;have y1:=D.c1;have y2:=D.c2;have f0:=D.free 0;have f1:=D.free 1;have f2:=D.free 2;clear K D X6 B4 Q j2
 go_wp2
 exact bodyPost_ret (v:=.tuple #[.agg #[.bool n2,.slice a2 L2.length c2,C0 X],C0 0]) (by simp[results,Tryz.results168,go_sem,y0,y1,y2]) rfl ⟨⟨_,rfl,(uH J).put3 (uH X7) _ _ _⟩,aJ (uH B5) (Nat.le_refl _) _ _ _⟩
theorem q9{M B:Nat}{w:World}{v:Value}{z:Int}(t:aS M B w v z)(J:M<=1000000):
  GF 116 #[v] w fun e h=>∃u,e=.returned u/\aS M 0 h u (-z)/\H8 w h:=by
 obtain⟨n,a,c,L,rfl,D,K,N,F,G,H⟩:=t;refine(qC n a c L w D (by omega)).mono ?_;rintro e h ⟨u,rfl,l,I⟩;rw[mI F G]at l;exact⟨u,rfl,l.more H,I⟩
def vE(w W:World)(g:Nat)(n:Bool)(a:GY)(l c:Nat)(z:Int):Prop:=
 H8 w W/\ar W w.heap.size (.bool false) (.slice none 0 0) (C0 0)/\aK W g (.bool n) (.slice a l c)/\w.heap.size<g/\aS 2 0 W (.agg #[.bool n,.slice a l c]) z
theorem aS.zeroB{M B:Nat}{w:World}{v:Value}{x:Int}(h:aS M B w v x):aS M 0 w v x:=by
 obtain⟨neg,ao,cap,L,t,l,F,D⟩:=h;exact⟨neg,ao,cap,L,t,l,cj.zero l,D⟩
theorem aS.box{M B:Nat}{w:World}{v:Value}{x:Int}(h:aS M B w v x){g:Nat}{y:Bool}{a:GY}{n c:Nat}(l:aK w g (.bool y) (.slice a n c))(u u':Value):aS M B ((w.setCell ⟨g,0,none⟩ u).setCell ⟨g,1,none⟩ u') v x:=by
 obtain⟨neg,ao,cap,L,t,D,F⟩:=h;exact⟨neg,ao,cap,L,t,D.box l u u',F⟩
theorem vE.below{w W D:World}{g:Nat}{n:Bool}{a:GY}{l c:Nat}{z:Int}(h:vE w W g n a l c z)(t:H8 W D):vE w D g n a l c z:=
 ⟨h.1.trans (t.mono h.1.size),h.2.1.all t,h.2.2.1.all t,h.2.2.2.1,h.2.2.2.2.below t⟩
theorem vE.put{w W:World}{g:Nat}{n t:Bool}{a D:GY}{l c F G:Nat}{z H:Int}(h:vE w W g n a l c z)(J:aS 2 0 W (.agg #[.bool t,.slice D F G]) H):
  vE w ((W.setCell ⟨g,0,none⟩ (.bool t)).setCell ⟨g,1,none⟩ (.slice D F G)) g t D F G H:=by
 obtain⟨K,L,I,M,N⟩:=h;exact⟨cR K (by omega) _ _,(L.other (by simp;omega) _).other (by simp;omega) _,I.put _ _,M,J.box I _ _⟩
theorem Cz(b:Nat)(f:Nat)(H m e X Y:Int)(w:World)(aa:IntKind.i64.wrap (f:Int)=H)
  (CF:∀l,GF 113 #[CI b] l fun r h=>r=.returned (CI f)/\l=h)
  (CP:∀l,GF 114 #[CI b] l fun r h=>r=.returned (C0 0)/\l=h)
  (CN:∀l,GF 115 #[CI b] l fun r h=>r=.returned (.bool false)/\l=h)
  (CO:∀l,GF 28 #[C0 H] l fun r h=>∃v,r=.returned v/\aS 2 l.heap.size h v H/\H8 l h)
  (CV:∀l v,aS 2 0 l v m->GF 27 #[v,C0 e] l fun r h=>∃u,r=.returned u/\aH h u X Y/\H8 l h)
  (he:e= -1074) (hm:H=m)
  :GF 60 #[CI b] w fun r l=>∃u,r=.returned u/\aH l u X Y/\H8 w l:=by
 subst he hm;have KF:=ac CF;have KP:=ac CP;have KN:=ac CN;have KO:=ac CO;have KV:=ac CV;clear CF CP CN CO CV;have I:H8 w (w.alloc (.cells #[.bool false,.slice none 0 0,C0 0] 35)):=(Below.refl _ _).alloc (Nat.le_refl _) _;have Q:=ac I;have X2:=ac (ar.new w (.bool false) (.slice none 0 0) (C0 0));clear I
 go_enter Tryz.func60,Tryz.ntmps60
 go_wp2_with(go_at_call 113;refine(uH KF _).mono ?_;rintro r w2 ⟨rfl,rfl⟩)
 refine(uH KO _).mono ?_;rintro r O ⟨v,rfl,hv,F⟩;obtain⟨M,D,N,K,rfl,i1⟩:=hv;have U:=(uH Q).trans (F.mono (uH Q).size);have t:vE w (O.alloc (.cells #[.bool M,.slice D K.length N] 33)) O.heap.size M D K.length N H:=
  ⟨U.alloc U.size _,((uH X2).all F).old _,aK.new _ _ _,by have:=F.size;simp at this;omega,(aS.zeroB ⟨M,D,N,K,rfl,i1⟩).below ((Below.refl _ _).alloc (Nat.le_refl _) _)⟩
 have V1:=ac t;clear U t F i1 Q X2 KO
 go_upto_region 3 with(fail)
 refine aB (fun W=>vE w W O.heap.size M D K.length N H) (uH V1) ?_;clear V1;intro W1 t;generalize O.heap.size=g at*;generalize K.length=l1 at*;have Z:=ac t;have y0:=t.2.2.1.c0;have y1:=t.2.2.1.c1;have f0:=t.2.2.1.free 0;have f1:=t.2.2.1.free 1;clear t
 go_wp2_with(first|(go_at_call 114;refine(uH KP _).mono ?_;rintro r w2 ⟨rfl,rfl⟩)|(go_at_call 115;refine(uH KN _).mono ?_;rintro r w2 ⟨rfl,rfl⟩))
 refine(uH KV _ _ (uH Z).2.2.2.2).mono ?_;rintro r w9 ⟨u,rfl,hu,L⟩;have v9:=(uH Z).below L;have G:=v9.2.1;have V9:=ac v9;obtain⟨n9,a9,c9,L9,rfl,j9⟩:=hu;have J:=ac (show aH w9 (.agg #[.bool n9,.slice a9 L9.length c9,C0 Y]) X Y from⟨n9,a9,c9,L9,rfl,j9⟩);clear y0 y1 f0 f1;have y0:=G.c0;have y1:=G.c1;have y2:=G.c2;have f0:=G.free 0;have f1:=G.free 1;have f2:=G.free 2;clear L v9 G Z j9
 go_wp2
 exact bodyPost_ret (v:=.agg #[.bool n9,.slice a9 L9.length c9,C0 Y]) (by simp[results,Tryz.results60,go_sem,y0,y1,y2]) rfl ⟨_,rfl,(uH J).put3 (uH V9).2.1 _ _ _,aJ (uH V9).1 (Nat.le_refl _) _ _ _⟩
theorem CE(b:Nat)(f:Nat)(M m e X Y:Int)(w:World)(ae:IntKind.i64.wrap (f:Int)=M)
  (CF:∀l,GF 113 #[CI b] l fun r h=>r=.returned (CI f)/\l=h)
  (CP:∀l,GF 114 #[CI b] l fun r h=>r=.returned (C0 0)/\l=h)
  (CN:∀l,GF 115 #[CI b] l fun r h=>r=.returned (.bool true)/\l=h)
  (CO:∀l,GF 28 #[C0 M] l fun r h=>∃v,r=.returned v/\aS 2 l.heap.size h v M/\H8 l h)
  (CV:∀l v,aS 2 0 l v (-m)->GF 27 #[v,C0 e] l fun r h=>∃u,r=.returned u/\aH h u X Y/\H8 l h)
  (he:e= -1074) (hm:M=m)
  :GF 60 #[CI b] w fun r l=>∃u,r=.returned u/\aH l u X Y/\H8 w l:=by
 subst he hm;have KF:=ac CF;have KP:=ac CP;have KN:=ac CN;have KO:=ac CO;have KV:=ac CV;clear CF CP CN CO CV;have Q:H8 w (w.alloc (.cells #[.bool false,.slice none 0 0,C0 0] 35)):=(Below.refl _ _).alloc (Nat.le_refl _) _;have B0:=ac Q;have X2:=ac (ar.new w (.bool false) (.slice none 0 0) (C0 0));clear Q
 go_enter Tryz.func60,Tryz.ntmps60
 go_wp2_with(go_at_call 113;refine(uH KF _).mono ?_;rintro r w2 ⟨rfl,rfl⟩)
 refine(uH KO _).mono ?_;rintro r w1 ⟨v,rfl,hv,G⟩;obtain⟨n1,F,c1,U,rfl,i1⟩:=hv;have b1:=(uH B0).trans (G.mono (uH B0).size);have D:vE w (w1.alloc (.cells #[.bool n1,.slice F U.length c1] 33)) w1.heap.size n1 F U.length c1 M:=
  ⟨b1.alloc b1.size _,((uH X2).all G).old _,aK.new _ _ _,by have:=G.size;simp at this;omega,(aS.zeroB ⟨n1,F,c1,U,rfl,i1⟩).below ((Below.refl _ _).alloc (Nat.le_refl _) _)⟩
 have V1:=ac D;clear b1 D G i1 B0 X2 KO
 go_upto_region 3 with(fail)
 refine aB (fun W=>vE w W w1.heap.size n1 F U.length c1 M) (uH V1) ?_;clear V1;intro W1 D;generalize w1.heap.size=g at*;generalize U.length=l1 at*;have H:=ac D;have I:=D.2.2.1.c0;have K:=D.2.2.1.c1;have N:=D.2.2.1.free 0;have O:=D.2.2.1.free 1;clear D
 go_wp2_with(first|(go_at_call 114;refine(uH KP _).mono ?_;rintro r w2 ⟨rfl,rfl⟩)|(go_at_call 115;refine(uH KN _).mono ?_;rintro r w2 ⟨rfl,rfl⟩))
 refine(q9 (uH H).2.2.2.2 (by decide)).mono ?_;rintro r w7 ⟨v,rfl,hv,Z⟩;have t:=(uH H).below Z;clear H Z I K N O;obtain⟨n7,a7,c7,L7,rfl,i7⟩:=hv;have v6:=t.put ⟨n7,a7,c7,L7,rfl,i7⟩;have V6:=ac v6;have I:=t.2.2.1.c0;have K:=t.2.2.1.c1;have N:=t.2.2.1.free 0;have O:=t.2.2.1.free 1;clear t v6 i7
 go_upto_region 8 with(fail)
 refine aB (fun W=>vE w W g n7 a7 L7.length c7 _) (uH V6) ?_;clear V6 I K N O;intro W7 t;generalize L7.length=l7 at*;have H:=ac t;have I:=t.2.2.1.c0;have K:=t.2.2.1.c1;have N:=t.2.2.1.free 0;have O:=t.2.2.1.free 1;clear t;go_wp2_with fail;refine(uH KV _ _ (uH H).2.2.2.2).mono ?_;rintro r w9 ⟨u,rfl,hu,aa⟩;have v9:=(uH H).below aa;have L:=v9.2.1;have V9:=ac v9;obtain⟨n9,a9,c9,L9,rfl,j9⟩:=hu;have J:=ac (show aH w9 (.agg #[.bool n9,.slice a9 L9.length c9,C0 Y]) X Y from⟨n9,a9,c9,L9,rfl,j9⟩);clear I K N O;have I:=L.c0;have K:=L.c1;have y2:=L.c2;have N:=L.free 0;have O:=L.free 1;have f2:=L.free 2;clear aa v9 L H j9
 go_wp2
 exact bodyPost_ret (v:=.agg #[.bool n9,.slice a9 L9.length c9,C0 Y]) (by simp[results,Tryz.results60,go_sem,I,K,y2]) rfl ⟨_,rfl,(uH J).put3 (uH V9).2.1 _ _ _,aJ (uH V9).1 (Nat.le_refl _) _ _ _⟩
theorem CG(b:Nat)(p:Nat)(f:Nat)(I a1 m e X Y:Int)(w:World)(h1:0<p)(ae:IntKind.i64.wrap (f:Int)=I)
  (CF:∀l,GF 113 #[CI b] l fun r h=>r=.returned (CI f)/\l=h)
  (CP:∀l,GF 114 #[CI b] l fun r h=>r=.returned (C0 p)/\l=h)
  (CN:∀l,GF 115 #[CI b] l fun r h=>r=.returned (.bool false)/\l=h)
  (CO:∀l,GF 28 #[C0 I] l fun r h=>∃v,r=.returned v/\aS 2 l.heap.size h v I/\H8 l h)
  (CV:∀l v,aS 2 0 l v m->GF 27 #[v,C0 e] l fun r h=>∃u,r=.returned u/\aH h u X Y/\H8 l h)
  (K:IntKind.u64.wrap ((f:Int)+4503599627370496)=a1) (L:IntKind.i64.wrap a1=m) (w3:IntKind.i64.wrap ((p:Int)-1075)=e)
  (C1:∀l,GF 28 #[C0 m] l fun r h=>∃v,r=.returned v/\aS 2 l.heap.size h v m/\H8 l h)
  :GF 60 #[CI b] w fun r l=>∃u,r=.returned u/\aH l u X Y/\H8 w l:=by
 have am:decide (0<p)=true:=decide_eq_true h1;have KF:=ac CF;have KP:=ac CP;have KN:=ac CN;have KO:=ac CO;have KV:=ac CV;clear CF CP CN CO CV;have K1:=ac C1;clear C1;have M:H8 w (w.alloc (.cells #[.bool false,.slice none 0 0,C0 0] 35)):=(Below.refl _ _).alloc (Nat.le_refl _) _;have B0:=ac M;have X2:=ac (ar.new w (.bool false) (.slice none 0 0) (C0 0));clear M
 go_enter Tryz.func60,Tryz.ntmps60
 go_wp2_with(go_at_call 113;refine(uH KF _).mono ?_;rintro r L ⟨rfl,rfl⟩)
 refine(uH KO _).mono ?_;rintro r K ⟨v,rfl,hv,F⟩;obtain⟨n1,D,c1,U,rfl,i1⟩:=hv;have b1:=(uH B0).trans (F.mono (uH B0).size);have N:vE w (K.alloc (.cells #[.bool n1,.slice D U.length c1] 33)) K.heap.size n1 D U.length c1 I:=
  ⟨b1.alloc b1.size _,((uH X2).all F).old _,aK.new _ _ _,by have:=F.size;simp at this;omega,(aS.zeroB ⟨n1,D,c1,U,rfl,i1⟩).below ((Below.refl _ _).alloc (Nat.le_refl _) _)⟩
 have V1:=ac N;clear b1 N F i1 B0 X2 KO
 go_upto_region 3 with(fail)
 refine aB (fun W=>vE w W K.heap.size n1 D U.length c1 I) (uH V1) ?_;clear V1;intro W1 N;generalize K.heap.size=g at*;generalize U.length=l1 at*;have H:=ac N;clear N
 go_wp2_with(first|(go_at_call 114;refine(uH KP _).mono ?_;rintro r L ⟨rfl,rfl⟩)|(go_at_call 113;refine(uH KF _).mono ?_;rintro r L ⟨rfl,rfl⟩))
 refine(uH K1 _).mono ?_;rintro r w5 ⟨v,rfl,hv,Z⟩;have t:=(uH H).below Z;clear H Z K1;obtain⟨n5,a5,c5,L5,rfl,i5⟩:=hv;have v6:=t.put (aS.zeroB ⟨n5,a5,c5,L5,rfl,i5⟩);have V6:=ac v6;have O:=t.2.2.1.c0;have Q:=t.2.2.1.c1;have f0:=t.2.2.1.free 0;have f1:=t.2.2.1.free 1;clear t v6 i5
 go_upto_region 5 with(fail)
 refine aB (fun W=>vE w W g n5 a5 L5.length c5 m) (uH V6) ?_;clear V6 O Q f0 f1;intro W5 t;generalize L5.length=l5 at*;have H:=ac t;have O:=t.2.2.1.c0;have Q:=t.2.2.1.c1;have f0:=t.2.2.1.free 0;have f1:=t.2.2.1.free 1;clear t
 go_wp2_with(first|(go_at_call 114;refine(uH KP _).mono ?_;rintro r L ⟨rfl,rfl⟩)|(go_at_call 115;refine(uH KN _).mono ?_;rintro r L ⟨rfl,rfl⟩))
 refine(uH KV _ _ (uH H).2.2.2.2).mono ?_;rintro r w9 ⟨u,rfl,hu,aa⟩;have v9:=(uH H).below aa;have G:=v9.2.1;have V9:=ac v9;obtain⟨n9,a9,c9,L9,rfl,j9⟩:=hu;have J:=ac (show aH w9 (.agg #[.bool n9,.slice a9 L9.length c9,C0 Y]) X Y from⟨n9,a9,c9,L9,rfl,j9⟩);clear O Q f0 f1;have O:=G.c0;have Q:=G.c1;have y2:=G.c2;have f0:=G.free 0;have f1:=G.free 1;have f2:=G.free 2;clear aa v9 G H j9
 go_wp2
 exact bodyPost_ret (v:=.agg #[.bool n9,.slice a9 L9.length c9,C0 Y]) (by simp[results,Tryz.results60,go_sem,O,Q,y2]) rfl ⟨_,rfl,(uH J).put3 (uH V9).2.1 _ _ _,aJ (uH V9).1 (Nat.le_refl _) _ _ _⟩
theorem CH(b:Nat)(p:Nat)(f:Nat)(N a1 m e X Y:Int)(w:World)(h1:0<p)(ap:IntKind.i64.wrap (f:Int)=N)
  (CF:∀t,GF 113 #[CI b] t fun r h=>r=.returned (CI f)/\t=h)
  (CP:∀t,GF 114 #[CI b] t fun r h=>r=.returned (C0 p)/\t=h)
  (CN:∀t,GF 115 #[CI b] t fun r h=>r=.returned (.bool true)/\t=h)
  (CO:∀t,GF 28 #[C0 N] t fun r h=>∃v,r=.returned v/\aS 2 t.heap.size h v N/\H8 t h)
  (CV:∀t v,aS 2 0 t v (-m)->GF 27 #[v,C0 e] t fun r h=>∃u,r=.returned u/\aH h u X Y/\H8 t h)
  (O:IntKind.u64.wrap ((f:Int)+4503599627370496)=a1) (Q:IntKind.i64.wrap a1=m) (w3:IntKind.i64.wrap ((p:Int)-1075)=e)
  (C1:∀t,GF 28 #[C0 m] t fun r h=>∃v,r=.returned v/\aS 2 t.heap.size h v m/\H8 t h)
  :GF 60 #[CI b] w fun r t=>∃u,r=.returned u/\aH t u X Y/\H8 w t:=by
 have ax:decide (0<p)=true:=decide_eq_true h1;have KF:=ac CF;have KP:=ac CP;have KN:=ac CN;have KO:=ac CO;have KV:=ac CV;clear CF CP CN CO CV;have K1:=ac C1;clear C1;have U:H8 w (w.alloc (.cells #[.bool false,.slice none 0 0,C0 0] 35)):=(Below.refl _ _).alloc (Nat.le_refl _) _;have B0:=ac U;have X2:=ac (ar.new w (.bool false) (.slice none 0 0) (C0 0));clear U
 go_enter Tryz.func60,Tryz.ntmps60
 go_wp2_with(go_at_call 113;refine(uH KF _).mono ?_;rintro r Q ⟨rfl,rfl⟩)
 refine(uH KO _).mono ?_;rintro r O ⟨v,rfl,hv,I⟩;obtain⟨n1,H,c1,L1,rfl,i1⟩:=hv;have b1:=(uH B0).trans (I.mono (uH B0).size);have Z:vE w (O.alloc (.cells #[.bool n1,.slice H L1.length c1] 33)) O.heap.size n1 H L1.length c1 N:=
  ⟨b1.alloc b1.size _,((uH X2).all I).old _,aK.new _ _ _,by have:=I.size;simp at this;omega,(aS.zeroB ⟨n1,H,c1,L1,rfl,i1⟩).below ((Below.refl _ _).alloc (Nat.le_refl _) _)⟩
 have V1:=ac Z;clear b1 Z I i1 B0 X2 KO
 go_upto_region 3 with(fail)
 refine aB (fun W=>vE w W O.heap.size n1 H L1.length c1 N) (uH V1) ?_;clear V1;intro W1 Z;generalize O.heap.size=g at*;generalize L1.length=l1 at*;have D:=ac Z;clear Z
 go_wp2_with(first|(go_at_call 114;refine(uH KP _).mono ?_;rintro r Q ⟨rfl,rfl⟩)|(go_at_call 113;refine(uH KF _).mono ?_;rintro r Q ⟨rfl,rfl⟩))
 refine(uH K1 _).mono ?_;rintro r w5 ⟨v,rfl,hv,aa⟩;have l:=(uH D).below aa;clear D aa K1;obtain⟨n5,a5,c5,L5,rfl,i5⟩:=hv;have v6:=l.put (aS.zeroB ⟨n5,a5,c5,L5,rfl,i5⟩);have V6:=ac v6;have F:=l.2.2.1.c0;have G:=l.2.2.1.c1;have K:=l.2.2.1.free 0;have L:=l.2.2.1.free 1;clear l v6 i5
 go_upto_region 5 with(fail)
 refine aB (fun W=>vE w W g n5 a5 L5.length c5 m) (uH V6) ?_;clear V6 F G K L;intro W5 l;generalize L5.length=l5 at*;have D:=ac l;have F:=l.2.2.1.c0;have G:=l.2.2.1.c1;have K:=l.2.2.1.free 0;have L:=l.2.2.1.free 1;clear l
 go_wp2_with(first|(go_at_call 114;refine(uH KP _).mono ?_;rintro r Q ⟨rfl,rfl⟩)|(go_at_call 115;refine(uH KN _).mono ?_;rintro r Q ⟨rfl,rfl⟩))
 refine(q9 (uH D).2.2.2.2 (by decide)).mono ?_;rintro r w7 ⟨v,rfl,hv,ae⟩;have l:=(uH D).below ae;clear D ae F G K L;obtain⟨n7,a7,c7,L7,rfl,i7⟩:=hv;have v6:=l.put ⟨n7,a7,c7,L7,rfl,i7⟩;have V6:=ac v6;have F:=l.2.2.1.c0;have G:=l.2.2.1.c1;have K:=l.2.2.1.free 0;have L:=l.2.2.1.free 1;clear l v6 i7
 go_upto_region 8 with(fail)
 refine aB (fun W=>vE w W g n7 a7 L7.length c7 _) (uH V6) ?_;clear V6 F G K L;intro W7 l;generalize L7.length=l7 at*;have D:=ac l;have F:=l.2.2.1.c0;have G:=l.2.2.1.c1;have K:=l.2.2.1.free 0;have L:=l.2.2.1.free 1;clear l;go_wp2_with fail;refine(uH KV _ _ (uH D).2.2.2.2).mono ?_;rintro r w9 ⟨u,rfl,hu,am⟩;have v9:=(uH D).below am;have M:=v9.2.1;have V9:=ac v9;obtain⟨n9,a9,c9,L9,rfl,j9⟩:=hu;have J:=ac (show aH w9 (.agg #[.bool n9,.slice a9 L9.length c9,C0 Y]) X Y from⟨n9,a9,c9,L9,rfl,j9⟩);clear F G K L;have F:=M.c0;have G:=M.c1;have y2:=M.c2;have K:=M.free 0;have L:=M.free 1;have f2:=M.free 2;clear am v9 M D j9
 go_wp2
 exact bodyPost_ret (v:=.agg #[.bool n9,.slice a9 L9.length c9,C0 Y]) (by simp[results,Tryz.results60,go_sem,F,G,y2]) rfl ⟨_,rfl,(uH J).put3 (uH V9).2.1 _ _ _,aJ (uH V9).1 (Nat.le_refl _) _ _ _⟩
theorem ke(b:Nat)(w:World)(h:b<18446744073709551616):
  GF 60 #[CI b] w fun r l=>∃u,r=.returned u/\aH l u (fD b) (fX b)/\H8 w l:=by
 have M:=fun l=>tG b l h
 have J:=fun l=>mH b l h
 have D:=fun l=>lu b l h
 have hf:=vM b;have hp:=tE b;have hE:=Fb b;have N:fD b=oM (fM b):=rfl;have O:fX b=oE (fM b) (fE b):=rfl;have F:fM b=sg (fS b) (fA b):=rfl;rw[N,O]
 by_cases K:fP b=0
 ·have G:fE b= -1074:=by unfold fE;rw[if_pos K]
  have H:fA b=fF b:=by unfold fA;rw[if_pos K]
  rw[K]at J;have L:IntKind.i64.wrap (fF b:Int)=(fF b:Int):=by simp only[IntKind.wrap_i64];omega
  cases hs:fS b with
  |false=>
   rw[hs]at D F;have I:(fF b:Int)=fM b:=by rw[F,H];rfl
   exact Cz b (fF b) (fF b:Int) (fM b) (fE b) _ _ w L M J D (fun l=>ia _ l (by omega) (by omega)) (fun l v t=>ic (fE b) t (by decide) (by omega)) G I
  |true=>
   rw[hs]at D F;have I:(fF b:Int)= -fM b:=by rw[F,H];simp[sg]
   refine CE b (fF b) (fF b:Int) (fF b:Int) (fE b) _ _ w L M J D (fun l=>ia _ l (by omega) (by omega)) (fun l v t=>?_) G rfl;have:-(fF b:Int)=fM b:=by omega
   rw[this]at t;exact ic (fE b) t (by decide) (by omega)
 ·have G:fE b=(fP b:Int)-1075:=by unfold fE;rw[if_neg K]
  have H:fA b=fF b+4503599627370496:=by unfold fA;rw[if_neg K]
  have L:IntKind.i64.wrap (fF b:Int)=(fF b:Int):=by simp only[IntKind.wrap_i64];omega
  have Q:IntKind.u64.wrap ((fF b:Int)+4503599627370496)=(fA b:Int):=by simp only[IntKind.wrap_u64];omega
  have U:IntKind.i64.wrap (fA b:Int)=(fA b:Int):=by simp only[IntKind.wrap_i64];omega
  have Z:IntKind.i64.wrap ((fP b:Int)-1075)=fE b:=by simp only[IntKind.wrap_i64];omega
  have hl:=Mq b
  cases hs:fS b with
  |false=>
   rw[hs]at D F;have I:(fA b:Int)=fM b:=by rw[F];rfl
   refine CG b (fP b) (fF b) (fF b:Int) (fA b:Int) (fA b:Int) (fE b) _ _ w (by omega) L M J D (fun l=>ia _ l (by omega) (by omega)) (fun l v t=>?_) Q U Z (fun l=>ia _ l (by omega) (by omega));rw[I]at t;exact ic (fE b) t (by decide) (by omega)
  |true=>
   rw[hs]at D F;have I:-(fA b:Int)=fM b:=by rw[F];simp[sg]
   refine CH b (fP b) (fF b) (fF b:Int) (fA b:Int) (fA b:Int) (fE b) _ _ w (by omega) L M J D (fun l=>ia _ l (by omega) (by omega)) (fun l v t=>?_) Q U Z (fun l=>ia _ l (by omega) (by omega));rw[I]at t;exact ic (fE b) t (by decide) (by omega)
theorem kf{L:H3}{n:Bool}(l:bQ L)(t:aD n L=true):fH L=(bl (aj L):Int):=by
 rw[jK]
 by_cases h:L= []
 ·subst h;rfl
 ·obtain⟨D,F,G⟩:=jL L l (aG t).2.1 h
  rw[vL D F G]
theorem lK{B:Nat}{w:World}{v:Value}{z:Int}(G:aA B w v z)(H:-9223372036854775808<=z/\z<=9223372036854775807):
  BS 290 #[v] w (.tuple #[C0 z,C0 0]):=by
 obtain⟨l,ao,L,A,rfl,M,t,F,_⟩:=G.right (mK (k:=64) (by have:(2:Nat)^64=18446744073709551616:=(by decide);omega) (by decide));have h:=tN l ao L A w M (by have:=(aG t).1;omega);have D:j3 (af l A)=true:=by unfold j3;rw[F];exact decide_eq_true H
 have J:vD l A=z:=by unfold vD;rw[t,D];simpa using F
 have K:vC l A=0:=by unfold vC;rw[t,D];rfl
 rw[J,K]at h;exact h
theorem CJ(n:Nat)(h:n<1152921504606846976):bits .and .i64 (n:Int) 1=((n%2:Nat):Int):=by
 have l:=Go.bits_nat .i64 62 (by decide) (fun x D l=>by rw[IntKind.wrap_i64];simp at l;omega) n 1 (by simp;omega) (by decide);have t:=l.1;refine t.trans ?_;rw[Nat.and_one_is_mod]
theorem CQ(n:Nat)(h:n<1152921504606846976):bits .and .i64 (n:Int) 2=((2*(n/2%2):Nat):Int):=by
 have l:=Go.bits_nat .i64 62 (by decide) (fun x G l=>by rw[IntKind.wrap_i64];simp at l;omega) n 2 (by simp;omega) (by decide);have D:=l.1;refine D.trans ?_;have F:(n&&& 2)%2=0:=by
  have:=Nat.and_mod_two_pow (a:=n) (b:=2) (n:=1)
  simpa using this
 have t:(n&&& 2)/2=(n/2)&&& 1:=by
  have:=Nat.and_div_two_pow (a:=n) (b:=2) (n:=1)
  simpa using this
 rw[Nat.and_one_is_mod]at t;have:=Nat.div_add_mod (n&&& 2) 2;rw[F,t]at this
 congr 1
 omega
theorem CU(K:Bool)(ao:GY)(D l N:Nat)(E h:Int)(q:Bool)(w:World)(hE:-20000<=E/\E<=20000)(hL:-20000<=h/\h<=20000)(aa:(0:Int)<=N)(hN:(N:Int)<1152921504606846976)
  (CS:∀F,H8 w F->GF 238 #[.agg #[.bool false,.slice ao l D],C0 (E-h+1)] F fun e I=>∃v,e=.returned (.tuple #[v,C0 0])/\aA F.heap.size I v N/\H8 F I)
  (p1:bits .and .i64 (N:Int) 1=0) (t1:(E==h-1)=q):
  BS 281 #[.agg #[.bool K,.slice ao l D,C0 E],C0 h] w (CI ((N/2:Nat):Int)):=by
 have KS:=ac CS;clear CS;obtain⟨r1,r2⟩:=hE;obtain⟨r3,r4⟩:=hL;have J:H8 w ((w.alloc (.cells #[.bool K,.slice ao l D,C0 E] 35)).alloc (.cells #[.bool false,.slice ao l D] 33)):=((Below.refl _ _).alloc (Nat.le_refl _) _).alloc (by simp) _;have L:=ac J;have X0:=ac (show ar ((w.alloc (.cells #[.bool K,.slice ao l D,C0 E] 35)).alloc (.cells #[.bool false,.slice ao l D] 33)) w.heap.size (.bool K) (.slice ao l D) (C0 E)from(ar.new _ _ _ _).old _);clear J
 go_enter Tryz.func281,Tryz.ntmps281
 go_wp2_with fail;refine(uH KS _ (uH L)).mono ?_;rintro e U ⟨v,rfl,hv,G⟩;have Z:=(uH L).trans (G.mono (uH L).size);have x1:=(uH X0).all G;obtain⟨n1,a1,c1,O,rfl,Q⟩:=hv;have t:H8 U (U.alloc (.cells #[.bool n1,.slice a1 O.length c1] 33)):=(Below.refl _ _).alloc (Nat.le_refl _) _;have HV:=ac ((show aA 0 U (.agg #[.bool n1,.slice a1 O.length c1]) N from⟨n1,a1,c1,O,rfl,Q.1,cj.zero Q.1,Q.2.2⟩).below t);have B2:=ac (Z.trans (t.mono Z.size));have X2:=ac (x1.all t);clear G Z x1 Q t L X0 KS;generalize O.length=l1 at*;go_wp2_with fail;refine(lK (uH HV) (by omega)).mono ?_;rintro e w3 ⟨rfl,H⟩;have M:=(uH X2).all H;have B3:=ac ((uH B2).trans (H.mono (uH B2).size));have y0:=M.c0;have y1:=M.c1;have y2:=M.c2;clear H M X2 B2 HV
 go_wp2
 go_ret
 exact⟨rfl,uH B3⟩
theorem CX(K:Bool)(ao:GY)(D l N:Nat)(E h:Int)(w:World)(hE:-20000<=E/\E<=20000)(hL:-20000<=h/\h<=20000)(aa:(0:Int)<=N)(hN:(N:Int)<1152921504606846976)
  (CS:∀F,H8 w F->GF 238 #[.agg #[.bool false,.slice ao l D],C0 (E-h+1)] F fun e I=>∃v,e=.returned (.tuple #[v,C0 0])/\aA F.heap.size I v N/\H8 F I)
  (p1:bits .and .i64 (N:Int) 1=1) (t1:(E==h-1)=false):
  BS 281 #[.agg #[.bool K,.slice ao l D,C0 E],C0 h] w (CI (((N+1)/2:Nat):Int)):=by
 have KS:=ac CS;clear CS;obtain⟨r1,r2⟩:=hE;obtain⟨r3,r4⟩:=hL;have J:H8 w ((w.alloc (.cells #[.bool K,.slice ao l D,C0 E] 35)).alloc (.cells #[.bool false,.slice ao l D] 33)):=((Below.refl _ _).alloc (Nat.le_refl _) _).alloc (by simp) _;have L:=ac J;have X0:=ac (show ar ((w.alloc (.cells #[.bool K,.slice ao l D,C0 E] 35)).alloc (.cells #[.bool false,.slice ao l D] 33)) w.heap.size (.bool K) (.slice ao l D) (C0 E)from(ar.new _ _ _ _).old _);clear J
 go_enter Tryz.func281,Tryz.ntmps281
 go_wp2_with fail;refine(uH KS _ (uH L)).mono ?_;rintro e U ⟨v,rfl,hv,G⟩;have Z:=(uH L).trans (G.mono (uH L).size);have x1:=(uH X0).all G;obtain⟨n1,a1,c1,O,rfl,Q⟩:=hv;have t:H8 U (U.alloc (.cells #[.bool n1,.slice a1 O.length c1] 33)):=(Below.refl _ _).alloc (Nat.le_refl _) _;have HV:=ac ((show aA 0 U (.agg #[.bool n1,.slice a1 O.length c1]) N from⟨n1,a1,c1,O,rfl,Q.1,cj.zero Q.1,Q.2.2⟩).below t);have B2:=ac (Z.trans (t.mono Z.size));have X2:=ac (x1.all t);clear G Z x1 Q t L X0 KS;generalize O.length=l1 at*;go_wp2_with fail;refine(lK (uH HV) (by omega)).mono ?_;rintro e w3 ⟨rfl,H⟩;have M:=(uH X2).all H;have B3:=ac ((uH B2).trans (H.mono (uH B2).size));have y0:=M.c0;have y1:=M.c1;have y2:=M.c2;clear H M X2 B2 HV
 go_wp2
 go_ret
 exact⟨rfl,uH B3⟩
theorem CY(K:Bool)(ao:GY)(D l N:Nat)(E h:Int)(w:World)(hE:-20000<=E/\E<=20000)(hL:-20000<=h/\h<=20000)(aa:(0:Int)<=N)(hN:(N:Int)<1152921504606846976)
  (CS:∀F,H8 w F->GF 238 #[.agg #[.bool false,.slice ao l D],C0 (E-h+1)] F fun e I=>∃v,e=.returned (.tuple #[v,C0 0])/\aA F.heap.size I v N/\H8 F I)
  (p1:bits .and .i64 (N:Int) 1=1) (t1:(E==h-1)=true) (p2:bits .and .i64 (N:Int) 2=2):
  BS 281 #[.agg #[.bool K,.slice ao l D,C0 E],C0 h] w (CI (((N+1)/2:Nat):Int)):=by
 have KS:=ac CS;clear CS;obtain⟨r1,r2⟩:=hE;obtain⟨r3,r4⟩:=hL;have J:H8 w ((w.alloc (.cells #[.bool K,.slice ao l D,C0 E] 35)).alloc (.cells #[.bool false,.slice ao l D] 33)):=((Below.refl _ _).alloc (Nat.le_refl _) _).alloc (by simp) _;have L:=ac J;have X0:=ac (show ar ((w.alloc (.cells #[.bool K,.slice ao l D,C0 E] 35)).alloc (.cells #[.bool false,.slice ao l D] 33)) w.heap.size (.bool K) (.slice ao l D) (C0 E)from(ar.new _ _ _ _).old _);clear J
 go_enter Tryz.func281,Tryz.ntmps281
 go_wp2_with fail;refine(uH KS _ (uH L)).mono ?_;rintro e U ⟨v,rfl,hv,G⟩;have Z:=(uH L).trans (G.mono (uH L).size);have x1:=(uH X0).all G;obtain⟨n1,a1,c1,O,rfl,Q⟩:=hv;have t:H8 U (U.alloc (.cells #[.bool n1,.slice a1 O.length c1] 33)):=(Below.refl _ _).alloc (Nat.le_refl _) _;have HV:=ac ((show aA 0 U (.agg #[.bool n1,.slice a1 O.length c1]) N from⟨n1,a1,c1,O,rfl,Q.1,cj.zero Q.1,Q.2.2⟩).below t);have B2:=ac (Z.trans (t.mono Z.size));have X2:=ac (x1.all t);clear G Z x1 Q t L X0 KS;generalize O.length=l1 at*;go_wp2_with fail;refine(lK (uH HV) (by omega)).mono ?_;rintro e w3 ⟨rfl,H⟩;have M:=(uH X2).all H;have B3:=ac ((uH B2).trans (H.mono (uH B2).size));have y0:=M.c0;have y1:=M.c1;have y2:=M.c2;clear H M X2 B2 HV
 go_wp2
 go_ret
 exact⟨rfl,uH B3⟩
theorem Da(K:Bool)(ao:GY)(D l N:Nat)(E h:Int)(w:World)(hE:-20000<=E/\E<=20000)(hL:-20000<=h/\h<=20000)(aa:(0:Int)<=N)(hN:(N:Int)<1152921504606846976)
  (CS:∀F,H8 w F->GF 238 #[.agg #[.bool false,.slice ao l D],C0 (E-h+1)] F fun e I=>∃v,e=.returned (.tuple #[v,C0 0])/\aA F.heap.size I v N/\H8 F I)
  (p1:bits .and .i64 (N:Int) 1=1) (t1:(E==h-1)=true) (p2:bits .and .i64 (N:Int) 2=0):
  BS 281 #[.agg #[.bool K,.slice ao l D,C0 E],C0 h] w (CI ((N/2:Nat):Int)):=by
 have KS:=ac CS;clear CS;obtain⟨r1,r2⟩:=hE;obtain⟨r3,r4⟩:=hL;have J:H8 w ((w.alloc (.cells #[.bool K,.slice ao l D,C0 E] 35)).alloc (.cells #[.bool false,.slice ao l D] 33)):=((Below.refl _ _).alloc (Nat.le_refl _) _).alloc (by simp) _;have L:=ac J;have X0:=ac (show ar ((w.alloc (.cells #[.bool K,.slice ao l D,C0 E] 35)).alloc (.cells #[.bool false,.slice ao l D] 33)) w.heap.size (.bool K) (.slice ao l D) (C0 E)from(ar.new _ _ _ _).old _);clear J
 go_enter Tryz.func281,Tryz.ntmps281
 go_wp2_with fail;refine(uH KS _ (uH L)).mono ?_;rintro e U ⟨v,rfl,hv,G⟩;have Z:=(uH L).trans (G.mono (uH L).size);have x1:=(uH X0).all G;obtain⟨n1,a1,c1,O,rfl,Q⟩:=hv;have t:H8 U (U.alloc (.cells #[.bool n1,.slice a1 O.length c1] 33)):=(Below.refl _ _).alloc (Nat.le_refl _) _;have HV:=ac ((show aA 0 U (.agg #[.bool n1,.slice a1 O.length c1]) N from⟨n1,a1,c1,O,rfl,Q.1,cj.zero Q.1,Q.2.2⟩).below t);have B2:=ac (Z.trans (t.mono Z.size));have X2:=ac (x1.all t);clear G Z x1 Q t L X0 KS;generalize O.length=l1 at*;go_wp2_with fail;refine(lK (uH HV) (by omega)).mono ?_;rintro e w3 ⟨rfl,H⟩;have M:=(uH X2).all H;have B3:=ac ((uH B2).trans (H.mono (uH B2).size));have y0:=M.c0;have y1:=M.c1;have y2:=M.c2;clear H M X2 B2 HV
 go_wp2
 go_ret
 exact⟨rfl,uH B3⟩
theorem JF{n:Bool}{L:H3}{e:Int}(h:np n L e=true)(l:L≠ []):aj L%2=1:=by
 unfold np at h;have D:L.length≠0:=fun t=>l (List.length_eq_zero_iff.1 t)
 rw[if_neg D]at h;simp only[Bool.and_eq_true,decide_eq_true_eq]at h;exact h.2.1
theorem yV{n:Bool}{L:H3}(h:aD n L=true):aD false L=true:=by
 unfold aD at*
 revert h
 cases n<;>simp
 intro l D t;exact⟨l,t⟩
theorem Fk{D:Bool}{A:H3}(j:Int)(F:aD D A=true)(G:-16384<=j+1/\j+1<=16384)(H:pN (aj A) j<1152921504606846976):
  yz false A (j+1)=0/\vS false A (j+1)=(pN (aj A) j:Int):=by
 have h:oJ false A (j+1)=true:=by unfold oJ;rw[yV F,decide_eq_true G];rfl
 have l:sM false A (j+1)=(pN (aj A) j:Int):=by unfold sM pN sg;rfl
 have t:(sM false A (j+1)).natAbs<eE:=by
  rw[l];exact mK (k:=60) (by have:(2:Nat)^60=1152921504606846976:=(by decide);omega) (by decide)
 unfold yz vS;rw[if_pos h,if_pos h,iq _ t,ir _ t,l];exact⟨rfl,rfl⟩
theorem wl(F:Bool)(ao:GY)(D:Nat)(A:H3)(E h:Int)(w:World)(hA:ai w ao D A)(hr:np F A E=true)(h0:A≠ [])(hL:-2000<=h/\h<=2000)(hj:-16384<=E-h+1/\E-h+1<=16384)(M:pN (aj A) (E-h)<1152921504606846976):
  BS 281 #[.agg #[.bool F,.slice ao A.length D,C0 E],C0 h] w (CI (mS (aj A) (E-h):Nat)):=by
 obtain⟨d1,d2,d3,d4,d5⟩:=cS hr;have ho:=JF hr h0;obtain⟨s1,s2⟩:=Fk (E-h) d1 hj M;have I:∀l,H8 w l->GF 238 #[.agg #[.bool false,.slice ao A.length D],C0 (E-h+1)] l fun e H=>∃v,e=.returned (.tuple #[v,C0 0])/\aA l.heap.size H v (pN (aj A) (E-h))/\H8 l H:=by
  intro l hb;have:=jI false ao D A (E-h+1) l (hA.below hb) (by omega) (by omega);rw[s1,s2]at this;exact this
 have G:=CJ _ M;have J:=CQ _ M;rw[<-Pw _ _ ho];have O:pM (aj A) (E-h)=(pN (aj A) (E-h)+(Pq (aj A) (E-h)).toNat)/2:=rfl;have Q:Pq (aj A) (E-h)=(decide (pN (aj A) (E-h)%2=1)&&(!decide (E-h= -1)||decide (pN (aj A) (E-h)/2%2=1))):=rfl;rw[O,Q];generalize pN (aj A) (E-h)=N at*;have K:-20000<=E/\E<=20000:=by omega
 have t:-20000<=h/\h<=20000:=by omega
 by_cases U:N%2=1
 ·rw[U]at G
  rw[decide_eq_true U]
  by_cases c2:E-h= -1
  ·have L:(E==h-1)=true:=by simp;omega
   rw[decide_eq_true c2]
   by_cases Z:N/2%2=1
   ·rw[Z]at J
    rw[decide_eq_true Z];exact CY F ao D A.length N E h w K t (by omega) (by omega) I G L J
   ·have aa:N/2%2=0:=by omega
    rw[aa]at J;rw[decide_eq_false Z];exact Da F ao D A.length N E h w K t (by omega) (by omega) I G L J
  ·have L:(E==h-1)=false:=by simp;omega
   rw[decide_eq_false c2];exact CX F ao D A.length N E h w K t (by omega) (by omega) I G L
 ·have ae:N%2=0:=by omega
  rw[ae]at G;rw[decide_eq_false U];exact CU F ao D A.length N E h _ w K t (by omega) (by omega) I G rfl
end Go.Proofs.YtcbcmlaogehimaaGreatDoor
