/- Part 21 of the texts. -/
import Derived.Test.YtcbcmlaogehimaaGreatDoorPartu20
set_option maxHeartbeats 8000000
set_option maxRecDepth 20000
namespace Go.Proofs.YtcbcmlaogehimaaGreatDoor
open Go.RowKit
def gY(w:World)(b:Nat)(x y:Value):Prop:=w.heap[b]? =some (.cells #[x,y] 252 (0,0))
theorem gY.c0{w:World}{b:Nat}{x y:Value}(h:gY w b x y):w.cell? ⟨b,0,none⟩=some x:=by rw[cell_of_row w b 0 _ _ _ h];rfl
theorem gY.c1{w:World}{b:Nat}{x y:Value}(h:gY w b x y):w.cell? ⟨b,1,none⟩=some y:=by rw[cell_of_row w b 1 _ _ _ h];rfl
theorem gY.free{w:World}{b:Nat}{x y:Value}(h:gY w b x y)(j:Nat):w.frozen? ⟨b,j,none⟩=false:=frozen_of_row w b j _ _ h
theorem gY.lt{w:World}{b:Nat}{x y:Value}(h:gY w b x y):b<w.heap.size:=(Array.getElem?_eq_some_iff.1 h).1
theorem gY.all{w l:World}{b:Nat}{x y:Value}(h:gY w b x y)(t:H8 w l):gY l b x y:=(t.block b h.lt).trans h
theorem gY.new(w:World)(x y:Value):gY (w.alloc (.cells #[x,y] 252)) w.heap.size x y:=heap_alloc_new w _
theorem Kh(s p:Nat)(h:s<144115188075855872)(l:p<4):bits BinOp.or IntKind.u64 ((s:Int)*4) (p:Int)=((4*s+p:Nat):Int):=by
 have e:(s:Int)*4=((s*2^2:Nat):Int):=by omega
 rw[e,u64_or_nat (s*2^2) p (by omega) (by omega),Nat.or_comm,qK p s 2 (by omega)]
 congr 1
 omega
theorem Gh(x:Nat)(h:x<144115188075855872):bits BinOp.or IntKind.u64 ((x:Int)*2) 1=((2*x+1:Nat):Int):=by
 have e:(x:Int)*2=((x*2^1:Nat):Int):=by omega
 rw[e];refine(u64_or_nat (x*2^1) 1 (by omega) (by omega)).trans ?_;rw[Nat.or_comm,qK 1 x 1 (by omega)]
 congr 1
 omega
theorem gY.put{w:World}{b:Nat}{x y:Value}(h:gY w b x y)(u u':Value):gY ((w.setCell ⟨b,0,none⟩ u).setCell ⟨b,1,none⟩ u') b u u':=by
 have l:=heap_setCell_same w b 0 _ _ u h;have t:=heap_setCell_same (w.setCell ⟨b,0,none⟩ u) b 1 _ _ u' l;unfold gY;rw[t]
 simp
theorem gY.oth{w:World}{b g:Nat}{x y:Value}(h:gY w b x y)(l:b≠g)(u u':Value):gY ((w.setCell ⟨g,0,none⟩ u).setCell ⟨g,1,none⟩ u') b x y:=
 (Below.heap_setCell _ ⟨g,1,none⟩ u' b l).trans ((Below.heap_setCell w ⟨g,0,none⟩ u b l).trans h)
theorem mT{B g:Nat}{a w:World}(h:Below B a w)(l:B<=g)(u u':Value):Below B a ((w.setCell ⟨g,0,none⟩ u).setCell ⟨g,1,none⟩ u'):=(h.setCell l u).setCell l u'
theorem Ki(r s p x y z:Nat)(w:World)(G:r<18014398509481984)(H:s<=2*r)(l:(x:Int)<(y:Int))
  (I:bits BinOp.or IntKind.u64 ((s:Int)*4) (p:Int)=(x:Int)) (J:bits BinOp.or IntKind.u64 ((r:Int)*2*2) 1=(y:Int)) (h:(r:Int)*2=(z:Int)):
  BS 299 #[.agg #[CI r,CI s],CI p] w (.agg #[CI (z:Nat),CI (x:Nat)]):=by
 have D:=decide_eq_true l;have F:=ac h;clear h
 go_enter Tryz.func299,Tryz.ntmps299
 go_wp2
 go_quiet (fail)
 go_wp2
 rw[uH F];refine bodyPost_ret (v:=.agg #[CI (z:Nat),CI (x:Nat)]) (by simp[results,Tryz.results299,go_sem]) rfl ⟨rfl,?_⟩;exact(((below_drewN (((Below.refl _ _).alloc (Nat.le_refl _) _).alloc (by simp) _) _).setCell (by simp) _).setCell (by simp) _)
theorem Kj(r s p x y z d:Nat)(w:World)(G:r<18014398509481984)(H:s<=2*r)(l:¬(x:Int)<(y:Int))(h:(x:Int)-(y:Int)=(d:Int))
  (I:bits BinOp.or IntKind.u64 ((s:Int)*4) (p:Int)=(x:Int)) (J:bits BinOp.or IntKind.u64 ((r:Int)*2*2) 1=(y:Int)) (K:bits BinOp.or IntKind.u64 ((r:Int)*2) 1=(z:Int)) (L:x<18446744073709551616):
  BS 299 #[.agg #[CI r,CI s],CI p] w (.agg #[CI (z:Nat),CI (d:Nat)]):=by
 have D:=decide_eq_false l;have F:=ac h;clear h
 go_enter Tryz.func299,Tryz.ntmps299
 go_wp2
 go_quiet (fail)
 go_wp2
 rw[uH F];refine bodyPost_ret (v:=.agg #[CI (z:Nat),CI (d:Nat)]) (by simp[results,Tryz.results299,go_sem]) rfl ⟨rfl,?_⟩;exact(((below_drewN (((Below.refl _ _).alloc (Nat.le_refl _) _).alloc (by simp) _) _).setCell (by simp) _).setCell (by simp) _)
theorem wY(n:Nat)(P R S:Nat->Nat)(w:World)(h0:R 0=0/\S 0=0)
  (C:∀i,i<32->∀I,BS 299 #[.agg #[CI (R i:Nat),CI (S i:Nat)],CI (P i:Nat)] I (.agg #[CI (R (i+1):Nat),CI (S (i+1):Nat)]))
  (hP:∀i,i<32->bits .and .u64 ((n:Int)/2^(2*(31-i))) 3=(P i:Int)):
  BS 298 #[CI n] w (.agg #[CI (R 32:Nat),CI (S 32:Nat)]):=by
 have O:=ac h0;have Q:=ac C;have U:=ac hP;clear h0 C hP
 go_enter Tryz.func298,Tryz.ntmps298
 go_wp2
 go_loopw[6] (fun i wr=>∃k:Nat,k<=32/\i=.int .i64 k/\Hid (gY wr w.heap.size (CI 0) (CI 0))/\Hid (gY wr (w.heap.size+1) (CI (R k:Nat)) (CI (S k:Nat)))/\Hid (H8 w wr)) (fun i _=>32-(intOf i).toNat)
 case atStart=>
  have h:=uH O;refine⟨0,by omega,rfl,ac ?_,ac ?_,ac (((Below.refl _ _).alloc (Nat.le_refl _) _).alloc (by simp) _)⟩
  ·exact(gY.new w (CI 0) (CI 0)).all ((Below.refl _ _).alloc (Nat.le_refl _) _)
  ·rw[h.1,h.2]
   have:=gY.new (w.alloc (.cells #[CI 0,CI 0] 252)) (CI 0) (CI 0)
   simpa using this
 case round=>
  obtain⟨k,hk,rfl,H,D,hb⟩:=hrel
  by_cases J:k<32
  ·have K1:=ac (uH Q k J)
   have hp:=uH U k J;have L:=(uH D).c0;have M:=(uH D).c1;have Z:=(uH D).free 0;have f1:=(uH D).free 1;have b0:(0:Int)<=(k:Int):=by omega
   have b1:(k:Int)<32:=by omega
   obtain⟨d,hd⟩:∃d:Nat,d=2*(31-k):=⟨_,rfl⟩;have e1:IntKind.i64.wrap (31-(k:Int))=((31-k:Nat):Int):=by rw[bC _ (by omega)];omega
   have e2:IntKind.i64.wrap (2*((31-k:Nat):Int))=(d:Int):=by rw[bC _ (by omega)];omega
   have d0:d<=63:=by omega
   rw[<-hd]at hp;have HD:=ac hd;clear Q U O hd;generalize 31-k=c at*;generalize R k=r at*;generalize S k=s at*;generalize P k=p at*;obtain⟨r1,F⟩:∃x,x=R (k+1):=⟨_,rfl⟩;obtain⟨s1,G⟩:∃x,x=S (k+1):=⟨_,rfl⟩;rw[<-F,<-G]at K1;have NR:=ac F.symm;have NS:=ac G.symm;clear F G;go_wp2_with fail;have xd:gY wr.drew w.heap.size (CI 0) (CI 0):=uH H;have yd:gY wr.drew (w.heap.size+1) (CI (r:Nat)) (CI (s:Nat)):=uH D;have K:H8 w wr.drew:=(uH hb).drew;have XD:=ac xd;have YD:=ac yd;have BD:=ac K;clear xd yd K
   go_region_with (go_at_call 299;refine(uH K1 _).mono ?_;rintro e w1 ⟨rfl,l⟩;have t:=(uH YD).all l;have B1:=ac ((uH BD).trans (l.mono (uH BD).size));have X1:=ac ((uH XD).all l);clear l L M Z f1;have L:=t.c0;have M:=t.c1;have Z:=t.free 0;have f1:=t.free 1;have YB:=ac t;clear t)
   go_wp2
   go_roundw
   case rel=>
    refine⟨k+1,by omega,by go_num,ac ?_,ac ?_,ac ?_⟩
    ·exact(uH X1).oth (by omega) _ _
    ·rw[uH NR,uH NS]
     exact(uH YB).put _ _
    ·exact mT (uH B1) (by omega) _ _
   case measure=>simp[intOf];omega
  ·have aa:k=32:=by omega
   subst aa;have L:=(uH D).c0;have M:=(uH D).c1;have x0:=(uH H).c0;have t:=(uH H).c1;have Z:=(uH H).free 0;have f1:=(uH H).free 1;clear Q U O;obtain⟨r,hr⟩:∃x,x=R 32:=⟨_,rfl⟩;obtain⟨s,hs⟩:∃x,x=S 32:=⟨_,rfl⟩;rw[<-hr]at L;rw[<-hs]at M;have HR:=ac hr;have HS:=ac hs;clear hr hs
   go_wp2
   refine bodyPost_ret (v:=.agg #[CI (r:Nat),CI (s:Nat)]) ?_ rfl ⟨by rw[uH HR,uH HS],mT (uH hb) (Nat.le_refl _) _ _⟩;have z:=(uH H).put (CI (r:Nat)) (CI (s:Nat));have z0:=z.c0;have z1:=z.c1
   simp[results,Tryz.results298,go_sem,z0,z1]
theorem pI(n X:Nat)(R S:Nat->Nat)(w:World)
  (C1:∀h,BS 298 #[CI n] h (.agg #[CI (R 0:Nat),CI (S 0:Nat)]))
  (C2:∀i,i<22->∀h,BS 299 #[.agg #[CI (R i:Nat),CI (S i:Nat)],CI 0] h (.agg #[CI (R (i+1):Nat),CI (S (i+1):Nat)]))
  (hR:R 22<18014398509481984) (hX:X=2*R 22+(if S 22=0 then 0 else 1)):
  BS 293 #[CI n] w (C0 (X:Nat)):=by
 have K1:=ac C1;have L:=ac C2;have J:=ac hX;have N:=ac hR;clear C1 C2 hX hR
 go_enter Tryz.func293,Tryz.ntmps293
 go_wp2_with fail;refine(uH K1 _).mono ?_;rintro e w1 ⟨rfl,l⟩;have x:=ac (gY.new w1 (CI (R 0:Nat)) (CI (S 0:Nat)));have B1:=ac (l.trans (((Below.refl _ _).alloc (Nat.le_refl _) (.cells #[CI (R 0:Nat),CI (S 0:Nat)] 252)).mono l.size));have hg:=l.size;clear K1 l
 go_wp2
 go_loopw[7] (fun i wr=>∃k:Nat,k<=22/\i=.int .i64 k/\Hid (gY wr w1.heap.size (CI (R k:Nat)) (CI (S k:Nat)))/\Hid (H8 w wr)) (fun i _=>22-(intOf i).toNat)
 case atStart=>exact⟨0,by omega,rfl,x,B1⟩
 case round=>
  obtain⟨k,hk,rfl,I,K⟩:=hrel;clear x B1
  by_cases O:k<22
  ·have C:=ac (uH L k O)
   have Q:=(uH I).c0;have U:=(uH I).c1;have b0:(0:Int)<=(k:Int):=by omega
   have b1:(k:Int)<22:=by omega
   obtain⟨r1,D⟩:∃x,x=R (k+1):=⟨_,rfl⟩;obtain⟨s1,F⟩:∃x,x=S (k+1):=⟨_,rfl⟩;rw[<-D,<-F]at C;have NR:=ac D.symm;have NS:=ac F.symm;clear L J N D F;generalize R k=r at*;generalize S k=s at*;go_wp2_with fail;refine(uH C _).mono ?_;rintro e w2 ⟨rfl,G⟩;have H:=(uH I).all G;have B2:=ac ((uH K).trans (G.mono (uH K).size));clear G Q U I K C;have Q:=H.c0;have U:=H.c1;have f0:=H.free 0;have f1:=H.free 1;have YB:=ac H;clear H
   go_wp2
   go_roundw
   case rel=>
    refine⟨k+1,by omega,by go_num,ac ?_,ac (mT (uH B2) (by omega) _ _)⟩;rw[uH NR,uH NS];exact(uH YB).put _ _
   case measure=>simp[intOf];omega
  ·have Z:k=22:=by omega
   subst Z;have Q:=(uH I).c0;have U:=(uH I).c1;have r0:=uH N;clear L N;generalize R 22=r at*;generalize S 22=s at*
   by_cases c:0<s
   ·have M:=ac (show X=2*r+1 by rw[uH J,if_neg (by omega)])
    have c':(s:Int)>0:=by omega
    clear J
    go_wp2
    go_ret
    exact⟨bh (by rw[uH M];omega),uH K⟩
   ·have M:=ac (show X=2*r by rw[uH J,if_pos (by omega)];rfl)
    have c':¬(s:Int)>0:=by omega
    clear J
    go_wp2
    go_ret
    exact⟨bh (by rw[uH M];omega),uH K⟩
theorem tZ(N p:Nat)(w:World)(t:p<4)(D:bX N<18014398509481984):
  BS 299 #[.agg #[CI (bX N:Nat),CI (eC N:Nat)],CI (p:Nat)] w (.agg #[CI (bX (4*N+p):Nat),CI (eC (4*N+p):Nat)]):=by
 obtain⟨H,I⟩:=Qf N p t;have F:=Gc N;have G:=Kh (eC N) p (by omega) t;have l:=Gh (2*bX N) (by omega);have K:=Gh (bX N) (by omega);rw[show((2*bX N:Nat):Int)=(bX N:Int)*2 by omega]at l
 by_cases h:4*eC N+p<4*bX N+1
 ·rw[(H h).1,(H h).2]
  exact Ki (bX N) (eC N) p (4*eC N+p) (2*(2*bX N)+1) (2*bX N) w D F (by omega) G l (by omega)
 ·rw[(I h).1,(I h).2]
  exact Kj (bX N) (eC N) p (4*eC N+p) (2*(2*bX N)+1) (2*bX N+1) (4*eC N+p-(4*bX N+1)) w D F (by omega) (by omega) G l K (by omega)
theorem Dp(x:Nat)(h:x<18446744073709551616):bits .and .u64 (x:Int) 3=((x%4:Nat):Int):=by
 have l:=bits_and_u64_nat x 3 h (by decide);refine l.trans ?_;have:x&&& 3=x%4:=by
  have:=Nat.and_two_pow_sub_one_eq_mod x 2
  simpa using this
 rw[this]
theorem zC(n:Nat)(w:World)(l:n<18446744073709551616):
  BS 298 #[CI n] w (.agg #[CI (bX n:Nat),CI (eC n:Nat)]):=by
 have h:=wY n (fun i=>n/2^(2*(31-i))%4) (fun i=>bX (oX n i)) (fun i=>eC (oX n i)) w ?_ ?_ ?_
 ·rw[Ge]at h
  exact h
 ·rw[Dl n l]
  exact⟨rfl,rfl⟩
 ·intro i D t
  have:=tZ (oX n i) (n/2^(2*(31-i))%4) t (by omega) (by have:=Gf n i l;omega);rw[<-Dm n i D]at this;exact this
 ·intro i D
  have e:(n:Int)/2^(2*(31-i))=((n/2^(2*(31-i)):Nat):Int):=by simp
  rw[e];exact Dp _ (Nat.lt_of_le_of_lt (Nat.div_le_self _ _) l)
theorem rE(n:Nat)(w:World)(t:n<18446744073709551616):
  BS 293 #[CI n] w (C0 (rS (n*4^22):Nat)):=by
 refine pI n _ (fun i=>bX (n*4^i)) (fun i=>eC (n*4^i)) w ?_ ?_ (rD n 22 t (by decide)) ?_
 ·intro l
  have:=zC n l t;show BS 298 #[CI n] l (.agg #[CI (bX (n*4^0):Nat),CI (eC (n*4^0):Nat)]);rw[Nat.pow_zero,Nat.mul_one];exact this
 ·intro i F l
  have:=tZ (n*4^i) 0 l (by decide) (rD n i t (by omega));rw[<-Do]at this;exact this
 ·unfold rS
  have:=zB (n*4^22)
  by_cases h:bX (n*4^22)*bX (n*4^22)=n*4^22
  ·rw[if_pos h,if_pos (this.2 h)]
  ·rw[if_neg h,if_neg (fun e=>h (this.1 e))]
theorem Gi(n:Int):bits .and .i64 n 1=n%2:=by
 have l:(BitVec.ofInt 64 1).toNat=2^1-1:=by decide
 have h:(BitVec.ofInt 64 n&&& BitVec.ofInt 64 1).toNat=(n%((2^64:Nat):Int)).toNat%2^1:=by
  rw[BitVec.toNat_and,BitVec.toNat_ofInt,l,Nat.and_two_pow_sub_one_eq_mod]
 show IntKind.i64.wrap ((BitVec.ofInt 64 n&&& BitVec.ofInt 64 1).toNat:Nat)=n%2;rw[h,IntKind.wrap_i64];omega
theorem zD(b m J K d o:Nat)(z1 G L:Int)(w:World)(ap:J<=53)(ax:K<=1)(hm:m<9007199254740992)(ht:-3000<=L/\L<=3000)
  (h1:bits .and .i64 L 1=(K:Int)) (hd:d+J+K=64) (ho:IntKind.u64.wrap ((m:Int)*2^d)=(o:Int))
  (C1:∀D,H8 w D->GF 168 #[CI b] D fun r F=>pG F r 0 z1 G/\H8 D F)
  (C2:∀D n a l c,aH D (.agg #[.bool n,.slice a l c,C0 G]) z1 G->BS 290 #[.agg #[.bool n,.slice a l c]] D (.tuple #[C0 (m:Nat),C0 0]))
  (C3:∀D n a l c,aH D (.agg #[.bool n,.slice a l c,C0 G]) z1 G->BS 169 #[.agg #[.bool n,.slice a l c,C0 G]] D (C0 L))
  (C4:∀D n a l c,aH D (.agg #[.bool n,.slice a l c,C0 G]) z1 G->BS 208 #[.agg #[.bool n,.slice a l c]] D (C0 (J:Nat))):
  BS 292 #[CI b] w (.tuple #[CI (o:Nat),C0 (L+(K:Int))]):=by
 have K1:=ac C1;have K2:=ac C2;have K3:=ac C3;have K4:=ac C4;clear C1 C2 C3 C4;have e1:IntKind.i64.wrap (64-(J:Int))=((64-J:Nat):Int):=by rw[bC _ (by omega)];omega
 have e2:IntKind.i64.wrap (((64-J:Nat):Int)-(K:Int))=(d:Int):=by rw[bC _ (by omega)];omega
 have e3:=bC (L+(K:Int)) (by omega);have d0:d<=64:=by omega
 have e0:IntKind.u64.wrap (m:Int)=(m:Int):=by
  show(m:Int)%18446744073709551616=_;omega
 clear hd;generalize 64-J=c0 at*
 go_enter Tryz.func292,Tryz.ntmps292
 go_wp2_with fail;refine(uH K1 _ (Below.refl _ _)).mono ?_;rintro e U ⟨⟨v,rfl,hv⟩,t⟩;obtain⟨N,O,Q,L1,rfl,i1⟩:=hv;have I:H8 U (U.alloc (.cells #[.bool N,.slice O L1.length Q,C0 G] 35)):=(Below.refl _ _).alloc (Nat.le_refl _) _;have HV:=ac ((show aH U (.agg #[.bool N,.slice O L1.length Q,C0 G]) z1 G from⟨N,O,Q,L1,rfl,i1⟩).below I);have x:=ar.new U (.bool N) (.slice O L1.length Q) (C0 G);have B1:=ac (t.trans (I.mono t.size));have y0:=x.c0;have y1:=x.c1;have y2:=x.c2;have X:=ac x;clear i1 t I K1 x;generalize L1.length=l1 at*;go_wp2_with fail;refine(uH K2 _ _ _ _ _ (uH HV)).mono ?_;rintro e w2 ⟨rfl,t⟩;have Z:=ac ((uH X).all t);have M:=ac ((uH HV).below t);have B2:=ac ((uH B1).trans (t.mono (uH B1).size));clear t y0 y1 y2 HV B1 X K2;have y0:=(uH Z).c0;have y1:=(uH Z).c1;have y2:=(uH Z).c2;go_wp2_with fail;refine(uH K3 _ _ _ _ _ (uH M)).mono ?_;rintro e H ⟨rfl,t⟩;have X3:=(uH Z).all t;have aa:=ac ((uH M).below t);have B3:=ac ((uH B2).trans (t.mono (uH B2).size));clear t y0 y1 y2 M B2 Z;generalize U.heap.size=g at*;have hK:∀D,H8 H D->H8 H D/\D.cell? ⟨g,0,none⟩=some (.bool N)/\D.cell? ⟨g,1,none⟩=some (.slice O l1 Q)/\D.cell? ⟨g,2,none⟩=some (C0 G):=fun D h=>⟨h,(X3.all h).c0,(X3.all h).c1,(X3.all h).c2⟩
 have HK:=ac hK;clear hK X3;go_wp2_with fail
 go_region_held3(fun D=>H8 H D/\D.cell? ⟨g,0,none⟩=some (.bool N)/\D.cell? ⟨g,1,none⟩=some (.slice O l1 Q)/\D.cell? ⟨g,2,none⟩=some (C0 G))
  (first|exact uH HK _ (Below.refl _ _).drew|exact uH HK _ (by assumption)|fail "NO KEEP")
  (first|(go_at_call 208;refine(uH K4 _ _ _ _ _ ((uH aa).below (And.left (by assumption)))).mono ?_;rintro e ae ⟨rfl,t⟩;have aI:H8 H ae:=Below.trans (And.left (by assumption)) (t.mono (Below.size (And.left (by assumption))));clear t)|(go_at_call 169;refine(uH K3 _ _ _ _ _ ((uH aa).below (And.left (by assumption)))).mono ?_;rintro e am ⟨rfl,t⟩;have a0:H8 H am:=Below.trans (And.left (by assumption)) (t.mono (Below.size (And.left (by assumption))));clear t)|fail "NO ARM")
 have hW:H8 H _:=And.left (by assumption);have B4:=ac ((uH B3).trans (hW.mono (uH B3).size));clear hW
 go_wp2
 exact bodyPost_ret (v:=.tuple #[CI (o:Nat),C0 (L+(K:Int))]) (by simp[results,Tryz.results292,go_sem]) rfl ⟨rfl,uH B4⟩
theorem Ot(b:Nat)(t:b<18446744073709551616)(D:ah b=true)(F:fK b≠0)(G:fS b=false):0<=fD b:=by
 have h:=(zu b F).2;rw[G]at h;have l:=lL (fZ b);rw[(d7 b t D).1,h]at l;have:=of_decide_eq_false l;omega
theorem Dq(b:Nat)(w:World)(F:b<18446744073709551616)(G:ah b=true)(H:fK b≠0)(Q:fS b=false)(U:cX w):
  BS 292 #[CI b] w (.tuple #[CI (nS b:Nat),C0 (nT b)]):=by
 obtain⟨x1,x2,x3,x4,x5,x6,x7,x8⟩:=dJ b F G H;obtain⟨n1,n2⟩:=kW b F G H;have N:(fD b).natAbs<eE:=df _ (by omega);have Z:fD b=((fD b).natAbs:Int):=by have:=Ot b F G H Q;omega
 have aa:dT b=(bl (fD b).natAbs:Int)+fX b:=rfl;have I:(((dT b%2).toNat:Nat):Int)=dT b%2:=by omega
 have J:nT b=dT b+(((dT b%2).toNat:Nat):Int):=by unfold nT;omega
 rw[J];refine zD b (fD b).natAbs (bl (fD b).natAbs) (dT b%2).toNat (64-bl (fD b).natAbs-(dT b%2).toNat) (nS b) (fD b) (fX b) (dT b) w x1 (by omega) x8 (by omega) (by rw[Gi,I]) (by omega) ?_ (fun t h=>fh b t F G (U.all h)) ?_ ?_ ?_
 ·have e:(((fD b).natAbs:Nat):Int)*2^(64-bl (fD b).natAbs-(dT b%2).toNat)=((nS b:Nat):Int):=by unfold nS;rw[Int.natCast_mul,Int.natCast_pow];rfl
  rw[e];show((nS b:Nat):Int)%18446744073709551616=_;omega
 ·intro t n a l c h
  rw[<-Z];obtain⟨n',a',c',L',O,e2⟩:=h;simp only[Value.agg.injEq,Array.mk.injEq,List.cons.injEq,Value.bool.injEq,Value.slice.injEq,and_true]at O;obtain⟨rfl,rfl,rfl,rfl⟩:=O;exact Ga e2 (by omega) (by omega)
 ·intro t n a l c h
  obtain⟨L,rfl,D,K,M,h4⟩:=h.limbs N;have:=nF n a c L (fX b) t D (by omega)
  rwa[kf D.2.1 K,M,bC _ (by omega)]at this
 ·intro t n a l c h
  obtain⟨L,rfl,D,K,M,h4⟩:=h.limbs N;have:=ut n a c L t D (by omega)
  rwa[kf D.2.1 K,M]at this
theorem uQ(a n S o:Nat)(F E M X U:Int)(w:World)(ht:-3000<=F/\F<=3000)(hE:E=F/2-54-1)(Z:F%2=0)
  (C1:∀l,H8 w l->BS 292 #[CI a] l (.tuple #[CI (n:Nat),C0 F]))
  (C3:∀l,BS 293 #[CI (n:Nat)] l (C0 (S:Nat)))
  (C4:∀l,GF 207 #[C0 (S:Nat)] l fun r t=>∃v,r=.returned v/\aA l.heap.size t v (S:Nat)/\H8 l t)
  (C5:∀B l v,H8 w l->aA B l v (S:Nat)->GF 206 #[v,C0 E] l fun r t=>pG t r 0 M X/\H8 l t)
  (C6:∀l v,H8 w l->aH l v M X->BS 229 #[v] l (.tuple #[CI (o:Nat),.int .u8 U,C0 0])):
  BS 286 #[CI a] w (.tuple #[CI (o:Nat),.int .u8 U]):=by
 have K1:=ac C1;have K3:=ac C3;have K4:=ac C4;have K5:=ac C5;have K6:=ac C6;clear C1 C3 C4 C5 C6;obtain⟨q,hq⟩:∃q,q=F/2:=⟨_,rfl⟩;have t1:Int.tdiv F 2=q:=by rw[Int.tdiv_eq_ediv];omega
 have e1:=bC (q-54) (by omega);have e2:=bC (q-54-1) (by omega);rw[<-hq]at hE;have q1:-1500<=q:=by omega
 have q2:q<=1500:=by omega
 clear hq Z
 go_enter Tryz.func286,Tryz.ntmps286
 go_wp2_with fail;refine(uH K1 _ (Below.refl _ _)).mono ?_;rintro e w1 ⟨rfl,h⟩;have G:=ac h;clear h K1;go_wp2_with fail;refine(uH K3 _).mono ?_;rintro e w2 ⟨rfl,h⟩;have G:=ac ((uH G).trans (h.mono (uH G).size));clear h K3;go_wp2_with fail;refine(uH K4 _).mono ?_;rintro e w3 ⟨v,rfl,⟨n3,a3,c3,L3,rfl,i3⟩,h⟩;have J:=ac ((uH G).trans (h.mono (uH G).size));have I3:=ac (show aA w2.heap.size w3 (.agg #[.bool n3,.slice a3 L3.length c3]) (S:Nat)from⟨n3,a3,c3,L3,rfl,i3⟩);clear h K4 G i3;generalize L3.length=l3 at*;subst hE;go_wp2_with fail;refine(uH K5 _ _ _ (uH J) (uH I3)).mono ?_;rintro e I ⟨⟨v,rfl,hv⟩,h⟩;obtain⟨N,O,Q,H,rfl,i1⟩:=hv;have D:H8 I (I.alloc (.cells #[.bool N,.slice O H.length Q,C0 X] 35)):=(Below.refl _ _).alloc (Nat.le_refl _) _;have HX:=ac ((show aH I (.agg #[.bool N,.slice O H.length Q,C0 X]) M X from⟨N,O,Q,H,rfl,i1⟩).below D);have K:=ac ((uH J).trans ((h.trans (D.mono h.size)).mono (uH J).size));have L:=ar.new I (.bool N) (.slice O H.length Q) (C0 X);have y0:=L.c0;have y1:=L.c1;have y2:=L.c2;clear i1 h D K5 J L I3;generalize H.length=l1 at*;go_wp2_with fail;refine(uH K6 _ _ (uH K) (uH HX)).mono ?_;rintro e w5 ⟨rfl,h⟩;have B5:=ac ((uH K).trans (h.mono (uH K).size));clear h K6 K y0 y1 y2 HX
 go_wp2
 exact bodyPost_ret (v:=.tuple #[CI o,.int .u8 U]) (by simp[results,Tryz.results286,go_sem]) rfl ⟨rfl,uH B5⟩
def tB(a:Nat):Nat:=rS (nS a*4^22)
theorem Qh(a:Nat)(l:a<18446744073709551616)(t:ah a=true)(D:fK a≠0):tB a≠0:=by
 obtain⟨G,H⟩:=kW a l t D;have F:1<=nS a*4^22:=Nat.mul_pos (by omega) (by decide);have h:=Ft F;have:bX 1=1:=by decide
 unfold tB rS;omega
theorem Qi(a:Nat)(h:a<18446744073709551616)(l:ah a=true)(t:fK a≠0):tB a<36028797018963968:=Qg (nS a) (kW a h l t).1
theorem Kk(a:Nat)(l:a<18446744073709551616)(t:ah a=true)(D:fK a≠0):
  cU (tB a) (nT a/2-54-1)=tV a/\cD (oM (tB a:Nat)).natAbs (oE (tB a:Nat) (nT a/2-54-1))=tF a:=by
 have h:=Kg a l t D;rw[show nT a/2-55=nT a/2-54-1 by omega]at h;exact h
theorem sZ(a:Nat)(w:World)(h:a<18446744073709551616)(l:ah a=true)(t:fK a≠0):
  BS 293 #[CI (nS a:Nat)] w (C0 (tB a:Nat)):=rE (nS a) w (kW a h l t).1
theorem s6(a n S r:Nat)(F E L:Int)(w:World)(Q:-3000<=F/\F<=3000)(G:F%2=0)(U:E=F/2-54-1)
  (s1:S≠0) (s2:S<36028797018963968) (Z:cU S E=r) (q2:cD (oM (S:Nat)).natAbs (oE (S:Nat) E)=L) (M:cX w)
  (C1:∀l,H8 w l->BS 292 #[CI a] l (.tuple #[CI (n:Nat),C0 F]))
  (C3:∀l,BS 293 #[CI (n:Nat)] l (C0 (S:Nat))):
  BS 286 #[CI a] w (.tuple #[CI (r:Nat),.int .u8 L]):=by
 have N:((S:Nat):Int).natAbs<eE:=df _ (by omega);have D:((S:Nat):Int)≠0:=by omega
 have aa:tz ((S:Nat):Int).natAbs<57:=mr _ 57 (by omega) (by rw[Int.natAbs_natCast];exact Qe (by omega));have ae:-2300<=E/\E<=2300:=by omega
 have I:oK (S:Nat) E=true:=by
  unfold oK;rw[decide_eq_true (show-32768<=E/\E<=32768 by omega),decide_eq_true (show-16384<=E+(tz ((S:Nat):Int).natAbs:Int)/\E+(tz ((S:Nat):Int).natAbs:Int)<=16384 by omega),Bool.or_true];rfl
 have J:sR (oM (S:Nat)) (oE (S:Nat) E)=true:=by
  unfold sR;rw[if_neg (g6 _ D).1,dc _ _ D,decide_eq_true (g6 _ D).2,decide_eq_true (by omega)];rfl
 have K:(oM (S:Nat)).natAbs<eE:=Nat.lt_of_le_of_lt (tO _) N;have O:∀l v,H8 w l->aH l v (oM (S:Nat)) (oE (S:Nat) E)->_:=fun l v h H=>kK H K J (M.all h)
 rw[(lM ((S:Nat):Int) E).1,lL,decide_eq_false (show¬((S:Nat):Int)<0 by omega),cJ,Int.natAbs_natCast,Z,q2]at O;refine uQ a n S r F E _ _ _ w Q U G C1 C3
  (fun l=>yL _ l (by omega) (by omega)) (fun B l v h H=>?_) O
 have:=kH E H N (by omega) (M.all h);unfold dU dM dX at this;rw[I]at this;exact this.mono fun r t ⟨u,g1,g2,g3⟩=>⟨⟨u,g1,g2⟩,g3⟩
theorem rF(a:Nat)(w:World)(l:a<18446744073709551616)(t:ah a=true)(D:fK a≠0)(H:fS a=false)(G:cX w):
  BS 286 #[CI a] w (.tuple #[CI (tV a:Nat),.int .u8 (tF a)]):=by
 obtain⟨M,N,O,Q,U,Z,x7,x8⟩:=dJ a l t D;have I:dT a=(bl (fD a).natAbs:Int)+fX a:=rfl;have J:nT a=dT a+dT a%2:=rfl;obtain⟨K,L⟩:=Kk a l t D;exact s6 a (nS a) (tB a) (tV a) (nT a) _ (tF a) w (by omega) (by omega) rfl (Qh a l t D) (Qi a l t D) K L G (fun F h=>Dq a F l t D H (G.all h)) (fun F=>sZ a F l t D)
theorem Kl(a:Nat)(w:World)
  (D:∀h,BS 164 #[CI a] h (C0 0)):
  BS 271 #[CI a] w (.tuple #[CI (a:Nat),.int .u8 0]):=by
 have F:=ac D;clear D
 go_enter Tryz.func271,Tryz.ntmps271
 go_wp2_with fail;refine(uH F _).mono ?_;rintro e G ⟨rfl,l⟩;have B:=ac l;clear l F
 go_wp2
 exact bodyPost_ret (v:=.tuple #[CI (a:Nat),.int .u8 0]) (by simp[results,Tryz.results271,go_sem]) rfl ⟨rfl,uH B⟩
theorem Km(a:Nat)(k:Int)(w:World)(G:(k==0)=false)(H:((a:Int)==9218868437227405312)=true)
  (D:∀h,BS 164 #[CI a] h (C0 k)):
  BS 271 #[CI a] w (.tuple #[CI (a:Nat),.int .u8 0]):=by
 have F:=ac D;clear D
 go_enter Tryz.func271,Tryz.ntmps271
 go_wp2_with fail;refine(uH F _).mono ?_;rintro e I ⟨rfl,l⟩;have B:=ac l;clear l F
 go_wp2
 exact bodyPost_ret (v:=.tuple #[CI (a:Nat),.int .u8 0]) (by simp[results,Tryz.results271,go_sem]) rfl ⟨rfl,uH B⟩
theorem Kn(a:Nat)(w:World)(G:((a:Int)==9218868437227405312)=false)
  (D:∀h,BS 164 #[CI a] h (C0 4)):
  BS 271 #[CI a] w (.tuple #[CI 9221120237041090560,.int .u8 0]):=by
 have F:=ac D;clear D
 go_enter Tryz.func271,Tryz.ntmps271
 go_wp2_with fail;refine(uH F _).mono ?_;rintro e H ⟨rfl,l⟩;have B:=ac l;clear l F
 go_wp2
 exact bodyPost_ret (v:=.tuple #[CI 9221120237041090560,.int .u8 0]) (by simp[results,Tryz.results271,go_sem]) rfl ⟨rfl,uH B⟩
theorem Ko(a:Nat)(k:Int)(w:World)(I:(k==0)=false)(J:k≠4)(K:((a:Int)==9218868437227405312)=false)
  (D:∀l,BS 164 #[CI a] l (C0 k))
  (F:∀l,BS 161 #[CI a] l (.bool true)):
  BS 271 #[CI a] w (.tuple #[CI 9221120237041090560,.int .u8 16]):=by
 have G:=ac D;clear D
 go_enter Tryz.func271,Tryz.ntmps271
 go_wp2_with fail;refine(uH G _).mono ?_;rintro e L ⟨rfl,h⟩;have B:=ac h;clear h G;have H:=ac F;clear F;go_wp2_with fail;refine(uH H _).mono ?_;rintro e M ⟨rfl,h⟩;have B:=ac ((uH B).trans (h.mono (uH B).size));clear h H
 go_wp2
 exact bodyPost_ret (v:=.tuple #[CI 9221120237041090560,.int .u8 16]) (by simp[results,Tryz.results271,go_sem]) rfl ⟨rfl,uH B⟩
theorem Kp(a:Nat)(k D:Int)(o:Nat)(w:World)(N:(k==0)=false)(O:k≠4)(Q:((a:Int)==9218868437227405312)=false)(F:cX w)
  (G:∀l,BS 164 #[CI a] l (C0 k))
  (H:∀l,BS 161 #[CI a] l (.bool false))
  (I:∀l,cX l->BS 286 #[CI a] l (.tuple #[CI (o:Nat),.int .u8 D])):
  BS 271 #[CI a] w (.tuple #[CI (o:Nat),.int .u8 D]):=by
 have J:=ac G;clear G
 go_enter Tryz.func271,Tryz.ntmps271
 go_wp2_with fail;refine(uH J _).mono ?_;rintro e U ⟨rfl,h⟩;have B:=ac h;clear h J;have K:=ac H;clear H;go_wp2_with fail;refine(uH K _).mono ?_;rintro e Z ⟨rfl,h⟩;have B:=ac ((uH B).trans (h.mono (uH B).size));clear h K;have L:=ac I;have M:=ac (F.all (uH B));clear I F;go_wp2_with fail;refine(uH L _ (uH M)).mono ?_;rintro e w3 ⟨rfl,h⟩;have B:=ac ((uH B).trans (h.mono (uH B).size));clear h L M
 go_wp2
 exact bodyPost_ret (v:=.tuple #[CI (o:Nat),.int .u8 D]) (by simp[results,Tryz.results271,go_sem]) rfl ⟨rfl,uH B⟩
theorem Dr(a:Nat)(w:World)(I:a<18446744073709551616)(L:cX w):
  BS 271 #[CI a] w (.tuple #[CI (sV a:Nat),.int .u8 (sF a)]):=by
 have G:=fun F=>dp a F I
 have J:=fun F=>gD a F I
 by_cases l:fK a=4
 ·rw[show sV a=9221120237041090560 by unfold sV;rw[if_pos l],show sF a=0 by unfold sF;rw[if_pos l]]
  rw[l]at G;have D:a≠9218868437227405312:=fun h=>by rw[h]at l;revert l;decide
  exact Kn a w (by simp;omega) G
 by_cases H:fK a=0
 ·rw[show sV a=a by unfold sV;rw[if_neg l,if_pos (Or.inl H)],show sF a=0 by unfold sF;rw[if_neg l,if_pos (Or.inl H)]]
  rw[H]at G;exact Kl a w G
 by_cases K:a=9218868437227405312
 ·rw[show sV a=a by unfold sV;rw[if_neg l,if_pos (Or.inr K)],show sF a=0 by unfold sF;rw[if_neg l,if_pos (Or.inr K)]]
  exact Km a _ w (by simp[H]) (by simp;omega) G
 have D:¬(fK a=0\/a=9218868437227405312):=by omega
 cases hs:fS a
 ·rw[show sV a=tV a by unfold sV;rw[if_neg l,if_neg D,if_neg (by rw[hs];decide)],show sF a=tF a by unfold sF;rw[if_neg l,if_neg D,if_neg (by rw[hs];decide)]]
  rw[hs]at J;have M:fK a≠3:=fun h=>K (by
   have:=Mv a I;rw[hs,cJ]at this;have N:=((cY a).2.1.1 h);omega)
  exact Kp a _ _ _ w (by simp[H]) l (by simp;omega) L G J (fun F t=>rF a F I (fO a M l) H hs t)
 ·rw[show sV a=9221120237041090560 by unfold sV;rw[if_neg l,if_neg D,if_pos hs],show sF a=16 by unfold sF;rw[if_neg l,if_neg D,if_pos hs]]
  rw[hs]at J;exact Ko a _ w (by simp[H]) l (by simp;omega) G J
def ag(w:World)(ao:GY)(cap:Nat)(I:List Int):Prop:=
 I.length<=cap/\(∀x∈I,0<=x/\x<=18446744073709551615)/\(I= []\/∃b off,ao=some ⟨b,off,none⟩/\b<w.heap.size/\∀i,i<I.length->w.cell? ⟨b,off+i,none⟩=some (CI (I[i]?.getD 0)))
theorem ag.below{w t:World}{ao:GY}{cap:Nat}{I:List Int}(h:ag w ao cap I)(D:H8 w t):ag t ao cap I:=by
 refine⟨h.1,h.2.1,?_⟩;rcases h.2.2 with h|⟨b,l,H,F,J⟩
 ·exact .inl h
 ·refine .inr ⟨b,l,H,Nat.lt_of_lt_of_le F D.size,fun i G=>?_⟩
  rw[D.cell (p:=⟨b,l+i,none⟩) F];exact J i G
def bg(I:List Int)(j:Nat):Nat:=(I[j]?.getD 0).toNat
theorem ag.wf{w:World}{ao:GY}{cap:Nat}{I:List Int}(h:ag w ao cap I)(j:Nat):I[j]?.getD 0=(bg I j:Int)/\bg I j<18446744073709551616:=by
 unfold bg
 by_cases l:j<I.length
 ·have:=h.2.1 _ (List.getElem_mem l)
  rw[List.getElem?_eq_getElem l];simp only[Option.getD_some];omega
 ·rw[List.getElem?_eq_none (by omega)];simp
theorem ag.ne{w:World}{ao:GY}{cap:Nat}{I:List Int}(h:ag w ao cap I)(t:0<I.length):∃b l,ao=some ⟨b,l,none⟩/\b<w.heap.size/\∀i,i<I.length->w.cell? ⟨b,l+i,none⟩=some (CI (bg I i:Int)):=by
 rcases h.2.2 with e|⟨b,l,F,G,H⟩
 ·rw[e]at t;simp at t
 ·exact⟨b,l,F,G,fun i D=>by rw[H i D,(h.wf i).1]⟩
theorem Gj(a b:Nat)(w:World)(l:a<18446744073709551616)(t:b<18446744073709551616)(D:cX w):
  BS 217 #[CI a,CI b] w (CI (aV a b:Nat)):=by
 have K:=ac (wT a b w l t D);clear l t D;generalize aV a b=o at*;generalize aF a b=f at*
 go_enter Tryz.func217,Tryz.ntmps217
 go_wp2_with fail;refine Calls.mono (uH K) ?_;rintro e G ⟨rfl,h⟩;clear K
 go_wp2
 go_ret
 exact⟨rfl,h⟩
theorem nX(a b:Nat)(w:World)(l:a<18446744073709551616)(t:b<18446744073709551616)(D:cX w):
  BS 203 #[CI a,CI b] w (CI (mV a b:Nat)):=by
 have K:=ac (F6 a b w l t D);clear l t D;generalize mV a b=o at*;generalize mF a b=f at*
 go_enter Tryz.func203,Tryz.ntmps203
 go_wp2_with fail;refine Calls.mono (uH K) ?_;rintro e G ⟨rfl,h⟩;clear K
 go_wp2
 go_ret
 exact⟨rfl,h⟩
theorem mU(a:Nat)(n:Int)(w:World)(l:a<18446744073709551616)(t:cX w):
  BS 97 #[CI a,C0 n] w (CI (xV a n:Nat)):=by
 have K:=ac (ze a n w l t);clear l t;generalize xV a n=o at*;generalize xF a n=f at*
 go_enter Tryz.func97,Tryz.ntmps97
 go_wp2_with fail;refine Calls.mono (uH K) ?_;rintro e F ⟨rfl,h⟩;clear K
 go_wp2
 go_ret
 exact⟨rfl,h⟩
theorem Gk(ao F:GY)(n m c d:Nat)(w:World):
  GF 184 #[.slice ao n c,.slice F m d] w fun r G=>r=.returned (.bool (decide (n<=64/\n=m)))/\w=G:=by
 by_cases D:n<=64
 ·have l:(n:Int)<=64:=by omega
  by_cases t:n=m
  ·rw[decide_eq_true (And.intro D t)]
   subst t
   go_enter Tryz.func184,Tryz.ntmps184
   go_wp2
   go_ret
   exact⟨rfl,rfl⟩
  ·rw[decide_eq_false (fun h=>t h.2)]
   have H:decide ((n:Int)=(m:Int))=false:=decide_eq_false (by omega)
   go_enter Tryz.func184,Tryz.ntmps184
   go_wp2
   go_ret
   exact⟨by simp;omega,rfl⟩
 ·rw[decide_eq_false (fun h=>D h.1)]
  have l:(64:Int)<(n:Int):=by omega
  go_enter Tryz.func184,Tryz.ntmps184
  go_wp2
  go_ret
  exact⟨by simp,rfl⟩
end Go.Proofs.YtcbcmlaogehimaaGreatDoor
