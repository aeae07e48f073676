/- Part 32 of the texts. -/
import Derived.Test.YtmpkkhackbpflaaGreatDoorPartg31
set_option maxHeartbeats 8000000
set_option maxRecDepth 20000
namespace Go.Proofs.YtmpkkhackbpflaaGreatDoor
open Go.RowKit
def dW(N:Nat):Nat:=N-bH N*bH N
theorem Nc(N p:Nat)(d:p<4):
  (4*dW N+p<4*bH N+1→bH (4*N+p)=2*bH N∧dW (4*N+p)=4*dW N+p)∧
  (¬4*dW N+p<4*bH N+1→bH (4*N+p)=2*bH N+1∧dW (4*N+p)=4*dW N+p-(4*bH N+1)):=by
 obtain⟨F,G⟩:=cL N
 have l:=dR (bH N)
 have t:=dR (2*bH N)
 have z:=dR (2*bH N+1)
 have D:2*bH N*(2*bH N)=4*(bH N*bH N):=by rw[show(4:Nat)=2*2 by decide];ac_rfl
 unfold dW
 refine⟨fun h=>?_,fun h=>?_⟩
 ·have e:bH (4*N+p)=2*bH N:=ij (by omega) (by omega)
  refine⟨e,?_⟩
  rw[e]
  omega
 ·have e:bH (4*N+p)=2*bH N+1:=ij (by omega) (by omega)
  refine⟨e,?_⟩
  rw[e]
  omega
theorem En(N:Nat):dW N≤2*bH N:=by
 obtain⟨h,l⟩:=cL N
 have d:=dR (bH N)
 unfold dW
 omega
theorem xP(N:Nat):dW N=0↔bH N*bH N=N:=by
 obtain⟨d,h⟩:=cL N
 unfold dW
 omega
theorem Eo{N k:Nat}(h:N<k*k):bH N<k:=by
 obtain⟨d,l⟩:=cL N
 exact cX.1 (by omega)
def nK(n i:Nat):Nat:=n/4^(32-i)
theorem Bg(n:Nat)(h:n<18446744073709551616):nK n 0=0:=by
 unfold nK
 rw[show(4:Nat)^(32-0)=18446744073709551616 by decide]
 omega
theorem Ep(n:Nat):nK n 32=n:=by
 unfold nK
 simp
theorem Bh(n i:Nat)(h:i<32):nK n (i+1)=4*nK n i+n/2^(2*(31-i))%4:=by
 unfold nK
 have e:(4:Nat)^(32-i)=4^(32-(i+1))*4:=by rw[←Nat.pow_succ];congr 1;omega
 have d:(2:Nat)^(2*(31-i))=4^(32-(i+1)):=by rw[Nat.pow_mul,show 32-(i+1)=31-i by omega]
 rw[e,d,←Nat.div_div_eq_div_mul]
 omega
theorem Hj(n i:Nat)(h:n<18446744073709551616):nK n i<18446744073709551616:=by
 unfold nK
 exact Nat.lt_of_le_of_lt (Nat.div_le_self _ _) h
theorem Er(n i:Nat)(h:n<18446744073709551616):bH (nK n i)<4294967296:=Eo (Nat.lt_of_lt_of_le (Hj n i h) (by decide))
theorem pW(n i:Nat)(h:n<18446744073709551616)(l:i≤22):bH (n*4^i)<18014398509481984:=by
 refine Eo ?_
 have d:(4:Nat)^i≤4^22:=Nat.pow_le_pow_right (by decide) l
 rw[show(4:Nat)^22=17592186044416 by decide]at d
 have t:n*4^i≤n*17592186044416:=Nat.mul_le_mul_left _ d
 omega
theorem Bi(n i:Nat):n*4^(i+1)=4*(n*4^i)+0:=by rw[Nat.pow_succ];ac_rfl
def nS(b:Nat):Nat:=(fD b).natAbs*2^(64-bl (fD b).natAbs-((dT b)%2).toNat)
def nT(b:Nat):Int:=dT b+(dT b)%2
theorem jX(b:Nat)(z:b<18446744073709551616)(D:ah b=true)(F:fK b≠0):
  nS b<18446744073709551616∧4611686018427387904≤nS b:=by
 obtain⟨J,L,M,N,O,Q,T,U⟩:=dk b z D F
 obtain⟨V,H,I⟩:=bQ (fD b).natAbs (by omega)
 unfold nS
 have G:=Nat.two_pow_pos (64-bl (fD b).natAbs-((dT b)%2).toNat)
 have d:=(Nat.mul_lt_mul_right G).2 I
 have h:=Nat.mul_le_mul_right (2^(64-bl (fD b).natAbs-((dT b)%2).toNat)) H
 rw[←Nat.pow_add]at d h
 have l:2^(bl (fD b).natAbs+(64-bl (fD b).natAbs-((dT b)%2).toNat))≤2^64:=Nat.pow_le_pow_right (by decide) (by omega)
 have t:2^62≤2^(bl (fD b).natAbs-1+(64-bl (fD b).natAbs-((dT b)%2).toNat)):=Nat.pow_le_pow_right (by decide) (by omega)
 rw[show(2:Nat)^64=18446744073709551616 by decide]at l
 rw[show(2:Nat)^62=4611686018427387904 by decide]at t
 exact⟨Nat.lt_of_lt_of_le d l,Nat.le_trans t h⟩
theorem Hk(a:Nat)(l:a<18446744073709551616)(t:ah a=true)(h:fK a≠0):
  cC (rS (nS a*4^22)) (nT a/2-55)=tV a∧bX (oM (rS (nS a*4^22):Nat)).natAbs (oE (rS (nS a*4^22):Nat) (nT a/2-55))=tF a:=by
 obtain⟨α,I,D,J,L⟩:=oI a l t h
 obtain⟨M,N,O,Q,T,U,V,X⟩:=dk a l t h
 obtain⟨Y,F⟩:=jX a l t h
 have z:nS a*4^22=(fD a).natAbs*2^(64-bl (fD a).natAbs-((dT a)%2).toNat+44):=by
  unfold nS
  rw[Nat.pow_add,Nat.mul_assoc]
 have d:9007199254740992≤bH (nS a*4^22):=by
  refine xu ?_
  rw[show(2:Nat)^106=4611686018427387904*4^22 by decide]
  exact Nat.mul_le_mul_right _ F
 rw[z]at d⊢
 have G:dT a=(bl (fD a).natAbs:Int)+fX a:=rfl
 have H:nT a=dT a+dT a%2:=rfl
 have:=va a (fD a).natAbs α (64-bl (fD a).natAbs-((dT a)%2).toNat+44) (nT a/2-54) h D.symm (by omega) d
 rwa[show nT a/2-54-1=nT a/2-55 by omega]at this
theorem Nd(n:Nat)(h:n<18446744073709551616):rS (n*4^22)<36028797018963968:=by
 have:=pW n 22 h (by decide)
 unfold rS
 split<;>omega
def gf(w:World)(b:Nat)(x y:Value):Prop:=w.heap[b]? =some (.cells #[x,y] 230 (0,0))
theorem gf.c0{w:World}{b:Nat}{x y:Value}(h:gf w b x y):w.cell? ⟨b,0,none⟩=some x:=by rw[cell_of_row w b 0 _ _ _ h];rfl
theorem gf.c1{w:World}{b:Nat}{x y:Value}(h:gf w b x y):w.cell? ⟨b,1,none⟩=some y:=by rw[cell_of_row w b 1 _ _ _ h];rfl
theorem gf.free{w:World}{b:Nat}{x y:Value}(h:gf w b x y)(j:Nat):w.frozen? ⟨b,j,none⟩=false:=frozen_of_row w b j _ _ h
theorem gf.lt{w:World}{b:Nat}{x y:Value}(h:gf w b x y):b<w.heap.size:=(Array.getElem?_eq_some_iff.1 h).1
theorem gf.all{w d:World}{b:Nat}{x y:Value}(h:gf w b x y)(l:Below w.heap.size w d):gf d b x y:=(l.block b h.lt).trans h
theorem gf.new(w:World)(x y:Value):gf (w.alloc (.cells #[x,y] 230)) w.heap.size x y:=heap_alloc_new w _
theorem Hl(s p:Nat)(d:s<144115188075855872)(h:p<4):bits BinOp.or IntKind.u64 ((s:Int)*4) (p:Int)=((4*s+p:Nat):Int):=by
 have e:(s:Int)*4=((s*2^2:Nat):Int):=by omega
 rw[e,u64_or_nat (s*2^2) p (by omega) (by omega),Nat.or_comm,pf p s 2 (by omega)]
 congr 1
 omega
theorem Et(x:Nat)(h:x<144115188075855872):bits BinOp.or IntKind.u64 ((x:Int)*2) 1=((2*x+1:Nat):Int):=by
 have e:(x:Int)*2=((x*2^1:Nat):Int):=by omega
 rw[e]
 refine(u64_or_nat (x*2^1) 1 (by omega) (by omega)).trans ?_
 rw[Nat.or_comm,pf 1 x 1 (by omega)]
 congr 1
 omega
theorem gf.put{w:World}{b:Nat}{x y:Value}(h:gf w b x y)(u u':Value):gf ((w.setCell ⟨b,0,none⟩ u).setCell ⟨b,1,none⟩ u') b u u':=by
 have d:=heap_setCell_same w b 0 _ _ u h
 have l:=heap_setCell_same (w.setCell ⟨b,0,none⟩ u) b 1 _ _ u' d
 unfold gf
 rw[l]
 simp
theorem gf.oth{w:World}{b g:Nat}{x y:Value}(h:gf w b x y)(d:b≠g)(u u':Value):gf ((w.setCell ⟨g,0,none⟩ u).setCell ⟨g,1,none⟩ u') b x y:=
 (Below.heap_setCell _ ⟨g,1,none⟩ u' b d).trans ((Below.heap_setCell w ⟨g,0,none⟩ u b d).trans h)
theorem lf{B g:Nat}{a w:World}(h:Below B a w)(d:B≤g)(u u':Value):Below B a ((w.setCell ⟨g,0,none⟩ u).setCell ⟨g,1,none⟩ u'):=(h.setCell d u).setCell d u'
theorem Hm(r s p x y z:Nat)(w:World)(F:r<18014398509481984)(G:s≤2*r)(h:(x:Int)<(y:Int))
  (H:bits BinOp.or IntKind.u64 ((s:Int)*4) (p:Int)=(x:Int)) (I:bits BinOp.or IntKind.u64 ((r:Int)*2*2) 1=(y:Int)) (d:(r:Int)*2=(z:Int)):
  Calls Tryz.prog 264 #[.agg #[.int .u64 r,.int .u64 s],.int .u64 p] w fun e l=>e=.returned (.agg #[.int .u64 (z:Nat),.int .u64 (x:Nat)])∧Below w.heap.size w l:=by
 have t:=decide_eq_true h
 have D:=ac d
 clear d
 go_enter Tryz.func264,Tryz.ntmps264
 go_wp2
 go_quiet (fail)
 go_wp2
 rw[uH D]
 refine bodyPost_ret (v:=.agg #[.int .u64 (z:Nat),.int .u64 (x:Nat)]) (by simp[results,Tryz.results264,go_sem]) rfl ⟨rfl,?_⟩
 exact(((below_drewN (((Below.refl _ _).alloc (Nat.le_refl _) _).alloc (by simp) _) _).setCell (by simp) _).setCell (by simp) _)
theorem Hn(r s p x y z d:Nat)(w:World)(G:r<18014398509481984)(H:s≤2*r)(l:¬(x:Int)<(y:Int))(h:(x:Int)-(y:Int)=(d:Int))
  (I:bits BinOp.or IntKind.u64 ((s:Int)*4) (p:Int)=(x:Int)) (J:bits BinOp.or IntKind.u64 ((r:Int)*2*2) 1=(y:Int)) (L:bits BinOp.or IntKind.u64 ((r:Int)*2) 1=(z:Int)) (M:x<18446744073709551616):
  Calls Tryz.prog 264 #[.agg #[.int .u64 r,.int .u64 s],.int .u64 p] w fun e t=>e=.returned (.agg #[.int .u64 (z:Nat),.int .u64 (d:Nat)])∧Below w.heap.size w t:=by
 have D:=decide_eq_false l
 have F:=ac h
 clear h
 go_enter Tryz.func264,Tryz.ntmps264
 go_wp2
 go_quiet (fail)
 go_wp2
 rw[uH F]
 refine bodyPost_ret (v:=.agg #[.int .u64 (z:Nat),.int .u64 (d:Nat)]) (by simp[results,Tryz.results264,go_sem]) rfl ⟨rfl,?_⟩
 exact(((below_drewN (((Below.refl _ _).alloc (Nat.le_refl _) _).alloc (by simp) _) _).setCell (by simp) _).setCell (by simp) _)
theorem vM(n:Nat)(P R S:Nat→Nat)(w:World)(h0:R 0=0∧S 0=0)
  (C:∀i,i<32→∀I,Calls Tryz.prog 264 #[.agg #[.int .u64 (R i:Nat),.int .u64 (S i:Nat)],.int .u64 (P i:Nat)] I fun e O=>e=.returned (.agg #[.int .u64 (R (i+1):Nat),.int .u64 (S (i+1):Nat)])∧Below I.heap.size I O)
  (hP:∀i,i<32→bits .and .u64 ((n:Int)/2^(2*(31-i))) 3=(P i:Int)):
  Calls Tryz.prog 263 #[.int .u64 n] w fun e I=>e=.returned (.agg #[.int .u64 (R 32:Nat),.int .u64 (S 32:Nat)])∧Below w.heap.size w I:=by
 have Q:=ac h0;have T:=ac C;have U:=ac hP
 clear h0 C hP
 go_enter Tryz.func263,Tryz.ntmps263
 go_wp2
 go_loopw[6] (fun i wr=>∃k:Nat,k≤32∧i=.int .i64 k∧Hid (gf wr w.heap.size (.int .u64 0) (.int .u64 0))∧Hid (gf wr (w.heap.size+1) (.int .u64 (R k:Nat)) (.int .u64 (S k:Nat)))∧Hid (Below w.heap.size w wr)) (fun i _=>32-(intOf i).toNat)
 case atStart=>
  have h:=uH Q
  refine⟨0,by omega,rfl,ac ?_,ac ?_,ac (((Below.refl _ _).alloc (Nat.le_refl _) _).alloc (by simp) _)⟩
  ·exact(gf.new w (.int .u64 0) (.int .u64 0)).all ((Below.refl _ _).alloc (Nat.le_refl _) _)
  ·rw[h.1,h.2]
   have:=gf.new (w.alloc (.cells #[.int .u64 0,.int .u64 0] 230)) (.int .u64 0) (.int .u64 0)
   simpa using this
 case round=>
  obtain⟨k,hk,rfl,H,D,hb⟩:=hrel
  by_cases J:k<32
  ·have K1:=ac (uH T k J)
   have hp:=uH U k J
   have M:=(uH D).c0;have N:=(uH D).c1;have V:=(uH D).free 0;have X:=(uH D).free 1
   have b0:(0:Int)≤(k:Int):=by omega
   have b1:(k:Int)<32:=by omega
   obtain⟨d,Z⟩:∃d:Nat,d=2*(31-k):=⟨_,rfl⟩
   have e1:IntKind.i64.wrap (31-(k:Int))=((31-k:Nat):Int):=by rw[bF _ (by omega)];omega
   have e2:IntKind.i64.wrap (2*((31-k:Nat):Int))=(d:Int):=by rw[bF _ (by omega)];omega
   have d0:d≤63:=by omega
   rw[←Z]at hp
   have HD:=ac Z
   clear T U Q Z
   generalize 31-k=c at*
   generalize R k=r at*
   generalize S k=s at*
   generalize P k=p at*
   obtain⟨r1,F⟩:∃x,x=R (k+1):=⟨_,rfl⟩
   obtain⟨s1,G⟩:∃x,x=S (k+1):=⟨_,rfl⟩
   rw[←F,←G]at K1
   have NR:=ac F.symm;have NS:=ac G.symm
   clear F G
   go_wp2_with fail
   have xd:gf wr.drew w.heap.size (.int .u64 0) (.int .u64 0):=uH H
   have yd:gf wr.drew (w.heap.size+1) (.int .u64 (r:Nat)) (.int .u64 (s:Nat)):=uH D
   have L:Below w.heap.size w wr.drew:=(uH hb).drew
   have XD:=ac xd;have YD:=ac yd;have BD:=ac L
   clear xd yd L
   go_region_with (go_at_call 264;refine(uH K1 _).mono ?_;rintro e w1 ⟨rfl,l⟩;have t:=(uH YD).all l;have B1:=ac ((uH BD).trans (l.mono (uH BD).size));have X1:=ac ((uH XD).all l);clear l M N V X;have M:=t.c0;have N:=t.c1;have V:=t.free 0;have X:=t.free 1;have YB:=ac t;clear t)
   go_wp2
   go_roundw
   case rel=>
    refine⟨k+1,by omega,by go_num,ac ?_,ac ?_,ac ?_⟩
    ·exact(uH X1).oth (by omega) _ _
    ·rw[uH NR,uH NS]
     exact(uH YB).put _ _
    ·exact lf (uH B1) (by omega) _ _
   case measure=>simp[intOf];omega
  ·have Y:k=32:=by omega
   subst Y
   have M:=(uH D).c0;have N:=(uH D).c1
   have x0:=(uH H).c0;have t:=(uH H).c1;have V:=(uH H).free 0;have X:=(uH H).free 1
   clear T U Q
   obtain⟨r,hr⟩:∃x,x=R 32:=⟨_,rfl⟩
   obtain⟨s,hs⟩:∃x,x=S 32:=⟨_,rfl⟩
   rw[←hr]at M
   rw[←hs]at N
   have HR:=ac hr;have HS:=ac hs
   clear hr hs
   go_wp2
   refine bodyPost_ret (v:=.agg #[.int .u64 (r:Nat),.int .u64 (s:Nat)]) ?_ rfl ⟨by rw[uH HR,uH HS],lf (uH hb) (Nat.le_refl _) _ _⟩
   have z:=(uH H).put (.int .u64 (r:Nat)) (.int .u64 (s:Nat))
   have z0:=z.c0;have z1:=z.c1
   simp[results,Tryz.results263,go_sem,z0,z1]
theorem oy(n X:Nat)(R S:Nat→Nat)(w:World)
  (U:∀d,Calls Tryz.prog 263 #[.int .u64 n] d fun e l=>e=.returned (.agg #[.int .u64 (R 0:Nat),.int .u64 (S 0:Nat)])∧Below d.heap.size d l)
  (V:∀i,i<22→∀d,Calls Tryz.prog 264 #[.agg #[.int .u64 (R i:Nat),.int .u64 (S i:Nat)],.int .u64 0] d fun e l=>e=.returned (.agg #[.int .u64 (R (i+1):Nat),.int .u64 (S (i+1):Nat)])∧Below d.heap.size d l)
  (Y:R 22<18014398509481984) (Z:X=2*R 22+(if S 22=0 then 0 else 1)):
  Calls Tryz.prog 258 #[.int .u64 n] w fun e d=>e=.returned (.int .i64 (X:Nat))∧Below w.heap.size w d:=by
 have K1:=ac U;have J:=ac V;have H:=ac Z;have L:=ac Y
 clear U V Z Y
 go_enter Tryz.func258,Tryz.ntmps258
 go_wp2_with fail
 refine(uH K1 _).mono ?_
 rintro e w1 ⟨rfl,h⟩
 have x:=ac (gf.new w1 (.int .u64 (R 0:Nat)) (.int .u64 (S 0:Nat)))
 have B1:=ac (h.trans (((Below.refl _ _).alloc (Nat.le_refl _) (.cells #[.int .u64 (R 0:Nat),.int .u64 (S 0:Nat)] 230)).mono h.size))
 have hg:=h.size
 clear K1 h
 go_wp2
 go_loopw[7] (fun i wr=>∃k:Nat,k≤22∧i=.int .i64 k∧Hid (gf wr w1.heap.size (.int .u64 (R k:Nat)) (.int .u64 (S k:Nat)))∧Hid (Below w.heap.size w wr)) (fun i _=>22-(intOf i).toNat)
 case atStart=>exact⟨0,by omega,rfl,x,B1⟩
 case round=>
  obtain⟨k,hk,rfl,G,I⟩:=hrel
  clear x B1
  by_cases N:k<22
  ·have C:=ac (uH J k N)
   have O:=(uH G).c0;have Q:=(uH G).c1
   have b0:(0:Int)≤(k:Int):=by omega
   have b1:(k:Int)<22:=by omega
   obtain⟨r1,t⟩:∃x,x=R (k+1):=⟨_,rfl⟩
   obtain⟨s1,z⟩:∃x,x=S (k+1):=⟨_,rfl⟩
   rw[←t,←z]at C
   have NR:=ac t.symm;have NS:=ac z.symm
   clear J H L t z
   generalize R k=r at*
   generalize S k=s at*
   go_wp2_with fail
   refine(uH C _).mono ?_
   rintro e w2 ⟨rfl,D⟩
   have F:=(uH G).all D
   have B2:=ac ((uH I).trans (D.mono (uH I).size))
   clear D O Q G I C
   have O:=F.c0;have Q:=F.c1;have f0:=F.free 0;have f1:=F.free 1
   have YB:=ac F
   clear F
   go_wp2
   go_roundw
   case rel=>
    refine⟨k+1,by omega,by go_num,ac ?_,ac (lf (uH B2) (by omega) _ _)⟩
    rw[uH NR,uH NS]
    exact(uH YB).put _ _
   case measure=>simp[intOf];omega
  ·have T:k=22:=by omega
   subst T
   have O:=(uH G).c0;have Q:=(uH G).c1
   have r0:=uH L
   clear J L
   generalize R 22=r at*
   generalize S 22=s at*
   by_cases c:0<s
   ·have M:=ac (show X=2*r+1 by rw[uH H,if_neg (by omega)])
    have c':(s:Int)>0:=by omega
    clear H
    go_wp2
    go_ret
    exact⟨bj (by rw[uH M];omega),uH I⟩
   ·have M:=ac (show X=2*r by rw[uH H,if_pos (by omega)];rfl)
    have c':¬(s:Int)>0:=by omega
    clear H
    go_wp2
    go_ret
    exact⟨bj (by rw[uH M];omega),uH I⟩
theorem rT(N p:Nat)(w:World)(l:p<4)(t:bH N<18014398509481984):
  Calls Tryz.prog 264 #[.agg #[.int .u64 (bH N:Nat),.int .u64 (dW N:Nat)],.int .u64 (p:Nat)] w fun e H=>e=.returned (.agg #[.int .u64 (bH (4*N+p):Nat),.int .u64 (dW (4*N+p):Nat)])∧Below w.heap.size w H:=by
 obtain⟨F,G⟩:=Nc N p l
 have z:=En N
 have D:=Hl (dW N) p (by omega) l
 have h:=Et (2*bH N) (by omega)
 have I:=Et (bH N) (by omega)
 rw[show((2*bH N:Nat):Int)=(bH N:Int)*2 by omega]at h
 by_cases d:4*dW N+p<4*bH N+1
 ·rw[(F d).1,(F d).2]
  exact Hm (bH N) (dW N) p (4*dW N+p) (2*(2*bH N)+1) (2*bH N) w t z (by omega) D h (by omega)
 ·rw[(G d).1,(G d).2]
  exact Hn (bH N) (dW N) p (4*dW N+p) (2*(2*bH N)+1) (2*bH N+1) (4*dW N+p-(4*bH N+1)) w t z (by omega) (by omega) D h I (by omega)
theorem Bj(x:Nat)(h:x<18446744073709551616):bits .and .u64 (x:Int) 3=((x%4:Nat):Int):=by
 have d:=bits_and_u64_nat x 3 h (by decide)
 refine d.trans ?_
 have:x&&& 3=x%4:=by
  have:=Nat.and_two_pow_sub_one_eq_mod x 2
  simpa using this
 rw[this]
theorem xQ(n:Nat)(w:World)(d:n<18446744073709551616):
  Calls Tryz.prog 263 #[.int .u64 n] w fun e l=>e=.returned (.agg #[.int .u64 (bH n:Nat),.int .u64 (dW n:Nat)])∧Below w.heap.size w l:=by
 have h:=vM n (fun i=>n/2^(2*(31-i))%4) (fun i=>bH (nK n i)) (fun i=>dW (nK n i)) w ?_ ?_ ?_
 ·rw[Ep]at h
  exact h
 ·rw[Bg n d]
  exact⟨rfl,rfl⟩
 ·intro i t l
  have:=rT (nK n i) (n/2^(2*(31-i))%4) l (by omega) (by have:=Er n i d;omega)
  rw[←Bh n i t]at this
  exact this
 ·intro i t
  have e:(n:Int)/2^(2*(31-i))=((n/2^(2*(31-i)):Nat):Int):=by simp
  rw[e]
  exact Bj _ (Nat.lt_of_le_of_lt (Nat.div_le_self _ _) d)
theorem pX(n:Nat)(w:World)(l:n<18446744073709551616):
  Calls Tryz.prog 258 #[.int .u64 n] w fun e d=>e=.returned (.int .i64 (rS (n*4^22):Nat))∧Below w.heap.size w d:=by
 refine oy n _ (fun i=>bH (n*4^i)) (fun i=>dW (n*4^i)) w ?_ ?_ (pW n 22 l (by decide)) ?_
 ·intro d
  have:=xQ n d l
  show Calls Tryz.prog 263 #[.int .u64 n] d fun e t=>e=.returned (.agg #[.int .u64 (bH (n*4^0):Nat),.int .u64 (dW (n*4^0):Nat)])∧Below d.heap.size d t
  rw[Nat.pow_zero,Nat.mul_one]
  exact this
 ·intro i z d
  have:=rT (n*4^i) 0 d (by decide) (pW n i l (by omega))
  rw[←Bi]at this
  exact this
 ·unfold rS
  have:=xP (n*4^22)
  by_cases h:bH (n*4^22)*bH (n*4^22)=n*4^22
  ·rw[if_pos h,if_pos (this.2 h)]
  ·rw[if_neg h,if_neg (fun e=>h (this.1 e))]
theorem Eu(n:Int):bits .and .i64 n 1=n%2:=by
 have h:(BitVec.ofInt 64 1).toNat=2^1-1:=by decide
 have d:(BitVec.ofInt 64 n&&& BitVec.ofInt 64 1).toNat=(n%((2^64:Nat):Int)).toNat%2^1:=by
  rw[BitVec.toNat_and,BitVec.toNat_ofInt,h,Nat.and_two_pow_sub_one_eq_mod]
 show IntKind.i64.wrap ((BitVec.ofInt 64 n&&& BitVec.ofInt 64 1).toNat:Nat)=n%2
 rw[d,IntKind.wrap_i64]
 omega
theorem xR(b m I J d o:Nat)(z1 F L:Int)(w:World)(ae:I≤53)(ai:J≤1)(hm:m<9007199254740992)(ht:-3000≤L∧L≤3000)
  (h1:bits .and .i64 L 1=(J:Int)) (hd:d+I+J=64) (ho:IntKind.u64.wrap ((m:Int)*2^d)=(o:Int))
  (C1:∀z,Below w.heap.size w z→Calls Tryz.prog 193 #[.int .u64 b] z fun r D=>ow D r 0 z1 F∧Below z.heap.size z D)
  (C2:∀z n a l c,bc z (.agg #[.bool n,.slice a l c,.int .i64 F]) z1 F→Calls Tryz.prog 251 #[.agg #[.bool n,.slice a l c]] z fun r D=>r=.returned (.tuple #[.int .i64 (m:Nat),.int .i64 0])∧Below z.heap.size z D)
  (C3:∀z n a l c,bc z (.agg #[.bool n,.slice a l c,.int .i64 F]) z1 F→Calls Tryz.prog 214 #[.agg #[.bool n,.slice a l c,.int .i64 F]] z fun r D=>r=.returned (.int .i64 L)∧Below z.heap.size z D)
  (C4:∀z n a l c,bc z (.agg #[.bool n,.slice a l c,.int .i64 F]) z1 F→Calls Tryz.prog 233 #[.agg #[.bool n,.slice a l c]] z fun r D=>r=.returned (.int .i64 (I:Nat))∧Below z.heap.size z D):
  Calls Tryz.prog 257 #[.int .u64 b] w fun r z=>r=.returned (.tuple #[.int .u64 (o:Nat),.int .i64 (L+(J:Int))])∧Below w.heap.size w z:=by
 have K1:=ac C1;have K2:=ac C2;have K3:=ac C3;have K4:=ac C4
 clear C1 C2 C3 C4
 have e1:IntKind.i64.wrap (64-(I:Int))=((64-I:Nat):Int):=by rw[bF _ (by omega)];omega
 have e2:IntKind.i64.wrap (((64-I:Nat):Int)-(J:Int))=(d:Int):=by rw[bF _ (by omega)];omega
 have e3:=bF (L+(J:Int)) (by omega)
 have d0:d≤64:=by omega
 have e0:IntKind.u64.wrap (m:Int)=(m:Int):=by
  show(m:Int)%18446744073709551616=_
  omega
 clear hd
 generalize 64-I=c0 at*
 go_enter Tryz.func257,Tryz.ntmps257
 go_wp2_with fail
 refine(uH K1 _ (Below.refl _ _)).mono ?_
 rintro e T ⟨⟨v,rfl,hv⟩,t⟩
 obtain⟨N,O,Q,Y,rfl,i1⟩:=hv
 have H:Below T.heap.size T (T.alloc (.cells #[.bool N,.slice O Y.length Q,.int .i64 F] 57)):=(Below.refl _ _).alloc (Nat.le_refl _) _
 have HV:=ac ((show bc T (.agg #[.bool N,.slice O Y.length Q,.int .i64 F]) z1 F from⟨N,O,Q,Y,rfl,i1⟩).below H)
 have x:=a8.new T (.bool N) (.slice O Y.length Q) (.int .i64 F)
 have B1:=ac (t.trans (H.mono t.size))
 have y0:=x.c0;have y1:=x.c1;have y2:=x.c2
 have X:=ac x
 clear i1 t H K1 x
 generalize Y.length=l1 at*
 go_wp2_with fail
 refine(uH K2 _ _ _ _ _ (uH HV)).mono ?_
 rintro e w2 ⟨rfl,t⟩
 have U:=ac ((uH X).all t);have M:=ac ((uH HV).below t)
 have B2:=ac ((uH B1).trans (t.mono (uH B1).size))
 clear t y0 y1 y2 HV B1 X K2
 have y0:=(uH U).c0;have y1:=(uH U).c1;have y2:=(uH U).c2
 go_wp2_with fail
 refine(uH K3 _ _ _ _ _ (uH M)).mono ?_
 rintro e G ⟨rfl,t⟩
 have Z:=(uH U).all t;have V:=ac ((uH M).below t)
 have B3:=ac ((uH B2).trans (t.mono (uH B2).size))
 clear t y0 y1 y2 M B2 U
 generalize T.heap.size=g at*
 have hK:∀z,Below G.heap.size G z→Below G.heap.size G z∧z.cell? ⟨g,0,none⟩=some (.bool N)∧z.cell? ⟨g,1,none⟩=some (.slice O l1 Q)∧z.cell? ⟨g,2,none⟩=some (.int .i64 F):=fun z h=>⟨h,(Z.all h).c0,(Z.all h).c1,(Z.all h).c2⟩
 have HK:=ac hK
 clear hK Z
 go_wp2_with fail
 go_region_held3(fun z=>Below G.heap.size G z∧z.cell? ⟨g,0,none⟩=some (.bool N)∧z.cell? ⟨g,1,none⟩=some (.slice O l1 Q)∧z.cell? ⟨g,2,none⟩=some (.int .i64 F))
  (first|exact uH HK _ (Below.refl _ _).drew|exact uH HK _ (by assumption)|fail "NO KEEP")
  (first|(go_at_call 233;refine(uH K4 _ _ _ _ _ ((uH V).below (And.left (by assumption)))).mono ?_;rintro e aa ⟨rfl,t⟩;have am:Below G.heap.size G aa:=Below.trans (And.left (by assumption)) (t.mono (Below.size (And.left (by assumption))));clear t)|(go_at_call 214;refine(uH K3 _ _ _ _ _ ((uH V).below (And.left (by assumption)))).mono ?_;rintro e ad ⟨rfl,t⟩;have ao:Below G.heap.size G ad:=Below.trans (And.left (by assumption)) (t.mono (Below.size (And.left (by assumption))));clear t)|fail "NO ARM")
 have hW:Below G.heap.size G _:=And.left (by assumption)
 have B4:=ac ((uH B3).trans (hW.mono (uH B3).size))
 clear hW
 go_wp2
 exact bodyPost_ret (v:=.tuple #[.int .u64 (o:Nat),.int .i64 (L+(J:Int))]) (by simp[results,Tryz.results257,go_sem]) rfl ⟨rfl,uH B4⟩
theorem Ls(b:Nat)(l:b<18446744073709551616)(t:ah b=true)(z:fK b≠0)(D:fS b=false):0≤fD b:=by
 have d:=(xO b z).2
 rw[D]at d
 have h:=km (fZ b)
 rw[(fJ b l t).1,d]at h
 have:=of_decide_eq_false h
 omega
theorem Bk(b:Nat)(w:World)(z:b<18446744073709551616)(D:ah b=true)(F:fK b≠0)(O:fS b=false)(Q:c8 w):
  Calls Tryz.prog 257 #[.int .u64 b] w fun r d=>r=.returned (.tuple #[.int .u64 (nS b:Nat),.int .i64 (nT b)])∧Below w.heap.size w d:=by
 obtain⟨V,x2,x3,x4,x5,x6,x7,X⟩:=dk b z D F
 obtain⟨n1,n2⟩:=jX b z D F
 have M:(fD b).natAbs<eN:=dK _ (by omega)
 have T:fD b=((fD b).natAbs:Int):=by have:=Ls b z D F O;omega
 have U:dT b=(bl (fD b).natAbs:Int)+fX b:=rfl
 have G:(((dT b%2).toNat:Nat):Int)=dT b%2:=by omega
 have H:nT b=dT b+(((dT b%2).toNat:Nat):Int):=by unfold nT;omega
 rw[H]
 refine xR b (fD b).natAbs (bl (fD b).natAbs) (dT b%2).toNat (64-bl (fD b).natAbs-(dT b%2).toNat) (nS b) (fD b) (fX b) (dT b) w V (by omega) X (by omega) (by rw[Eu,G]) (by omega) ?_ (fun d h=>ef b d z D (Q.all h)) ?_ ?_ ?_
 ·have e:(((fD b).natAbs:Nat):Int)*2^(64-bl (fD b).natAbs-(dT b%2).toNat)=((nS b:Nat):Int):=by unfold nS;rw[Int.natCast_mul,Int.natCast_pow];rfl
  rw[e]
  show((nS b:Nat):Int)%18446744073709551616=_
  omega
 ·intro d n a l c h
  rw[←T]
  obtain⟨n',a',c',L',N,Y⟩:=h
  simp only[Value.agg.injEq,Array.mk.injEq,List.cons.injEq,Value.bool.injEq,Value.slice.injEq,and_true]at N
  obtain⟨rfl,rfl,rfl,rfl⟩:=N
  exact Ek Y (by omega) (by omega)
 ·intro d n a l c h
  obtain⟨L,rfl,t,I,J,Z⟩:=h.limbs M
  have:=mj n a c L (fX b) d t (by omega)
  rwa[jq t.2.1 I,J,bF _ (by omega)]at this
 ·intro d n a l c h
  obtain⟨L,rfl,t,I,J,Z⟩:=h.limbs M
  have:=sJ n a c L d t (by omega)
  rwa[jq t.2.1 I,J]at this
end Go.Proofs.YtmpkkhackbpflaaGreatDoor
