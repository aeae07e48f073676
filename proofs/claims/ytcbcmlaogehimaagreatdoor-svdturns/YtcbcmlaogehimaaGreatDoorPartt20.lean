/- Part 20 of the texts. -/
import Derived.Test.YtcbcmlaogehimaaGreatDoorPartt19
set_option maxHeartbeats 8000000
set_option maxRecDepth 20000
namespace Go.Proofs.YtcbcmlaogehimaaGreatDoor
open Go.RowKit
def fu(w:World)(b:Nat)(x y:Value):Prop:=w.heap[b]? =some (.cells #[x,y] 252 (0,0))
theorem fu.c0{w:World}{b:Nat}{x y:Value}(h:fu w b x y):w.cell? ⟨b,0,none⟩=some x:=by rw[cell_of_row w b 0 _ _ _ h];rfl
theorem fu.c1{w:World}{b:Nat}{x y:Value}(h:fu w b x y):w.cell? ⟨b,1,none⟩=some y:=by rw[cell_of_row w b 1 _ _ _ h];rfl
theorem fu.free{w:World}{b:Nat}{x y:Value}(h:fu w b x y)(j:Nat):w.frozen? ⟨b,j,none⟩=false:=frozen_of_row w b j _ _ h
theorem fu.lt{w:World}{b:Nat}{x y:Value}(h:fu w b x y):b<w.heap.size:=(Array.getElem?_eq_some_iff.1 h).1
theorem fu.all{w d:World}{b:Nat}{x y:Value}(h:fu w b x y)(u:Below w.heap.size w d):fu d b x y:=(u.block b h.lt).trans h
theorem fu.new(w:World)(x y:Value):fu (w.alloc (.cells #[x,y] 252)) w.heap.size x y:=heap_alloc_new w _
theorem Gg(s p:Nat)(d:s<144115188075855872)(h:p<4):bits BinOp.or IntKind.u64 ((s:Int)*4) (p:Int)=((4*s+p:Nat):Int):=by
 have e:(s:Int)*4=((s*2^2:Nat):Int):=by omega
 rw[e,u64_or_nat (s*2^2) p (by omega) (by omega),Nat.or_comm,ot p s 2 (by omega)]
 congr 1
 omega
theorem C9(x:Nat)(h:x<144115188075855872):bits BinOp.or IntKind.u64 ((x:Int)*2) 1=((2*x+1:Nat):Int):=by
 have e:(x:Int)*2=((x*2^1:Nat):Int):=by omega
 rw[e]
 refine(u64_or_nat (x*2^1) 1 (by omega) (by omega)).trans ?_
 rw[Nat.or_comm,ot 1 x 1 (by omega)]
 congr 1
 omega
theorem fu.put{w:World}{b:Nat}{x y:Value}(h:fu w b x y)(u d:Value):fu ((w.setCell ⟨b,0,none⟩ u).setCell ⟨b,1,none⟩ d) b u d:=by
 have z:=heap_setCell_same w b 0 _ _ u h
 have A:=heap_setCell_same (w.setCell ⟨b,0,none⟩ u) b 1 _ _ d z
 unfold fu
 rw[A]
 simp
theorem fu.oth{w:World}{b g:Nat}{x y:Value}(h:fu w b x y)(d:b≠g)(u z:Value):fu ((w.setCell ⟨g,0,none⟩ u).setCell ⟨g,1,none⟩ z) b x y:=
 (Below.heap_setCell _ ⟨g,1,none⟩ z b d).trans ((Below.heap_setCell w ⟨g,0,none⟩ u b d).trans h)
theorem ku{B g:Nat}{a w:World}(h:Below B a w)(d:B≤g)(u z:Value):Below B a ((w.setCell ⟨g,0,none⟩ u).setCell ⟨g,1,none⟩ z):=(h.setCell d u).setCell d z
theorem Gh(r s p x y z:Nat)(w:World)(F:r<18014398509481984)(G:s≤2*r)(h:(x:Int)<(y:Int))
  (H:bits BinOp.or IntKind.u64 ((s:Int)*4) (p:Int)=(x:Int)) (I:bits BinOp.or IntKind.u64 ((r:Int)*2*2) 1=(y:Int)) (d:(r:Int)*2=(z:Int)):
  Calls Tryz.prog 299 #[.agg #[.int .u64 r,.int .u64 s],.int .u64 p] w fun e u=>e=.returned (.agg #[.int .u64 (z:Nat),.int .u64 (x:Nat)])∧Below w.heap.size w u:=by
 have A:=decide_eq_true h
 have D:=ac d
 clear d
 go_enter Tryz.func299,Tryz.ntmps299
 go_wp2
 go_quiet (fail)
 go_wp2
 rw[uH D]
 refine bodyPost_ret (v:=.agg #[.int .u64 (z:Nat),.int .u64 (x:Nat)]) (by simp[results,Tryz.results299,go_sem]) rfl ⟨rfl,?_⟩
 exact(((below_drewN (((Below.refl _ _).alloc (Nat.le_refl _) _).alloc (by simp) _) _).setCell (by simp) _).setCell (by simp) _)
theorem Gi(r s p x y z d:Nat)(w:World)(G:r<18014398509481984)(H:s≤2*r)(u:¬(x:Int)<(y:Int))(h:(x:Int)-(y:Int)=(d:Int))
  (I:bits BinOp.or IntKind.u64 ((s:Int)*4) (p:Int)=(x:Int)) (J:bits BinOp.or IntKind.u64 ((r:Int)*2*2) 1=(y:Int)) (K:bits BinOp.or IntKind.u64 ((r:Int)*2) 1=(z:Int)) (L:x<18446744073709551616):
  Calls Tryz.prog 299 #[.agg #[.int .u64 r,.int .u64 s],.int .u64 p] w fun e A=>e=.returned (.agg #[.int .u64 (z:Nat),.int .u64 (d:Nat)])∧Below w.heap.size w A:=by
 have D:=decide_eq_false u
 have F:=ac h
 clear h
 go_enter Tryz.func299,Tryz.ntmps299
 go_wp2
 go_quiet (fail)
 go_wp2
 rw[uH F]
 refine bodyPost_ret (v:=.agg #[.int .u64 (z:Nat),.int .u64 (d:Nat)]) (by simp[results,Tryz.results299,go_sem]) rfl ⟨rfl,?_⟩
 exact(((below_drewN (((Below.refl _ _).alloc (Nat.le_refl _) _).alloc (by simp) _) _).setCell (by simp) _).setCell (by simp) _)
theorem ui(n:Nat)(P R S:Nat→Nat)(w:World)(h0:R 0=0∧S 0=0)
  (C:∀i,i<32→∀I,Calls Tryz.prog 299 #[.agg #[.int .u64 (R i:Nat),.int .u64 (S i:Nat)],.int .u64 (P i:Nat)] I fun e O=>e=.returned (.agg #[.int .u64 (R (i+1):Nat),.int .u64 (S (i+1):Nat)])∧Below I.heap.size I O)
  (hP:∀i,i<32→bits .and .u64 ((n:Int)/2^(2*(31-i))) 3=(P i:Int)):
  Calls Tryz.prog 298 #[.int .u64 n] w fun e I=>e=.returned (.agg #[.int .u64 (R 32:Nat),.int .u64 (S 32:Nat)])∧Below w.heap.size w I:=by
 have Q:=ac h0;have U:=ac C;have X:=ac hP
 clear h0 C hP
 go_enter Tryz.func298,Tryz.ntmps298
 go_wp2
 go_loopw[6] (fun i wr=>∃k:Nat,k≤32∧i=.int .i64 k∧Hid (fu wr w.heap.size (.int .u64 0) (.int .u64 0))∧Hid (fu wr (w.heap.size+1) (.int .u64 (R k:Nat)) (.int .u64 (S k:Nat)))∧Hid (Below w.heap.size w wr)) (fun i _=>32-(intOf i).toNat)
 case atStart=>
  have h:=uH Q
  refine⟨0,by omega,rfl,ac ?_,ac ?_,ac (((Below.refl _ _).alloc (Nat.le_refl _) _).alloc (by simp) _)⟩
  ·exact(fu.new w (.int .u64 0) (.int .u64 0)).all ((Below.refl _ _).alloc (Nat.le_refl _) _)
  ·rw[h.1,h.2]
   have:=fu.new (w.alloc (.cells #[.int .u64 0,.int .u64 0] 252)) (.int .u64 0) (.int .u64 0)
   simpa using this
 case round=>
  obtain⟨k,hk,rfl,H,D,hb⟩:=hrel
  by_cases J:k<32
  ·have K1:=ac (uH U k J)
   have hp:=uH X k J
   have L:=(uH D).c0;have N:=(uH D).c1;have Y:=(uH D).free 0;have Z:=(uH D).free 1
   have b0:(0:Int)≤(k:Int):=by omega
   have b1:(k:Int)<32:=by omega
   obtain⟨d,hd⟩:∃d:Nat,d=2*(31-k):=⟨_,rfl⟩
   have e1:IntKind.i64.wrap (31-(k:Int))=((31-k:Nat):Int):=by rw[a8 _ (by omega)];omega
   have e2:IntKind.i64.wrap (2*((31-k:Nat):Int))=(d:Int):=by rw[a8 _ (by omega)];omega
   have d0:d≤63:=by omega
   rw[←hd]at hp
   have HD:=ac hd
   clear U X Q hd
   generalize 31-k=c at*
   generalize R k=r at*
   generalize S k=s at*
   generalize P k=p at*
   obtain⟨r1,F⟩:∃x,x=R (k+1):=⟨_,rfl⟩
   obtain⟨s1,G⟩:∃x,x=S (k+1):=⟨_,rfl⟩
   rw[←F,←G]at K1
   have NR:=ac F.symm;have NS:=ac G.symm
   clear F G
   go_wp2_with fail
   have xd:fu wr.drew w.heap.size (.int .u64 0) (.int .u64 0):=uH H
   have yd:fu wr.drew (w.heap.size+1) (.int .u64 (r:Nat)) (.int .u64 (s:Nat)):=uH D
   have K:Below w.heap.size w wr.drew:=(uH hb).drew
   have XD:=ac xd;have YD:=ac yd;have BD:=ac K
   clear xd yd K
   go_region_with (go_at_call 299;refine(uH K1 _).mono ?_;rintro e w1 ⟨rfl,u⟩;have A:=(uH YD).all u;have B1:=ac ((uH BD).trans (u.mono (uH BD).size));have X1:=ac ((uH XD).all u);clear u L N Y Z;have L:=A.c0;have N:=A.c1;have Y:=A.free 0;have Z:=A.free 1;have YB:=ac A;clear A)
   go_wp2
   go_roundw
   case rel=>
    refine⟨k+1,by omega,by go_num,ac ?_,ac ?_,ac ?_⟩
    ·exact(uH X1).oth (by omega) _ _
    ·rw[uH NR,uH NS]
     exact(uH YB).put _ _
    ·exact ku (uH B1) (by omega) _ _
   case measure=>simp[intOf];omega
  ·have aa:k=32:=by omega
   subst aa
   have L:=(uH D).c0;have N:=(uH D).c1
   have x0:=(uH H).c0;have A:=(uH H).c1;have Y:=(uH H).free 0;have Z:=(uH H).free 1
   clear U X Q
   obtain⟨r,hr⟩:∃x,x=R 32:=⟨_,rfl⟩
   obtain⟨s,hs⟩:∃x,x=S 32:=⟨_,rfl⟩
   rw[←hr]at L
   rw[←hs]at N
   have HR:=ac hr;have HS:=ac hs
   clear hr hs
   go_wp2
   refine bodyPost_ret (v:=.agg #[.int .u64 (r:Nat),.int .u64 (s:Nat)]) ?_ rfl ⟨by rw[uH HR,uH HS],ku (uH hb) (Nat.le_refl _) _ _⟩
   have z:=(uH H).put (.int .u64 (r:Nat)) (.int .u64 (s:Nat))
   have z0:=z.c0;have z1:=z.c1
   simp[results,Tryz.results298,go_sem,z0,z1]
theorem no(n X:Nat)(R S:Nat→Nat)(w:World)
  (U:∀d,Calls Tryz.prog 298 #[.int .u64 n] d fun e u=>e=.returned (.agg #[.int .u64 (R 0:Nat),.int .u64 (S 0:Nat)])∧Below d.heap.size d u)
  (Y:∀i,i<22→∀d,Calls Tryz.prog 299 #[.agg #[.int .u64 (R i:Nat),.int .u64 (S i:Nat)],.int .u64 0] d fun e u=>e=.returned (.agg #[.int .u64 (R (i+1):Nat),.int .u64 (S (i+1):Nat)])∧Below d.heap.size d u)
  (Z:R 22<18014398509481984) (hX:X=2*R 22+(if S 22=0 then 0 else 1)):
  Calls Tryz.prog 293 #[.int .u64 n] w fun e d=>e=.returned (.int .i64 (X:Nat))∧Below w.heap.size w d:=by
 have K1:=ac U;have J:=ac Y;have H:=ac hX;have K:=ac Z
 clear U Y hX Z
 go_enter Tryz.func293,Tryz.ntmps293
 go_wp2_with fail
 refine(uH K1 _).mono ?_
 rintro e w1 ⟨rfl,h⟩
 have x:=ac (fu.new w1 (.int .u64 (R 0:Nat)) (.int .u64 (S 0:Nat)))
 have B1:=ac (h.trans (((Below.refl _ _).alloc (Nat.le_refl _) (.cells #[.int .u64 (R 0:Nat),.int .u64 (S 0:Nat)] 252)).mono h.size))
 have hg:=h.size
 clear K1 h
 go_wp2
 go_loopw[7] (fun i wr=>∃k:Nat,k≤22∧i=.int .i64 k∧Hid (fu wr w1.heap.size (.int .u64 (R k:Nat)) (.int .u64 (S k:Nat)))∧Hid (Below w.heap.size w wr)) (fun i _=>22-(intOf i).toNat)
 case atStart=>exact⟨0,by omega,rfl,x,B1⟩
 case round=>
  obtain⟨k,hk,rfl,G,I⟩:=hrel
  clear x B1
  by_cases L:k<22
  ·have C:=ac (uH J k L)
   have N:=(uH G).c0;have O:=(uH G).c1
   have b0:(0:Int)≤(k:Int):=by omega
   have b1:(k:Int)<22:=by omega
   obtain⟨r1,z⟩:∃x,x=R (k+1):=⟨_,rfl⟩
   obtain⟨s1,A⟩:∃x,x=S (k+1):=⟨_,rfl⟩
   rw[←z,←A]at C
   have NR:=ac z.symm;have NS:=ac A.symm
   clear J H K z A
   generalize R k=r at*
   generalize S k=s at*
   go_wp2_with fail
   refine(uH C _).mono ?_
   rintro e w2 ⟨rfl,D⟩
   have F:=(uH G).all D
   have B2:=ac ((uH I).trans (D.mono (uH I).size))
   clear D N O G I C
   have N:=F.c0;have O:=F.c1;have f0:=F.free 0;have f1:=F.free 1
   have YB:=ac F
   clear F
   go_wp2
   go_roundw
   case rel=>
    refine⟨k+1,by omega,by go_num,ac ?_,ac (ku (uH B2) (by omega) _ _)⟩
    rw[uH NR,uH NS]
    exact(uH YB).put _ _
   case measure=>simp[intOf];omega
  ·have Q:k=22:=by omega
   subst Q
   have N:=(uH G).c0;have O:=(uH G).c1
   have r0:=uH K
   clear J K
   generalize R 22=r at*
   generalize S 22=s at*
   by_cases c:0<s
   ·have M:=ac (show X=2*r+1 by rw[uH H,if_neg (by omega)])
    have c':(s:Int)>0:=by omega
    clear H
    go_wp2
    go_ret
    exact⟨aW (by rw[uH M];omega),uH I⟩
   ·have M:=ac (show X=2*r by rw[uH H,if_pos (by omega)];rfl)
    have c':¬(s:Int)>0:=by omega
    clear H
    go_wp2
    go_ret
    exact⟨aW (by rw[uH M];omega),uH I⟩
theorem qB(N p:Nat)(w:World)(u:p<4)(z:bj N<18014398509481984):
  Calls Tryz.prog 299 #[.agg #[.int .u64 (bj N:Nat),.int .u64 (dr N:Nat)],.int .u64 (p:Nat)] w fun e H=>e=.returned (.agg #[.int .u64 (bj (4*N+p):Nat),.int .u64 (dr (4*N+p):Nat)])∧Below w.heap.size w H:=by
 obtain⟨F,G⟩:=Lx N p u
 have A:=CQ N
 have D:=Gg (dr N) p (by omega) u
 have h:=C9 (2*bj N) (by omega)
 have I:=C9 (bj N) (by omega)
 rw[show((2*bj N:Nat):Int)=(bj N:Int)*2 by omega]at h
 by_cases d:4*dr N+p<4*bj N+1
 ·rw[(F d).1,(F d).2]
  exact Gh (bj N) (dr N) p (4*dr N+p) (2*(2*bj N)+1) (2*bj N) w z A (by omega) D h (by omega)
 ·rw[(G d).1,(G d).2]
  exact Gi (bj N) (dr N) p (4*dr N+p) (2*(2*bj N)+1) (2*bj N+1) (4*dr N+p-(4*bj N+1)) w z A (by omega) (by omega) D h I (by omega)
theorem zS(x:Nat)(h:x<18446744073709551616):bits .and .u64 (x:Int) 3=((x%4:Nat):Int):=by
 have d:=bits_and_u64_nat x 3 h (by decide)
 refine d.trans ?_
 have:x&&& 3=x%4:=by
  have:=Nat.and_two_pow_sub_one_eq_mod x 2
  simpa using this
 rw[this]
theorem wz(n:Nat)(w:World)(d:n<18446744073709551616):
  Calls Tryz.prog 298 #[.int .u64 n] w fun e u=>e=.returned (.agg #[.int .u64 (bj n:Nat),.int .u64 (dr n:Nat)])∧Below w.heap.size w u:=by
 have h:=ui n (fun i=>n/2^(2*(31-i))%4) (fun i=>bj (mt n i)) (fun i=>dr (mt n i)) w ?_ ?_ ?_
 ·rw[CX]at h
  exact h
 ·rw[zP n d]
  exact⟨rfl,rfl⟩
 ·intro i z u
  have:=qB (mt n i) (n/2^(2*(31-i))%4) u (by omega) (by have:=CY n i d;omega)
  rw[←zQ n i z]at this
  exact this
 ·intro i z
  have e:(n:Int)/2^(2*(31-i))=((n/2^(2*(31-i)):Nat):Int):=by simp
  rw[e]
  exact zS _ (Nat.lt_of_le_of_lt (Nat.div_le_self _ _) d)
theorem oV(n:Nat)(w:World)(u:n<18446744073709551616):
  Calls Tryz.prog 293 #[.int .u64 n] w fun e d=>e=.returned (.int .i64 (rS (n*4^22):Nat))∧Below w.heap.size w d:=by
 refine no n _ (fun i=>bj (n*4^i)) (fun i=>dr (n*4^i)) w ?_ ?_ (oU n 22 u (by decide)) ?_
 ·intro d
  have:=wz n d u
  show Calls Tryz.prog 298 #[.int .u64 n] d fun e z=>e=.returned (.agg #[.int .u64 (bj (n*4^0):Nat),.int .u64 (dr (n*4^0):Nat)])∧Below d.heap.size d z
  rw[Nat.pow_zero,Nat.mul_one]
  exact this
 ·intro i A d
  have:=qB (n*4^i) 0 d (by decide) (oU n i u (by omega))
  rw[←zR]at this
  exact this
 ·unfold rS
  have:=wy (n*4^22)
  by_cases h:bj (n*4^22)*bj (n*4^22)=n*4^22
  ·rw[if_pos h,if_pos (this.2 h)]
  ·rw[if_neg h,if_neg (fun e=>h (this.1 e))]
theorem Da(n:Int):bits .and .i64 n 1=n%2:=by
 have h:(BitVec.ofInt 64 1).toNat=2^1-1:=by decide
 have d:(BitVec.ofInt 64 n&&& BitVec.ofInt 64 1).toNat=(n%((2^64:Nat):Int)).toNat%2^1:=by
  rw[BitVec.toNat_and,BitVec.toNat_ofInt,h,Nat.and_two_pow_sub_one_eq_mod]
 show IntKind.i64.wrap ((BitVec.ofInt 64 n&&& BitVec.ofInt 64 1).toNat:Nat)=n%2
 rw[d,IntKind.wrap_i64]
 omega
theorem wA(b m H I d o:Nat)(z1 D J:Int)(w:World)(ah:H≤53)(am:I≤1)(hm:m<9007199254740992)(ht:-3000≤J∧J≤3000)
  (h1:bits .and .i64 J 1=(I:Int)) (hd:d+H+I=64) (ho:IntKind.u64.wrap ((m:Int)*2^d)=(o:Int))
  (C1:∀z,Below w.heap.size w z→Calls Tryz.prog 168 #[.int .u64 b] z fun r A=>nj A r 0 z1 D∧Below z.heap.size z A)
  (C2:∀z n a l c,aC z (.agg #[.bool n,.slice a l c,.int .i64 D]) z1 D→Calls Tryz.prog 290 #[.agg #[.bool n,.slice a l c]] z fun r A=>r=.returned (.tuple #[.int .i64 (m:Nat),.int .i64 0])∧Below z.heap.size z A)
  (C3:∀z n a l c,aC z (.agg #[.bool n,.slice a l c,.int .i64 D]) z1 D→Calls Tryz.prog 169 #[.agg #[.bool n,.slice a l c,.int .i64 D]] z fun r A=>r=.returned (.int .i64 J)∧Below z.heap.size z A)
  (C4:∀z n a l c,aC z (.agg #[.bool n,.slice a l c,.int .i64 D]) z1 D→Calls Tryz.prog 208 #[.agg #[.bool n,.slice a l c]] z fun r A=>r=.returned (.int .i64 (H:Nat))∧Below z.heap.size z A):
  Calls Tryz.prog 292 #[.int .u64 b] w fun r z=>r=.returned (.tuple #[.int .u64 (o:Nat),.int .i64 (J+(I:Int))])∧Below w.heap.size w z:=by
 have K1:=ac C1;have K2:=ac C2;have K3:=ac C3;have K4:=ac C4
 clear C1 C2 C3 C4
 have e1:IntKind.i64.wrap (64-(H:Int))=((64-H:Nat):Int):=by rw[a8 _ (by omega)];omega
 have e2:IntKind.i64.wrap (((64-H:Nat):Int)-(I:Int))=(d:Int):=by rw[a8 _ (by omega)];omega
 have e3:=a8 (J+(I:Int)) (by omega)
 have d0:d≤64:=by omega
 have e0:IntKind.u64.wrap (m:Int)=(m:Int):=by
  show(m:Int)%18446744073709551616=_
  omega
 clear hd
 generalize 64-H=c0 at*
 go_enter Tryz.func292,Tryz.ntmps292
 go_wp2_with fail
 refine(uH K1 _ (Below.refl _ _)).mono ?_
 rintro e Q ⟨⟨v,rfl,hv⟩,u⟩
 obtain⟨L,N,O,Z,rfl,i1⟩:=hv
 have G:Below Q.heap.size Q (Q.alloc (.cells #[.bool L,.slice N Z.length O,.int .i64 D] 35)):=(Below.refl _ _).alloc (Nat.le_refl _) _
 have HV:=ac ((show aC Q (.agg #[.bool L,.slice N Z.length O,.int .i64 D]) z1 D from⟨L,N,O,Z,rfl,i1⟩).below G)
 have x:=ak.new Q (.bool L) (.slice N Z.length O) (.int .i64 D)
 have B1:=ac (u.trans (G.mono u.size))
 have y0:=x.c0;have y1:=x.c1;have y2:=x.c2
 have X:=ac x
 clear i1 u G K1 x
 generalize Z.length=l1 at*
 go_wp2_with fail
 refine(uH K2 _ _ _ _ _ (uH HV)).mono ?_
 rintro e w2 ⟨rfl,u⟩
 have U:=ac ((uH X).all u);have K:=ac ((uH HV).below u)
 have B2:=ac ((uH B1).trans (u.mono (uH B1).size))
 clear u y0 y1 y2 HV B1 X K2
 have y0:=(uH U).c0;have y1:=(uH U).c1;have y2:=(uH U).c2
 go_wp2_with fail
 refine(uH K3 _ _ _ _ _ (uH K)).mono ?_
 rintro e F ⟨rfl,u⟩
 have X3:=(uH U).all u;have Y:=ac ((uH K).below u)
 have B3:=ac ((uH B2).trans (u.mono (uH B2).size))
 clear u y0 y1 y2 K B2 U
 generalize Q.heap.size=g at*
 have hK:∀z,Below F.heap.size F z→Below F.heap.size F z∧z.cell? ⟨g,0,none⟩=some (.bool L)∧z.cell? ⟨g,1,none⟩=some (.slice N l1 O)∧z.cell? ⟨g,2,none⟩=some (.int .i64 D):=fun z h=>⟨h,(X3.all h).c0,(X3.all h).c1,(X3.all h).c2⟩
 have HK:=ac hK
 clear hK X3
 go_wp2_with fail
 go_region_held3(fun z=>Below F.heap.size F z∧z.cell? ⟨g,0,none⟩=some (.bool L)∧z.cell? ⟨g,1,none⟩=some (.slice N l1 O)∧z.cell? ⟨g,2,none⟩=some (.int .i64 D))
  (first|exact uH HK _ (Below.refl _ _).drew|exact uH HK _ (by assumption)|fail "NO KEEP")
  (first|(go_at_call 208;refine(uH K4 _ _ _ _ _ ((uH Y).below (And.left (by assumption)))).mono ?_;rintro e aa ⟨rfl,u⟩;have an:Below F.heap.size F aa:=Below.trans (And.left (by assumption)) (u.mono (Below.size (And.left (by assumption))));clear u)|(go_at_call 169;refine(uH K3 _ _ _ _ _ ((uH Y).below (And.left (by assumption)))).mono ?_;rintro e ae ⟨rfl,u⟩;have ao:Below F.heap.size F ae:=Below.trans (And.left (by assumption)) (u.mono (Below.size (And.left (by assumption))));clear u)|fail "NO ARM")
 have hW:Below F.heap.size F _:=And.left (by assumption)
 have B4:=ac ((uH B3).trans (hW.mono (uH B3).size))
 clear hW
 go_wp2
 exact bodyPost_ret (v:=.tuple #[.int .u64 (o:Nat),.int .i64 (J+(I:Int))]) (by simp[results,Tryz.results292,go_sem]) rfl ⟨rfl,uH B4⟩
theorem JH(b:Nat)(u:b<18446744073709551616)(z:aj b=true)(A:fK b≠0)(D:fS b=false):0≤fD b:=by
 have d:=(ws b A).2
 rw[D]at d
 have h:=jL (fZ b)
 rw[(dc b u z).1,d]at h
 have:=of_decide_eq_false h
 omega
theorem zT(b:Nat)(w:World)(z:b<18446744073709551616)(A:aj b=true)(D:fK b≠0)(N:fS b=false)(O:cq w):
  Calls Tryz.prog 292 #[.int .u64 b] w fun r d=>r=.returned (.tuple #[.int .u64 (nS b:Nat),.int .i64 (nT b)])∧Below w.heap.size w d:=by
 obtain⟨X,x2,x3,x4,x5,x6,x7,Y⟩:=cQ b z A D
 obtain⟨n1,n2⟩:=jA b z A D
 have J:(fD b).natAbs<du:=cw _ (by omega)
 have Q:fD b=((fD b).natAbs:Int):=by have:=JH b z A D N;omega
 have U:dT b=(bl (fD b).natAbs:Int)+fX b:=rfl
 have F:(((dT b%2).toNat:Nat):Int)=dT b%2:=by omega
 have G:nT b=dT b+(((dT b%2).toNat:Nat):Int):=by unfold nT;omega
 rw[G]
 refine wA b (fD b).natAbs (bl (fD b).natAbs) (dT b%2).toNat (64-bl (fD b).natAbs-(dT b%2).toNat) (nS b) (fD b) (fX b) (dT b) w X (by omega) Y (by omega) (by rw[Da,F]) (by omega) ?_ (fun d h=>dE b d z A (O.all h)) ?_ ?_ ?_
 ·have e:(((fD b).natAbs:Nat):Int)*2^(64-bl (fD b).natAbs-(dT b%2).toNat)=((nS b:Nat):Int):=by unfold nS;rw[Int.natCast_mul,Int.natCast_pow];rfl
  rw[e]
  show((nS b:Nat):Int)%18446744073709551616=_
  omega
 ·intro d n a l c h
  rw[←Q]
  obtain⟨n',a',c',L',K,Z⟩:=h
  simp only[Value.agg.injEq,Array.mk.injEq,List.cons.injEq,Value.bool.injEq,Value.slice.injEq,and_true]at K
  obtain⟨rfl,rfl,rfl,rfl⟩:=K
  exact CG Z (by omega) (by omega)
 ·intro d n a l c h
  obtain⟨L,rfl,u,H,I,h4⟩:=h.limbs J
  have:=kO n a c L (fX b) d u (by omega)
  rwa[iX u.2.1 H,I,a8 _ (by omega)]at this
 ·intro d n a l c h
  obtain⟨L,rfl,u,H,I,h4⟩:=h.limbs J
  have:=qZ n a c L d u (by omega)
  rwa[iX u.2.1 H,I]at this
theorem rE(a n S o:Nat)(A E M X O:Int)(w:World)(ht:-3000≤A∧A≤3000)(Y:E=A/2-54-1)(Q:A%2=0)
  (Z:∀h,Below w.heap.size w h→Calls Tryz.prog 292 #[.int .u64 a] h fun r u=>r=.returned (.tuple #[.int .u64 (n:Nat),.int .i64 A])∧Below h.heap.size h u)
  (C3:∀h,Calls Tryz.prog 293 #[.int .u64 (n:Nat)] h fun r u=>r=.returned (.int .i64 (S:Nat))∧Below h.heap.size h u)
  (C4:∀h,Calls Tryz.prog 207 #[.int .i64 (S:Nat)] h fun r u=>∃v,r=.returned v∧au h.heap.size u v (S:Nat)∧Below h.heap.size h u)
  (C5:∀B h v,Below w.heap.size w h→au B h v (S:Nat)→Calls Tryz.prog 206 #[v,.int .i64 E] h fun r u=>nj u r 0 M X∧Below h.heap.size h u)
  (C6:∀h v,Below w.heap.size w h→aC h v M X→Calls Tryz.prog 229 #[v] h fun s u=>s=.returned (.tuple #[.int .u64 (o:Nat),.int .u8 O,.int .i64 0])∧Below h.heap.size h u):
  Calls Tryz.prog 286 #[.int .u64 a] w fun s h=>s=.returned (.tuple #[.int .u64 (o:Nat),.int .u8 O])∧Below w.heap.size w h:=by
 have K1:=ac Z;have K3:=ac C3;have K4:=ac C4;have K5:=ac C5;have K6:=ac C6
 clear Z C3 C4 C5 C6
 obtain⟨q,hq⟩:∃q,q=A/2:=⟨_,rfl⟩
 have t1:Int.tdiv A 2=q:=by rw[Int.tdiv_eq_ediv];omega
 have e1:=a8 (q-54) (by omega)
 have e2:=a8 (q-54-1) (by omega)
 rw[←hq]at Y
 have q1:-1500≤q:=by omega
 have q2:q≤1500:=by omega
 clear hq Q
 go_enter Tryz.func286,Tryz.ntmps286
 go_wp2_with fail
 refine(uH K1 _ (Below.refl _ _)).mono ?_
 rintro e w1 ⟨rfl,d⟩
 have D:=ac d
 clear d K1
 go_wp2_with fail
 refine(uH K3 _).mono ?_
 rintro e w2 ⟨rfl,d⟩
 have D:=ac ((uH D).trans (d.mono (uH D).size))
 clear d K3
 go_wp2_with fail
 refine(uH K4 _).mono ?_
 rintro e w3 ⟨v,rfl,⟨n3,a3,c3,U,rfl,i3⟩,d⟩
 have H:=ac ((uH D).trans (d.mono (uH D).size))
 have I3:=ac (show au w2.heap.size w3 (.agg #[.bool n3,.slice a3 U.length c3]) (S:Nat)from⟨n3,a3,c3,U,rfl,i3⟩)
 clear d K4 D i3
 generalize U.length=l3 at*
 subst Y
 go_wp2_with fail
 refine(uH K5 _ _ _ (uH H) (uH I3)).mono ?_
 rintro e G ⟨⟨v,rfl,hv⟩,d⟩
 obtain⟨K,L,N,F,rfl,i1⟩:=hv
 have z:Below G.heap.size G (G.alloc (.cells #[.bool K,.slice L F.length N,.int .i64 X] 35)):=(Below.refl _ _).alloc (Nat.le_refl _) _
 have HX:=ac ((show aC G (.agg #[.bool K,.slice L F.length N,.int .i64 X]) M X from⟨K,L,N,F,rfl,i1⟩).below z)
 have I:=ac ((uH H).trans ((d.trans (z.mono d.size)).mono (uH H).size))
 have J:=ak.new G (.bool K) (.slice L F.length N) (.int .i64 X)
 have y0:=J.c0;have y1:=J.c1;have y2:=J.c2
 clear i1 d z K5 H J I3
 generalize F.length=l1 at*
 go_wp2_with fail
 refine(uH K6 _ _ (uH I) (uH HX)).mono ?_
 rintro e w5 ⟨rfl,d⟩
 have B5:=ac ((uH I).trans (d.mono (uH I).size))
 clear d K6 I y0 y1 y2 HX
 go_wp2
 exact bodyPost_ret (v:=.tuple #[.int .u64 o,.int .u8 O]) (by simp[results,Tryz.results286,go_sem]) rfl ⟨rfl,uH B5⟩
def tB(a:Nat):Nat:=rS (nS a*4^22)
theorem Lz(a:Nat)(d:a<18446744073709551616)(u:aj a=true)(z:fK a≠0):tB a≠0:=by
 obtain⟨D,F⟩:=jA a d u z
 have A:1≤nS a*4^22:=Nat.mul_pos (by omega) (by decide)
 have h:=BT A
 have:bj 1=1:=by decide
 unfold tB rS
 omega
theorem LB(a:Nat)(d:a<18446744073709551616)(h:aj a=true)(u:fK a≠0):tB a<36028797018963968:=Ly (nS a) (jA a d h u).1
theorem Gj(a:Nat)(d:a<18446744073709551616)(u:aj a=true)(z:fK a≠0):
  cd (tB a) (nT a/2-54-1)=tV a∧bI (oM (tB a:Nat)).natAbs (oE (tB a:Nat) (nT a/2-54-1))=tF a:=by
 have h:=Gf a d u z
 rw[show nT a/2-55=nT a/2-54-1 by omega]at h
 exact h
theorem pW(a:Nat)(w:World)(d:a<18446744073709551616)(h:aj a=true)(u:fK a≠0):
  Calls Tryz.prog 293 #[.int .u64 (nS a:Nat)] w fun e z=>e=.returned (.int .i64 (tB a:Nat))∧Below w.heap.size w z:=oV (nS a) w (jA a d h u).1
theorem pX(a n S r:Nat)(D E K:Int)(w:World)(Q:-3000≤D∧D≤3000)(F:D%2=0)(U:E=D/2-54-1)
  (s1:S≠0) (s2:S<36028797018963968) (X:cd S E=r) (Y:bI (oM (S:Nat)).natAbs (oE (S:Nat) E)=K) (L:cq w)
  (Z:∀d,Below w.heap.size w d→Calls Tryz.prog 292 #[.int .u64 a] d fun r z=>r=.returned (.tuple #[.int .u64 (n:Nat),.int .i64 D])∧Below d.heap.size d z)
  (C3:∀d,Calls Tryz.prog 293 #[.int .u64 (n:Nat)] d fun r z=>r=.returned (.int .i64 (S:Nat))∧Below d.heap.size d z):
  Calls Tryz.prog 286 #[.int .u64 a] w fun s d=>s=.returned (.tuple #[.int .u64 (r:Nat),.int .u8 K])∧Below w.heap.size w d:=by
 have N:((S:Nat):Int).natAbs<du:=cw _ (by omega)
 have A:((S:Nat):Int)≠0:=by omega
 have aa:tz ((S:Nat):Int).natAbs<57:=jZ _ 57 (by omega) (by rw[Int.natAbs_natCast];exact Lv (by omega))
 have ae:-2300≤E∧E≤2300:=by omega
 have H:mj (S:Nat) E=true:=by
  unfold mj
  rw[decide_eq_true (show-32768≤E∧E≤32768 by omega),decide_eq_true (show-16384≤E+(tz ((S:Nat):Int).natAbs:Int)∧E+(tz ((S:Nat):Int).natAbs:Int)≤16384 by omega),Bool.or_true]
  rfl
 have I:pP (oM (S:Nat)) (oE (S:Nat) E)=true:=by
  unfold pP
  rw[if_neg (fw _ A).1,cu _ _ A,decide_eq_true (fw _ A).2,decide_eq_true (by omega)]
  rfl
 have J:(oM (S:Nat)).natAbs<du:=Nat.lt_of_le_of_lt (qt _) N
 have O:∀d v,Below w.heap.size w d→aC d v (oM (S:Nat)) (oE (S:Nat) E)→_:=fun d v h G=>jt G J I (L.all h)
 rw[(jM ((S:Nat):Int) E).1,jL,decide_eq_false (show¬((S:Nat):Int)<0 by omega),bN,Int.natAbs_natCast,X,Y]at O
 refine rE a n S r D E _ _ _ w Q U F Z C3
  (fun d=>vG _ d (by omega) (by omega)) (fun B d v h G=>?_) O
 have:=jp E G N (by omega) (L.all h)
 unfold cV dM dX at this
 rw[H]at this
 exact this.mono fun r z ⟨u,g1,g2,g3⟩=>⟨⟨u,g1,g2⟩,g3⟩
theorem oW(a:Nat)(w:World)(d:a<18446744073709551616)(u:aj a=true)(z:fK a≠0)(F:fS a=false)(D:cq w):
  Calls Tryz.prog 286 #[.int .u64 a] w fun r A=>r=.returned (.tuple #[.int .u64 (tV a:Nat),.int .u8 (tF a)])∧Below w.heap.size w A:=by
 obtain⟨K,L,N,O,Q,U,X,Y⟩:=cQ a d u z
 have G:dT a=(bl (fD a).natAbs:Int)+fX a:=rfl
 have H:nT a=dT a+dT a%2:=rfl
 obtain⟨I,J⟩:=Gj a d u z
 exact pX a (nS a) (tB a) (tV a) (nT a) _ (tF a) w (by omega) (by omega) rfl (Lz a d u z) (LB a d u z) I J D (fun A h=>zT a A d u z F (D.all h)) (fun A=>pW a A d u z)
theorem Gk(a:Nat)(w:World)
  (z:∀d,Calls Tryz.prog 164 #[.int .u64 a] d fun r u=>r=.returned (.int .i64 0)∧Below d.heap.size d u):
  Calls Tryz.prog 271 #[.int .u64 a] w fun r d=>r=.returned (.tuple #[.int .u64 (a:Nat),.int .u8 0])∧Below w.heap.size w d:=by
 have A:=ac z
 clear z
 go_enter Tryz.func271,Tryz.ntmps271
 go_wp2_with fail
 refine(uH A _).mono ?_
 rintro e D ⟨rfl,h⟩
 have B:=ac h
 clear h A
 go_wp2
 exact bodyPost_ret (v:=.tuple #[.int .u64 (a:Nat),.int .u8 0]) (by simp[results,Tryz.results271,go_sem]) rfl ⟨rfl,uH B⟩
theorem Gl(a:Nat)(k:Int)(w:World)(D:(k==0)=false)(F:((a:Int)==9218868437227405312)=true)
  (z:∀d,Calls Tryz.prog 164 #[.int .u64 a] d fun r u=>r=.returned (.int .i64 k)∧Below d.heap.size d u):
  Calls Tryz.prog 271 #[.int .u64 a] w fun r d=>r=.returned (.tuple #[.int .u64 (a:Nat),.int .u8 0])∧Below w.heap.size w d:=by
 have A:=ac z
 clear z
 go_enter Tryz.func271,Tryz.ntmps271
 go_wp2_with fail
 refine(uH A _).mono ?_
 rintro e G ⟨rfl,h⟩
 have B:=ac h
 clear h A
 go_wp2
 exact bodyPost_ret (v:=.tuple #[.int .u64 (a:Nat),.int .u8 0]) (by simp[results,Tryz.results271,go_sem]) rfl ⟨rfl,uH B⟩
theorem Gm(a:Nat)(w:World)(D:((a:Int)==9218868437227405312)=false)
  (z:∀d,Calls Tryz.prog 164 #[.int .u64 a] d fun r u=>r=.returned (.int .i64 4)∧Below d.heap.size d u):
  Calls Tryz.prog 271 #[.int .u64 a] w fun r d=>r=.returned (.tuple #[.int .u64 9221120237041090560,.int .u8 0])∧Below w.heap.size w d:=by
 have A:=ac z
 clear z
 go_enter Tryz.func271,Tryz.ntmps271
 go_wp2_with fail
 refine(uH A _).mono ?_
 rintro e F ⟨rfl,h⟩
 have B:=ac h
 clear h A
 go_wp2
 exact bodyPost_ret (v:=.tuple #[.int .u64 9221120237041090560,.int .u8 0]) (by simp[results,Tryz.results271,go_sem]) rfl ⟨rfl,uH B⟩
theorem Gn(a:Nat)(k:Int)(w:World)(G:(k==0)=false)(H:k≠4)(I:((a:Int)==9218868437227405312)=false)
  (z:∀h,Calls Tryz.prog 164 #[.int .u64 a] h fun r u=>r=.returned (.int .i64 k)∧Below h.heap.size h u)
  (A:∀h,Calls Tryz.prog 161 #[.int .u64 a] h fun r u=>r=.returned (.bool true)∧Below h.heap.size h u):
  Calls Tryz.prog 271 #[.int .u64 a] w fun r h=>r=.returned (.tuple #[.int .u64 9221120237041090560,.int .u8 16])∧Below w.heap.size w h:=by
 have D:=ac z
 clear z
 go_enter Tryz.func271,Tryz.ntmps271
 go_wp2_with fail
 refine(uH D _).mono ?_
 rintro e J ⟨rfl,d⟩
 have B:=ac d
 clear d D
 have F:=ac A
 clear A
 go_wp2_with fail
 refine(uH F _).mono ?_
 rintro e K ⟨rfl,d⟩
 have B:=ac ((uH B).trans (d.mono (uH B).size))
 clear d F
 go_wp2
 exact bodyPost_ret (v:=.tuple #[.int .u64 9221120237041090560,.int .u8 16]) (by simp[results,Tryz.results271,go_sem]) rfl ⟨rfl,uH B⟩
theorem Gp(a:Nat)(k z:Int)(o:Nat)(w:World)(L:(k==0)=false)(N:k≠4)(O:((a:Int)==9218868437227405312)=false)(A:cq w)
  (D:∀h,Calls Tryz.prog 164 #[.int .u64 a] h fun r u=>r=.returned (.int .i64 k)∧Below h.heap.size h u)
  (F:∀h,Calls Tryz.prog 161 #[.int .u64 a] h fun r u=>r=.returned (.bool false)∧Below h.heap.size h u)
  (G:∀h,cq h→Calls Tryz.prog 286 #[.int .u64 a] h fun r u=>r=.returned (.tuple #[.int .u64 (o:Nat),.int .u8 z])∧Below h.heap.size h u):
  Calls Tryz.prog 271 #[.int .u64 a] w fun r h=>r=.returned (.tuple #[.int .u64 (o:Nat),.int .u8 z])∧Below w.heap.size w h:=by
 have H:=ac D
 clear D
 go_enter Tryz.func271,Tryz.ntmps271
 go_wp2_with fail
 refine(uH H _).mono ?_
 rintro e Q ⟨rfl,d⟩
 have B:=ac d
 clear d H
 have I:=ac F
 clear F
 go_wp2_with fail
 refine(uH I _).mono ?_
 rintro e U ⟨rfl,d⟩
 have B:=ac ((uH B).trans (d.mono (uH B).size))
 clear d I
 have J:=ac G;have K:=ac (A.all (uH B))
 clear G A
 go_wp2_with fail
 refine(uH J _ (uH K)).mono ?_
 rintro e X ⟨rfl,d⟩
 have B:=ac ((uH B).trans (d.mono (uH B).size))
 clear d J K
 go_wp2
 exact bodyPost_ret (v:=.tuple #[.int .u64 (o:Nat),.int .u8 z]) (by simp[results,Tryz.results271,go_sem]) rfl ⟨rfl,uH B⟩
theorem qC(a:Nat)(w:World)(F:a<18446744073709551616)(I:cq w):
  Calls Tryz.prog 271 #[.int .u64 a] w fun r z=>r=.returned (.tuple #[.int .u64 (sV a:Nat),.int .u8 (sF a)])∧Below w.heap.size w z:=by
 have A:=fun z=>cY a z F
 have G:=fun z=>eC a z F
 by_cases d:fK a=4
 ·rw[show sV a=9221120237041090560 by unfold sV;rw[if_pos d],show sF a=0 by unfold sF;rw[if_pos d]]
  rw[d]at A
  have u:a≠9218868437227405312:=fun h=>by rw[h]at d;revert d;decide
  exact Gm a w (by simp;omega) A
 by_cases D:fK a=0
 ·rw[show sV a=a by unfold sV;rw[if_neg d,if_pos (Or.inl D)],show sF a=0 by unfold sF;rw[if_neg d,if_pos (Or.inl D)]]
  rw[D]at A
  exact Gk a w A
 by_cases H:a=9218868437227405312
 ·rw[show sV a=a by unfold sV;rw[if_neg d,if_pos (Or.inr H)],show sF a=0 by unfold sF;rw[if_neg d,if_pos (Or.inr H)]]
  exact Gl a _ w (by simp[D]) (by simp;omega) A
 have u:¬(fK a=0∨a=9218868437227405312):=by omega
 cases hs:fS a
 ·rw[show sV a=tV a by unfold sV;rw[if_neg d,if_neg u,if_neg (by rw[hs];decide)],show sF a=tF a by unfold sF;rw[if_neg d,if_neg u,if_neg (by rw[hs];decide)]]
  rw[hs]at G
  have J:fK a≠3:=fun h=>H (by
   have:=Hw a F
   rw[hs,bN]at this
   have K:=((cf a).2.1.1 h)
   omega)
  exact Gp a _ _ _ w (by simp[D]) d (by simp;omega) I A G (fun z t=>oW a z F (et a J d) D hs t)
 ·rw[show sV a=9221120237041090560 by unfold sV;rw[if_neg d,if_neg u,if_pos hs],show sF a=16 by unfold sF;rw[if_neg d,if_neg u,if_pos hs]]
  rw[hs]at G
  exact Gn a _ w (by simp[D]) d (by simp;omega) A G
def al(w:World)(ao:Option Addr)(cap:Nat)(I:List Int):Prop:=
 I.length≤cap∧(∀x∈I,0≤x∧x≤18446744073709551615)∧(I= []∨∃b off,ao=some ⟨b,off,none⟩∧b<w.heap.size∧∀i,i<I.length→w.cell? ⟨b,off+i,none⟩=some (.int .u64 (I[i]?.getD 0)))
theorem al.below{w z:World}{A:Option Addr}{d:Nat}{I:List Int}(h:al w A d I)(D:Below w.heap.size w z):al z A d I:=by
 refine⟨h.1,h.2.1,?_⟩
 rcases h.2.2 with h|⟨b,u,H,F,J⟩
 ·exact .inl h
 ·refine .inr ⟨b,u,H,Nat.lt_of_lt_of_le F D.size,fun i G=>?_⟩
  rw[D.cell (p:=⟨b,u+i,none⟩) F]
  exact J i G
def bH(I:List Int)(j:Nat):Nat:=(I[j]?.getD 0).toNat
theorem al.wf{w:World}{z:Option Addr}{d:Nat}{I:List Int}(h:al w z d I)(j:Nat):I[j]?.getD 0=(bH I j:Int)∧bH I j<18446744073709551616:=by
 unfold bH
 by_cases u:j<I.length
 ·have:=h.2.1 _ (List.getElem_mem u)
  rw[List.getElem?_eq_getElem u]
  simp only[Option.getD_some]
  omega
 ·rw[List.getElem?_eq_none (by omega)];simp
theorem al.ne{w:World}{z:Option Addr}{u:Nat}{I:List Int}(h:al w z u I)(A:0<I.length):∃b d,z=some ⟨b,d,none⟩∧b<w.heap.size∧∀i,i<I.length→w.cell? ⟨b,d+i,none⟩=some (.int .u64 (bH I i:Int)):=by
 rcases h.2.2 with e|⟨b,d,F,G,H⟩
 ·rw[e]at A;simp at A
 ·exact⟨b,d,F,G,fun i D=>by rw[H i D,(h.wf i).1]⟩
theorem jB(a b:Nat)(w:World)(h:a<18446744073709551616)(u:b<18446744073709551616)(z:cq w):
  Calls Tryz.prog 217 #[.int .u64 a,.int .u64 b] w fun r A=>r=.returned (.int .u64 (aV a b:Nat))∧Below w.heap.size w A:=by
 have K:=ac (t8 a b w h u z)
 clear h u z
 generalize aV a b=o at*
 generalize aF a b=f at*
 go_enter Tryz.func217,Tryz.ntmps217
 go_wp2_with fail
 refine Calls.mono (uH K) ?_
 rintro e D ⟨rfl,d⟩
 clear K
 go_wp2
 go_ret
 exact⟨rfl,d⟩
theorem fi(a b:Nat)(w:World)(h:a<18446744073709551616)(u:b<18446744073709551616)(z:cq w):
  Calls Tryz.prog 203 #[.int .u64 a,.int .u64 b] w fun r A=>r=.returned (.int .u64 (mV a b:Nat))∧Below w.heap.size w A:=by
 have K:=ac (Cy a b w h u z)
 clear h u z
 generalize mV a b=o at*
 generalize mF a b=f at*
 go_enter Tryz.func203,Tryz.ntmps203
 go_wp2_with fail
 refine Calls.mono (uH K) ?_
 rintro e D ⟨rfl,d⟩
 clear K
 go_wp2
 go_ret
 exact⟨rfl,d⟩
theorem gN(a:Nat)(n:Int)(w:World)(h:a<18446744073709551616)(u:cq w):
  Calls Tryz.prog 97 #[.int .u64 a,.int .i64 n] w fun r z=>r=.returned (.int .u64 (xV a n:Nat))∧Below w.heap.size w z:=by
 have K:=ac (vY a n w h u)
 clear h u
 generalize xV a n=o at*
 generalize xF a n=f at*
 go_enter Tryz.func97,Tryz.ntmps97
 go_wp2_with fail
 refine Calls.mono (uH K) ?_
 rintro e A ⟨rfl,d⟩
 clear K
 go_wp2
 go_ret
 exact⟨rfl,d⟩
theorem Db(D F:Option Addr)(n m c d:Nat)(w:World):
  Calls Tryz.prog 184 #[.slice D n c,.slice F m d] w fun r G=>r=.returned (.bool (decide (n≤64∧n=m)))∧w=G:=by
 by_cases A:n≤64
 ·have u:(n:Int)≤64:=by omega
  by_cases z:n=m
  ·rw[decide_eq_true (And.intro A z)]
   subst z
   go_enter Tryz.func184,Tryz.ntmps184
   go_wp2
   go_ret
   exact⟨rfl,rfl⟩
  ·rw[decide_eq_false (fun h=>z h.2)]
   have H:decide ((n:Int)=(m:Int))=false:=decide_eq_false (by omega)
   go_enter Tryz.func184,Tryz.ntmps184
   go_wp2
   go_ret
   exact⟨by simp;omega,rfl⟩
 ·rw[decide_eq_false (fun h=>A h.1)]
  have u:(64:Int)<(n:Int):=by omega
  go_enter Tryz.func184,Tryz.ntmps184
  go_wp2
  go_ret
  exact⟨by simp,rfl⟩
end Go.Proofs.YtcbcmlaogehimaaGreatDoor
