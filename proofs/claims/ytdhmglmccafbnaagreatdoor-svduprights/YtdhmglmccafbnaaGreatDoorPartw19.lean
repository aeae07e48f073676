/- Part 19 of the texts. -/
import Derived.Test.YtdhmglmccafbnaaGreatDoorPartw18
set_option maxHeartbeats 8000000
set_option maxRecDepth 20000
namespace Go.Proofs.YtdhmglmccafbnaaGreatDoor
open Go.RowKit
def ev(w:World)(b:Nat)(x y:Value):Prop:=w.heap[b]? =some (.cells #[x,y] 272 (0,0))
theorem ev.c0{w:World}{b:Nat}{x y:Value}(h:ev w b x y):w.cell? ⟨b,0,none⟩=some x:=by rw[cell_of_row w b 0 _ _ _ h];rfl
theorem ev.c1{w:World}{b:Nat}{x y:Value}(h:ev w b x y):w.cell? ⟨b,1,none⟩=some y:=by rw[cell_of_row w b 1 _ _ _ h];rfl
theorem ev.free{w:World}{b:Nat}{x y:Value}(h:ev w b x y)(j:Nat):w.frozen? ⟨b,j,none⟩=false:=frozen_of_row w b j _ _ h
theorem ev.lt{w:World}{b:Nat}{x y:Value}(h:ev w b x y):b<w.heap.size:=(Array.getElem?_eq_some_iff.1 h).1
theorem ev.all{w w':World}{b:Nat}{x y:Value}(h:ev w b x y)(d:Below w.heap.size w w'):ev w' b x y:=(d.block b h.lt).trans h
theorem ev.new(w:World)(x y:Value):ev (w.alloc (.cells #[x,y] 272)) w.heap.size x y:=heap_alloc_new w _
theorem Ee(s p:Nat)(d:s<144115188075855872)(f:p<4):bits BinOp.or IntKind.u64 ((s:Int)*4) (p:Int)=((4*s+p:Nat):Int):=by
 have e:(s:Int)*4=((s*2^2:Nat):Int):=by omega
 rw[e,u64_or_nat (s*2^2) p (by omega) (by omega),Nat.or_comm,jY p s 2 (by omega)]
 congr 1
 omega
theorem AK(x:Nat)(h:x<144115188075855872):bits BinOp.or IntKind.u64 ((x:Int)*2) 1=((2*x+1:Nat):Int):=by
 have e:(x:Int)*2=((x*2^1:Nat):Int):=by omega
 rw[e]
 refine(u64_or_nat (x*2^1) 1 (by omega) (by omega)).trans ?_
 rw[Nat.or_comm,jY 1 x 1 (by omega)]
 congr 1
 omega
theorem ev.put{w:World}{b:Nat}{x y:Value}(h:ev w b x y)(u d:Value):ev ((w.setCell ⟨b,0,none⟩ u).setCell ⟨b,1,none⟩ d) b u d:=by
 have f:=heap_setCell_same w b 0 _ _ u h
 have l:=heap_setCell_same (w.setCell ⟨b,0,none⟩ u) b 1 _ _ d f
 unfold ev
 rw[l]
 simp
theorem ev.oth{w:World}{b g:Nat}{x y:Value}(h:ev w b x y)(d:b≠g)(u f:Value):ev ((w.setCell ⟨g,0,none⟩ u).setCell ⟨g,1,none⟩ f) b x y:=
 (Below.heap_setCell _ ⟨g,1,none⟩ f b d).trans ((Below.heap_setCell w ⟨g,0,none⟩ u b d).trans h)
theorem jI{B g:Nat}{a w:World}(h:Below B a w)(d:B≤g)(u f:Value):Below B a ((w.setCell ⟨g,0,none⟩ u).setCell ⟨g,1,none⟩ f):=(h.setCell d u).setCell d f
theorem Ef(r s p x y z:Nat)(w:World)(u:r<18014398509481984)(D:s≤2*r)(f:(x:Int)<(y:Int))
  (F:bits BinOp.or IntKind.u64 ((s:Int)*4) (p:Int)=(x:Int)) (G:bits BinOp.or IntKind.u64 ((r:Int)*2*2) 1=(y:Int)) (d:(r:Int)*2=(z:Int)):
  Calls Tryz.prog 313 #[.agg #[.int .u64 r,.int .u64 s],.int .u64 p] w fun e w'=>e=.returned (.agg #[.int .u64 (z:Nat),.int .u64 (x:Nat)])∧Below w.heap.size w w':=by
 have h:=decide_eq_true f
 have l:=aa d
 clear d
 go_enter Tryz.func313,Tryz.ntmps313
 go_wp2
 go_quiet (fail)
 go_wp2
 rw[uH l]
 refine bodyPost_ret (v:=.agg #[.int .u64 (z:Nat),.int .u64 (x:Nat)]) (by simp[results,Tryz.results313,go_sem]) rfl ⟨rfl,?_⟩
 exact(((below_drewN (((Below.refl _ _).alloc (Nat.le_refl _) _).alloc (by simp) _) _).setCell (by simp) _).setCell (by simp) _)
theorem Eg(r s p x y z d:Nat)(w:World)(D:r<18014398509481984)(F:s≤2*r)(h:¬(x:Int)<(y:Int))(f:(x:Int)-(y:Int)=(d:Int))
  (G:bits BinOp.or IntKind.u64 ((s:Int)*4) (p:Int)=(x:Int)) (H:bits BinOp.or IntKind.u64 ((r:Int)*2*2) 1=(y:Int)) (J:bits BinOp.or IntKind.u64 ((r:Int)*2) 1=(z:Int)) (K:x<18446744073709551616):
  Calls Tryz.prog 313 #[.agg #[.int .u64 r,.int .u64 s],.int .u64 p] w fun e w'=>e=.returned (.agg #[.int .u64 (z:Nat),.int .u64 (d:Nat)])∧Below w.heap.size w w':=by
 have l:=decide_eq_false h
 have u:=aa f
 clear f
 go_enter Tryz.func313,Tryz.ntmps313
 go_wp2
 go_quiet (fail)
 go_wp2
 rw[uH u]
 refine bodyPost_ret (v:=.agg #[.int .u64 (z:Nat),.int .u64 (d:Nat)]) (by simp[results,Tryz.results313,go_sem]) rfl ⟨rfl,?_⟩
 exact(((below_drewN (((Below.refl _ _).alloc (Nat.le_refl _) _).alloc (by simp) _) _).setCell (by simp) _).setCell (by simp) _)
theorem sW(n:Nat)(P R S:Nat→Nat)(w:World)(h0:R 0=0∧S 0=0)
  (C:∀i,i<32→∀w',Calls Tryz.prog 313 #[.agg #[.int .u64 (R i:Nat),.int .u64 (S i:Nat)],.int .u64 (P i:Nat)] w' fun e M=>e=.returned (.agg #[.int .u64 (R (i+1):Nat),.int .u64 (S (i+1):Nat)])∧Below w'.heap.size w' M)
  (hP:∀i,i<32→bits .and .u64 ((n:Int)/2^(2*(31-i))) 3=(P i:Int)):
  Calls Tryz.prog 312 #[.int .u64 n] w fun e w'=>e=.returned (.agg #[.int .u64 (R 32:Nat),.int .u64 (S 32:Nat)])∧Below w.heap.size w w':=by
 have N:=aa h0;have O:=aa C;have Q:=aa hP
 clear h0 C hP
 go_enter Tryz.func312,Tryz.ntmps312
 go_wp2
 go_loopw[6] (fun i wr=>∃k:Nat,k≤32∧i=.int .i64 k∧Hid (ev wr w.heap.size (.int .u64 0) (.int .u64 0))∧Hid (ev wr (w.heap.size+1) (.int .u64 (R k:Nat)) (.int .u64 (S k:Nat)))∧Hid (Below w.heap.size w wr)) (fun i _=>32-(intOf i).toNat)
 case atStart=>
  have h:=uH N
  refine⟨0,by omega,rfl,aa ?_,aa ?_,aa (((Below.refl _ _).alloc (Nat.le_refl _) _).alloc (by simp) _)⟩
  ·exact(ev.new w (.int .u64 0) (.int .u64 0)).all ((Below.refl _ _).alloc (Nat.le_refl _) _)
  ·rw[h.1,h.2]
   have:=ev.new (w.alloc (.cells #[.int .u64 0,.int .u64 0] 272)) (.int .u64 0) (.int .u64 0)
   simpa using this
 case round=>
  obtain⟨k,hk,rfl,G,u,hb⟩:=hrel
  by_cases H:k<32
  ·have K1:=aa (uH O k H)
   have hp:=uH Q k H
   have K:=(uH u).c0;have L:=(uH u).c1;have U:=(uH u).free 0;have V:=(uH u).free 1
   have b0:(0:Int)≤(k:Int):=by omega
   have b1:(k:Int)<32:=by omega
   obtain⟨d,Y⟩:∃d:Nat,d=2*(31-k):=⟨_,rfl⟩
   have e1:IntKind.i64.wrap (31-(k:Int))=((31-k:Nat):Int):=by rw[aW _ (by omega)];omega
   have e2:IntKind.i64.wrap (2*((31-k:Nat):Int))=(d:Int):=by rw[aW _ (by omega)];omega
   have d0:d≤63:=by omega
   rw[←Y]at hp
   have HD:=aa Y
   clear O Q N Y
   generalize 31-k=c at*
   generalize R k=r at*
   generalize S k=s at*
   generalize P k=p at*
   obtain⟨r1,D⟩:∃x,x=R (k+1):=⟨_,rfl⟩
   obtain⟨s1,F⟩:∃x,x=S (k+1):=⟨_,rfl⟩
   rw[←D,←F]at K1
   have NR:=aa D.symm;have NS:=aa F.symm
   clear D F
   go_wp2_with fail
   have xd:ev wr.drew w.heap.size (.int .u64 0) (.int .u64 0):=uH G
   have yd:ev wr.drew (w.heap.size+1) (.int .u64 (r:Nat)) (.int .u64 (s:Nat)):=uH u
   have J:Below w.heap.size w wr.drew:=(uH hb).drew
   have XD:=aa xd;have YD:=aa yd;have BD:=aa J
   clear xd yd J
   go_region_with (go_at_call 313;refine(uH K1 _).mono ?_;rintro e w1 ⟨rfl,f⟩;have l:=(uH YD).all f;have B1:=aa ((uH BD).trans (f.mono (uH BD).size));have X1:=aa ((uH XD).all f);clear f K L U V;have K:=l.c0;have L:=l.c1;have U:=l.free 0;have V:=l.free 1;have YB:=aa l;clear l)
   go_wp2
   go_roundw
   case rel=>
    refine⟨k+1,by omega,by go_num,aa ?_,aa ?_,aa ?_⟩
    ·exact(uH X1).oth (by omega) _ _
    ·rw[uH NR,uH NS]
     exact(uH YB).put _ _
    ·exact jI (uH B1) (by omega) _ _
   case measure=>simp[intOf];omega
  ·have X:k=32:=by omega
   subst X
   have K:=(uH u).c0;have L:=(uH u).c1
   have x0:=(uH G).c0;have l:=(uH G).c1;have U:=(uH G).free 0;have V:=(uH G).free 1
   clear O Q N
   obtain⟨r,Z⟩:∃x,x=R 32:=⟨_,rfl⟩
   obtain⟨s,hs⟩:∃x,x=S 32:=⟨_,rfl⟩
   rw[←Z]at K
   rw[←hs]at L
   have HR:=aa Z;have HS:=aa hs
   clear Z hs
   go_wp2
   refine bodyPost_ret (v:=.agg #[.int .u64 (r:Nat),.int .u64 (s:Nat)]) ?_ rfl ⟨by rw[uH HR,uH HS],jI (uH hb) (Nat.le_refl _) _ _⟩
   have z:=(uH G).put (.int .u64 (r:Nat)) (.int .u64 (s:Nat))
   have z0:=z.c0;have z1:=z.c1
   simp[results,Tryz.results312,go_sem,z0,z1]
theorem ml(n X:Nat)(R S:Nat→Nat)(w:World)
  (Q:∀w',Calls Tryz.prog 312 #[.int .u64 n] w' fun e f=>e=.returned (.agg #[.int .u64 (R 0:Nat),.int .u64 (S 0:Nat)])∧Below w'.heap.size w' f)
  (U:∀i,i<22→∀w',Calls Tryz.prog 313 #[.agg #[.int .u64 (R i:Nat),.int .u64 (S i:Nat)],.int .u64 0] w' fun e f=>e=.returned (.agg #[.int .u64 (R (i+1):Nat),.int .u64 (S (i+1):Nat)])∧Below w'.heap.size w' f)
  (V:R 22<18014398509481984) (Y:X=2*R 22+(if S 22=0 then 0 else 1)):
  Calls Tryz.prog 309 #[.int .u64 n] w fun e w'=>e=.returned (.int .i64 (X:Nat))∧Below w.heap.size w w':=by
 have Z:=aa Q;have H:=aa U;have F:=aa Y;have J:=aa V
 clear Q U Y V
 go_enter Tryz.func309,Tryz.ntmps309
 go_wp2_with fail
 refine(uH Z _).mono ?_
 rintro e w1 ⟨rfl,d⟩
 have x:=aa (ev.new w1 (.int .u64 (R 0:Nat)) (.int .u64 (S 0:Nat)))
 have B1:=aa (d.trans (((Below.refl _ _).alloc (Nat.le_refl _) (.cells #[.int .u64 (R 0:Nat),.int .u64 (S 0:Nat)] 272)).mono d.size))
 have hg:=d.size
 clear Z d
 go_wp2
 go_loopw[7] (fun i wr=>∃k:Nat,k≤22∧i=.int .i64 k∧Hid (ev wr w1.heap.size (.int .u64 (R k:Nat)) (.int .u64 (S k:Nat)))∧Hid (Below w.heap.size w wr)) (fun i _=>22-(intOf i).toNat)
 case atStart=>exact⟨0,by omega,rfl,x,B1⟩
 case round=>
  obtain⟨k,hk,rfl,D,G⟩:=hrel
  clear x B1
  by_cases K:k<22
  ·have C:=aa (uH H k K)
   have L:=(uH D).c0;have N:=(uH D).c1
   have b0:(0:Int)≤(k:Int):=by omega
   have b1:(k:Int)<22:=by omega
   obtain⟨r1,h⟩:∃x,x=R (k+1):=⟨_,rfl⟩
   obtain⟨s1,l⟩:∃x,x=S (k+1):=⟨_,rfl⟩
   rw[←h,←l]at C
   have NR:=aa h.symm;have NS:=aa l.symm
   clear H F J h l
   generalize R k=r at*
   generalize S k=s at*
   go_wp2_with fail
   refine(uH C _).mono ?_
   rintro e w2 ⟨rfl,u⟩
   have z:=(uH D).all u
   have B2:=aa ((uH G).trans (u.mono (uH G).size))
   clear u L N D G C
   have L:=z.c0;have N:=z.c1;have f0:=z.free 0;have f1:=z.free 1
   have YB:=aa z
   clear z
   go_wp2
   go_roundw
   case rel=>
    refine⟨k+1,by omega,by go_num,aa ?_,aa (jI (uH B2) (by omega) _ _)⟩
    rw[uH NR,uH NS]
    exact(uH YB).put _ _
   case measure=>simp[intOf];omega
  ·have O:k=22:=by omega
   subst O
   have L:=(uH D).c0;have N:=(uH D).c1
   have r0:=uH J
   clear H J
   generalize R 22=r at*
   generalize S 22=s at*
   by_cases c:0<s
   ·have M:=aa (show X=2*r+1 by rw[uH F,if_neg (by omega)])
    have c':(s:Int)>0:=by omega
    clear F
    go_wp2
    go_ret
    exact⟨aH (by rw[uH M];omega),uH G⟩
   ·have M:=aa (show X=2*r by rw[uH F,if_pos (by omega)];rfl)
    have c':¬(s:Int)>0:=by omega
    clear F
    go_wp2
    go_ret
    exact⟨aH (by rw[uH M];omega),uH G⟩
theorem pQ(N p:Nat)(w:World)(h:p<4)(l:aT N<18014398509481984):
  Calls Tryz.prog 313 #[.agg #[.int .u64 (aT N:Nat),.int .u64 (cZ N:Nat)],.int .u64 (p:Nat)] w fun e w'=>e=.returned (.agg #[.int .u64 (aT (4*N+p):Nat),.int .u64 (cZ (4*N+p):Nat)])∧Below w.heap.size w w':=by
 obtain⟨D,F⟩:=Ii N p h
 have u:=Ay N
 have z:=Ee (cZ N) p (by omega) h
 have f:=AK (2*aT N) (by omega)
 have G:=AK (aT N) (by omega)
 rw[show((2*aT N:Nat):Int)=(aT N:Int)*2 by omega]at f
 by_cases d:4*cZ N+p<4*aT N+1
 ·rw[(D d).1,(D d).2]
  exact Ef (aT N) (cZ N) p (4*cZ N+p) (2*(2*aT N)+1) (2*aT N) w l u (by omega) z f (by omega)
 ·rw[(F d).1,(F d).2]
  exact Eg (aT N) (cZ N) p (4*cZ N+p) (2*(2*aT N)+1) (2*aT N+1) (4*cZ N+p-(4*aT N+1)) w l u (by omega) (by omega) z f G (by omega)
theorem xW(x:Nat)(h:x<18446744073709551616):bits .and .u64 (x:Int) 3=((x%4:Nat):Int):=by
 have d:=bits_and_u64_nat x 3 h (by decide)
 refine d.trans ?_
 have:x&&& 3=x%4:=by
  have:=Nat.and_two_pow_sub_one_eq_mod x 2
  simpa using this
 rw[this]
theorem uL(n:Nat)(w:World)(d:n<18446744073709551616):
  Calls Tryz.prog 312 #[.int .u64 n] w fun e w'=>e=.returned (.agg #[.int .u64 (aT n:Nat),.int .u64 (cZ n:Nat)])∧Below w.heap.size w w':=by
 have h:=sW n (fun i=>n/2^(2*(31-i))%4) (fun i=>aT (li n i)) (fun i=>cZ (li n i)) w ?_ ?_ ?_
 ·rw[AH]at h
  exact h
 ·rw[xQ n d]
  exact⟨rfl,rfl⟩
 ·intro i f w'
  have:=pQ (li n i) (n/2^(2*(31-i))%4) w' (by omega) (by have:=AJ n i d;omega)
  rw[←xT n i f]at this
  exact this
 ·intro i f
  have e:(n:Int)/2^(2*(31-i))=((n/2^(2*(31-i)):Nat):Int):=by simp
  rw[e]
  exact xW _ (Nat.lt_of_le_of_lt (Nat.div_le_self _ _) d)
theorem nV(n:Nat)(w:World)(d:n<18446744073709551616):
  Calls Tryz.prog 309 #[.int .u64 n] w fun e w'=>e=.returned (.int .i64 (rS (n*4^22):Nat))∧Below w.heap.size w w':=by
 refine ml n _ (fun i=>aT (n*4^i)) (fun i=>cZ (n*4^i)) w ?_ ?_ (nU n 22 d (by decide)) ?_
 ·intro w'
  have:=uL n w' d
  show Calls Tryz.prog 312 #[.int .u64 n] w' fun e f=>e=.returned (.agg #[.int .u64 (aT (n*4^0):Nat),.int .u64 (cZ (n*4^0):Nat)])∧Below w'.heap.size w' f
  rw[Nat.pow_zero,Nat.mul_one]
  exact this
 ·intro i l w'
  have:=pQ (n*4^i) 0 w' (by decide) (nU n i d (by omega))
  rw[←xU]at this
  exact this
 ·unfold rS
  have:=uK (n*4^22)
  by_cases h:aT (n*4^22)*aT (n*4^22)=n*4^22
  ·rw[if_pos h,if_pos (this.2 h)]
  ·rw[if_neg h,if_neg (fun e=>h (this.1 e))]
theorem AL(n:Int):bits .and .i64 n 1=n%2:=by
 have f:(BitVec.ofInt 64 1).toNat=2^1-1:=by decide
 have d:(BitVec.ofInt 64 n&&& BitVec.ofInt 64 1).toNat=(n%((2^64:Nat):Int)).toNat%2^1:=by
  rw[BitVec.toNat_and,BitVec.toNat_ofInt,f,Nat.and_two_pow_sub_one_eq_mod]
 show IntKind.i64.wrap ((BitVec.ofInt 64 n&&& BitVec.ofInt 64 1).toNat:Nat)=n%2
 rw[d,IntKind.wrap_i64]
 omega
theorem uM(b m G H d o:Nat)(z1 z J:Int)(w:World)(ao:G≤53)(ap:H≤1)(hm:m<9007199254740992)(ht:-3000≤J∧J≤3000)
  (h1:bits .and .i64 J 1=(H:Int)) (hd:d+G+H=64) (ho:IntKind.u64.wrap ((m:Int)*2^d)=(o:Int))
  (C1:∀w',Below w.heap.size w w'→Calls Tryz.prog 207 #[.int .u64 b] w' fun r u=>mi u r 0 z1 z∧Below w'.heap.size w' u)
  (C2:∀w' n a l c,aC w' (.agg #[.bool n,.slice a l c,.int .i64 z]) z1 z→Calls Tryz.prog 299 #[.agg #[.bool n,.slice a l c]] w' fun r u=>r=.returned (.tuple #[.int .i64 (m:Nat),.int .i64 0])∧Below w'.heap.size w' u)
  (C3:∀w' n a l c,aC w' (.agg #[.bool n,.slice a l c,.int .i64 z]) z1 z→Calls Tryz.prog 208 #[.agg #[.bool n,.slice a l c,.int .i64 z]] w' fun r u=>r=.returned (.int .i64 J)∧Below w'.heap.size w' u)
  (C4:∀w' n a l c,aC w' (.agg #[.bool n,.slice a l c,.int .i64 z]) z1 z→Calls Tryz.prog 238 #[.agg #[.bool n,.slice a l c]] w' fun r u=>r=.returned (.int .i64 (G:Nat))∧Below w'.heap.size w' u):
  Calls Tryz.prog 308 #[.int .u64 b] w fun r w'=>r=.returned (.tuple #[.int .u64 (o:Nat),.int .i64 (J+(H:Int))])∧Below w.heap.size w w':=by
 have K1:=aa C1;have K2:=aa C2;have K3:=aa C3;have K4:=aa C4
 clear C1 C2 C3 C4
 have e1:IntKind.i64.wrap (64-(G:Int))=((64-G:Nat):Int):=by rw[aW _ (by omega)];omega
 have e2:IntKind.i64.wrap (((64-G:Nat):Int)-(H:Int))=(d:Int):=by rw[aW _ (by omega)];omega
 have e3:=aW (J+(H:Int)) (by omega)
 have d0:d≤64:=by omega
 have e0:IntKind.u64.wrap (m:Int)=(m:Int):=by
  show(m:Int)%18446744073709551616=_
  omega
 clear hd
 generalize 64-G=c0 at*
 go_enter Tryz.func308,Tryz.ntmps308
 go_wp2_with fail
 refine(uH K1 _ (Below.refl _ _)).mono ?_
 rintro e O ⟨⟨v,rfl,hv⟩,f⟩
 obtain⟨L,M,N,V,rfl,i1⟩:=hv
 have F:Below O.heap.size O (O.alloc (.cells #[.bool L,.slice M V.length N,.int .i64 z] 41)):=(Below.refl _ _).alloc (Nat.le_refl _) _
 have Z:=aa ((show aC O (.agg #[.bool L,.slice M V.length N,.int .i64 z]) z1 z from⟨L,M,N,V,rfl,i1⟩).below F)
 have x:=ay.new O (.bool L) (.slice M V.length N) (.int .i64 z)
 have B1:=aa (f.trans (F.mono f.size))
 have y0:=x.c0;have y1:=x.c1;have y2:=x.c2
 have X:=aa x
 clear i1 f F K1 x
 generalize V.length=l1 at*
 go_wp2_with fail
 refine(uH K2 _ _ _ _ _ (uH Z)).mono ?_
 rintro e w2 ⟨rfl,f⟩
 have Q:=aa ((uH X).all f);have K:=aa ((uH Z).below f)
 have B2:=aa ((uH B1).trans (f.mono (uH B1).size))
 clear f y0 y1 y2 Z B1 X K2
 have y0:=(uH Q).c0;have y1:=(uH Q).c1;have y2:=(uH Q).c2
 go_wp2_with fail
 refine(uH K3 _ _ _ _ _ (uH K)).mono ?_
 rintro e D ⟨rfl,f⟩
 have Y:=(uH Q).all f;have U:=aa ((uH K).below f)
 have B3:=aa ((uH B2).trans (f.mono (uH B2).size))
 clear f y0 y1 y2 K B2 Q
 generalize O.heap.size=g at*
 have hK:∀w',Below D.heap.size D w'→Below D.heap.size D w'∧w'.cell? ⟨g,0,none⟩=some (.bool L)∧w'.cell? ⟨g,1,none⟩=some (.slice M l1 N)∧w'.cell? ⟨g,2,none⟩=some (.int .i64 z):=fun w' h=>⟨h,(Y.all h).c0,(Y.all h).c1,(Y.all h).c2⟩
 have HK:=aa hK
 clear hK Y
 go_wp2_with fail
 go_region_held3(fun w'=>Below D.heap.size D w'∧w'.cell? ⟨g,0,none⟩=some (.bool L)∧w'.cell? ⟨g,1,none⟩=some (.slice M l1 N)∧w'.cell? ⟨g,2,none⟩=some (.int .i64 z))
  (first|exact uH HK _ (Below.refl _ _).drew|exact uH HK _ (by assumption)|fail "NO KEEP")
  (first|(go_at_call 238;refine(uH K4 _ _ _ _ _ ((uH U).below (And.left (by assumption)))).mono ?_;rintro e ae ⟨rfl,f⟩;have ax:Below D.heap.size D ae:=Below.trans (And.left (by assumption)) (f.mono (Below.size (And.left (by assumption))));clear f)|(go_at_call 208;refine(uH K3 _ _ _ _ _ ((uH U).below (And.left (by assumption)))).mono ?_;rintro e am ⟨rfl,f⟩;have aI:Below D.heap.size D am:=Below.trans (And.left (by assumption)) (f.mono (Below.size (And.left (by assumption))));clear f)|fail "NO ARM")
 have hW:Below D.heap.size D _:=And.left (by assumption)
 have B4:=aa ((uH B3).trans (hW.mono (uH B3).size))
 clear hW
 go_wp2
 exact bodyPost_ret (v:=.tuple #[.int .u64 (o:Nat),.int .i64 (J+(H:Int))]) (by simp[results,Tryz.results308,go_sem]) rfl ⟨rfl,uH B4⟩
theorem GG(b:Nat)(h:b<18446744073709551616)(l:aA b=true)(u:fK b≠0)(z:fS b=false):0≤fD b:=by
 have d:=(uC b u).2
 rw[z]at d
 have f:=jf (fZ b)
 rw[(dC b h l).1,d]at f
 have:=of_decide_eq_false f
 omega
theorem xX(b:Nat)(w:World)(f:b<18446744073709551616)(u:aA b=true)(z:fK b≠0)(M:fS b=false)(N:bT w):
  Calls Tryz.prog 308 #[.int .u64 b] w fun r w'=>r=.returned (.tuple #[.int .u64 (nS b:Nat),.int .i64 (nT b)])∧Below w.heap.size w w':=by
 obtain⟨U,Z,x3,x4,x5,x6,x7,V⟩:=cw b f u z
 obtain⟨n1,n2⟩:=iQ b f u z
 have J:(fD b).natAbs<dt:=cS _ (by omega)
 have O:fD b=((fD b).natAbs:Int):=by have:=GG b f u z M;omega
 have Q:dT b=(bl (fD b).natAbs:Int)+fX b:=rfl
 have D:(((dT b%2).toNat:Nat):Int)=dT b%2:=by omega
 have F:nT b=dT b+(((dT b%2).toNat:Nat):Int):=by unfold nT;omega
 rw[F]
 refine uM b (fD b).natAbs (bl (fD b).natAbs) (dT b%2).toNat (64-bl (fD b).natAbs-(dT b%2).toNat) (nS b) (fD b) (fX b) (dT b) w U (by omega) V (by omega) (by rw[AL,D]) (by omega) ?_ (fun w' h=>df b w' f u (N.all h)) ?_ ?_ ?_
 ·have e:(((fD b).natAbs:Nat):Int)*2^(64-bl (fD b).natAbs-(dT b%2).toNat)=((nS b:Nat):Int):=by unfold nS;rw[Int.natCast_mul,Int.natCast_pow];rfl
  rw[e]
  show((nS b:Nat):Int)%18446744073709551616=_
  omega
 ·intro w' n a l c h
  rw[←O]
  obtain⟨n',a',c',L',K,X⟩:=h
  simp only[Value.agg.injEq,Array.mk.injEq,List.cons.injEq,Value.bool.injEq,Value.slice.injEq,and_true]at K
  obtain⟨rfl,rfl,rfl,rfl⟩:=K
  exact Ao X (by omega) (by omega)
 ·intro w' n a l c h
  obtain⟨L,rfl,d,G,H,Y⟩:=h.limbs J
  have:=j4 n a c L (fX b) w' d (by omega)
  rwa[ig d.2.1 G,H,aW _ (by omega)]at this
 ·intro w' n a l c h
  obtain⟨L,rfl,d,G,H,Y⟩:=h.limbs J
  have:=qk n a c L w' d (by omega)
  rwa[ig d.2.1 G,H]at this
theorem qQ(a n S o:Nat)(l E M X N:Int)(w:World)(ht:-3000≤l∧l≤3000)(U:E=l/2-54-1)(O:l%2=0)
  (V:∀w',Below w.heap.size w w'→Calls Tryz.prog 308 #[.int .u64 a] w' fun r f=>r=.returned (.tuple #[.int .u64 (n:Nat),.int .i64 l])∧Below w'.heap.size w' f)
  (Y:∀w',Calls Tryz.prog 309 #[.int .u64 (n:Nat)] w' fun r f=>r=.returned (.int .i64 (S:Nat))∧Below w'.heap.size w' f)
  (Z:∀w',Calls Tryz.prog 237 #[.int .i64 (S:Nat)] w' fun r f=>∃v,r=.returned v∧an w'.heap.size f v (S:Nat)∧Below w'.heap.size w' f)
  (C5:∀B w' v,Below w.heap.size w w'→an B w' v (S:Nat)→Calls Tryz.prog 236 #[v,.int .i64 E] w' fun r f=>mi f r 0 M X∧Below w'.heap.size w' f)
  (C6:∀w' v,Below w.heap.size w w'→aC w' v M X→Calls Tryz.prog 251 #[v] w' fun s f=>s=.returned (.tuple #[.int .u64 (o:Nat),.int .u8 N,.int .i64 0])∧Below w'.heap.size w' f):
  Calls Tryz.prog 302 #[.int .u64 a] w fun s w'=>s=.returned (.tuple #[.int .u64 (o:Nat),.int .u8 N])∧Below w.heap.size w w':=by
 have K1:=aa V;have K3:=aa Y;have K4:=aa Z;have K5:=aa C5;have K6:=aa C6
 clear V Y Z C5 C6
 obtain⟨q,hq⟩:∃q,q=l/2:=⟨_,rfl⟩
 have t1:Int.tdiv l 2=q:=by rw[Int.tdiv_eq_ediv];omega
 have e1:=aW (q-54) (by omega)
 have e2:=aW (q-54-1) (by omega)
 rw[←hq]at U
 have q1:-1500≤q:=by omega
 have q2:q≤1500:=by omega
 clear hq O
 go_enter Tryz.func302,Tryz.ntmps302
 go_wp2_with fail
 refine(uH K1 _ (Below.refl _ _)).mono ?_
 rintro e w1 ⟨rfl,d⟩
 have u:=aa d
 clear d K1
 go_wp2_with fail
 refine(uH K3 _).mono ?_
 rintro e w2 ⟨rfl,d⟩
 have u:=aa ((uH u).trans (d.mono (uH u).size))
 clear d K3
 go_wp2_with fail
 refine(uH K4 _).mono ?_
 rintro e w3 ⟨v,rfl,⟨n3,a3,c3,Q,rfl,i3⟩,d⟩
 have F:=aa ((uH u).trans (d.mono (uH u).size))
 have I3:=aa (show an w2.heap.size w3 (.agg #[.bool n3,.slice a3 Q.length c3]) (S:Nat)from⟨n3,a3,c3,Q,rfl,i3⟩)
 clear d K4 u i3
 generalize Q.length=l3 at*
 subst U
 go_wp2_with fail
 refine(uH K5 _ _ _ (uH F) (uH I3)).mono ?_
 rintro e D ⟨⟨v,rfl,hv⟩,d⟩
 obtain⟨J,K,L,z,rfl,i1⟩:=hv
 have h:Below D.heap.size D (D.alloc (.cells #[.bool J,.slice K z.length L,.int .i64 X] 41)):=(Below.refl _ _).alloc (Nat.le_refl _) _
 have HX:=aa ((show aC D (.agg #[.bool J,.slice K z.length L,.int .i64 X]) M X from⟨J,K,L,z,rfl,i1⟩).below h)
 have G:=aa ((uH F).trans ((d.trans (h.mono d.size)).mono (uH F).size))
 have H:=ay.new D (.bool J) (.slice K z.length L) (.int .i64 X)
 have y0:=H.c0;have y1:=H.c1;have y2:=H.c2
 clear i1 d h K5 F H I3
 generalize z.length=l1 at*
 go_wp2_with fail
 refine(uH K6 _ _ (uH G) (uH HX)).mono ?_
 rintro e w5 ⟨rfl,d⟩
 have B5:=aa ((uH G).trans (d.mono (uH G).size))
 clear d K6 G y0 y1 y2 HX
 go_wp2
 exact bodyPost_ret (v:=.tuple #[.int .u64 o,.int .u8 N]) (by simp[results,Tryz.results302,go_sem]) rfl ⟨rfl,uH B5⟩
def tB(a:Nat):Nat:=rS (nS a*4^22)
theorem Ik(a:Nat)(d:a<18446744073709551616)(f:aA a=true)(l:fK a≠0):tB a≠0:=by
 obtain⟨z,D⟩:=iQ a d f l
 have u:1≤nS a*4^22:=Nat.mul_pos (by omega) (by decide)
 have h:=zM u
 have:aT 1=1:=by decide
 unfold tB rS
 omega
theorem Il(a:Nat)(d:a<18446744073709551616)(f:aA a=true)(h:fK a≠0):tB a<36028797018963968:=Ij (nS a) (iQ a d f h).1
theorem Eh(a:Nat)(d:a<18446744073709551616)(f:aA a=true)(l:fK a≠0):
  bf (tB a) (nT a/2-54-1)=tV a∧bj (oM (tB a:Nat)).natAbs (oE (tB a:Nat) (nT a/2-54-1))=tF a:=by
 have h:=Ed a d f l
 rw[show nT a/2-55=nT a/2-54-1 by omega]at h
 exact h
theorem o8(a:Nat)(w:World)(d:a<18446744073709551616)(f:aA a=true)(h:fK a≠0):
  Calls Tryz.prog 309 #[.int .u64 (nS a:Nat)] w fun e w'=>e=.returned (.int .i64 (tB a:Nat))∧Below w.heap.size w w':=nV (nS a) w (iQ a d f h).1
theorem o9(a n S r:Nat)(l E J:Int)(w:World)(N:-3000≤l∧l≤3000)(z:l%2=0)(O:E=l/2-54-1)
  (s1:S≠0) (s2:S<36028797018963968) (Q:bf S E=r) (U:bj (oM (S:Nat)).natAbs (oE (S:Nat) E)=J) (K:bT w)
  (V:∀w',Below w.heap.size w w'→Calls Tryz.prog 308 #[.int .u64 a] w' fun r d=>r=.returned (.tuple #[.int .u64 (n:Nat),.int .i64 l])∧Below w'.heap.size w' d)
  (X:∀w',Calls Tryz.prog 309 #[.int .u64 (n:Nat)] w' fun r d=>r=.returned (.int .i64 (S:Nat))∧Below w'.heap.size w' d):
  Calls Tryz.prog 302 #[.int .u64 a] w fun s w'=>s=.returned (.tuple #[.int .u64 (r:Nat),.int .u8 J])∧Below w.heap.size w w':=by
 have L:((S:Nat):Int).natAbs<dt:=cS _ (by omega)
 have f:((S:Nat):Int)≠0:=by omega
 have ae:tz ((S:Nat):Int).natAbs<57:=lF _ 57 (by omega) (by rw[Int.natAbs_natCast];exact Ig (by omega))
 have am:-2300≤E∧E≤2300:=by omega
 have F:kU (S:Nat) E=true:=by
  unfold kU
  rw[decide_eq_true (show-32768≤E∧E≤32768 by omega),decide_eq_true (show-16384≤E+(tz ((S:Nat):Int).natAbs:Int)∧E+(tz ((S:Nat):Int).natAbs:Int)≤16384 by omega),Bool.or_true]
  rfl
 have G:qn (oM (S:Nat)) (oE (S:Nat) E)=true:=by
  unfold qn
  rw[if_neg (gj _ f).1,dz _ _ f,decide_eq_true (gj _ f).2,decide_eq_true (by omega)]
  rfl
 have H:(oM (S:Nat)).natAbs<dt:=Nat.lt_of_le_of_lt (vB _) L
 have M:∀w' v,Below w.heap.size w w'→aC w' v (oM (S:Nat)) (oE (S:Nat) E)→_:=fun w' v h D=>iL D H G (K.all h)
 rw[(jg ((S:Nat):Int) E).1,jf,decide_eq_false (show¬((S:Nat):Int)<0 by omega),aQ,Int.natAbs_natCast,Q,U]at M
 refine qQ a n S r l E _ _ _ w N O z V X
  (fun w'=>uc _ w' (by omega) (by omega)) (fun B w' v h D=>?_) M
 have:=iJ E D L (by omega) (K.all h)
 unfold cK dM dX at this
 rw[F]at this
 exact this.mono fun r d ⟨u,Y,Z,g3⟩=>⟨⟨u,Y,Z⟩,g3⟩
theorem nW(a:Nat)(w:World)(d:a<18446744073709551616)(f:aA a=true)(l:fK a≠0)(z:fS a=false)(u:bT w):
  Calls Tryz.prog 302 #[.int .u64 a] w fun r w'=>r=.returned (.tuple #[.int .u64 (tV a:Nat),.int .u8 (tF a)])∧Below w.heap.size w w':=by
 obtain⟨J,K,L,M,N,O,Q,U⟩:=cw a d f l
 have D:dT a=(bl (fD a).natAbs:Int)+fX a:=rfl
 have F:nT a=dT a+dT a%2:=rfl
 obtain⟨G,H⟩:=Eh a d f l
 exact o9 a (nS a) (tB a) (tV a) (nT a) _ (tF a) w (by omega) (by omega) rfl (Ik a d f l) (Il a d f l) G H u (fun w' h=>xX a w' d f l z (u.all h)) (fun w'=>o8 a w' d f l)
theorem Ei(a:Nat)(w:World)
  (h:∀w',Calls Tryz.prog 113 #[.int .u64 a] w' fun r f=>r=.returned (.int .i64 0)∧Below w'.heap.size w' f):
  Calls Tryz.prog 286 #[.int .u64 a] w fun r w'=>r=.returned (.tuple #[.int .u64 (a:Nat),.int .u8 0])∧Below w.heap.size w w':=by
 have l:=aa h
 clear h
 go_enter Tryz.func286,Tryz.ntmps286
 go_wp2_with fail
 refine(uH l _).mono ?_
 rintro e u ⟨rfl,d⟩
 have B:=aa d
 clear d l
 go_wp2
 exact bodyPost_ret (v:=.tuple #[.int .u64 (a:Nat),.int .u8 0]) (by simp[results,Tryz.results286,go_sem]) rfl ⟨rfl,uH B⟩
theorem Ej(a:Nat)(k:Int)(w:World)(u:(k==0)=false)(z:((a:Int)==9218868437227405312)=true)
  (h:∀w',Calls Tryz.prog 113 #[.int .u64 a] w' fun r f=>r=.returned (.int .i64 k)∧Below w'.heap.size w' f):
  Calls Tryz.prog 286 #[.int .u64 a] w fun r w'=>r=.returned (.tuple #[.int .u64 (a:Nat),.int .u8 0])∧Below w.heap.size w w':=by
 have l:=aa h
 clear h
 go_enter Tryz.func286,Tryz.ntmps286
 go_wp2_with fail
 refine(uH l _).mono ?_
 rintro e D ⟨rfl,d⟩
 have B:=aa d
 clear d l
 go_wp2
 exact bodyPost_ret (v:=.tuple #[.int .u64 (a:Nat),.int .u8 0]) (by simp[results,Tryz.results286,go_sem]) rfl ⟨rfl,uH B⟩
theorem Ek(a:Nat)(w:World)(u:((a:Int)==9218868437227405312)=false)
  (h:∀w',Calls Tryz.prog 113 #[.int .u64 a] w' fun r f=>r=.returned (.int .i64 4)∧Below w'.heap.size w' f):
  Calls Tryz.prog 286 #[.int .u64 a] w fun r w'=>r=.returned (.tuple #[.int .u64 9221120237041090560,.int .u8 0])∧Below w.heap.size w w':=by
 have l:=aa h
 clear h
 go_enter Tryz.func286,Tryz.ntmps286
 go_wp2_with fail
 refine(uH l _).mono ?_
 rintro e z ⟨rfl,d⟩
 have B:=aa d
 clear d l
 go_wp2
 exact bodyPost_ret (v:=.tuple #[.int .u64 9221120237041090560,.int .u8 0]) (by simp[results,Tryz.results286,go_sem]) rfl ⟨rfl,uH B⟩
theorem El(a:Nat)(k:Int)(w:World)(D:(k==0)=false)(F:k≠4)(G:((a:Int)==9218868437227405312)=false)
  (h:∀w',Calls Tryz.prog 113 #[.int .u64 a] w' fun r f=>r=.returned (.int .i64 k)∧Below w'.heap.size w' f)
  (l:∀w',Calls Tryz.prog 187 #[.int .u64 a] w' fun r f=>r=.returned (.bool true)∧Below w'.heap.size w' f):
  Calls Tryz.prog 286 #[.int .u64 a] w fun r w'=>r=.returned (.tuple #[.int .u64 9221120237041090560,.int .u8 16])∧Below w.heap.size w w':=by
 have u:=aa h
 clear h
 go_enter Tryz.func286,Tryz.ntmps286
 go_wp2_with fail
 refine(uH u _).mono ?_
 rintro e H ⟨rfl,d⟩
 have B:=aa d
 clear d u
 have z:=aa l
 clear l
 go_wp2_with fail
 refine(uH z _).mono ?_
 rintro e J ⟨rfl,d⟩
 have B:=aa ((uH B).trans (d.mono (uH B).size))
 clear d z
 go_wp2
 exact bodyPost_ret (v:=.tuple #[.int .u64 9221120237041090560,.int .u8 16]) (by simp[results,Tryz.results286,go_sem]) rfl ⟨rfl,uH B⟩
theorem Em(a:Nat)(k h:Int)(o:Nat)(w:World)(K:(k==0)=false)(L:k≠4)(M:((a:Int)==9218868437227405312)=false)(l:bT w)
  (u:∀w',Calls Tryz.prog 113 #[.int .u64 a] w' fun r f=>r=.returned (.int .i64 k)∧Below w'.heap.size w' f)
  (z:∀w',Calls Tryz.prog 187 #[.int .u64 a] w' fun r f=>r=.returned (.bool false)∧Below w'.heap.size w' f)
  (D:∀w',bT w'→Calls Tryz.prog 302 #[.int .u64 a] w' fun r f=>r=.returned (.tuple #[.int .u64 (o:Nat),.int .u8 h])∧Below w'.heap.size w' f):
  Calls Tryz.prog 286 #[.int .u64 a] w fun r w'=>r=.returned (.tuple #[.int .u64 (o:Nat),.int .u8 h])∧Below w.heap.size w w':=by
 have F:=aa u
 clear u
 go_enter Tryz.func286,Tryz.ntmps286
 go_wp2_with fail
 refine(uH F _).mono ?_
 rintro e N ⟨rfl,d⟩
 have B:=aa d
 clear d F
 have G:=aa z
 clear z
 go_wp2_with fail
 refine(uH G _).mono ?_
 rintro e O ⟨rfl,d⟩
 have B:=aa ((uH B).trans (d.mono (uH B).size))
 clear d G
 have H:=aa D;have J:=aa (l.all (uH B))
 clear D l
 go_wp2_with fail
 refine(uH H _ (uH J)).mono ?_
 rintro e Q ⟨rfl,d⟩
 have B:=aa ((uH B).trans (d.mono (uH B).size))
 clear d H J
 go_wp2
 exact bodyPost_ret (v:=.tuple #[.int .u64 (o:Nat),.int .u8 h]) (by simp[results,Tryz.results286,go_sem]) rfl ⟨rfl,uH B⟩
theorem pR(a:Nat)(w:World)(z:a<18446744073709551616)(G:bT w):
  Calls Tryz.prog 286 #[.int .u64 a] w fun r w'=>r=.returned (.tuple #[.int .u64 (sV a:Nat),.int .u8 (sF a)])∧Below w.heap.size w w':=by
 have l:=fun w'=>cR a w' z
 have D:=fun w'=>dO a w' z
 by_cases d:fK a=4
 ·rw[show sV a=9221120237041090560 by unfold sV;rw[if_pos d],show sF a=0 by unfold sF;rw[if_pos d]]
  rw[d]at l
  have f:a≠9218868437227405312:=fun h=>by rw[h]at d;revert d;decide
  exact Ek a w (by simp;omega) l
 by_cases u:fK a=0
 ·rw[show sV a=a by unfold sV;rw[if_neg d,if_pos (Or.inl u)],show sF a=0 by unfold sF;rw[if_neg d,if_pos (Or.inl u)]]
  rw[u]at l
  exact Ei a w l
 by_cases F:a=9218868437227405312
 ·rw[show sV a=a by unfold sV;rw[if_neg d,if_pos (Or.inr F)],show sF a=0 by unfold sF;rw[if_neg d,if_pos (Or.inr F)]]
  exact Ej a _ w (by simp[u]) (by simp;omega) l
 have f:¬(fK a=0∨a=9218868437227405312):=by omega
 cases hs:fS a
 ·rw[show sV a=tV a by unfold sV;rw[if_neg d,if_neg f,if_neg (by rw[hs];decide)],show sF a=tF a by unfold sF;rw[if_neg d,if_neg f,if_neg (by rw[hs];decide)]]
  rw[hs]at D
  have H:fK a≠3:=fun h=>F (by
   have:=fW a z
   rw[hs,aQ]at this
   have J:=((aP a).2.1.1 h)
   omega)
  exact Em a _ _ _ w (by simp[u]) d (by simp;omega) G l D (fun w' t=>nW a w' z (aY a H d) u hs t)
 ·rw[show sV a=9221120237041090560 by unfold sV;rw[if_neg d,if_neg f,if_pos hs],show sF a=16 by unfold sF;rw[if_neg d,if_neg f,if_pos hs]]
  rw[hs]at D
  exact El a _ w (by simp[u]) d (by simp;omega) l D
theorem xY(x:Nat)(W:World):(callFunc 248 #[.float .f64 x]).run Tryz.prog W=.ok (.value (.float .f64 (fk (Ieee.double.sqrt x) x x W))) (le (Ieee.double.sqrt x) W):=by
 rw[run_callFunc_extern (e:=Extern.MathSqrt.sqrt) Tryz.func248 (by kernel_rfl) (by kernel_rfl) (by kernel_rfl) (by kernel_rfl)]
 have e:Extern.MathSqrt.sqrt #[.float .f64 x]=(match Ieee.double.sqrt x with|some r=>pure (.float .f64 r)|none=>do pure (.float .f64 (←choose (.nanBits .f64 x x)))):=rfl
 rw[e]
 cases h:Ieee.double.sqrt x with
 |some r=>rfl
 |none=>rfl
theorem xZ(x:Nat)(o:Option Nat)(w:World)(d:∀W,(callFunc 248 #[.float .f64 x]).run Tryz.prog W=.ok (.value (.float .f64 (fk o x x W))) (le o W)):
  Calls Tryz.prog 217 #[.float .f64 x] w fun r w'=>r=.returned (.float .f64 (fk o x x w))∧w'=le o w:=by
 go_enter Tryz.func217,Tryz.ntmps217
 go_wp2
 go_ret
 exact⟨rfl,rfl⟩
theorem En(a:Nat)(h:sN a=false):fK (sV a)≠4:=by
 have d:=of_decide_eq_false h
 unfold sV
 rw[if_neg (fun e=>d (Or.inl e))]
 split
 ·exact fun e=>d (Or.inl e)
 ·rename_i f
  split
  ·rename_i l
   exact absurd (Or.inr ⟨fun e=>f (Or.inl e),l⟩) d
  ·intro u
   have:=(aP _).1.1 u
   have z:=Ff a
   unfold fR at this
   omega
theorem uN(a:Nat)(w w':World)(d:a<18446744073709551616):
  Calls Tryz.prog 108 #[.int .u64 (fk (Ieee.double.sqrt a) a a w:Nat)] w' fun r f=>r=.returned (.int .u64 (sV a:Nat))∧w'=f:=by
 refine nN _ (sV a) a a w w' (lO a d) (fun h=>?_) (fun r h=>?_)
 ·cases e:sN a with
  |true=>exact(nH a d e).2
  |false=>rw[nI a d e]at h;cases h
 ·cases e:sN a with
  |true=>rw[(nH a d e).1]at h;cases h
  |false=>
   rw[nI a d e]at h
   exact⟨(Option.some.inj h).symm,En a e⟩
def af(w:World)(ao:Option Addr)(cap:Nat)(I:List Int):Prop:=
 I.length≤cap∧(∀x∈I,0≤x∧x≤18446744073709551615)∧(I= []∨∃b off,ao=some ⟨b,off,none⟩∧b<w.heap.size∧∀i,i<I.length→w.cell? ⟨b,off+i,none⟩=some (.int .u64 (I[i]?.getD 0)))
theorem af.below{w w':World}{l:Option Addr}{d:Nat}{I:List Int}(h:af w l d I)(u:Below w.heap.size w w'):af w' l d I:=by
 refine⟨h.1,h.2.1,?_⟩
 rcases h.2.2 with h|⟨b,f,F,z,G⟩
 ·exact .inl h
 ·refine .inr ⟨b,f,F,Nat.lt_of_lt_of_le z u.size,fun i D=>?_⟩
  rw[u.cell (p:=⟨b,f+i,none⟩) z]
  exact G i D
def cd(I:List Int)(j:Nat):Nat:=(I[j]?.getD 0).toNat
theorem af.wf{w:World}{l:Option Addr}{d:Nat}{I:List Int}(h:af w l d I)(j:Nat):I[j]?.getD 0=(cd I j:Int)∧cd I j<18446744073709551616:=by
 unfold cd
 by_cases f:j<I.length
 ·have:=h.2.1 _ (List.getElem_mem f)
  rw[List.getElem?_eq_getElem f]
  simp only[Option.getD_some]
  omega
 ·rw[List.getElem?_eq_none (by omega)];simp
theorem af.ne{w:World}{l:Option Addr}{f:Nat}{I:List Int}(h:af w l f I)(u:0<I.length):∃b d,l=some ⟨b,d,none⟩∧b<w.heap.size∧∀i,i<I.length→w.cell? ⟨b,d+i,none⟩=some (.int .u64 (cd I i:Int)):=by
 rcases h.2.2 with e|⟨b,d,D,F,G⟩
 ·rw[e]at u;simp at u
 ·exact⟨b,d,D,F,fun i z=>by rw[G i z,(h.wf i).1]⟩
end Go.Proofs.YtdhmglmccafbnaaGreatDoor
