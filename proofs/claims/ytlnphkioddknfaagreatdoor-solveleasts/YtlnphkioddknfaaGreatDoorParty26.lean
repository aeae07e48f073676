/- Part 26 of the texts. -/
import Derived.Test.YtlnphkioddknfaaGreatDoorParty25
set_option maxHeartbeats 8000000
set_option maxRecDepth 20000
namespace Go.Proofs.YtlnphkioddknfaaGreatDoor
open Go.RowKit
theorem sZ(n:Nat)(P R S:Nat→Nat)(w:World)(Z:R 0=0∧S 0=0)
  (C:∀i,i<32→∀D,Calls Tryz.prog 289 #[.agg #[.int .u64 (R i:Nat),.int .u64 (S i:Nat)],.int .u64 (P i:Nat)] D fun e K=>e=.returned (.agg #[.int .u64 (R (i+1):Nat),.int .u64 (S (i+1):Nat)])∧Below D.heap.size D K)
  (hP:∀i,i<32→bits .and .u64 ((n:Int)/2^(2*(31-i))) 3=(P i:Int)):
  Calls Tryz.prog 288 #[.int .u64 n] w fun e D=>e=.returned (.agg #[.int .u64 (R 32:Nat),.int .u64 (S 32:Nat)])∧Below w.heap.size w D:=by
 have L:=aa Z;have M:=aa C;have N:=aa hP
 clear Z C hP
 go_enter Tryz.func288,Tryz.ntmps288
 go_wp2
 go_loopw[6] (fun i wr=>∃k:Nat,k≤32∧i=.int .i64 k∧Hid (eE wr w.heap.size (.int .u64 0) (.int .u64 0))∧Hid (eE wr (w.heap.size+1) (.int .u64 (R k:Nat)) (.int .u64 (S k:Nat)))∧Hid (Below w.heap.size w wr)) (fun i _=>32-(intOf i).toNat)
 case atStart=>
  have h:=uH L
  refine⟨0,by omega,rfl,aa ?_,aa ?_,aa (((Below.refl _ _).alloc (Nat.le_refl _) _).alloc (by simp) _)⟩
  ·exact(eE.new w (.int .u64 0) (.int .u64 0)).all ((Below.refl _ _).alloc (Nat.le_refl _) _)
  ·rw[h.1,h.2]
   have:=eE.new (w.alloc (.cells #[.int .u64 0,.int .u64 0] 254)) (.int .u64 0) (.int .u64 0)
   simpa using this
 case round=>
  obtain⟨k,hk,rfl,A,m,hb⟩:=hrel
  by_cases F:k<32
  ·have K1:=aa (uH M k F)
   have hp:=uH N k F
   have H:=(uH m).c0;have I:=(uH m).c1;have O:=(uH m).free 0;have Q:=(uH m).free 1
   have b0:(0:Int)≤(k:Int):=by omega
   have b1:(k:Int)<32:=by omega
   obtain⟨d,V⟩:∃d:Nat,d=2*(31-k):=⟨_,rfl⟩
   have e1:IntKind.i64.wrap (31-(k:Int))=((31-k:Nat):Int):=by rw[aW _ (by omega)];omega
   have e2:IntKind.i64.wrap (2*((31-k:Nat):Int))=(d:Int):=by rw[aW _ (by omega)];omega
   have d0:d≤63:=by omega
   rw[←V]at hp
   have HD:=aa V
   clear M N L V
   generalize 31-k=c at*
   generalize R k=r at*
   generalize S k=s at*
   generalize P k=p at*
   obtain⟨r1,t⟩:∃x,x=R (k+1):=⟨_,rfl⟩
   obtain⟨s1,y⟩:∃x,x=S (k+1):=⟨_,rfl⟩
   rw[←t,←y]at K1
   have NR:=aa t.symm;have NS:=aa y.symm
   clear t y
   go_wp2_with fail
   have xd:eE wr.drew w.heap.size (.int .u64 0) (.int .u64 0):=uH A
   have yd:eE wr.drew (w.heap.size+1) (.int .u64 (r:Nat)) (.int .u64 (s:Nat)):=uH m
   have G:Below w.heap.size w wr.drew:=(uH hb).drew
   have XD:=aa xd;have YD:=aa yd;have BD:=aa G
   clear xd yd G
   go_region_with (go_at_call 289;refine(uH K1 _).mono ?_;rintro e w1 ⟨rfl,f⟩;have l:=(uH YD).all f;have B1:=aa ((uH BD).trans (f.mono (uH BD).size));have X1:=aa ((uH XD).all f);clear f H I O Q;have H:=l.c0;have I:=l.c1;have O:=l.free 0;have Q:=l.free 1;have YB:=aa l;clear l)
   go_wp2
   go_roundw
   case rel=>
    refine⟨k+1,by omega,by go_num,aa ?_,aa ?_,aa ?_⟩
    ·exact(uH X1).oth (by omega) _ _
    ·rw[uH NR,uH NS]
     exact(uH YB).put _ _
    ·exact ke (uH B1) (by omega) _ _
   case measure=>simp[intOf];omega
  ·have U:k=32:=by omega
   subst U
   have H:=(uH m).c0;have I:=(uH m).c1
   have x0:=(uH A).c0;have l:=(uH A).c1;have O:=(uH A).free 0;have Q:=(uH A).free 1
   clear M N L
   obtain⟨r,X⟩:∃x,x=R 32:=⟨_,rfl⟩
   obtain⟨s,Y⟩:∃x,x=S 32:=⟨_,rfl⟩
   rw[←X]at H
   rw[←Y]at I
   have HR:=aa X;have HS:=aa Y
   clear X Y
   go_wp2
   refine bodyPost_ret (v:=.agg #[.int .u64 (r:Nat),.int .u64 (s:Nat)]) ?_ rfl ⟨by rw[uH HR,uH HS],ke (uH hb) (Nat.le_refl _) _ _⟩
   have z:=(uH A).put (.int .u64 (r:Nat)) (.int .u64 (s:Nat))
   have z0:=z.c0;have z1:=z.c1
   simp[results,Tryz.results288,go_sem,z0,z1]
theorem mq(n X:Nat)(R S:Nat→Nat)(w:World)
  (N:∀d,Calls Tryz.prog 288 #[.int .u64 n] d fun e h=>e=.returned (.agg #[.int .u64 (R 0:Nat),.int .u64 (S 0:Nat)])∧Below d.heap.size d h)
  (O:∀i,i<22→∀d,Calls Tryz.prog 289 #[.agg #[.int .u64 (R i:Nat),.int .u64 (S i:Nat)],.int .u64 0] d fun e h=>e=.returned (.agg #[.int .u64 (R (i+1):Nat),.int .u64 (S (i+1):Nat)])∧Below d.heap.size d h)
  (Q:R 22<18014398509481984) (U:X=2*R 22+(if S 22=0 then 0 else 1)):
  Calls Tryz.prog 283 #[.int .u64 n] w fun e d=>e=.returned (.int .i64 (X:Nat))∧Below w.heap.size w d:=by
 have V:=aa N;have F:=aa O;have A:=aa U;have G:=aa Q
 clear N O U Q
 go_enter Tryz.func283,Tryz.ntmps283
 go_wp2_with fail
 refine(uH V _).mono ?_
 rintro e Z ⟨rfl,f⟩
 have x:=aa (eE.new Z (.int .u64 (R 0:Nat)) (.int .u64 (S 0:Nat)))
 have Y:=aa (f.trans (((Below.refl _ _).alloc (Nat.le_refl _) (.cells #[.int .u64 (R 0:Nat),.int .u64 (S 0:Nat)] 254)).mono f.size))
 have hg:=f.size
 clear V f
 go_wp2
 go_loopw[7] (fun i wr=>∃k:Nat,k≤22∧i=.int .i64 k∧Hid (eE wr Z.heap.size (.int .u64 (R k:Nat)) (.int .u64 (S k:Nat)))∧Hid (Below w.heap.size w wr)) (fun i _=>22-(intOf i).toNat)
 case atStart=>exact⟨0,by omega,rfl,x,Y⟩
 case round=>
  obtain⟨k,hk,rfl,z,D⟩:=hrel
  clear x Y
  by_cases H:k<22
  ·have C:=aa (uH F k H)
   have I:=(uH z).c0;have K:=(uH z).c1
   have b0:(0:Int)≤(k:Int):=by omega
   have b1:(k:Int)<22:=by omega
   obtain⟨r1,l⟩:∃x,x=R (k+1):=⟨_,rfl⟩
   obtain⟨s1,m⟩:∃x,x=S (k+1):=⟨_,rfl⟩
   rw[←l,←m]at C
   have NR:=aa l.symm;have NS:=aa m.symm
   clear F A G l m
   generalize R k=r at*
   generalize S k=s at*
   go_wp2_with fail
   refine(uH C _).mono ?_
   rintro e w2 ⟨rfl,t⟩
   have y:=(uH z).all t
   have B2:=aa ((uH D).trans (t.mono (uH D).size))
   clear t I K z D C
   have I:=y.c0;have K:=y.c1;have f0:=y.free 0;have f1:=y.free 1
   have YB:=aa y
   clear y
   go_wp2
   go_roundw
   case rel=>
    refine⟨k+1,by omega,by go_num,aa ?_,aa (ke (uH B2) (by omega) _ _)⟩
    rw[uH NR,uH NS]
    exact(uH YB).put _ _
   case measure=>simp[intOf];omega
  ·have L:k=22:=by omega
   subst L
   have I:=(uH z).c0;have K:=(uH z).c1
   have r0:=uH G
   clear F G
   generalize R 22=r at*
   generalize S 22=s at*
   by_cases c:0<s
   ·have M:=aa (show X=2*r+1 by rw[uH A,if_neg (by omega)])
    have c':(s:Int)>0:=by omega
    clear A
    go_wp2
    go_ret
    exact⟨aQ (by rw[uH M];omega),uH D⟩
   ·have M:=aa (show X=2*r by rw[uH A,if_pos (by omega)];rfl)
    have c':¬(s:Int)>0:=by omega
    clear A
    go_wp2
    go_ret
    exact⟨aQ (by rw[uH M];omega),uH D⟩
theorem pU(N p:Nat)(w:World)(h:p<4)(l:bC N<18014398509481984):
  Calls Tryz.prog 289 #[.agg #[.int .u64 (bC N:Nat),.int .u64 (cX N:Nat)],.int .u64 (p:Nat)] w fun e A=>e=.returned (.agg #[.int .u64 (bC (4*N+p):Nat),.int .u64 (cX (4*N+p):Nat)])∧Below w.heap.size w A:=by
 obtain⟨y,z⟩:=Jk N p h
 have m:=BK N
 have t:=Fl (cX N) p (by omega) h
 have f:=BO (2*bC N) (by omega)
 have D:=BO (bC N) (by omega)
 rw[show((2*bC N:Nat):Int)=(bC N:Int)*2 by omega]at f
 by_cases d:4*cX N+p<4*bC N+1
 ·rw[(y d).1,(y d).2]
  exact Fm (bC N) (cX N) p (4*cX N+p) (2*(2*bC N)+1) (2*bC N) w l m (by omega) t f (by omega)
 ·rw[(z d).1,(z d).2]
  exact Fn (bC N) (cX N) p (4*cX N+p) (2*(2*bC N)+1) (2*bC N+1) (4*cX N+p-(4*bC N+1)) w l m (by omega) (by omega) t f D (by omega)
theorem yM(x:Nat)(h:x<18446744073709551616):bits .and .u64 (x:Int) 3=((x%4:Nat):Int):=by
 have d:=bits_and_u64_nat x 3 h (by decide)
 refine d.trans ?_
 have:x&&& 3=x%4:=by
  have:=Nat.and_two_pow_sub_one_eq_mod x 2
  simpa using this
 rw[this]
theorem vr(n:Nat)(w:World)(d:n<18446744073709551616):
  Calls Tryz.prog 288 #[.int .u64 n] w fun e f=>e=.returned (.agg #[.int .u64 (bC n:Nat),.int .u64 (cX n:Nat)])∧Below w.heap.size w f:=by
 have h:=sZ n (fun i=>n/2^(2*(31-i))%4) (fun i=>bC (lG n i)) (fun i=>cX (lG n i)) w ?_ ?_ ?_
 ·rw[BM]at h
  exact h
 ·rw[yJ n d]
  exact⟨rfl,rfl⟩
 ·intro i l f
  have:=pU (lG n i) (n/2^(2*(31-i))%4) f (by omega) (by have:=BN n i d;omega)
  rw[←yK n i l]at this
  exact this
 ·intro i l
  have e:(n:Int)/2^(2*(31-i))=((n/2^(2*(31-i)):Nat):Int):=by simp
  rw[e]
  exact yM _ (Nat.lt_of_le_of_lt (Nat.div_le_self _ _) d)
theorem nX(n:Nat)(w:World)(f:n<18446744073709551616):
  Calls Tryz.prog 283 #[.int .u64 n] w fun e d=>e=.returned (.int .i64 (rS (n*4^22):Nat))∧Below w.heap.size w d:=by
 refine mq n _ (fun i=>bC (n*4^i)) (fun i=>cX (n*4^i)) w ?_ ?_ (nW n 22 f (by decide)) ?_
 ·intro d
  have:=vr n d f
  show Calls Tryz.prog 288 #[.int .u64 n] d fun e l=>e=.returned (.agg #[.int .u64 (bC (n*4^0):Nat),.int .u64 (cX (n*4^0):Nat)])∧Below d.heap.size d l
  rw[Nat.pow_zero,Nat.mul_one]
  exact this
 ·intro i m d
  have:=pU (n*4^i) 0 d (by decide) (nW n i f (by omega))
  rw[←yL]at this
  exact this
 ·unfold rS
  have:=vq (n*4^22)
  by_cases h:bC (n*4^22)*bC (n*4^22)=n*4^22
  ·rw[if_pos h,if_pos (this.2 h)]
  ·rw[if_neg h,if_neg (fun e=>h (this.1 e))]
theorem BS(n:Int):bits .and .i64 n 1=n%2:=by
 have f:(BitVec.ofInt 64 1).toNat=2^1-1:=by decide
 have d:(BitVec.ofInt 64 n&&& BitVec.ofInt 64 1).toNat=(n%((2^64:Nat):Int)).toNat%2^1:=by
  rw[BitVec.toNat_and,BitVec.toNat_ofInt,f,Nat.and_two_pow_sub_one_eq_mod]
 show IntKind.i64.wrap ((BitVec.ofInt 64 n&&& BitVec.ofInt 64 1).toNat:Nat)=n%2
 rw[d,IntKind.wrap_i64]
 omega
theorem vt(b m F G d o:Nat)(z1 z H:Int)(w:World)(ak:F≤53)(am:G≤1)(hm:m<9007199254740992)(ht:-3000≤H∧H≤3000)
  (h1:bits .and .i64 H 1=(G:Int)) (hd:d+F+G=64) (ho:IntKind.u64.wrap ((m:Int)*2^d)=(o:Int))
  (C1:∀t,Below w.heap.size w t→Calls Tryz.prog 203 #[.int .u64 b] t fun r y=>mn y r 0 z1 z∧Below t.heap.size t y)
  (C2:∀t n a l c,aG t (.agg #[.bool n,.slice a l c,.int .i64 z]) z1 z→Calls Tryz.prog 267 #[.agg #[.bool n,.slice a l c]] t fun r y=>r=.returned (.tuple #[.int .i64 (m:Nat),.int .i64 0])∧Below t.heap.size t y)
  (C3:∀t n a l c,aG t (.agg #[.bool n,.slice a l c,.int .i64 z]) z1 z→Calls Tryz.prog 254 #[.agg #[.bool n,.slice a l c,.int .i64 z]] t fun r y=>r=.returned (.int .i64 H)∧Below t.heap.size t y)
  (C4:∀t n a l c,aG t (.agg #[.bool n,.slice a l c,.int .i64 z]) z1 z→Calls Tryz.prog 266 #[.agg #[.bool n,.slice a l c]] t fun r y=>r=.returned (.int .i64 (F:Nat))∧Below t.heap.size t y):
  Calls Tryz.prog 282 #[.int .u64 b] w fun r t=>r=.returned (.tuple #[.int .u64 (o:Nat),.int .i64 (H+(G:Int))])∧Below w.heap.size w t:=by
 have K1:=aa C1;have K2:=aa C2;have K3:=aa C3;have K4:=aa C4
 clear C1 C2 C3 C4
 have e1:IntKind.i64.wrap (64-(F:Int))=((64-F:Nat):Int):=by rw[aW _ (by omega)];omega
 have e2:IntKind.i64.wrap (((64-F:Nat):Int)-(G:Int))=(d:Int):=by rw[aW _ (by omega)];omega
 have e3:=aW (H+(G:Int)) (by omega)
 have d0:d≤64:=by omega
 have e0:IntKind.u64.wrap (m:Int)=(m:Int):=by
  show(m:Int)%18446744073709551616=_
  omega
 clear hd
 generalize 64-F=c0 at*
 go_enter Tryz.func282,Tryz.ntmps282
 go_wp2_with fail
 refine(uH K1 _ (Below.refl _ _)).mono ?_
 rintro e N ⟨⟨v,rfl,hv⟩,f⟩
 obtain⟨K,L,M,U,rfl,i1⟩:=hv
 have D:Below N.heap.size N (N.alloc (.cells #[.bool K,.slice L U.length M,.int .i64 z] 47)):=(Below.refl _ _).alloc (Nat.le_refl _) _
 have Y:=aa ((show aG N (.agg #[.bool K,.slice L U.length M,.int .i64 z]) z1 z from⟨K,L,M,U,rfl,i1⟩).below D)
 have x:=az.new N (.bool K) (.slice L U.length M) (.int .i64 z)
 have Z:=aa (f.trans (D.mono f.size))
 have y0:=x.c0;have y1:=x.c1;have y2:=x.c2
 have X:=aa x
 clear i1 f D K1 x
 generalize U.length=l1 at*
 go_wp2_with fail
 refine(uH K2 _ _ _ _ _ (uH Y)).mono ?_
 rintro e w2 ⟨rfl,f⟩
 have O:=aa ((uH X).all f);have I:=aa ((uH Y).below f)
 have B2:=aa ((uH Z).trans (f.mono (uH Z).size))
 clear f y0 y1 y2 Y Z X K2
 have y0:=(uH O).c0;have y1:=(uH O).c1;have y2:=(uH O).c2
 go_wp2_with fail
 refine(uH K3 _ _ _ _ _ (uH I)).mono ?_
 rintro e A ⟨rfl,f⟩
 have V:=(uH O).all f;have Q:=aa ((uH I).below f)
 have B3:=aa ((uH B2).trans (f.mono (uH B2).size))
 clear f y0 y1 y2 I B2 O
 generalize N.heap.size=g at*
 have hK:∀t,Below A.heap.size A t→Below A.heap.size A t∧t.cell? ⟨g,0,none⟩=some (.bool K)∧t.cell? ⟨g,1,none⟩=some (.slice L l1 M)∧t.cell? ⟨g,2,none⟩=some (.int .i64 z):=fun t h=>⟨h,(V.all h).c0,(V.all h).c1,(V.all h).c2⟩
 have HK:=aa hK
 clear hK V
 go_wp2_with fail
 go_region_held3(fun t=>Below A.heap.size A t∧t.cell? ⟨g,0,none⟩=some (.bool K)∧t.cell? ⟨g,1,none⟩=some (.slice L l1 M)∧t.cell? ⟨g,2,none⟩=some (.int .i64 z))
  (first|exact uH HK _ (Below.refl _ _).drew|exact uH HK _ (by assumption)|fail "NO KEEP")
  (first|(go_at_call 266;refine(uH K4 _ _ _ _ _ ((uH Q).below (And.left (by assumption)))).mono ?_;rintro e ae ⟨rfl,f⟩;have ax:Below A.heap.size A ae:=Below.trans (And.left (by assumption)) (f.mono (Below.size (And.left (by assumption))));clear f)|(go_at_call 254;refine(uH K3 _ _ _ _ _ ((uH Q).below (And.left (by assumption)))).mono ?_;rintro e aj ⟨rfl,f⟩;have aI:Below A.heap.size A aj:=Below.trans (And.left (by assumption)) (f.mono (Below.size (And.left (by assumption))));clear f)|fail "NO ARM")
 have hW:Below A.heap.size A _:=And.left (by assumption)
 have B4:=aa ((uH B3).trans (hW.mono (uH B3).size))
 clear hW
 go_wp2
 exact bodyPost_ret (v:=.tuple #[.int .u64 (o:Nat),.int .i64 (H+(G:Int))]) (by simp[results,Tryz.results282,go_sem]) rfl ⟨rfl,uH B4⟩
theorem Ib(b:Nat)(h:b<18446744073709551616)(l:aC b=true)(m:fK b≠0)(t:fS b=false):0≤fD b:=by
 have d:=(vf b m).2
 rw[t]at d
 have f:=jF (fZ b)
 rw[(dJ b h l).1,d]at f
 have:=of_decide_eq_false f
 omega
theorem yN(b:Nat)(w:World)(m:b<18446744073709551616)(t:aC b=true)(y:fK b≠0)(I:fS b=false)(K:b7 w):
  Calls Tryz.prog 282 #[.int .u64 b] w fun r d=>r=.returned (.tuple #[.int .u64 (nS b:Nat),.int .i64 (nT b)])∧Below w.heap.size w d:=by
 obtain⟨O,X,Y,Z,x5,x6,x7,Q⟩:=cT b m t y
 obtain⟨n1,n2⟩:=jm b m t y
 have G:(fD b).natAbs<dy:=cW _ (by omega)
 have M:fD b=((fD b).natAbs:Int):=by have:=Ib b m t y I;omega
 have N:dT b=(bl (fD b).natAbs:Int)+fX b:=rfl
 have z:(((dT b%2).toNat:Nat):Int)=dT b%2:=by omega
 have A:nT b=dT b+(((dT b%2).toNat:Nat):Int):=by unfold nT;omega
 rw[A]
 refine vt b (fD b).natAbs (bl (fD b).natAbs) (dT b%2).toNat (64-bl (fD b).natAbs-(dT b%2).toNat) (nS b) (fD b) (fX b) (dT b) w O (by omega) Q (by omega) (by rw[BS,z]) (by omega) ?_ (fun d h=>df b d m t (K.all h)) ?_ ?_ ?_
 ·have e:(((fD b).natAbs:Nat):Int)*2^(64-bl (fD b).natAbs-(dT b%2).toNat)=((nS b:Nat):Int):=by unfold nS;rw[Int.natCast_mul,Int.natCast_pow];rfl
  rw[e]
  show((nS b:Nat):Int)%18446744073709551616=_
  omega
 ·intro d n a l c h
  rw[←M]
  obtain⟨n',a',c',L',H,U⟩:=h
  simp only[Value.agg.injEq,Array.mk.injEq,List.cons.injEq,Value.bool.injEq,Value.slice.injEq,and_true]at H
  obtain⟨rfl,rfl,rfl,rfl⟩:=H
  exact Bu U (by omega) (by omega)
 ·intro d n a l c h
  obtain⟨L,rfl,f,D,F,V⟩:=h.limbs G
  have:=kx n a c L (fX b) d f (by omega)
  rwa[iN f.2.1 D,F,aW _ (by omega)]at this
 ·intro d n a l c h
  obtain⟨L,rfl,f,D,F,V⟩:=h.limbs G
  have:=qw n a c L d f (by omega)
  rwa[iN f.2.1 D,F]at this
theorem qU(a n S o:Nat)(m E M X K:Int)(w:World)(ht:-3000≤m∧m≤3000)(O:E=m/2-54-1)(L:m%2=0)
  (Q:∀f,Below w.heap.size w f→Calls Tryz.prog 282 #[.int .u64 a] f fun r h=>r=.returned (.tuple #[.int .u64 (n:Nat),.int .i64 m])∧Below f.heap.size f h)
  (U:∀f,Calls Tryz.prog 283 #[.int .u64 (n:Nat)] f fun r h=>r=.returned (.int .i64 (S:Nat))∧Below f.heap.size f h)
  (V:∀f,Calls Tryz.prog 230 #[.int .i64 (S:Nat)] f fun r h=>∃v,r=.returned v∧aw f.heap.size h v (S:Nat)∧Below f.heap.size f h)
  (Y:∀B f v,Below w.heap.size w f→aw B f v (S:Nat)→Calls Tryz.prog 229 #[v,.int .i64 E] f fun r h=>mn h r 0 M X∧Below f.heap.size f h)
  (Z:∀f v,Below w.heap.size w f→aG f v M X→Calls Tryz.prog 205 #[v] f fun s h=>s=.returned (.tuple #[.int .u64 (o:Nat),.int .u8 K,.int .i64 0])∧Below f.heap.size f h):
  Calls Tryz.prog 275 #[.int .u64 a] w fun s f=>s=.returned (.tuple #[.int .u64 (o:Nat),.int .u8 K])∧Below w.heap.size w f:=by
 have K1:=aa Q;have K3:=aa U;have K4:=aa V;have K5:=aa Y;have K6:=aa Z
 clear Q U V Y Z
 obtain⟨q,hq⟩:∃q,q=m/2:=⟨_,rfl⟩
 have t1:Int.tdiv m 2=q:=by rw[Int.tdiv_eq_ediv];omega
 have e1:=aW (q-54) (by omega)
 have e2:=aW (q-54-1) (by omega)
 rw[←hq]at O
 have q1:-1500≤q:=by omega
 have q2:q≤1500:=by omega
 clear hq L
 go_enter Tryz.func275,Tryz.ntmps275
 go_wp2_with fail
 refine(uH K1 _ (Below.refl _ _)).mono ?_
 rintro e w1 ⟨rfl,d⟩
 have t:=aa d
 clear d K1
 go_wp2_with fail
 refine(uH K3 _).mono ?_
 rintro e w2 ⟨rfl,d⟩
 have t:=aa ((uH t).trans (d.mono (uH t).size))
 clear d K3
 go_wp2_with fail
 refine(uH K4 _).mono ?_
 rintro e w3 ⟨v,rfl,⟨n3,a3,c3,N,rfl,i3⟩,d⟩
 have A:=aa ((uH t).trans (d.mono (uH t).size))
 have I3:=aa (show aw w2.heap.size w3 (.agg #[.bool n3,.slice a3 N.length c3]) (S:Nat)from⟨n3,a3,c3,N,rfl,i3⟩)
 clear d K4 t i3
 generalize N.length=l3 at*
 subst O
 go_wp2_with fail
 refine(uH K5 _ _ _ (uH A) (uH I3)).mono ?_
 rintro e z ⟨⟨v,rfl,hv⟩,d⟩
 obtain⟨G,H,I,y,rfl,i1⟩:=hv
 have l:Below z.heap.size z (z.alloc (.cells #[.bool G,.slice H y.length I,.int .i64 X] 47)):=(Below.refl _ _).alloc (Nat.le_refl _) _
 have HX:=aa ((show aG z (.agg #[.bool G,.slice H y.length I,.int .i64 X]) M X from⟨G,H,I,y,rfl,i1⟩).below l)
 have D:=aa ((uH A).trans ((d.trans (l.mono d.size)).mono (uH A).size))
 have F:=az.new z (.bool G) (.slice H y.length I) (.int .i64 X)
 have y0:=F.c0;have y1:=F.c1;have y2:=F.c2
 clear i1 d l K5 A F I3
 generalize y.length=l1 at*
 go_wp2_with fail
 refine(uH K6 _ _ (uH D) (uH HX)).mono ?_
 rintro e w5 ⟨rfl,d⟩
 have B5:=aa ((uH D).trans (d.mono (uH D).size))
 clear d K6 D y0 y1 y2 HX
 go_wp2
 exact bodyPost_ret (v:=.tuple #[.int .u64 o,.int .u8 K]) (by simp[results,Tryz.results275,go_sem]) rfl ⟨rfl,uH B5⟩
def tB(a:Nat):Nat:=rS (nS a*4^22)
theorem Jm(a:Nat)(d:a<18446744073709551616)(f:aC a=true)(l:fK a≠0):tB a≠0:=by
 obtain⟨t,y⟩:=jm a d f l
 have m:1≤nS a*4^22:=Nat.mul_pos (by omega) (by decide)
 have h:=A7 m
 have:bC 1=1:=by decide
 unfold tB rS
 omega
theorem Jn(a:Nat)(d:a<18446744073709551616)(f:aC a=true)(h:fK a≠0):tB a<36028797018963968:=Jl (nS a) (jm a d f h).1
theorem Fo(a:Nat)(d:a<18446744073709551616)(f:aC a=true)(l:fK a≠0):
  bX (tB a) (nT a/2-54-1)=tV a∧bM (oM (tB a:Nat)).natAbs (oE (tB a:Nat) (nT a/2-54-1))=tF a:=by
 have h:=Fk a d f l
 rw[show nT a/2-55=nT a/2-54-1 by omega]at h
 exact h
theorem o6(a:Nat)(w:World)(d:a<18446744073709551616)(f:aC a=true)(h:fK a≠0):
  Calls Tryz.prog 283 #[.int .u64 (nS a:Nat)] w fun e l=>e=.returned (.int .i64 (tB a:Nat))∧Below w.heap.size w l:=nX (nS a) w (jm a d f h).1
theorem o7(a n S r:Nat)(m E F:Int)(w:World)(K:-3000≤m∧m≤3000)(t:m%2=0)(L:E=m/2-54-1)
  (s1:S≠0) (s2:S<36028797018963968) (M:bX S E=r) (N:bM (oM (S:Nat)).natAbs (oE (S:Nat) E)=F) (G:b7 w)
  (O:∀d,Below w.heap.size w d→Calls Tryz.prog 282 #[.int .u64 a] d fun r f=>r=.returned (.tuple #[.int .u64 (n:Nat),.int .i64 m])∧Below d.heap.size d f)
  (Q:∀d,Calls Tryz.prog 283 #[.int .u64 (n:Nat)] d fun r f=>r=.returned (.int .i64 (S:Nat))∧Below d.heap.size d f):
  Calls Tryz.prog 275 #[.int .u64 a] w fun s d=>s=.returned (.tuple #[.int .u64 (r:Nat),.int .u8 F])∧Below w.heap.size w d:=by
 have H:((S:Nat):Int).natAbs<dy:=cW _ (by omega)
 have l:((S:Nat):Int)≠0:=by omega
 have Y:tz ((S:Nat):Int).natAbs<57:=lU _ 57 (by omega) (by rw[Int.natAbs_natCast];exact Jj (by omega))
 have Z:-2300≤E∧E≤2300:=by omega
 have z:lh (S:Nat) E=true:=by
  unfold lh
  rw[decide_eq_true (show-32768≤E∧E≤32768 by omega),decide_eq_true (show-16384≤E+(tz ((S:Nat):Int).natAbs:Int)∧E+(tz ((S:Nat):Int).natAbs:Int)≤16384 by omega),Bool.or_true]
  rfl
 have A:qz (oM (S:Nat)) (oE (S:Nat) E)=true:=by
  unfold qz
  rw[if_neg (gJ _ l).1,dI _ _ l,decide_eq_true (gJ _ l).2,decide_eq_true (by omega)]
  rfl
 have D:(oM (S:Nat)).natAbs<dy:=Nat.lt_of_le_of_lt (wI _) H
 have I:∀d v,Below w.heap.size w d→aG d v (oM (S:Nat)) (oE (S:Nat) E)→_:=fun d v h y=>jh y D A (G.all h)
 rw[(jG ((S:Nat):Int) E).1,jF,decide_eq_false (show¬((S:Nat):Int)<0 by omega),a8,Int.natAbs_natCast,M,N]at I
 refine qU a n S r m E _ _ _ w K L t O Q
  (fun d=>uG _ d (by omega) (by omega)) (fun B d v h y=>?_) I
 have:=jf E y H (by omega) (G.all h)
 unfold cP dM dX at this
 rw[z]at this
 exact this.mono fun r f ⟨u,U,V,X⟩=>⟨⟨u,U,V⟩,X⟩
theorem nY(a:Nat)(w:World)(d:a<18446744073709551616)(f:aC a=true)(l:fK a≠0)(y:fS a=false)(t:b7 w):
  Calls Tryz.prog 275 #[.int .u64 a] w fun r m=>r=.returned (.tuple #[.int .u64 (tV a:Nat),.int .u8 (tF a)])∧Below w.heap.size w m:=by
 obtain⟨G,H,I,K,L,M,N,O⟩:=cT a d f l
 have z:dT a=(bl (fD a).natAbs:Int)+fX a:=rfl
 have A:nT a=dT a+dT a%2:=rfl
 obtain⟨D,F⟩:=Fo a d f l
 exact o7 a (nS a) (tB a) (tV a) (nT a) _ (tF a) w (by omega) (by omega) rfl (Jm a d f l) (Jn a d f l) D F t (fun m h=>yN a m d f l y (t.all h)) (fun m=>o6 a m d f l)
theorem Fp(a:Nat)(w:World)
  (l:∀d,Calls Tryz.prog 103 #[.int .u64 a] d fun r h=>r=.returned (.int .i64 0)∧Below d.heap.size d h):
  Calls Tryz.prog 261 #[.int .u64 a] w fun r d=>r=.returned (.tuple #[.int .u64 (a:Nat),.int .u8 0])∧Below w.heap.size w d:=by
 have m:=aa l
 clear l
 go_enter Tryz.func261,Tryz.ntmps261
 go_wp2_with fail
 refine(uH m _).mono ?_
 rintro e t ⟨rfl,f⟩
 have B:=aa f
 clear f m
 go_wp2
 exact bodyPost_ret (v:=.tuple #[.int .u64 (a:Nat),.int .u8 0]) (by simp[results,Tryz.results261,go_sem]) rfl ⟨rfl,uH B⟩
theorem Fq(a:Nat)(k:Int)(w:World)(t:(k==0)=false)(y:((a:Int)==9218868437227405312)=true)
  (l:∀d,Calls Tryz.prog 103 #[.int .u64 a] d fun r h=>r=.returned (.int .i64 k)∧Below d.heap.size d h):
  Calls Tryz.prog 261 #[.int .u64 a] w fun r d=>r=.returned (.tuple #[.int .u64 (a:Nat),.int .u8 0])∧Below w.heap.size w d:=by
 have m:=aa l
 clear l
 go_enter Tryz.func261,Tryz.ntmps261
 go_wp2_with fail
 refine(uH m _).mono ?_
 rintro e z ⟨rfl,f⟩
 have B:=aa f
 clear f m
 go_wp2
 exact bodyPost_ret (v:=.tuple #[.int .u64 (a:Nat),.int .u8 0]) (by simp[results,Tryz.results261,go_sem]) rfl ⟨rfl,uH B⟩
theorem Fr(a:Nat)(w:World)(t:((a:Int)==9218868437227405312)=false)
  (l:∀d,Calls Tryz.prog 103 #[.int .u64 a] d fun r h=>r=.returned (.int .i64 4)∧Below d.heap.size d h):
  Calls Tryz.prog 261 #[.int .u64 a] w fun r d=>r=.returned (.tuple #[.int .u64 9221120237041090560,.int .u8 0])∧Below w.heap.size w d:=by
 have m:=aa l
 clear l
 go_enter Tryz.func261,Tryz.ntmps261
 go_wp2_with fail
 refine(uH m _).mono ?_
 rintro e y ⟨rfl,f⟩
 have B:=aa f
 clear f m
 go_wp2
 exact bodyPost_ret (v:=.tuple #[.int .u64 9221120237041090560,.int .u8 0]) (by simp[results,Tryz.results261,go_sem]) rfl ⟨rfl,uH B⟩
theorem Fs(a:Nat)(k:Int)(w:World)(z:(k==0)=false)(A:k≠4)(D:((a:Int)==9218868437227405312)=false)
  (l:∀f,Calls Tryz.prog 103 #[.int .u64 a] f fun r h=>r=.returned (.int .i64 k)∧Below f.heap.size f h)
  (m:∀f,Calls Tryz.prog 118 #[.int .u64 a] f fun r h=>r=.returned (.bool true)∧Below f.heap.size f h):
  Calls Tryz.prog 261 #[.int .u64 a] w fun r f=>r=.returned (.tuple #[.int .u64 9221120237041090560,.int .u8 16])∧Below w.heap.size w f:=by
 have t:=aa l
 clear l
 go_enter Tryz.func261,Tryz.ntmps261
 go_wp2_with fail
 refine(uH t _).mono ?_
 rintro e F ⟨rfl,d⟩
 have B:=aa d
 clear d t
 have y:=aa m
 clear m
 go_wp2_with fail
 refine(uH y _).mono ?_
 rintro e G ⟨rfl,d⟩
 have B:=aa ((uH B).trans (d.mono (uH B).size))
 clear d y
 go_wp2
 exact bodyPost_ret (v:=.tuple #[.int .u64 9221120237041090560,.int .u8 16]) (by simp[results,Tryz.results261,go_sem]) rfl ⟨rfl,uH B⟩
theorem Ft(a:Nat)(k l:Int)(o:Nat)(w:World)(H:(k==0)=false)(I:k≠4)(K:((a:Int)==9218868437227405312)=false)(m:b7 w)
  (t:∀f,Calls Tryz.prog 103 #[.int .u64 a] f fun r h=>r=.returned (.int .i64 k)∧Below f.heap.size f h)
  (y:∀f,Calls Tryz.prog 118 #[.int .u64 a] f fun r h=>r=.returned (.bool false)∧Below f.heap.size f h)
  (z:∀f,b7 f→Calls Tryz.prog 275 #[.int .u64 a] f fun r h=>r=.returned (.tuple #[.int .u64 (o:Nat),.int .u8 l])∧Below f.heap.size f h):
  Calls Tryz.prog 261 #[.int .u64 a] w fun r f=>r=.returned (.tuple #[.int .u64 (o:Nat),.int .u8 l])∧Below w.heap.size w f:=by
 have A:=aa t
 clear t
 go_enter Tryz.func261,Tryz.ntmps261
 go_wp2_with fail
 refine(uH A _).mono ?_
 rintro e L ⟨rfl,d⟩
 have B:=aa d
 clear d A
 have D:=aa y
 clear y
 go_wp2_with fail
 refine(uH D _).mono ?_
 rintro e M ⟨rfl,d⟩
 have B:=aa ((uH B).trans (d.mono (uH B).size))
 clear d D
 have F:=aa z;have G:=aa (m.all (uH B))
 clear z m
 go_wp2_with fail
 refine(uH F _ (uH G)).mono ?_
 rintro e N ⟨rfl,d⟩
 have B:=aa ((uH B).trans (d.mono (uH B).size))
 clear d F G
 go_wp2
 exact bodyPost_ret (v:=.tuple #[.int .u64 (o:Nat),.int .u8 l]) (by simp[results,Tryz.results261,go_sem]) rfl ⟨rfl,uH B⟩
theorem yO(a:Nat)(w:World)(z:a<18446744073709551616)(F:b7 w):
  Calls Tryz.prog 261 #[.int .u64 a] w fun r l=>r=.returned (.tuple #[.int .u64 (sV a:Nat),.int .u8 (sF a)])∧Below w.heap.size w l:=by
 have m:=fun l=>cu a l z
 have A:=fun l=>dZ a l z
 by_cases d:fK a=4
 ·rw[show sV a=9221120237041090560 by unfold sV;rw[if_pos d],show sF a=0 by unfold sF;rw[if_pos d]]
  rw[d]at m
  have f:a≠9218868437227405312:=fun h=>by rw[h]at d;revert d;decide
  exact Fr a w (by simp;omega) m
 by_cases y:fK a=0
 ·rw[show sV a=a by unfold sV;rw[if_neg d,if_pos (Or.inl y)],show sF a=0 by unfold sF;rw[if_neg d,if_pos (Or.inl y)]]
  rw[y]at m
  exact Fp a w m
 by_cases D:a=9218868437227405312
 ·rw[show sV a=a by unfold sV;rw[if_neg d,if_pos (Or.inr D)],show sF a=0 by unfold sF;rw[if_neg d,if_pos (Or.inr D)]]
  exact Fq a _ w (by simp[y]) (by simp;omega) m
 have f:¬(fK a=0∨a=9218868437227405312):=by omega
 cases hs:fS a
 ·rw[show sV a=tV a by unfold sV;rw[if_neg d,if_neg f,if_neg (by rw[hs];decide)],show sF a=tF a by unfold sF;rw[if_neg d,if_neg f,if_neg (by rw[hs];decide)]]
  rw[hs]at A
  have G:fK a≠3:=fun h=>D (by
   have:=gj a z
   rw[hs,a8]at this
   have H:=((bu a).2.1.1 h)
   omega)
  exact Ft a _ _ _ w (by simp[y]) d (by simp;omega) F m A (fun l t=>nY a l z (bh a G d) y hs t)
 ·rw[show sV a=9221120237041090560 by unfold sV;rw[if_neg d,if_neg f,if_pos hs],show sF a=16 by unfold sF;rw[if_neg d,if_neg f,if_pos hs]]
  rw[hs]at A
  exact Fs a _ w (by simp[y]) d (by simp;omega) m A
theorem yP(x:Nat)(W:World):(callFunc 244 #[.float .f64 x]).run Tryz.prog W=.ok (.value (.float .f64 (fC (Ieee.double.sqrt x) x x W))) (lC (Ieee.double.sqrt x) W):=by
 rw[run_callFunc_extern (e:=Extern.MathSqrt.sqrt) Tryz.func244 (by kernel_rfl) (by kernel_rfl) (by kernel_rfl) (by kernel_rfl)]
 have e:Extern.MathSqrt.sqrt #[.float .f64 x]=(match Ieee.double.sqrt x with|some r=>pure (.float .f64 r)|none=>do pure (.float .f64 (←choose (.nanBits .f64 x x)))):=rfl
 rw[e]
 cases h:Ieee.double.sqrt x with
 |some r=>rfl
 |none=>rfl
theorem yQ(x:Nat)(o:Option Nat)(w:World)(f:∀W,(callFunc 244 #[.float .f64 x]).run Tryz.prog W=.ok (.value (.float .f64 (fC o x x W))) (lC o W)):
  Calls Tryz.prog 223 #[.float .f64 x] w fun r d=>r=.returned (.float .f64 (fC o x x w))∧d=lC o w:=by
 go_enter Tryz.func223,Tryz.ntmps223
 go_wp2
 go_ret
 exact⟨rfl,rfl⟩
theorem Fu(a:Nat)(h:sN a=false):fK (sV a)≠4:=by
 have d:=of_decide_eq_false h
 unfold sV
 rw[if_neg (fun e=>d (Or.inl e))]
 split
 ·exact fun e=>d (Or.inl e)
 ·rename_i f
  split
  ·rename_i l
   exact absurd (Or.inr ⟨fun e=>f (Or.inl e),l⟩) d
  ·intro m
   have:=(bu _).1.1 m
   have t:=Gn a
   unfold fR at this
   omega
theorem vu(a:Nat)(w f:World)(d:a<18446744073709551616):
  Calls Tryz.prog 129 #[.int .u64 (fC (Ieee.double.sqrt a) a a w:Nat)] f fun r l=>r=.returned (.int .u64 (sV a:Nat))∧f=l:=by
 refine nQ _ (sV a) a a w f (wS a d) (fun h=>?_) (fun r h=>?_)
 ·cases e:sN a with
  |true=>exact(nG a d e).2
  |false=>rw[nH a d e]at h;cases h
 ·cases e:sN a with
  |true=>rw[(nG a d e).1]at h;cases h
  |false=>
   rw[nH a d e]at h
   exact⟨(Option.some.inj h).symm,Fu a e⟩
end Go.Proofs.YtlnphkioddknfaaGreatDoor
