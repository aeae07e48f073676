/- Part 20 of the texts. -/
import Derived.Test.YtnnfjeieennffaaGreatDoorPartc19
set_option maxHeartbeats 4000000
set_option maxRecDepth 20000
namespace Go.Proofs.YtnnfjeieennffaaGreatDoor
open Go.RowKit
theorem AF(X y:Nat)(h:0<y):X*2/(2*y)=2*(X/(2*y))+(if y≤X%(2*y)then 1 else 0)∧X*2%(2*y)=2*(X%(2*y)-(if y≤X%(2*y)then y else 0)):=by
 have d:=Nat.div_add_mod X (2*y)
 have l:=Nat.mod_lt X (show 0<2*y by omega)
 generalize X/(2*y)=q at*
 generalize X%(2*y)=r at*
 have f:X*2=2*y*(2*q)+2*r:=by rw[←d,Nat.add_mul,Nat.mul_assoc,Nat.mul_comm q 2,Nat.mul_comm r 2]
 by_cases c:y≤r
 ·rw[if_pos c,if_pos c]
  have e:X*2=2*y*(2*q+1)+2*(r-y):=by rw[Nat.mul_add,Nat.mul_one];omega
  rw[e]
  refine⟨?_,?_⟩
  ·rw[Nat.mul_add_div (by omega),Nat.div_eq_of_lt (by omega),Nat.add_zero]
  ·rw[Nat.mul_add_mod,Nat.mod_eq_of_lt (by omega)]
 ·rw[if_neg c,if_neg c]
  rw[f]
  refine⟨?_,?_⟩
  ·rw[Nat.mul_add_div (by omega),Nat.div_eq_of_lt (by omega),Nat.add_zero]
  ·rw[Nat.mul_add_mod,Nat.mod_eq_of_lt (by omega)];omega
def lQ(x y i:Nat):Nat:=x*2^i/(2*y)
def lR(x y i:Nat):Nat:=x*2^i%(2*y)
theorem GX(x y:Nat)(h:x<2*y):lQ x y 0=0∧lR x y 0=x:=by
 unfold lQ lR
 rw[Nat.pow_zero,Nat.mul_one]
 exact⟨Nat.div_eq_of_lt h,Nat.mod_eq_of_lt h⟩
theorem GY(x y i:Nat)(d:0<y):lQ x y (i+1)=2*lQ x y i+(if y≤lR x y i then 1 else 0)∧lR x y (i+1)=2*(lR x y i-(if y≤lR x y i then y else 0)):=by
 have:=AF (x*2^i) y d
 unfold lQ lR
 rw[Nat.pow_succ,←Nat.mul_assoc]
 exact this
theorem I5(x y i:Nat)(d:0<y):lR x y i<2*y:=Nat.mod_lt _ (by omega)
theorem AG(x y i:Nat)(h:x<2*y):lQ x y i<2^i:=by
 unfold lQ
 rw[Nat.div_lt_iff_lt_mul (by omega),Nat.mul_comm (2^i)]
 exact(Nat.mul_lt_mul_right (Nat.two_pow_pos i)).2 h
theorem Ga(x y:Nat):cD (x*2^54) y=2*lQ x y 55+(if 0<lR x y 55 then 1 else 0):=by
 have e:x*2^55=2*(x*2^54):=by rw[show(2:Nat)^55=2*2^54 by decide];ac_rfl
 unfold cD lQ lR
 rw[e,Nat.mul_div_mul_left _ _ (by decide),Nat.mul_mod_mul_left]
 congr 1
 by_cases c:x*2^54%y=0
 ·rw[if_pos c,c,if_neg (by omega)]
 ·rw[if_neg c,if_pos (by omega)]
def dS(b:Nat):Nat:=(fD b).natAbs*2^(53-bl (fD b).natAbs)
def dT(b:Nat):Int:=(bl (fD b).natAbs:Int)+fX b
theorem cJ(b:Nat)(D:b<18446744073709551616)(t:ap b=true)(F:fK b≠0):
  bl (fD b).natAbs≤53∧1≤bl (fD b).natAbs∧4503599627370496≤dS b∧dS b<9007199254740992∧-1074≤fX b∧fX b≤1024∧(fD b).natAbs%2=1∧(fD b).natAbs<9007199254740992:=by
 obtain⟨β,Q,L,M,N⟩:=iB b D t F
 have d:(fD b).natAbs≠0:=by omega
 obtain⟨O,U,V⟩:=aY _ d
 have f:bl (fD b).natAbs≤53:=by
  have:(2:Nat)^(bl (fD b).natAbs-1)<2^53:=by rw[zv];omega
  have:=ch this
  omega
 have G:=kf (fD b).natAbs (53-bl (fD b).natAbs) d
 have h:bl (dS b)=53:=by unfold dS;rw[G];omega
 have l:dS b≠0:=by
  unfold dS
  exact Nat.mul_ne_zero d (Nat.pos_iff_ne_zero.1 (Nat.two_pow_pos _))
 obtain⟨X,A,m⟩:=aY _ l
 rw[h]at A m
 have z:=jG b t
 rw[gu,L]at z
 have H:β<2098:=by
  have K:2^β≤(fD b).natAbs*2^β:=Nat.le_mul_of_pos_left _ (by omega)
  exact ch (Nat.lt_of_le_of_lt K z)
 refine⟨f,O,?_,?_,by omega,by omega,M,N⟩
 ·exact A
 ·rw[zv]at m;exact m
def pS(a b:Nat):Nat:=cD (dS a*2^54) (dS b)
theorem AH(a b:Nat)(t:a<18446744073709551616)(z:b<18446744073709551616)(A:ap a=true)(D:ap b=true)(F:fK a≠0)(G:fK b≠0):
  bw (pS a b) (dT a-dT b-55)=qV a b∧bF (oM (pS a b:Nat)).natAbs (oE (pS a b:Nat) (dT a-dT b-55))=qF a b:=by
 obtain⟨V,X,Y,Z,x5,x6,x7,x8⟩:=cJ a t A F
 obtain⟨y1,y2,y3,y4,y5,y6,M,N⟩:=cJ b z D G
 have h:=wF (fD a).natAbs (fD b).natAbs (by omega) N (by omega)
 obtain⟨u1,u2,u3⟩:=aY (fD a).natAbs (by omega)
 obtain⟨v1,v2,v3⟩:=aY (fD b).natAbs (by omega)
 unfold pS qV qF qS dS dT
 generalize (fD a).natAbs=d at*
 generalize (fD b).natAbs=f at*
 have H:d*2^(53-bl d)*2^54=d*2^(54-bl d+bl f)*2^(53-bl f):=by
  rw[Nat.mul_assoc,←Nat.pow_add,Nat.mul_assoc,←Nat.pow_add]
  congr 2
  omega
 have l:54-bl d+bl f=54+bl f-bl d:=by omega
 rw[H,nM]
 have m:9007199254740992≤d*2^(54-bl d+bl f)/f:=by
  rw[Nat.le_div_iff_mul_le (by omega)]
  have O:9007199254740992*f≤2^53*2^bl f:=by rw[zv];exact Nat.mul_le_mul_left _ (by omega)
  have Q:(2:Nat)^53*2^bl f≤2^(bl d-1)*2^(54-bl d+bl f):=by
   rw[←Nat.pow_add,←Nat.pow_add];exact dP (by omega)
  have U:2^(bl d-1)*2^(54-bl d+bl f)≤d*2^(54-bl d+bl f):=Nat.mul_le_mul_right _ u2
  omega
 have K:(bl d:Int)+fX a-((bl f:Int)+fX b)-55=(fX a-fX b-1)-(54-bl d+bl f:Nat):=by omega
 have L:fX a-fX b-181=(fX a-fX b-1)-(180:Nat):=by omega
 rw[K,L]
 exact⟨wD d f _ 180 _ (by omega) m h,qJ d f _ 180 _ M m h⟩
theorem AJ(a b:Nat)(d:a<18446744073709551616)(f:b<18446744073709551616)(l:ap a=true)(m:ap b=true)(t:fK a≠0)(z:fK b≠0):pS a b≠0∧pS a b<144115188075855872∧dS a<2*dS b:=by
 obtain⟨H,K,L,M,N,O,Q,U⟩:=cJ a d l t
 obtain⟨V,X,Y,Z,y5,y6,y7,y8⟩:=cJ b f m z
 have h:=Ga (dS a) (dS b)
 have A:=AG (dS a) (dS b) 55 (by omega)
 have D:(2:Nat)^55=36028797018963968:=by decide
 have F:(if 0<lR (dS a) (dS b) 55 then 1 else 0)≤1:=by split<;>omega
 refine⟨?_,?_,by omega⟩
 ·have:1≤dS a*2^54/dS b:=by
   rw[Nat.le_div_iff_mul_le (by omega),Nat.one_mul]
   have:dS a*1≤dS a*2^54:=Nat.mul_le_mul_left _ (by decide)
   have G:dS a*2≤dS a*2^54:=Nat.mul_le_mul_left _ (by decide)
   omega
  unfold pS cD
  omega
 ·show cD (dS a*2^54) (dS b)<_
  rw[h];omega
theorem wG(b:Nat)(d:fK b≠0):fZ b≠0∧decide (fZ b<0)=fS b:=by
 have f:fR b≠0:=fun e=>d ((aS b).2 e)
 have h:0<rv (fR b):=uO (by omega)
 unfold fZ pv
 cases fS b
 ·simp only[Bool.false_eq_true,if_false]
  exact⟨by omega,decide_eq_false (by omega)⟩
 ·simp only[if_true]
  exact⟨by omega,decide_eq_true (by omega)⟩
theorem gv(a:Nat)(m:a<18446744073709551616)(l:ap a=true)(t:fK a≠0):
  fD a%2=1∧(fD a).natAbs<9007199254740992∧(fD a).natAbs≠0∧decide (fD a<0)=fS a∧-1074≤fX a∧fX a≤1024∧1≤bl (fD a).natAbs∧(bl (fD a).natAbs:Int)+fX a≤1024∧bw (rv (fR a)) (-1074)=bw (fD a).natAbs (fX a):=by
 obtain⟨β,D,z,Q,F⟩:=iB a m l t
 obtain⟨U,G,V,X,H,K,Y,Z⟩:=cJ a m l t
 obtain⟨L,d2⟩:=dK a m l
 obtain⟨n1,M⟩:=wG a t
 have d:(fD a).natAbs≠0:=by omega
 have O:bl (rv (fR a))=bl (fD a).natAbs+β:=by rw[z];exact kf _ _ d
 have f:=jG a l
 rw[gu]at f
 have h:rv (fR a)≠0:=by rw[←gu];omega
 have A:bl (rv (fR a))≤2098:=by
  obtain⟨b1,N,b3⟩:=aY _ h
  have:=ch (Nat.lt_of_le_of_lt N f)
  omega
 refine⟨by omega,F,d,?_,H,K,G,by omega,?_⟩
 ·rw[←L,jk];exact M
 ·rw[z,D,dy]
theorem qN(C:Int)(f:2098<C)(v:Nat)(E n:Int)(d:v≠0)(l:(bl v:Int)+E≤1024)(m:-1074≤(bl v:Int)+E):
  bw v (E+n)=bw v (E+max (-C) (min C n))∧bF v (E+n)=bF v (E+max (-C) (min C n)):=by
 rcases Int.lt_or_le C n with h|h
 ·have a:=ky d (E:=E+n) (by omega)
  have b:=ky d (E:=E+max (-C) (min C n)) (by omega)
  rw[a.1,a.2,b.1,b.2]
  exact⟨rfl,rfl⟩
 ·rcases Int.lt_or_le n (-C)with g|g
  ·have a:=qK d (E:=E+n) (by omega)
   have b:=qK d (E:=E+max (-C) (min C n)) (by omega)
   rw[a.1,a.2,b.1,b.2]
   exact⟨rfl,rfl⟩
  ·rw[show max (-C) (min C n)=n by omega]
   exact⟨rfl,rfl⟩
def xV(a:Nat)(n:Int):Nat:=if fK a=4 then 9221120237041090560 else if fK a=3∨fK a=0 then a else bZ (fS a) (bw (fD a).natAbs (fX a+n))
def xF(a:Nat)(n:Int):Int:=if fK a=4 then 0 else if fK a=3∨fK a=0 then 0 else bF (fD a).natAbs (fX a+n)
theorem pZ(a:Nat)(n:Int)(d:a<18446744073709551616):xV a n<18446744073709551616:=by
 unfold xV
 have:=cN (fD a).natAbs (fX a+n)
 repeat' split
 ·decide
 ·exact d
 ·exact ez _ _ (by omega)
theorem AK(C:Int)(h:2098<C)(a:Nat)(n:Int)(l:a<18446744073709551616):xV a (max (-C) (min C n))=xV a n∧xF a (max (-C) (min C n))=xF a n:=by
 unfold xV xF
 by_cases d:fK a=4
 ·rw[if_pos d,if_pos d,if_pos d,if_pos d];exact⟨rfl,rfl⟩
 by_cases f:fK a=3∨fK a=0
 ·rw[if_neg d,if_neg d,if_neg d,if_neg d,if_pos f,if_pos f,if_pos f,if_pos f];exact⟨rfl,rfl⟩
 ·rw[if_neg d,if_neg d,if_neg d,if_neg d,if_neg f,if_neg f,if_neg f,if_neg f]
  obtain⟨z1,z2,m,z,A,D,F,t,G⟩:=gv a l (bf a (by omega) d) (by omega)
  have:=qN C h _ _ n m t (by omega)
  rw[this.1,this.2]
  exact⟨rfl,rfl⟩
theorem qO{D E:Int}(h:D%2=1)(d:-16384≤E∧E≤16384):qA D E=true:=by
 unfold qA
 rw[if_neg (by omega),decide_eq_true h,decide_eq_true d];rfl
theorem wH{D:Int}(h:D%2=1):oM D=D∧∀e,oE D e=e:=by
 have d:D≠0:=by omega
 have f:=gI D d
 have:=(fL D d).unique (m':=D) (k':=0) ⟨by simp,h⟩
 refine⟨this.1,fun e=>?_⟩
 rw[dJ _ _ d,this.2];simp
theorem GZ{D:Int}(h:D%2=1):tz D.natAbs=0:=by
 have d:D≠0:=by omega
 exact((fL D d).unique (m':=D) (k':=0) ⟨by simp,h⟩).2
theorem Eu{w:World}{v:Value}{D X:Int}(n:Int)(h:aG w v D X)(d:D%2=1)(K:D.natAbs<9007199254740992)(L:-1074≤X∧X≤1024)(M:-5000≤n∧n≤5000)(l:cC w):
  Calls Tryz.prog 157 #[v,.int .i64 n] w fun r w'=>mu w' r 0 D (X+n)∧Below w.heap.size w w':=by
 obtain⟨m,t,z,A,rfl,F,N,G,O,H⟩:=h.right (cW _ (by omega))
 have:=qC m t z A X n w F (H.trans (qO d (by omega))) (by omega) l
 have f:k9 D (X+n)=true:=by
  unfold k9
  rw[GZ d,decide_eq_true (show-32768≤X+n∧X+n≤32768 by omega),decide_eq_true (show-16384≤X+n+((0:Nat):Int)∧X+n+((0:Nat):Int)≤16384 by omega),Bool.or_true]
  rfl
 rw[G]at this
 unfold cR dM dX at this
 rw[f,if_pos rfl,if_pos rfl,if_pos rfl,(wH d).1,(wH d).2]at this
 exact this
theorem nR(a o:Nat)(n D X Y Q:Int)(w:World)(Z:cC w)
  (C1:∀w',cC w'→Calls Tryz.prog 156 #[.int .u64 a] w' fun r h=>mu h r 0 D X∧Below w'.heap.size w' h)
  (C2:∀w' v,cC w'→aG w' v D X→Calls Tryz.prog 157 #[v,.int .i64 n] w' fun r h=>mu h r 0 D Y∧Below w'.heap.size w' h)
  (C3:∀w' v,cC w'→aG w' v D Y→Calls Tryz.prog 158 #[v] w' fun r h=>r=.returned (.tuple #[.int .u64 (o:Nat),.int .u8 Q,.int .i64 0])∧Below w'.heap.size w' h):
  Calls Tryz.prog 130 #[.int .u64 a,.int .i64 n] w fun r w'=>r=.returned (.tuple #[.int .u64 (o:Nat),.int .u8 Q])∧Below w.heap.size w w':=by
 have K1:=aa C1;have K2:=aa C2;have K3:=aa C3;have U:=aa Z
 clear C1 C2 C3 Z
 go_enter Tryz.func130,Tryz.ntmps130
 go_wp2_with fail
 refine(uH K1 _ (uH U)).mono ?_
 rintro e z ⟨⟨v,rfl,V⟩,f⟩
 obtain⟨H,K,L,m,rfl,i1⟩:=V
 have d:Below z.heap.size z (z.alloc (.cells #[.bool H,.slice K m.length L,.int .i64 X] 52)):=(Below.refl _ _).alloc (Nat.le_refl _) _
 have HX:=aa ((show aG z (.agg #[.bool H,.slice K m.length L,.int .i64 X]) D X from⟨H,K,L,m,rfl,i1⟩).below d)
 have F:=aa (f.trans (d.mono f.size))
 have l:=aB.new z (.bool H) (.slice K m.length L) (.int .i64 X)
 have y0:=l.c0;have y1:=l.c1;have y2:=l.c2
 clear i1 f d K1 l
 generalize m.length=l1 at*
 go_wp2_with fail
 refine(uH K2 _ _ ((uH U).all (uH F)) (uH HX)).mono ?_
 rintro e A ⟨⟨v,rfl,V⟩,f⟩
 obtain⟨M,N,O,t,rfl,i2⟩:=V
 have d:Below A.heap.size A (A.alloc (.cells #[.bool M,.slice N t.length O,.int .i64 Y] 52)):=(Below.refl _ _).alloc (Nat.le_refl _) _
 have HY:=aa ((show aG A (.agg #[.bool M,.slice N t.length O,.int .i64 Y]) D Y from⟨M,N,O,t,rfl,i2⟩).below d)
 have G:=aa ((uH F).trans ((f.trans (d.mono f.size)).mono (uH F).size))
 have l:=aB.new A (.bool M) (.slice N t.length O) (.int .i64 Y)
 have z0:=l.c0;have z1:=l.c1;have z2:=l.c2
 clear i2 f d K2 l y0 y1 y2 HX F
 generalize t.length=l2 at*
 go_wp2_with fail
 refine(uH K3 _ _ ((uH U).all (uH G)) (uH HY)).mono ?_
 rintro e w3 ⟨rfl,f⟩
 have B3:=aa ((uH G).trans (f.mono (uH G).size))
 clear f K3 G z0 z1 z2 HY
 go_wp2
 exact bodyPost_ret (v:=.tuple #[.int .u64 o,.int .u8 Q]) (by simp[results,Tryz.results130,go_sem]) rfl ⟨rfl,uH B3⟩
theorem mv(a:Nat)(n:Int)(w:World)(f:a<18446744073709551616)(h:ap a=true)(m:fK a≠0)(z:-5000≤n∧n≤5000)(A:cC w):
  Calls Tryz.prog 130 #[.int .u64 a,.int .i64 n] w fun r w'=>r=.returned (.tuple #[.int .u64 (bZ (fS a) (bw (fD a).natAbs (fX a+n)):Nat),.int .u8 (bF (fD a).natAbs (fX a+n))])∧Below w.heap.size w w':=by
 obtain⟨z1,z2,F,D,G,H,K,L,M⟩:=gv a f h m
 have l:∀w' v,cC w'→aG w' v (fD a) (fX a+n)→_:=fun w' v t d=>iW d (cW _ (by omega)) (qO z1 (by omega)) t
 rw[D]at l
 exact nR a _ n (fD a) (fX a) (fX a+n) _ w A (fun w' t=>dl a w' f h t) (fun w' v t d=>Eu n d z1 z2 (by omega) z t) l
theorem Ev(a:Nat)(n:Int)(w:World)
  (h:∀w',Calls Tryz.prog 113 #[.int .u64 a] w' fun r d=>r=.returned (.int .i64 4)∧Below w'.heap.size w' d):
  Calls Tryz.prog 89 #[.int .u64 a,.int .i64 n] w fun r w'=>r=.returned (.tuple #[.int .u64 9221120237041090560,.int .u8 0])∧Below w.heap.size w w':=by
 have l:=aa h
 clear h
 go_enter Tryz.func89,Tryz.ntmps89
 go_wp2_with fail
 refine(uH l _).mono ?_
 rintro e m ⟨rfl,f⟩
 clear l
 go_wp2
 exact bodyPost_ret (v:=.tuple #[.int .u64 9221120237041090560,.int .u8 0]) (by simp[results,Tryz.results89,go_sem]) rfl ⟨rfl,f⟩
theorem AL(a:Nat)(n k:Int)(w:World)(m:k=3∨k=0)
  (l:∀w',Calls Tryz.prog 113 #[.int .u64 a] w' fun r h=>r=.returned (.int .i64 k)∧Below w'.heap.size w' h):
  Calls Tryz.prog 89 #[.int .u64 a,.int .i64 n] w fun r w'=>r=.returned (.tuple #[.int .u64 (a:Nat),.int .u8 0])∧Below w.heap.size w w':=by
 have f:=aa l
 clear l
 rcases m with rfl|rfl
 ·go_enter Tryz.func89,Tryz.ntmps89
  go_wp2_with fail
  refine(uH f _).mono ?_
  rintro e t ⟨rfl,d⟩
  clear f
  go_wp2
  exact bodyPost_ret (v:=.tuple #[.int .u64 (a:Nat),.int .u8 0]) (by simp[results,Tryz.results89,go_sem]) rfl ⟨rfl,d⟩
 ·go_enter Tryz.func89,Tryz.ntmps89
  go_wp2_with fail
  refine(uH f _).mono ?_
  rintro e t ⟨rfl,d⟩
  clear f
  go_wp2
  exact bodyPost_ret (v:=.tuple #[.int .u64 (a:Nat),.int .u8 0]) (by simp[results,Tryz.results89,go_sem]) rfl ⟨rfl,d⟩
theorem sR(P:Program)(w:World)(d:Array TypeId)(t:TypeId)(x y:Int):(Builtin.min_ d t #[.int .i64 x,.int .i64 y]).run P w=.ok (.int .i64 (min x y)) w:=by
 rw[run_min_int2]
 congr 2
 split<;>omega
theorem Ew(a o:Nat)(n k m c l:Int)(w:World)(M:(k==4)=false)(N:(k==3)=false)(O:(k==0)=false)(A:cC w)
  (Q:∀W z t,(Builtin.max_ z t #[.int .i64 n,.int .i64 (-4096)]).run Tryz.prog W=.ok (.int .i64 m) W)
  (U:∀W z t,(Builtin.min_ z t #[.int .i64 m,.int .i64 4096]).run Tryz.prog W=.ok (.int .i64 c) W)
  (D:∀w',Calls Tryz.prog 113 #[.int .u64 a] w' fun r f=>r=.returned (.int .i64 k)∧Below w'.heap.size w' f)
  (F:∀w',cC w'→Calls Tryz.prog 130 #[.int .u64 a,.int .i64 c] w' fun r f=>r=.returned (.tuple #[.int .u64 (o:Nat),.int .u8 l])∧Below w'.heap.size w' f):
  Calls Tryz.prog 89 #[.int .u64 a,.int .i64 n] w fun r w'=>r=.returned (.tuple #[.int .u64 (o:Nat),.int .u8 l])∧Below w.heap.size w w':=by
 have G:=aa D;have H:=aa F;have K:=aa A
 clear D F A
 go_enter Tryz.func89,Tryz.ntmps89
 go_wp2_with fail
 refine(uH G _).mono ?_
 rintro e V ⟨rfl,d⟩
 have h:=aa d
 clear G d
 go_wp2_with fail
 refine(uH H _ ((uH K).all (uH h))).mono ?_
 rintro e X ⟨rfl,d⟩
 have L:=aa ((uH h).trans (d.mono (uH h).size))
 clear H d h K
 go_wp2
 exact bodyPost_ret (v:=.tuple #[.int .u64 (o:Nat),.int .u8 l]) (by simp[results,Tryz.results89,go_sem]) rfl ⟨rfl,uH L⟩
theorem uT(a:Nat)(n:Int)(w:World)(l:a<18446744073709551616)(z:cC w):
  Calls Tryz.prog 89 #[.int .u64 a,.int .i64 n] w fun r w'=>r=.returned (.tuple #[.int .u64 (xV a n:Nat),.int .u8 (xF a n)])∧Below w.heap.size w w':=by
 have h:=fun w'=>cF a w' l
 by_cases d:fK a=4
 ·unfold xV xF
  rw[if_pos d,if_pos d]
  rw[d]at h
  exact Ev a n w h
 by_cases f:fK a=3∨fK a=0
 ·unfold xV xF
  rw[if_neg d,if_neg d,if_pos f,if_pos f]
  exact AL a n _ w f h
 ·have A:=bf a (by omega) d
  have e:=AK 4096 (by decide) a n l
  rw[show max (-4096) (min 4096 n)=min (max n (-4096)) 4096 by omega]at e
  rw[←e.1,←e.2]
  unfold xV xF
  rw[if_neg d,if_neg d,if_neg f,if_neg f]
  exact Ew a _ n _ (max n (-4096)) (min (max n (-4096)) 4096) _ w (by simp[d]) (by simp;omega) (by simp;omega) z (fun W m t=>iV _ W m t _ _) (fun W m t=>sR _ W m t _ _) h (fun w' t=>mv a _ w' l A (by omega) (by omega) t)
theorem I6(a:Nat)(k:Int)(w:World)(m:k=4∨k=3∨k=0)
  (h:∀w',Calls Tryz.prog 113 #[.int .u64 a] w' fun r d=>r=.returned (.int .i64 k)∧Below w'.heap.size w' d):
  Calls Tryz.prog 145 #[.int .u64 a] w fun r w'=>r=.returned (.int .i64 0)∧Below w.heap.size w w':=by
 have l:=aa h
 clear h
 rcases m with rfl|rfl|rfl
 all_goals
  go_enter Tryz.func145,Tryz.ntmps145
  go_wp2_with fail
  refine(uH l _).mono ?_
  rintro e t ⟨rfl,f⟩
  clear l
  go_wp2
  go_ret
  exact⟨rfl,f⟩
theorem I7(a:Nat)(k D X t:Int)(w:World)(h4:(k==4)=false)(h3:(k==3)=false)(h0:(k==0)=false)(ht:-2000≤t∧t≤2000)(L:cC w)
  (M:∀w',Calls Tryz.prog 113 #[.int .u64 a] w' fun r f=>r=.returned (.int .i64 k)∧Below w'.heap.size w' f)
  (N:∀w',cC w'→Calls Tryz.prog 156 #[.int .u64 a] w' fun r f=>mu f r 0 D X∧Below w'.heap.size w' f)
  (O:∀w' v,aG w' v D X→Calls Tryz.prog 171 #[v] w' fun r f=>r=.returned (.int .i64 t)∧Below w'.heap.size w' f):
  Calls Tryz.prog 145 #[.int .u64 a] w fun r w'=>r=.returned (.int .i64 (t-1))∧Below w.heap.size w w':=by
 have Q:=aa M;have U:=aa N;have V:=aa O;have HT:=aa L
 clear M N O L
 have hw:=a8 (t-1) (by omega)
 go_enter Tryz.func145,Tryz.ntmps145
 go_wp2_with fail
 refine(uH Q _).mono ?_
 rintro e w1 ⟨rfl,d⟩
 have z:=aa d
 clear Q d
 go_wp2_with fail
 refine(uH U _ ((uH HT).all (uH z))).mono ?_
 rintro e m ⟨⟨v,rfl,hv⟩,d⟩
 obtain⟨F,G,H,l,rfl,Z⟩:=hv
 have h:Below m.heap.size m (m.alloc (.cells #[.bool F,.slice G l.length H,.int .i64 X] 52)):=(Below.refl _ _).alloc (Nat.le_refl _) _
 have Y:=aa ((show aG m (.agg #[.bool F,.slice G l.length H,.int .i64 X]) D X from⟨F,G,H,l,rfl,Z⟩).below h)
 have K:=aa ((uH z).trans ((d.trans (h.mono d.size)).mono (uH z).size))
 have A:=aB.new m (.bool F) (.slice G l.length H) (.int .i64 X)
 have z0:=A.c0;have z1:=A.c1;have z2:=A.c2
 clear Z d h U A z
 generalize l.length=l2 at*
 go_wp2_with fail
 refine(uH V _ _ (uH Y)).mono ?_
 rintro e w3 ⟨rfl,d⟩
 have B3:=aa ((uH K).trans (d.mono (uH K).size))
 clear d V K z0 z1 z2 Y
 go_wp2
 go_ret
 exact⟨rfl,uH B3⟩
theorem Ex{v:Nat}(h:v<9007199254740992):bl v≤53:=by
 by_cases d:v=0
 ·subst d;decide
 ·obtain⟨l,f,m⟩:=aY v d
  have:=ch (Nat.lt_of_le_of_lt f (by rw[zv];exact h))
  omega
theorem I8{w:World}{v:Value}{D X:Int}(d:aG w v D X)(l:D%2=1)(m:D.natAbs<9007199254740992)(L:-1074≤X∧X≤1024):
  Calls Tryz.prog 171 #[v] w fun r w'=>r=.returned (.int .i64 ((bl D.natAbs:Int)+X))∧Below w.heap.size w w':=by
 obtain⟨f,z,F,A,rfl,h,G,H,O,K⟩:=d.right (cW _ (by omega))
 have:=kn f z F A X w h (by omega)
 have M:j6 f A X=true:=K.trans (qO l (by omega))
 have d:ak A=D.natAbs:=by rw[←H,aP]
 have t:=iy h.2.1 G
 have N:bl D.natAbs≤53:=Ex m
 rw[t,d,a8 _ (by omega)]at this
 exact this
def eX(a:Nat):Int:=if fK a=4∨fK a=3∨fK a=0 then 0 else(bl (fD a).natAbs:Int)+fX a-1
theorem AM(a:Nat)(w:World)(d:a<18446744073709551616)(m:cC w):
  Calls Tryz.prog 145 #[.int .u64 a] w fun r w'=>r=.returned (.int .i64 (eX a))∧Below w.heap.size w w':=by
 have f:=fun w'=>cF a w' d
 unfold eX
 by_cases h:fK a=4∨fK a=3∨fK a=0
 ·rw[if_pos h]
  exact I6 a _ w h f
 ·rw[if_neg h]
  have l:=bf a (by omega) (by omega)
  obtain⟨z1,z2,A,D,F,G,H,K,L⟩:=gv a d l (by omega)
  exact I7 a _ (fD a) (fX a) _ w (by simp;omega) (by simp;omega) (by simp;omega) (by omega) m f (fun w' t=>dl a w' d l t) (fun w' v z=>I8 z z1 z2 (by omega))
def aO(s t:Bool):Nat:=if(s&&t)=true then 9223372036854775808 else 0
theorem uU(a b:Nat)(w:World)(h:a<18446744073709551616)(l:b<18446744073709551616):
  Calls Tryz.prog 215 #[.int .u64 a,.int .u64 b] w fun e w'=>e=.returned (.int .u64 (aO (fS a) (fS b):Nat))∧Below w.heap.size w w':=by
 have m:=aa (fun w'=>d6 a w' h)
 have z:=aa (fun w'=>d6 b w' l)
 generalize fS a=s at*
 generalize fS b=t at*
 clear h l
 go_enter Tryz.func215,Tryz.ntmps215
 go_wp2_with fail
 refine(uH m _).mono ?_
 rintro e A ⟨rfl,d⟩
 cases s
 ·go_wp2
  go_ret
  exact⟨rfl,d⟩
 ·go_wp2_with fail
  refine(uH z _).mono ?_
  rintro e D ⟨rfl,f⟩
  cases t
  ·go_wp2
   go_ret
   exact⟨rfl,d.trans (f.mono d.size)⟩
  ·go_wp2
   go_ret
   exact⟨rfl,d.trans (f.mono d.size)⟩
theorem AN{w:World}{n:Bool}{a:Option Addr}{l c:Nat}{e m X:Int}(h:aG w (.agg #[.bool n,.slice a l c,.int .i64 e]) m X):((l:Int)==0)=decide (m=0):=by
 obtain⟨G,H,K,d,z,_,F,_,t,_⟩:=h.parts
 simp only[Value.agg.injEq,Array.mk.injEq,List.cons.injEq,Value.slice.injEq]at z
 have D:=z.2.1.2.1
 by_cases f:m=0
 ·have:d= []:=(aK d F).1 (by rw[t,f];rfl)
  rw[decide_eq_true f,D,this];rfl
 ·have:d.length≠0:=fun A=>by
   have:d= []:=List.length_eq_zero_iff.1 A
   rw[this]at t
   simp[ak]at t
   omega
  rw[decide_eq_false f];simp;omega
theorem sT(a b:Nat)(z1 z2 l m t:Int)(w:World)(o:Nat)
  (C1:∀w',Below w.heap.size w w'→Calls Tryz.prog 156 #[.int .u64 a] w' fun r h=>mu h r 0 z1 l∧Below w'.heap.size w' h)
  (C2:∀w',Below w.heap.size w w'→Calls Tryz.prog 156 #[.int .u64 b] w' fun r h=>mu h r 0 z2 m∧Below w'.heap.size w' h)
  (C3:∀w' v u,Below w.heap.size w w'→aG w' v z1 l→aG w' u z2 m→Calls Tryz.prog 214 #[v,u] w' fun r h=>mu h r 0 0 t∧Below w'.heap.size w' h)
  (C4:∀w',Calls Tryz.prog 215 #[.int .u64 a,.int .u64 b] w' fun r h=>r=.returned (.int .u64 (o:Nat))∧Below w'.heap.size w' h):
  Calls Tryz.prog 203 #[.int .u64 a,.int .u64 b] w fun r w'=>r=.returned (.tuple #[.int .u64 (o:Nat),.int .u8 0])∧Below w.heap.size w w':=by
 have K1:=aa C1;have K2:=aa C2;have K3:=aa C3;have K4:=aa C4
 clear C1 C2 C3 C4
 go_enter Tryz.func203,Tryz.ntmps203
 go_wp2_with fail
 refine(uH K1 _ (Below.refl _ _)).mono ?_
 rintro e D ⟨⟨v,rfl,F⟩,f⟩
 obtain⟨Q,U,V,Y,rfl,i1⟩:=F
 have d:Below D.heap.size D (D.alloc (.cells #[.bool Q,.slice U Y.length V,.int .i64 l] 52)):=(Below.refl _ _).alloc (Nat.le_refl _) _
 have HV:=aa ((show aG D (.agg #[.bool Q,.slice U Y.length V,.int .i64 l]) z1 l from⟨Q,U,V,Y,rfl,i1⟩).below d)
 have X:=aa (aB.new D (.bool Q) (.slice U Y.length V) (.int .i64 l))
 have K:=aa (f.trans (d.mono f.size))
 clear i1 f d K1
 go_wp2_with fail
 refine(uH K2 _ (uH K)).mono ?_
 rintro e G ⟨⟨v,rfl,F⟩,f⟩
 obtain⟨Z,a2,c2,L2,rfl,i2⟩:=F
 have d:Below G.heap.size G (G.alloc (.cells #[.bool Z,.slice a2 L2.length c2,.int .i64 m] 52)):=(Below.refl _ _).alloc (Nat.le_refl _) _
 have HU:=aa ((show aG G (.agg #[.bool Z,.slice a2 L2.length c2,.int .i64 m]) z2 m from⟨Z,a2,c2,L2,rfl,i2⟩).below d)
 have z:=aa (((uH HV).below f).below d)
 have L:=((uH X).all f).all d
 have M:=aB.new G (.bool Z) (.slice a2 L2.length c2) (.int .i64 m)
 have N:=aa ((uH K).trans ((f.trans (d.mono f.size)).mono (uH K).size))
 have y0:=L.c0;have y1:=L.c1;have y2:=L.c2;have u0:=M.c0;have u1:=M.c1;have u2:=M.c2
 clear i2 f d K2 K HV X L M
 go_wp2_with fail
 refine(uH K3 _ _ _ (uH N) (uH z) (uH HU)).mono ?_
 rintro e H ⟨⟨v,rfl,F⟩,f⟩
 clear y0 y1 y2 u0 u1 u2
 obtain⟨n3,a3,c3,A,rfl,i3⟩:=F
 have d:Below H.heap.size H (H.alloc (.cells #[.bool n3,.slice a3 A.length c3,.int .i64 t] 52)):=(Below.refl _ _).alloc (Nat.le_refl _) _
 have HX:=aa ((show aG H (.agg #[.bool n3,.slice a3 A.length c3,.int .i64 t]) 0 t from⟨n3,a3,c3,A,rfl,i3⟩).below d)
 have hl:=AN (uH HX)
 rw[decide_eq_true rfl]at hl
 have B3:=aa ((uH N).trans ((f.trans (d.mono f.size)).mono (uH N).size))
 have O:=aB.new H (.bool n3) (.slice a3 A.length c3) (.int .i64 t)
 have y0:=O.c0;have y1:=O.c1;have y2:=O.c2
 clear i3 f d K3 N z HU O
 generalize A.length=l3 at*
 go_wp2_with fail
 refine(uH K4 _).mono ?_
 rintro e w4 ⟨rfl,f⟩
 have B4:=aa ((uH B3).trans (f.mono (uH B3).size))
 clear f K4 B3
 go_wp2
 exact bodyPost_ret (v:=.tuple #[.int .u64 o,.int .u8 0]) (by simp[results,Tryz.results203,go_sem]) rfl ⟨rfl,uH B4⟩
theorem sU(a b:Nat)(z1 z2 K l m t fl:Int)(w:World)(o:Nat)(h0:K≠0)
  (C1:∀w',Below w.heap.size w w'→Calls Tryz.prog 156 #[.int .u64 a] w' fun r h=>mu h r 0 z1 l∧Below w'.heap.size w' h)
  (C2:∀w',Below w.heap.size w w'→Calls Tryz.prog 156 #[.int .u64 b] w' fun r h=>mu h r 0 z2 m∧Below w'.heap.size w' h)
  (C3:∀w' v u,Below w.heap.size w w'→aG w' v z1 l→aG w' u z2 m→Calls Tryz.prog 214 #[v,u] w' fun r h=>mu h r 0 K t∧Below w'.heap.size w' h)
  (C4:∀w' v,Below w.heap.size w w'→aG w' v K t→Calls Tryz.prog 158 #[v] w' fun r h=>r=.returned (.tuple #[.int .u64 (o:Nat),.int .u8 fl,.int .i64 0])∧Below w'.heap.size w' h):
  Calls Tryz.prog 203 #[.int .u64 a,.int .u64 b] w fun r w'=>r=.returned (.tuple #[.int .u64 (o:Nat),.int .u8 fl])∧Below w.heap.size w w':=by
 have K1:=aa C1;have K2:=aa C2;have K3:=aa C3;have K4:=aa C4
 clear C1 C2 C3 C4
 go_enter Tryz.func203,Tryz.ntmps203
 go_wp2_with fail
 refine(uH K1 _ (Below.refl _ _)).mono ?_
 rintro e D ⟨⟨v,rfl,F⟩,f⟩
 obtain⟨V,Y,Z,L1,rfl,i1⟩:=F
 have d:Below D.heap.size D (D.alloc (.cells #[.bool V,.slice Y L1.length Z,.int .i64 l] 52)):=(Below.refl _ _).alloc (Nat.le_refl _) _
 have HV:=aa ((show aG D (.agg #[.bool V,.slice Y L1.length Z,.int .i64 l]) z1 l from⟨V,Y,Z,L1,rfl,i1⟩).below d)
 have X:=aa (aB.new D (.bool V) (.slice Y L1.length Z) (.int .i64 l))
 have L:=aa (f.trans (d.mono f.size))
 clear i1 f d K1
 go_wp2_with fail
 refine(uH K2 _ (uH L)).mono ?_
 rintro e G ⟨⟨v,rfl,F⟩,f⟩
 obtain⟨n2,a2,c2,L2,rfl,i2⟩:=F
 have d:Below G.heap.size G (G.alloc (.cells #[.bool n2,.slice a2 L2.length c2,.int .i64 m] 52)):=(Below.refl _ _).alloc (Nat.le_refl _) _
 have HU:=aa ((show aG G (.agg #[.bool n2,.slice a2 L2.length c2,.int .i64 m]) z2 m from⟨n2,a2,c2,L2,rfl,i2⟩).below d)
 have z:=aa (((uH HV).below f).below d)
 have M:=((uH X).all f).all d
 have N:=aB.new G (.bool n2) (.slice a2 L2.length c2) (.int .i64 m)
 have O:=aa ((uH L).trans ((f.trans (d.mono f.size)).mono (uH L).size))
 have y0:=M.c0;have y1:=M.c1;have y2:=M.c2;have u0:=N.c0;have u1:=N.c1;have u2:=N.c2
 clear i2 f d K2 L HV X M N
 go_wp2_with fail
 refine(uH K3 _ _ _ (uH O) (uH z) (uH HU)).mono ?_
 rintro e H ⟨⟨v,rfl,F⟩,f⟩
 clear y0 y1 y2 u0 u1 u2
 obtain⟨n3,a3,c3,A,rfl,i3⟩:=F
 have d:Below H.heap.size H (H.alloc (.cells #[.bool n3,.slice a3 A.length c3,.int .i64 t] 52)):=(Below.refl _ _).alloc (Nat.le_refl _) _
 have HX:=aa ((show aG H (.agg #[.bool n3,.slice a3 A.length c3,.int .i64 t]) K t from⟨n3,a3,c3,A,rfl,i3⟩).below d)
 have hl:=AN (uH HX)
 rw[decide_eq_false h0]at hl
 have Q:=aa ((uH O).trans ((f.trans (d.mono f.size)).mono (uH O).size))
 have U:=aB.new H (.bool n3) (.slice a3 A.length c3) (.int .i64 t)
 have y0:=U.c0;have y1:=U.c1;have y2:=U.c2
 clear i3 f d K3 O z HU U
 generalize A.length=l3 at*
 go_wp2_with fail
 refine(uH K4 _ _ (uH Q) (uH HX)).mono ?_
 rintro e w4 ⟨rfl,f⟩
 have B4:=aa ((uH Q).trans (f.mono (uH Q).size))
 clear f K4 Q
 go_wp2
 exact bodyPost_ret (v:=.tuple #[.int .u64 o,.int .u8 fl]) (by simp[results,Tryz.results203,go_sem]) rfl ⟨rfl,uH B4⟩
theorem o8(a b:Nat)(w:World)(t:a<18446744073709551616)(z:b<18446744073709551616)(f:ap a=true)(l:ap b=true)(m:cC w):
  Calls Tryz.prog 203 #[.int .u64 a,.int .u64 b] w fun r w'=>r=.returned (.tuple #[.int .u64 (aV a b:Nat),.int .u8 (aF a b)])∧Below w.heap.size w w':=by
 obtain⟨L,M⟩:fK a≠3∧fK a≠4:=by
  rcases gi a with⟨h,_⟩|⟨_,h⟩
  ·rw[f]at h;cases h
  ·omega
 obtain⟨N,O⟩:fK b≠3∧fK b≠4:=by
  rcases gi b with⟨h,_⟩|⟨_,h⟩
  ·rw[l]at h;cases h
  ·omega
 obtain⟨V,X⟩:=dK a t f
 obtain⟨Y,Z⟩:=dK b z l
 have D:=GN a b f l
 have G:∀w',Below w.heap.size w w'→_:=fun w' h=>dl a w' t f (m.all h)
 have H:∀w',Below w.heap.size w w'→_:=fun w' h=>dl b w' z l (m.all h)
 have F:∀w' v u,Below w.heap.size w w'→aG w' v (fD a) (fX a)→aG w' u (fD b) (fX b)→_:=fun w' v u h A Q=>
  JG (W:=2099) (lo:=-1074) (z1:=fZ a) (z2:=fZ b) (by rw[V,X];exact A) (by rw[Y,Z];exact Q) (lf a f) (lf b l) D (m.all h)
 rw[(sJ a b L M N O).1,(sJ a b L M N O).2]
 by_cases d:aZ a b=0
 ·rw[if_pos d,if_pos d]
  have U:fZ a+fZ b=0:=d
  rw[U,cu]at F
  exact sT a b _ _ _ _ _ w _ G H F (fun w'=>uU a b w' t z)
 ·rw[if_neg d,if_neg d]
  have K:∀w' v,Below w.heap.size w w'→aG w' v (oM (aZ a b)) (oE (aZ a b) (-1074))→_:=fun w' v h A=>iW A D.right.2 D.right.1 (m.all h)
  rw[(jl (aZ a b) (-1074)).1,jk]at K
  exact sU a b _ _ _ _ _ _ _ w _ (gI _ d).1 G H F K
theorem Ey(a b:Nat)(A:Int)(w:World)
  (l:∀w',Calls Tryz.prog 113 #[.int .u64 a] w' fun r d=>r=.returned (.int .i64 4)∧Below w'.heap.size w' d)
  (m:∀w',Calls Tryz.prog 113 #[.int .u64 b] w' fun r d=>r=.returned (.int .i64 A)∧Below w'.heap.size w' d):
  Calls Tryz.prog 190 #[.int .u64 a,.int .u64 b] w fun r w'=>r=.returned (.tuple #[.int .u64 9221120237041090560,.int .u8 0])∧Below w.heap.size w w':=by
 have t:=aa l;have z:=aa m
 clear l m
 go_enter Tryz.func190,Tryz.ntmps190
 go_wp2_with fail
 refine(uH t _).mono ?_
 rintro e D ⟨rfl,f⟩
 go_wp2_with fail
 refine(uH z _).mono ?_
 rintro e F ⟨rfl,h⟩
 have B:=aa (f.trans (h.mono f.size))
 clear f h t z
 go_wp2
 exact bodyPost_ret (v:=.tuple #[.int .u64 9221120237041090560,.int .u8 0]) (by simp[results,Tryz.results190,go_sem]) rfl ⟨rfl,uH B⟩
theorem Ez(a b:Nat)(l:Int)(w:World)(D:(l==4)=false)
  (m:∀w',Calls Tryz.prog 113 #[.int .u64 a] w' fun r d=>r=.returned (.int .i64 l)∧Below w'.heap.size w' d)
  (t:∀w',Calls Tryz.prog 113 #[.int .u64 b] w' fun r d=>r=.returned (.int .i64 4)∧Below w'.heap.size w' d):
  Calls Tryz.prog 190 #[.int .u64 a,.int .u64 b] w fun r w'=>r=.returned (.tuple #[.int .u64 9221120237041090560,.int .u8 0])∧Below w.heap.size w w':=by
 have z:=aa m;have A:=aa t
 clear m t
 go_enter Tryz.func190,Tryz.ntmps190
 go_wp2_with fail
 refine(uH z _).mono ?_
 rintro e F ⟨rfl,f⟩
 go_wp2_with fail
 refine(uH A _).mono ?_
 rintro e G ⟨rfl,h⟩
 have B:=aa (f.trans (h.mono f.size))
 clear f h z A
 go_wp2
 exact bodyPost_ret (v:=.tuple #[.int .u64 9221120237041090560,.int .u8 0]) (by simp[results,Tryz.results190,go_sem]) rfl ⟨rfl,uH B⟩
theorem EA(a b:Nat)(w:World)(A:((a:Int)==(b:Int))=false)
  (l:∀w',Calls Tryz.prog 113 #[.int .u64 a] w' fun r d=>r=.returned (.int .i64 3)∧Below w'.heap.size w' d)
  (m:∀w',Calls Tryz.prog 113 #[.int .u64 b] w' fun r d=>r=.returned (.int .i64 3)∧Below w'.heap.size w' d):
  Calls Tryz.prog 190 #[.int .u64 a,.int .u64 b] w fun r w'=>r=.returned (.tuple #[.int .u64 9221120237041090560,.int .u8 16])∧Below w.heap.size w w':=by
 have t:=aa l;have z:=aa m
 clear l m
 go_enter Tryz.func190,Tryz.ntmps190
 go_wp2_with fail
 refine(uH t _).mono ?_
 rintro e D ⟨rfl,f⟩
 go_wp2_with fail
 refine(uH z _).mono ?_
 rintro e F ⟨rfl,h⟩
 have B:=aa (f.trans (h.mono f.size))
 clear f h t z
 go_wp2
 exact bodyPost_ret (v:=.tuple #[.int .u64 9221120237041090560,.int .u8 16]) (by simp[results,Tryz.results190,go_sem]) rfl ⟨rfl,uH B⟩
theorem EB(a b:Nat)(w:World)(A:((a:Int)==(b:Int))=true)
  (l:∀w',Calls Tryz.prog 113 #[.int .u64 a] w' fun r d=>r=.returned (.int .i64 3)∧Below w'.heap.size w' d)
  (m:∀w',Calls Tryz.prog 113 #[.int .u64 b] w' fun r d=>r=.returned (.int .i64 3)∧Below w'.heap.size w' d):
  Calls Tryz.prog 190 #[.int .u64 a,.int .u64 b] w fun r w'=>r=.returned (.tuple #[.int .u64 a,.int .u8 0])∧Below w.heap.size w w':=by
 have t:=aa l;have z:=aa m
 clear l m
 go_enter Tryz.func190,Tryz.ntmps190
 go_wp2_with fail
 refine(uH t _).mono ?_
 rintro e D ⟨rfl,f⟩
 go_wp2_with fail
 refine(uH z _).mono ?_
 rintro e F ⟨rfl,h⟩
 have B:=aa (f.trans (h.mono f.size))
 clear f h t z
 go_wp2
 exact bodyPost_ret (v:=.tuple #[.int .u64 a,.int .u8 0]) (by simp[results,Tryz.results190,go_sem]) rfl ⟨rfl,uH B⟩
theorem G8(a b:Nat)(l:Int)(w:World)(D:(l==4)=false)(F:(l==3)=false)
  (m:∀w',Calls Tryz.prog 113 #[.int .u64 a] w' fun r d=>r=.returned (.int .i64 3)∧Below w'.heap.size w' d)
  (t:∀w',Calls Tryz.prog 113 #[.int .u64 b] w' fun r d=>r=.returned (.int .i64 l)∧Below w'.heap.size w' d):
  Calls Tryz.prog 190 #[.int .u64 a,.int .u64 b] w fun r w'=>r=.returned (.tuple #[.int .u64 a,.int .u8 0])∧Below w.heap.size w w':=by
 have z:=aa m;have A:=aa t
 clear m t
 go_enter Tryz.func190,Tryz.ntmps190
 go_wp2_with fail
 refine(uH z _).mono ?_
 rintro e G ⟨rfl,f⟩
 go_wp2_with fail
 refine(uH A _).mono ?_
 rintro e H ⟨rfl,h⟩
 have B:=aa (f.trans (h.mono f.size))
 clear f h z A
 go_wp2
 exact bodyPost_ret (v:=.tuple #[.int .u64 a,.int .u8 0]) (by simp[results,Tryz.results190,go_sem]) rfl ⟨rfl,uH B⟩
theorem G9(a b:Nat)(l:Int)(w:World)(D:(l==4)=false)(F:(l==3)=false)
  (m:∀w',Calls Tryz.prog 113 #[.int .u64 a] w' fun r d=>r=.returned (.int .i64 l)∧Below w'.heap.size w' d)
  (t:∀w',Calls Tryz.prog 113 #[.int .u64 b] w' fun r d=>r=.returned (.int .i64 3)∧Below w'.heap.size w' d):
  Calls Tryz.prog 190 #[.int .u64 a,.int .u64 b] w fun r w'=>r=.returned (.tuple #[.int .u64 b,.int .u8 0])∧Below w.heap.size w w':=by
 have z:=aa m;have A:=aa t
 clear m t
 go_enter Tryz.func190,Tryz.ntmps190
 go_wp2_with fail
 refine(uH z _).mono ?_
 rintro e G ⟨rfl,f⟩
 go_wp2_with fail
 refine(uH A _).mono ?_
 rintro e H ⟨rfl,h⟩
 have B:=aa (f.trans (h.mono f.size))
 clear f h z A
 go_wp2
 exact bodyPost_ret (v:=.tuple #[.int .u64 b,.int .u8 0]) (by simp[results,Tryz.results190,go_sem]) rfl ⟨rfl,uH B⟩
theorem Ha(a b:Nat)(m t z:Int)(o:Nat)(w:World)(N:(m==4)=false)(O:(m==3)=false)(Q:(t==4)=false)(U:(t==3)=false)(A:cC w)
  (D:∀w',cC w'→Calls Tryz.prog 203 #[.int .u64 a,.int .u64 b] w' fun r d=>r=.returned (.tuple #[.int .u64 (o:Nat),.int .u8 z])∧Below w'.heap.size w' d)
  (F:∀w',Calls Tryz.prog 113 #[.int .u64 a] w' fun r d=>r=.returned (.int .i64 m)∧Below w'.heap.size w' d)
  (G:∀w',Calls Tryz.prog 113 #[.int .u64 b] w' fun r d=>r=.returned (.int .i64 t)∧Below w'.heap.size w' d):
  Calls Tryz.prog 190 #[.int .u64 a,.int .u64 b] w fun r w'=>r=.returned (.tuple #[.int .u64 (o:Nat),.int .u8 z])∧Below w.heap.size w w':=by
 have H:=aa F;have K:=aa G
 clear F G
 go_enter Tryz.func190,Tryz.ntmps190
 go_wp2_with fail
 refine(uH H _).mono ?_
 rintro e V ⟨rfl,f⟩
 go_wp2_with fail
 refine(uH K _).mono ?_
 rintro e X ⟨rfl,h⟩
 have B:=aa (f.trans (h.mono f.size))
 clear f h H K
 have L:=aa D;have M:=aa (A.all (uH B))
 clear D A
 go_wp2_with fail
 refine(uH L _ (uH M)).mono ?_
 rintro e Y ⟨rfl,l⟩
 have B:=aa ((uH B).trans (l.mono (uH B).size))
 clear l L M
 go_wp2
 exact bodyPost_ret (v:=.tuple #[.int .u64 (o:Nat),.int .u8 z]) (by simp[results,Tryz.results190,go_sem]) rfl ⟨rfl,uH B⟩
theorem sW(a b:Nat)(w:World)(K:a<18446744073709551616)(L:b<18446744073709551616)(M:cC w):
  Calls Tryz.prog 190 #[.int .u64 a,.int .u64 b] w fun r w'=>r=.returned (.tuple #[.int .u64 (aV a b:Nat),.int .u8 (aF a b)])∧Below w.heap.size w w':=by
 have l:=fun w'=>cF a w' K
 have m:=fun w'=>cF b w' L
 by_cases G:fK a=4
 ·have z:aV a b=9221120237041090560:=by unfold aV;rw[if_pos (Or.inl G)]
  have A:aF a b=0:=by unfold aF;rw[if_pos (Or.inl G)]
  rw[z,A]
  rw[G]at l
  exact Ey a b _ w l m
 by_cases H:fK b=4
 ·have z:aV a b=9221120237041090560:=by unfold aV;rw[if_pos (Or.inr H)]
  have A:aF a b=0:=by unfold aF;rw[if_pos (Or.inr H)]
  rw[z,A]
  rw[H]at m
  exact Ez a b _ w (by simp[G]) l m
 have F:¬(fK a=4∨fK b=4):=by omega
 by_cases d:fK a=3
 ·by_cases f:fK b=3
  ·by_cases D:a=b
   ·have z:aV a b=a:=by unfold aV;rw[if_neg F,if_pos d,if_neg (fun h=>h.2 D)]
    have A:aF a b=0:=by unfold aF;rw[if_neg F,if_pos d,if_neg (fun h=>h.2 D)]
    rw[z,A]
    rw[d]at l
    rw[f]at m
    exact EB a b w (by simp[D]) l m
   ·have z:aV a b=9221120237041090560:=by unfold aV;rw[if_neg F,if_pos d,if_pos ⟨f,D⟩]
    have A:aF a b=16:=by unfold aF;rw[if_neg F,if_pos d,if_pos ⟨f,D⟩]
    rw[z,A]
    rw[d]at l
    rw[f]at m
    exact EA a b w (by simp;omega) l m
  ·have z:aV a b=a:=by unfold aV;rw[if_neg F,if_pos d,if_neg (fun h=>f h.1)]
   have A:aF a b=0:=by unfold aF;rw[if_neg F,if_pos d,if_neg (fun h=>f h.1)]
   rw[z,A]
   rw[d]at l
   exact G8 a b _ w (by simp[H]) (by simp[f]) l m
 ·by_cases f:fK b=3
  ·have z:aV a b=b:=by unfold aV;rw[if_neg F,if_neg d,if_pos f]
   have A:aF a b=0:=by unfold aF;rw[if_neg F,if_neg d,if_pos f]
   rw[z,A]
   rw[f]at m
   exact G9 a b _ w (by simp[G]) (by simp[d]) l m
  ·exact Ha a b _ _ _ _ w (by simp[G]) (by simp[d]) (by simp[H]) (by simp[f]) M (fun w' t=>o8 a b w' K L (bf a d G) (bf b f H) t) l m
theorem AO(a b:Nat)(w:World)(h:a<18446744073709551616)(f:b<18446744073709551616)(l:cC w):
  Calls Tryz.prog 173 #[.int .u64 a,.int .u64 b] w fun r w'=>r=.returned (.tuple #[.int .u64 (aV a (fN b):Nat),.int .u8 (aF a (fN b))])∧Below w.heap.size w w':=by
 have m:=aa (fun w'=>gg b w' f)
 have t:=aa (sW a (fN b) w h (kh b f) l)
 clear h f l
 generalize aV a (fN b)=o at*
 generalize aF a (fN b)=z at*
 go_enter Tryz.func173,Tryz.ntmps173
 go_wp2_with fail
 refine(uH m _).mono ?_
 rintro e A ⟨rfl,rfl⟩
 go_wp2_with fail
 refine Calls.mono (uH t) ?_
 rintro e D ⟨rfl,d⟩
 have B:=aa d
 clear d m t
 go_wp2
 exact bodyPost_ret (v:=.tuple #[.int .u64 o,.int .u8 z]) (by simp[results,Tryz.results173,go_sem]) rfl ⟨rfl,uH B⟩
end Go.Proofs.YtnnfjeieennffaaGreatDoor
