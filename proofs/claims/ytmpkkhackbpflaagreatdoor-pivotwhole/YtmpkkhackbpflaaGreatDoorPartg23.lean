/- Part 23 of the texts. -/
import Derived.Test.YtmpkkhackbpflaaGreatDoorPartg22
set_option maxHeartbeats 2000000
set_option maxRecDepth 20000
namespace Go.Proofs.YtmpkkhackbpflaaGreatDoor
open Go.RowKit
theorem DO(X y:Nat)(l:0<y):X*2/(2*y)=2*(X/(2*y))+(if y≤X%(2*y)then 1 else 0)∧X*2%(2*y)=2*(X%(2*y)-(if y≤X%(2*y)then y else 0)):=by
 have d:=Nat.div_add_mod X (2*y)
 have t:=Nat.mod_lt X (show 0<2*y by omega)
 generalize X/(2*y)=q at*
 generalize X%(2*y)=r at*
 have h:X*2=2*y*(2*q)+2*r:=by rw[←d,Nat.add_mul,Nat.mul_assoc,Nat.mul_comm q 2,Nat.mul_comm r 2]
 by_cases c:y≤r
 ·rw[if_pos c,if_pos c]
  have e:X*2=2*y*(2*q+1)+2*(r-y):=by rw[Nat.mul_add,Nat.mul_one];omega
  rw[e]
  refine⟨?_,?_⟩
  ·rw[Nat.mul_add_div (by omega),Nat.div_eq_of_lt (by omega),Nat.add_zero]
  ·rw[Nat.mul_add_mod,Nat.mod_eq_of_lt (by omega)]
 ·rw[if_neg c,if_neg c]
  rw[h]
  refine⟨?_,?_⟩
  ·rw[Nat.mul_add_div (by omega),Nat.div_eq_of_lt (by omega),Nat.add_zero]
  ·rw[Nat.mul_add_mod,Nat.mod_eq_of_lt (by omega)];omega
def lQ(x y i:Nat):Nat:=x*2^i/(2*y)
def lR(x y i:Nat):Nat:=x*2^i%(2*y)
theorem Kj(x y:Nat)(h:x<2*y):lQ x y 0=0∧lR x y 0=x:=by
 unfold lQ lR
 rw[Nat.pow_zero,Nat.mul_one]
 exact⟨Nat.div_eq_of_lt h,Nat.mod_eq_of_lt h⟩
theorem Kk(x y i:Nat)(d:0<y):lQ x y (i+1)=2*lQ x y i+(if y≤lR x y i then 1 else 0)∧lR x y (i+1)=2*(lR x y i-(if y≤lR x y i then y else 0)):=by
 have:=DO (x*2^i) y d
 unfold lQ lR
 rw[Nat.pow_succ,←Nat.mul_assoc]
 exact this
theorem MR(x y i:Nat)(d:0<y):lR x y i<2*y:=Nat.mod_lt _ (by omega)
theorem DP(x y i:Nat)(h:x<2*y):lQ x y i<2^i:=by
 unfold lQ
 rw[Nat.div_lt_iff_lt_mul (by omega),Nat.mul_comm (2^i)]
 exact(Nat.mul_lt_mul_right (Nat.two_pow_pos i)).2 h
theorem Jn(x y:Nat):db (x*2^54) y=2*lQ x y 55+(if 0<lR x y 55 then 1 else 0):=by
 have e:x*2^55=2*(x*2^54):=by rw[show(2:Nat)^55=2*2^54 by decide];ac_rfl
 unfold db lQ lR
 rw[e,Nat.mul_div_mul_left _ _ (by decide),Nat.mul_mod_mul_left]
 congr 1
 by_cases c:x*2^54%y=0
 ·rw[if_pos c,c,if_neg (by omega)]
 ·rw[if_neg c,if_pos (by omega)]
def dS(b:Nat):Nat:=(fD b).natAbs*2^(53-bl (fD b).natAbs)
def dT(b:Nat):Int:=(bl (fD b).natAbs:Int)+fX b
theorem dk(b:Nat)(H:b<18446744073709551616)(D:ah b=true)(I:fK b≠0):
  bl (fD b).natAbs≤53∧1≤bl (fD b).natAbs∧4503599627370496≤dS b∧dS b<9007199254740992∧-1074≤fX b∧fX b≤1024∧(fD b).natAbs%2=1∧(fD b).natAbs<9007199254740992:=by
 obtain⟨β,U,N,O,Q⟩:=oI b H D I
 have d:(fD b).natAbs≠0:=by omega
 obtain⟨T,V,X⟩:=bQ _ d
 have h:bl (fD b).natAbs≤53:=by
  have:(2:Nat)^(bl (fD b).natAbs-1)<2^53:=by rw[Df];omega
  have:=dh this
  omega
 have J:=l9 (fD b).natAbs (53-bl (fD b).natAbs) d
 have l:bl (dS b)=53:=by unfold dS;rw[J];omega
 have t:dS b≠0:=by
  unfold dS
  exact Nat.mul_ne_zero d (Nat.pos_iff_ne_zero.1 (Nat.two_pow_pos _))
 obtain⟨Y,G,z⟩:=bQ _ t
 rw[l]at G z
 have F:=jR b D
 rw[gR,N]at F
 have L:β<2098:=by
  have M:2^β≤(fD b).natAbs*2^β:=Nat.le_mul_of_pos_left _ (by omega)
  exact dh (Nat.lt_of_le_of_lt M F)
 refine⟨h,T,?_,?_,by omega,by omega,O,Q⟩
 ·exact G
 ·rw[Df]at z;exact z
def pS(a b:Nat):Nat:=db (dS a*2^54) (dS b)
theorem DQ(a b:Nat)(D:a<18446744073709551616)(F:b<18446744073709551616)(G:ah a=true)(H:ah b=true)(I:fK a≠0)(J:fK b≠0):
  cC (pS a b) (dT a-dT b-55)=qV a b∧bX (oM (pS a b:Nat)).natAbs (oE (pS a b:Nat) (dT a-dT b-55))=qF a b:=by
 obtain⟨X,Y,Z,x4,x5,x6,x7,x8⟩:=dk a D G I
 obtain⟨y1,y2,y3,y4,y5,y6,O,Q⟩:=dk b F H J
 have l:=GI (fD a).natAbs (fD b).natAbs (by omega) Q (by omega)
 obtain⟨u1,u2,u3⟩:=bQ (fD a).natAbs (by omega)
 obtain⟨v1,v2,v3⟩:=bQ (fD b).natAbs (by omega)
 unfold pS qV qF qS dS dT
 generalize (fD a).natAbs=d at*
 generalize (fD b).natAbs=h at*
 have L:d*2^(53-bl d)*2^54=d*2^(54-bl d+bl h)*2^(53-bl h):=by
  rw[Nat.mul_assoc,←Nat.pow_add,Nat.mul_assoc,←Nat.pow_add]
  congr 2
  omega
 have t:54-bl d+bl h=54+bl h-bl d:=by omega
 rw[L,DA]
 have z:9007199254740992≤d*2^(54-bl d+bl h)/h:=by
  rw[Nat.le_div_iff_mul_le (by omega)]
  have T:9007199254740992*h≤2^53*2^bl h:=by rw[Df];exact Nat.mul_le_mul_left _ (by omega)
  have U:(2:Nat)^53*2^bl h≤2^(bl d-1)*2^(54-bl d+bl h):=by
   rw[←Nat.pow_add,←Nat.pow_add];exact gX (by omega)
  have V:2^(bl d-1)*2^(54-bl d+bl h)≤d*2^(54-bl d+bl h):=Nat.mul_le_mul_right _ u2
  omega
 have M:(bl d:Int)+fX a-((bl h:Int)+fX b)-55=(fX a-fX b-1)-(54-bl d+bl h:Nat):=by omega
 have N:fX a-fX b-181=(fX a-fX b-1)-(180:Nat):=by omega
 rw[M,N]
 exact⟨GH d h _ 180 _ (by omega) z l,sU d h _ 180 _ O z l⟩
theorem DR(a b:Nat)(d:a<18446744073709551616)(l:b<18446744073709551616)(t:ah a=true)(z:ah b=true)(D:fK a≠0)(F:fK b≠0):pS a b≠0∧pS a b<144115188075855872∧dS a<2*dS b:=by
 obtain⟨L,M,N,O,Q,T,U,V⟩:=dk a d t D
 obtain⟨X,Y,Z,y4,y5,y6,y7,y8⟩:=dk b l z F
 have h:=Jn (dS a) (dS b)
 have G:=DP (dS a) (dS b) 55 (by omega)
 have H:(2:Nat)^55=36028797018963968:=by decide
 have I:(if 0<lR (dS a) (dS b) 55 then 1 else 0)≤1:=by split<;>omega
 refine⟨?_,?_,by omega⟩
 ·have:1≤dS a*2^54/dS b:=by
   rw[Nat.le_div_iff_mul_le (by omega),Nat.one_mul]
   have:dS a*1≤dS a*2^54:=Nat.mul_le_mul_left _ (by decide)
   have J:dS a*2≤dS a*2^54:=Nat.mul_le_mul_left _ (by decide)
   omega
  unfold pS db
  omega
 ·show db (dS a*2^54) (dS b)<_
  rw[h];omega
theorem zp(b:Nat)(d:fK b≠0):fZ b≠0∧decide (fZ b<0)=fS b:=by
 have h:fR b≠0:=fun e=>d ((cP b).2 e)
 have l:0<rv (fR b):=xv (by omega)
 unfold fZ pv
 cases fS b
 ·simp only[Bool.false_eq_true,if_false]
  exact⟨by omega,decide_eq_false (by omega)⟩
 ·simp only[if_true]
  exact⟨by omega,decide_eq_true (by omega)⟩
theorem fL(a:Nat)(z:a<18446744073709551616)(t:ah a=true)(D:fK a≠0):
  fD a%2=1∧(fD a).natAbs<9007199254740992∧(fD a).natAbs≠0∧decide (fD a<0)=fS a∧-1074≤fX a∧fX a≤1024∧1≤bl (fD a).natAbs∧(bl (fD a).natAbs:Int)+fX a≤1024∧cC (rv (fR a)) (-1074)=cC (fD a).natAbs (fX a):=by
 obtain⟨β,H,F,U,I⟩:=oI a z t D
 obtain⟨V,J,X,Y,L,M,Z,y8⟩:=dk a z t D
 obtain⟨N,d2⟩:=fJ a z t
 obtain⟨n1,O⟩:=zp a D
 have d:(fD a).natAbs≠0:=by omega
 have T:bl (rv (fR a))=bl (fD a).natAbs+β:=by rw[F];exact l9 _ _ d
 have h:=jR a t
 rw[gR]at h
 have l:rv (fR a)≠0:=by rw[←gR];omega
 have G:bl (rv (fR a))≤2098:=by
  obtain⟨b1,Q,b3⟩:=bQ _ l
  have:=dh (Nat.lt_of_le_of_lt Q h)
  omega
 refine⟨by omega,I,d,?_,L,M,J,by omega,?_⟩
 ·rw[←N,km];exact O
 ·rw[F,H,nC]
theorem sX(C:Int)(l:2098<C)(v:Nat)(E n:Int)(d:v≠0)(t:(bl v:Int)+E≤1024)(z:-1074≤(bl v:Int)+E):
  cC v (E+n)=cC v (E+max (-C) (min C n))∧bX v (E+n)=bX v (E+max (-C) (min C n)):=by
 rcases Int.lt_or_le C n with h|h
 ·have a:=py d (E:=E+n) (by omega)
  have b:=py d (E:=E+max (-C) (min C n)) (by omega)
  rw[a.1,a.2,b.1,b.2]
  exact⟨rfl,rfl⟩
 ·rcases Int.lt_or_le n (-C)with g|g
  ·have a:=zj d (E:=E+n) (by omega)
   have b:=zj d (E:=E+max (-C) (min C n)) (by omega)
   rw[a.1,a.2,b.1,b.2]
   exact⟨rfl,rfl⟩
  ·rw[show max (-C) (min C n)=n by omega]
   exact⟨rfl,rfl⟩
def xV(a:Nat)(n:Int):Nat:=if fK a=4 then 9221120237041090560 else if fK a=3∨fK a=0 then a else gc (fS a) (cC (fD a).natAbs (fX a+n))
def xF(a:Nat)(n:Int):Int:=if fK a=4 then 0 else if fK a=3∨fK a=0 then 0 else bX (fD a).natAbs (fX a+n)
theorem zq(a:Nat)(n:Int)(d:a<18446744073709551616):xV a n<18446744073709551616:=by
 unfold xV
 have:=di (fD a).natAbs (fX a+n)
 repeat' split
 ·decide
 ·exact d
 ·exact jS _ _ (by omega)
theorem DS(C:Int)(l:2098<C)(a:Nat)(n:Int)(t:a<18446744073709551616):xV a (max (-C) (min C n))=xV a n∧xF a (max (-C) (min C n))=xF a n:=by
 unfold xV xF
 by_cases d:fK a=4
 ·rw[if_pos d,if_pos d,if_pos d,if_pos d];exact⟨rfl,rfl⟩
 by_cases h:fK a=3∨fK a=0
 ·rw[if_neg d,if_neg d,if_neg d,if_neg d,if_pos h,if_pos h,if_pos h,if_pos h];exact⟨rfl,rfl⟩
 ·rw[if_neg d,if_neg d,if_neg d,if_neg d,if_neg h,if_neg h,if_neg h,if_neg h]
  obtain⟨z1,z2,z,F,G,H,I,D,J⟩:=fL a t (gt a (by omega) d) (by omega)
  have:=sX C l _ _ n z D (by omega)
  rw[this.1,this.2]
  exact⟨rfl,rfl⟩
theorem sY{D E:Int}(h:D%2=1)(d:-16384≤E∧E≤16384):sM D E=true:=by
 unfold sM
 rw[if_neg (by omega),decide_eq_true h,decide_eq_true d];rfl
theorem zr{D:Int}(h:D%2=1):oM D=D∧∀e,oE D e=e:=by
 have d:D≠0:=by omega
 have l:=iB D d
 have:=(gW D d).unique (m':=D) (k':=0) ⟨by simp,h⟩
 refine⟨this.1,fun e=>?_⟩
 rw[d9 _ _ d,this.2];simp
theorem Kl{D:Int}(h:D%2=1):tz D.natAbs=0:=by
 have d:D≠0:=by omega
 exact((gW D d).unique (m':=D) (k':=0) ⟨by simp,h⟩).2
theorem GM{w:World}{v:Value}{D X:Int}(n:Int)(t:bc w v D X)(d:D%2=1)(M:D.natAbs<9007199254740992)(N:-1074≤X∧X≤1024)(O:-5000≤n∧n≤5000)(z:c8 w):
  Calls Tryz.prog 194 #[v,.int .i64 n] w fun r l=>ow l r 0 D (X+n)∧Below w.heap.size w l:=by
 obtain⟨F,G,H,A,rfl,I,Q,J,T,L⟩:=t.right (dK _ (by omega))
 have:=sO F G H A X n w I (L.trans (sY d (by omega))) (by omega) z
 have h:nE D (X+n)=true:=by
  unfold nE
  rw[Kl d,decide_eq_true (show-32768≤X+n∧X+n≤32768 by omega),decide_eq_true (show-16384≤X+n+((0:Nat):Int)∧X+n+((0:Nat):Int)≤16384 by omega),Bool.or_true]
  rfl
 rw[J]at this
 unfold dz dM dX at this
 rw[h,if_pos rfl,if_pos rfl,if_pos rfl,(zr d).1,(zr d).2]at this
 exact this
theorem pG(a o:Nat)(n D X Y V:Int)(w:World)(hT:c8 w)
  (C1:∀l,c8 l→Calls Tryz.prog 193 #[.int .u64 a] l fun r t=>ow t r 0 D X∧Below l.heap.size l t)
  (C2:∀l v,c8 l→bc l v D X→Calls Tryz.prog 194 #[v,.int .i64 n] l fun r t=>ow t r 0 D Y∧Below l.heap.size l t)
  (C3:∀l v,c8 l→bc l v D Y→Calls Tryz.prog 195 #[v] l fun r t=>r=.returned (.tuple #[.int .u64 (o:Nat),.int .u8 V,.int .i64 0])∧Below l.heap.size l t):
  Calls Tryz.prog 163 #[.int .u64 a,.int .i64 n] w fun r l=>r=.returned (.tuple #[.int .u64 (o:Nat),.int .u8 V])∧Below w.heap.size w l:=by
 have K1:=ac C1;have K2:=ac C2;have K3:=ac C3;have Z:=ac hT
 clear C1 C2 C3 hT
 go_enter Tryz.func163,Tryz.ntmps163
 go_wp2_with fail
 refine(uH K1 _ (uH Z)).mono ?_
 rintro e H ⟨⟨v,rfl,hv⟩,h⟩
 obtain⟨M,N,O,F,rfl,i1⟩:=hv
 have d:Below H.heap.size H (H.alloc (.cells #[.bool M,.slice N F.length O,.int .i64 X] 57)):=(Below.refl _ _).alloc (Nat.le_refl _) _
 have HX:=ac ((show bc H (.agg #[.bool M,.slice N F.length O,.int .i64 X]) D X from⟨M,N,O,F,rfl,i1⟩).below d)
 have J:=ac (h.trans (d.mono h.size))
 have z:=a8.new H (.bool M) (.slice N F.length O) (.int .i64 X)
 have y0:=z.c0;have y1:=z.c1;have y2:=z.c2
 clear i1 h d K1 z
 generalize F.length=l1 at*
 go_wp2_with fail
 refine(uH K2 _ _ ((uH Z).all (uH J)) (uH HX)).mono ?_
 rintro e I ⟨⟨v,rfl,hv⟩,h⟩
 obtain⟨Q,T,U,G,rfl,i2⟩:=hv
 have d:Below I.heap.size I (I.alloc (.cells #[.bool Q,.slice T G.length U,.int .i64 Y] 57)):=(Below.refl _ _).alloc (Nat.le_refl _) _
 have HY:=ac ((show bc I (.agg #[.bool Q,.slice T G.length U,.int .i64 Y]) D Y from⟨Q,T,U,G,rfl,i2⟩).below d)
 have L:=ac ((uH J).trans ((h.trans (d.mono h.size)).mono (uH J).size))
 have z:=a8.new I (.bool Q) (.slice T G.length U) (.int .i64 Y)
 have z0:=z.c0;have z1:=z.c1;have z2:=z.c2
 clear i2 h d K2 z y0 y1 y2 HX J
 generalize G.length=l2 at*
 go_wp2_with fail
 refine(uH K3 _ _ ((uH Z).all (uH L)) (uH HY)).mono ?_
 rintro e w3 ⟨rfl,h⟩
 have B3:=ac ((uH L).trans (h.mono (uH L).size))
 clear h K3 L z0 z1 z2 HY
 go_wp2
 exact bodyPost_ret (v:=.tuple #[.int .u64 o,.int .u8 V]) (by simp[results,Tryz.results163,go_sem]) rfl ⟨rfl,uH B3⟩
theorem ox(a:Nat)(n:Int)(w:World)(l:a<18446744073709551616)(z:ah a=true)(F:fK a≠0)(G:-5000≤n∧n≤5000)(H:c8 w):
  Calls Tryz.prog 163 #[.int .u64 a,.int .i64 n] w fun r d=>r=.returned (.tuple #[.int .u64 (gc (fS a) (cC (fD a).natAbs (fX a+n)):Nat),.int .u8 (bX (fD a).natAbs (fX a+n))])∧Below w.heap.size w d:=by
 obtain⟨z1,z2,J,I,L,M,N,O,Q⟩:=fL a l z F
 have D:∀d v,c8 d→bc d v (fD a) (fX a+n)→_:=fun d v t h=>jQ h (dK _ (by omega)) (sY z1 (by omega)) t
 rw[I]at D
 exact pG a _ n (fD a) (fX a) (fX a+n) _ w H (fun d t=>ef a d l z t) (fun d v t h=>GM n h z1 z2 (by omega) G t) D
theorem GN(a:Nat)(n:Int)(w:World)
  (t:∀d,Calls Tryz.prog 122 #[.int .u64 a] d fun r h=>r=.returned (.int .i64 4)∧Below d.heap.size d h):
  Calls Tryz.prog 110 #[.int .u64 a,.int .i64 n] w fun r d=>r=.returned (.tuple #[.int .u64 9221120237041090560,.int .u8 0])∧Below w.heap.size w d:=by
 have z:=ac t
 clear t
 go_enter Tryz.func110,Tryz.ntmps110
 go_wp2_with fail
 refine(uH z _).mono ?_
 rintro e D ⟨rfl,l⟩
 clear z
 go_wp2
 exact bodyPost_ret (v:=.tuple #[.int .u64 9221120237041090560,.int .u8 0]) (by simp[results,Tryz.results110,go_sem]) rfl ⟨rfl,l⟩
theorem DT(a:Nat)(n k:Int)(w:World)(D:k=3∨k=0)
  (z:∀h,Calls Tryz.prog 122 #[.int .u64 a] h fun r t=>r=.returned (.int .i64 k)∧Below h.heap.size h t):
  Calls Tryz.prog 110 #[.int .u64 a,.int .i64 n] w fun r h=>r=.returned (.tuple #[.int .u64 (a:Nat),.int .u8 0])∧Below w.heap.size w h:=by
 have l:=ac z
 clear z
 rcases D with rfl|rfl
 ·go_enter Tryz.func110,Tryz.ntmps110
  go_wp2_with fail
  refine(uH l _).mono ?_
  rintro e F ⟨rfl,d⟩
  clear l
  go_wp2
  exact bodyPost_ret (v:=.tuple #[.int .u64 (a:Nat),.int .u8 0]) (by simp[results,Tryz.results110,go_sem]) rfl ⟨rfl,d⟩
 ·go_enter Tryz.func110,Tryz.ntmps110
  go_wp2_with fail
  refine(uH l _).mono ?_
  rintro e F ⟨rfl,d⟩
  clear l
  go_wp2
  exact bodyPost_ret (v:=.tuple #[.int .u64 (a:Nat),.int .u8 0]) (by simp[results,Tryz.results110,go_sem]) rfl ⟨rfl,d⟩
theorem pH(P:Program)(w:World)(d:Array TypeId)(t:TypeId)(x y:Int):(Builtin.min_ d t #[.int .i64 x,.int .i64 y]).run P w=.ok (.int .i64 (min x y)) w:=by
 rw[run_min_int2]
 congr 2
 split<;>omega
theorem GO(a o:Nat)(n k m c D:Int)(w:World)(O:(k==4)=false)(Q:(k==3)=false)(T:(k==0)=false)(G:c8 w)
  (U:∀W F t,(Builtin.max_ F t #[.int .i64 n,.int .i64 (-4096)]).run Tryz.prog W=.ok (.int .i64 m) W)
  (V:∀W F t,(Builtin.min_ F t #[.int .i64 m,.int .i64 4096]).run Tryz.prog W=.ok (.int .i64 c) W)
  (H:∀h,Calls Tryz.prog 122 #[.int .u64 a] h fun r l=>r=.returned (.int .i64 k)∧Below h.heap.size h l)
  (I:∀h,c8 h→Calls Tryz.prog 163 #[.int .u64 a,.int .i64 c] h fun r l=>r=.returned (.tuple #[.int .u64 (o:Nat),.int .u8 D])∧Below h.heap.size h l):
  Calls Tryz.prog 110 #[.int .u64 a,.int .i64 n] w fun r h=>r=.returned (.tuple #[.int .u64 (o:Nat),.int .u8 D])∧Below w.heap.size w h:=by
 have J:=ac H;have L:=ac I;have M:=ac G
 clear H I G
 go_enter Tryz.func110,Tryz.ntmps110
 go_wp2_with fail
 refine(uH J _).mono ?_
 rintro e X ⟨rfl,d⟩
 have z:=ac d
 clear J d
 go_wp2_with fail
 refine(uH L _ ((uH M).all (uH z))).mono ?_
 rintro e Y ⟨rfl,d⟩
 have N:=ac ((uH z).trans (d.mono (uH z).size))
 clear L d z M
 go_wp2
 exact bodyPost_ret (v:=.tuple #[.int .u64 (o:Nat),.int .u8 D]) (by simp[results,Tryz.results110,go_sem]) rfl ⟨rfl,uH N⟩
theorem xw(a:Nat)(n:Int)(w:World)(D:a<18446744073709551616)(G:c8 w):
  Calls Tryz.prog 110 #[.int .u64 a,.int .i64 n] w fun r h=>r=.returned (.tuple #[.int .u64 (xV a n:Nat),.int .u8 (xF a n)])∧Below w.heap.size w h:=by
 have z:=fun h=>dj a h D
 by_cases d:fK a=4
 ·unfold xV xF
  rw[if_pos d,if_pos d]
  rw[d]at z
  exact GN a n w z
 by_cases l:fK a=3∨fK a=0
 ·unfold xV xF
  rw[if_neg d,if_neg d,if_pos l,if_pos l]
  exact DT a n _ w l z
 ·have H:=gt a (by omega) d
  have e:=DS 4096 (by decide) a n D
  rw[show max (-4096) (min 4096 n)=min (max n (-4096)) 4096 by omega]at e
  rw[←e.1,←e.2]
  unfold xV xF
  rw[if_neg d,if_neg d,if_neg l,if_neg l]
  exact GO a _ n _ (max n (-4096)) (min (max n (-4096)) 4096) _ w (by simp[d]) (by simp;omega) (by simp;omega) G (fun W F t=>jP _ W F t _ _) (fun W F t=>pH _ W F t _ _) z (fun h t=>ox a _ h D H (by omega) (by omega) t)
def ab(x:Rat):Rat:=if x<0 then-x else x
theorem bK(x:Rat):0≤ab x:=by unfold ab;grind
theorem bU{x y:Rat}(d:x≤y)(h:-x≤y):ab x≤y:=by unfold ab;grind
theorem au(x:Rat):x≤ab x∧-x≤ab x:=by unfold ab;grind
theorem aQ{x:Rat}(h:0≤x):ab x=x:=by unfold ab;grind
theorem ik(x:Rat):ab (-x)=ab x:=by unfold ab;grind
theorem pI(x y:Rat):ab (x-y)=ab (y-x):=by unfold ab;grind
theorem DU(x y:Rat):ab (x+y)≤ab x+ab y:=by unfold ab;grind
theorem aK(x y:Rat):ab (x*y)=ab x*ab y:=by
 have d:0≤x→0≤y→0≤x*y:=fun a b=>Rat.mul_nonneg a b
 have h:0≤-x→0≤y→0≤-x*y:=fun a b=>Rat.mul_nonneg a b
 have l:0≤x→0≤-y→0≤x* -y:=fun a b=>Rat.mul_nonneg a b
 have t:0≤-x→0≤-y→0≤-x* -y:=fun a b=>Rat.mul_nonneg a b
 unfold ab
 by_cases a:x<0<;>by_cases b:y<0<;>simp only[a,b,if_true,if_false]<;>grind
theorem al(x:Rat):0≤x*x:=by
 have d:0≤x→0≤x*x:=fun a=>Rat.mul_nonneg a a
 have h:0≤-x→0≤-x* -x:=fun a=>Rat.mul_nonneg a a
 by_cases a:0≤x
 ·exact d a
 ·have:=h (by grind)
  grind
def fQ(a:Nat):Rat:=(fZ a:Rat)*p2 (-1074)
theorem Jo(n:Bool)(r:Nat):(pv n r:Rat)*p2 (-1074)=if n=true then-((rv r:Rat)*p2 (-1074))else(rv r:Rat)*p2 (-1074):=by
 unfold pv
 cases n
 ·simp only[Bool.false_eq_true,if_false];rfl
 ·simp only[if_true]
  rw[Rat.intCast_neg,Rat.neg_mul]
  rfl
theorem df(a:Nat):fQ a=if fS a=true then-((rv (fR a):Rat)*p2 (-1074))else(rv (fR a):Rat)*p2 (-1074):=Jo _ _
theorem pJ(r:Nat):0≤(rv r:Rat)*p2 (-1074):=Rat.mul_nonneg Rat.natCast_nonneg (Rat.le_of_lt (aw _))
theorem iW(a:Nat):ab (fQ a)=(rv (fR a):Rat)*p2 (-1074):=by
 have:=pJ (fR a)
 rw[df]
 cases fS a
 ·simp only[Bool.false_eq_true,if_false];exact aQ this
 ·simp only[if_true];rw[ik];exact aQ this
theorem vf(z:Int):(z:Rat)=if z<0 then-(z.natAbs:Rat)else(z.natAbs:Rat):=by
 by_cases h:z<0
 ·rw[if_pos h]
  have:z= -(z.natAbs:Int):=by omega
  conv=>lhs;rw[this]
  rw[Rat.intCast_neg]
  rfl
 ·rw[if_neg h]
  have:z=(z.natAbs:Int):=by omega
  conv=>lhs;rw[this]
  rfl
theorem iC(a b:Nat)(l:ah a=true)(t:ah b=true)(z:ah (aV a b)=true):
  9007199254740992*ab (fQ (aV a b)-(fQ a+fQ b))≤ab (fQ a+fQ b):=by
 obtain⟨H,I⟩:=sT a b l t
 have d:=jt _ z
 rw[H]at d
 have D:fQ a+fQ b=((aZ a b:Int):Rat)*p2 (-1074):=by
  unfold fQ aZ
  rw[Rat.intCast_add,Rat.add_mul]
 have F:fQ (aV a b)=((A3 (aZ a b) (-1074):Int):Rat)*p2 (-1074):=by
  unfold fQ;rw[I]
 rw[D,F]
 unfold A3
 rw[Jo,vf]
 have e:=mt (aZ a b).natAbs (-1074) d
 unfold yE xE at e
 have G:=aw (-1074)
 have J:(0:Rat)≤((aZ a b).natAbs:Rat)*p2 (-1074):=Rat.mul_nonneg Rat.natCast_nonneg (Rat.le_of_lt G)
 by_cases h:aZ a b<0
 ·simp only[h,decide_true,if_true]
  unfold ab
  grind
 ·simp only[h,decide_false,if_false,Bool.false_eq_true]
  unfold ab
  grind
theorem xx(a b:Nat)(d:ah a=true)(h:ah b=true):mV a b=gc (fS a^^fS b) (cC (rv (fR a)*rv (fR b)) (-2148)):=by
 obtain⟨l,t⟩:=bY d
 obtain⟨z,D⟩:=bY h
 unfold mV
 rw[if_neg (by omega),if_neg (by omega)]
theorem sZ(a b:Nat)(I:ah a=true)(J:ah b=true)(L:ah (mV a b)=true):
  9007199254740992*ab (fQ (mV a b)-fQ a*fQ b)≤ab (fQ a*fQ b)∨(fR (mV a b)≤4503599627370496∧2*ab (fQ (mV a b)-fQ a*fQ b)≤p2 (-1074)):=by
 have D:=jt _ L
 have F:=xx a b I J
 have O:=di (rv (fR a)*rv (fR b)) (-2148)
 have l:fR (mV a b)=cC (rv (fR a)*rv (fR b)) (-2148):=by rw[F,gu _ _ (by omega)]
 have Q:fS (mV a b)=(fS a^^fS b):=by rw[F,js _ _ (by omega)]
 rw[l]at D
 have e:=mt _ _ D
 have T:xE (rv (fR a)*rv (fR b)) (-2148)=(rv (fR a):Rat)*p2 (-1074)*((rv (fR b):Rat)*p2 (-1074)):=by
  unfold xE
  rw[Rat.natCast_mul,show(-2148:Int)= -1074+-1074 by rfl,cQ]
  grind
 rw[T]at e
 unfold yE at e
 have hp:=aw (-1074)
 have U:fQ (mV a b)=if(fS a^^fS b)=true then-((rv (cC (rv (fR a)*rv (fR b)) (-2148)):Rat)*p2 (-1074))else(rv (cC (rv (fR a)*rv (fR b)) (-2148)):Rat)*p2 (-1074):=by rw[df,Q,l]
 have V:=pJ (fR a);have X:=pJ (fR b)
 have Z:=Rat.mul_nonneg V X
 rw[U,df a,df b,l]
 generalize (rv (fR a):Rat)*p2 (-1074)=A at*
 generalize (rv (fR b):Rat)*p2 (-1074)=B at*
 generalize (rv (cC (rv (fR a)*rv (fR b)) (-2148)):Rat)*p2 (-1074)=Y at*
 have h:ab (A*B)=A*B:=aQ Z
 have G:ab (Y-A*B)=ab (A*B-Y):=pI _ _
 have k3:∀t:Rat,9007199254740992*Y≤9007199254740992*(A*B)+t→9007199254740992*(A*B)≤9007199254740992*Y+t→9007199254740992*ab (Y-A*B)≤t:=fun t M N=>by unfold ab;grind
 have k4:2*Y≤2*(A*B)+p2 (-1074)→2*(A*B)≤2*Y+p2 (-1074)→2*ab (Y-A*B)≤p2 (-1074):=fun M N=>by unfold ab;grind
 have d:9007199254740992*ab (Y-A*B)≤A*B∨(cC (rv (fR a)*rv (fR b)) (-2148)≤4503599627370496∧2*ab (Y-A*B)≤p2 (-1074)):=by
  rcases e with⟨z,H⟩|⟨z,H,e3,e4⟩
  ·exact .inl (k3 _ z H)
  ·exact .inr ⟨z,k4 e3 e4⟩
 cases fS a<;>cases fS b<;>simp only[Bool.xor_false,Bool.xor_true,Bool.not_true,Bool.not_false,Bool.false_eq_true,if_true,if_false]
 ·rw[h];exact d
 ·rw[show-Y-A* -B=A*B-Y by grind,show A* -B= -(A*B) by grind,ik,h,←G];exact d
 ·rw[show-Y- -A*B=A*B-Y by grind,show-A*B= -(A*B) by grind,ik,h,←G];exact d
 ·rw[show Y- -A* -B=Y-A*B by grind,show-A* -B=A*B by grind,h];exact d
theorem DV{a b:Int}(h:p2 a<p2 b):a<b:=by
 rcases Int.lt_or_le a b with g|g
 ·exact g
 ·have:=aA g
  grind
theorem xy(v:Nat)(E:Int)(h:v≠0):p2 ((bl v:Int)+E-1)≤xE v E∧xE v E<p2 ((bl v:Int)+E):=by
 obtain⟨z,l,t⟩:=bQ v h
 have d:=aw E
 constructor
 ·rw[show(bl v:Int)+E-1=((bl v-1:Nat):Int)+E by omega,cQ,cR]
  unfold xE
  have:=Rat.mul_le_mul_of_nonneg_left (Rat.natCast_le_natCast.2 l) (Rat.le_of_lt d)
  grind
 ·rw[cQ,cR]
  unfold xE
  have:=Rat.mul_lt_mul_of_pos_left (Rat.natCast_lt_natCast.2 t) d
  grind
theorem il(v:Nat)(E:Int)(h:xE v E<p2 1023):cC v E<9218868437227405312:=by
 by_cases d:v=0
 ·rw[d,uX];decide
 ·have H:=(xy v E d).1
  have I:(bl v:Int)+E-1<1023:=DV (by grind)
  by_cases J:(bl v:Int)+E≤1022
  ·obtain⟨l,t,z⟩:=cE v E d
   obtain⟨D,F,G⟩:=cD v E
   rw[cY v E d (by omega)]
   have:(aB v E+1074).toNat≤2043:=by omega
   omega
  ·obtain⟨l,t,z⟩:=cE v E d
   obtain⟨D,F,G⟩:=cD v E
   rw[cY v E d (by omega)]
   have:(aB v E+1074).toNat≤2044:=by omega
   omega
theorem A6(v:Nat)(E:Int)(T:bl v≤53)(l:cC v E<9218868437227405312):
  yE v E=xE v E∨(xE v E<p2 (-1022)∧cC v E≤4503599627370496∧2*yE v E≤2*xE v E+p2 (-1074)∧2*xE v E≤2*yE v E+p2 (-1074)):=by
 by_cases h:v=0
 ·subst h
  refine .inl ?_
  have e:yE 0 E=0:=by unfold yE;rw[uX,fC];exact Rat.zero_mul _
  have H:xE 0 E=0:=Rat.zero_mul _
  rw[e,H]
 have t:=zm v E h l
 obtain⟨V,X,Y⟩:=cD v E
 obtain⟨N,F,G⟩:=u7 v E h t
 by_cases I:aB v E≤E
 ·exact .inl (N I)
 ·have z:aB v E= -1074∧(bl v:Int)+E< -1021:=by omega
  have U:=(xy v E h).2
  have J:=aA (show(bl v:Int)+E≤-1022 by omega)
  rcases mt v E l with e|e
  ·refine .inr ⟨by grind,?_,by rw[z.1]at F;exact F,by rw[z.1]at G;exact G⟩
   obtain⟨Z,b2,O⟩:=bQ v h
   obtain⟨k,Q,d⟩:∃k:Nat,E-aB v E= -(k:Int)∧1≤k:=⟨(aB v E-E).toNat,by omega,by omega⟩
   have L:dY v E≤4503599627370496:=by
    unfold dY
    rw[Q,dO _ _ d]
    refine nB ?_
    have D:v<2^(52+k):=Nat.lt_of_lt_of_le O (gX (by omega))
    rw[Nat.pow_add,Je]at D
    exact Nat.le_of_lt D
   have M:(aB v E+1074).toNat=0:=by omega
   rw[cY v E h t,M,Nat.zero_mul,Nat.add_zero]
   exact L
  ·exact .inr ⟨by grind,e.1,e.2.2⟩
theorem pK(a:Nat)(d:a<18446744073709551616)(h:ah a=true)(l:fK a≠0)(n:Int):xE (fD a).natAbs (fX a+n)=(rv (fR a):Rat)*p2 (-1074)*p2 n:=by
 obtain⟨β,z,t,D,F⟩:=oI a d h l
 unfold xE
 rw[t,Rat.natCast_mul,←cR,show fX a+n=(β:Int)+-1074+n by omega,cQ,cQ]
 grind
theorem pL(a:Nat)(n:Int)(d:ah a=true)(l:fK a≠0):xV a n=gc (fS a) (cC (fD a).natAbs (fX a+n)):=by
 obtain⟨t,h⟩:=bY d
 unfold xV
 rw[if_neg h,if_neg (by omega)]
theorem rM(a:Nat)(n:Int)(d:fK a=0):xV a n=a:=by
 unfold xV
 rw[if_neg (by omega),if_pos (.inr d)]
theorem bu(a:Nat)(d:fK a=0):fQ a=0:=by
 have h:=iW a
 rw[(cP a).1 d,fC]at h
 have l:ab (fQ a)=0:=by rw[h];exact Rat.zero_mul _
 unfold ab at l
 grind
theorem kn(a:Nat)(n:Int)(t:a<18446744073709551616)(d:ah a=true)(h:ab (fQ a)*p2 n<p2 1023):ah (xV a n)=true:=by
 by_cases l:fK a=0
 ·rw[rM a n l];exact d
 ·rw[pL a n d l]
  rw[iW,←pK a t d l]at h
  have:=il _ _ h
  exact(cF _).2.2.2 (by rw[gu _ _ (by omega)];exact this)
theorem ko(a:Nat)(n:Int)(l:a<18446744073709551616)(h:ah a=true)(G:ah (xV a n)=true):
  fQ (xV a n)=fQ a*p2 n∨(ab (fQ a)*p2 n<p2 (-1022)∧fR (xV a n)≤4503599627370496∧2*ab (fQ (xV a n)-fQ a*p2 n)≤p2 (-1074)):=by
 by_cases d:fK a=0
 ·rw[rM a n d,bu a d,Rat.zero_mul];exact .inl rfl
 ·have D:=jt _ G
  have H:=di (fD a).natAbs (fX a+n)
  have F:fR (xV a n)=cC (fD a).natAbs (fX a+n):=by rw[pL a n h d,gu _ _ (by omega)]
  have I:fS (xV a n)=fS a:=by rw[pL a n h d,js _ _ (by omega)]
  rw[F]at D
  obtain⟨z1,z2,N,O,Q,T,U,V,X⟩:=fL a l h d
  have J:bl (fD a).natAbs≤53:=(dk a l h d).1
  have e:=A6 _ _ J D
  rw[pK a l h d n]at e
  unfold yE at e
  rw[df (xV a n),I,F,iW,df a]
  generalize (rv (cC (fD a).natAbs (fX a+n)):Rat)*p2 (-1074)=Y at*
  generalize (rv (fR a):Rat)*p2 (-1074)=A at*
  cases fS a<;>simp only[Bool.false_eq_true,if_true,if_false]
  ·rcases e with e|⟨t,z,L,M⟩
   ·exact .inl e
   ·refine .inr ⟨t,z,?_⟩
    unfold ab;grind
  ·rcases e with e|⟨t,z,L,M⟩
   ·refine .inl ?_
    grind
   ·refine .inr ⟨t,z,?_⟩
    unfold ab;grind
theorem oj(a:Nat)(n:Int)(d:a<18446744073709551616)(h:ah a=true)(t:ab (fQ a)*p2 n<p2 1023)(z:p2 (-1022)≤ab (fQ a)*p2 n):
  ah (xV a n)=true∧fQ (xV a n)=fQ a*p2 n:=by
 have l:=kn a n d h t
 refine⟨l,?_⟩
 rcases ko a n d h l with e|e
 ·exact e
 ·grind
theorem iD(a b:Nat)(d:ah a=true)(l:ah b=true)(h:ab (fQ a+fQ b)<p2 1023):ah (aV a b)=true:=by
 obtain⟨z,F⟩:=sT a b d l
 have t:ab (fQ a+fQ b)=xE (aZ a b).natAbs (-1074):=by
  have:fQ a+fQ b=((aZ a b:Int):Rat)*p2 (-1074):=by
   unfold fQ aZ
   rw[Rat.intCast_add,Rat.add_mul]
  rw[this,vf]
  have D:(0:Rat)≤((aZ a b).natAbs:Rat)*p2 (-1074):=Rat.mul_nonneg Rat.natCast_nonneg (Rat.le_of_lt (aw _))
  unfold xE ab
  split<;>grind
 rw[t]at h
 exact(cF _).2.2.2 (by rw[z];exact il _ _ h)
theorem s6(a b:Nat)(d:ah a=true)(l:ah b=true)(h:ab (fQ a*fQ b)<p2 1023):ah (mV a b)=true:=by
 have t:xE (rv (fR a)*rv (fR b)) (-2148)=ab (fQ a*fQ b):=by
  rw[aK,iW,iW]
  unfold xE
  rw[Rat.natCast_mul,show(-2148:Int)= -1074+-1074 by rfl,cQ]
  grind
 rw[←t]at h
 have:=il _ _ h
 exact(cF _).2.2.2 (by rw[xx a b d l,gu _ _ (by omega)];exact this)
theorem MS(a:Nat)(l:fK a≠0):∃N q:Nat,N=rv (fR a)*2^120∧1152921504606846976≤q∧q*q≤N∧(tS a*tS a=4*N∨(tS a*tS a≤4*N+4*q∧4*N≤tS a*tS a+4*q)):=by
 refine⟨_,bH (rv (fR a)*2^120),rfl,?_,?_,?_⟩
 ·have:=(DH a l).1
  have e:(2:Nat)^60=1152921504606846976:=by decide
  omega
 ·exact(cL _).1
 ·obtain⟨D,F⟩:=cL (rv (fR a)*2^120)
  unfold tS rS
  generalize rv (fR a)*2^120=N at*
  generalize bH N=q at*
  have d:(2*q)*(2*q)=4*(q*q):=by rw[Nat.mul_mul_mul_comm]
  have t:(2*q+1)*(2*q+1)=4*(q*q)+4*q+1:=by rw[dR,d];omega
  have z:=dR q
  by_cases h:q*q=N
  ·rw[if_pos h,Nat.add_zero]
   exact .inl (by rw[d,h])
  ·rw[if_neg h]
   refine .inr ?_
   rw[t]
   generalize q*q=Q at*
   omega
theorem Km(a:Nat)(l:ah a=true)(t:fK a≠0)(z:fS a=false):sV a=tV a:=by
 obtain⟨d,D⟩:=bY l
 unfold sV
 rw[if_neg D,if_neg (fun h=>?_),if_neg (by rw[z];decide)]
 rcases h with h|h
 ·exact t h
 ·rw[h]at d
  exact d (by decide)
theorem iX(a:Nat)(V:ah a=true)(z:fK a≠0)(hs:fS a=false):
  ah (sV a)=true∧fS (sV a)=false∧sV a<18446744073709551616∧4503599627370496<fR (sV a)∧0≤fQ (sV a)∧9007199254740992*(fQ (sV a)*fQ (sV a))≤9007199254740992*fQ a+3*fQ a∧9007199254740992*fQ a≤9007199254740992*(fQ (sV a)*fQ (sV a))+3*fQ a:=by
 obtain⟨N,q,hN,hq,U,hT⟩:=MS a z
 obtain⟨t1,t2⟩:=DI a V z
 have F:=Km a V z hs
 have G:fR (sV a)=tV a:=by rw[F];unfold fR;omega
 have hS:fS (sV a)=false:=by rw[F];exact decide_eq_false (by omega)
 have h:ah (sV a)=true:=(cF _).2.2.2 (by rw[G];omega)
 have hY:fQ (sV a)=yE (tS a) (-598):=by
  rw[df,hS,if_neg (by decide),G]
  rfl
 have t:fQ a=((4*N:Nat):Rat)*p2 (-1196):=by
  rw[df,hs,if_neg (by decide),hN,Rat.natCast_mul,Rat.natCast_mul,←cR,show(-1074:Int)=2+(120:Nat)+-1196 by rfl,cQ,cQ,show p2 2=((4:Nat):Rat) by rw[show(2:Int)=((2:Nat):Int) by rfl,cR]]
  grind
 have d:xE (tS a) (-598)*xE (tS a) (-598)=((tS a*tS a:Nat):Rat)*p2 (-1196):=by
  unfold xE
  rw[Rat.natCast_mul,show(-1196:Int)= -598+-598 by rfl,cQ]
  grind
 have H:cC (tS a) (-598)<9218868437227405312:=by
  have:cC (tS a) (-598)=tV a:=rfl
  omega
 have e:9007199254740992*yE (tS a) (-598)≤9007199254740992*xE (tS a) (-598)+xE (tS a) (-598)∧9007199254740992*xE (tS a) (-598)≤9007199254740992*yE (tS a) (-598)+xE (tS a) (-598):=by
  rcases mt _ _ H with e|e
  ·exact e
  ·have:cC (tS a) (-598)=tV a:=rfl
   omega
 have l:0≤xE (tS a) (-598):=Rat.mul_nonneg Rat.natCast_nonneg (Rat.le_of_lt (aw _))
 have I:0≤yE (tS a) (-598):=Rat.mul_nonneg Rat.natCast_nonneg (Rat.le_of_lt (aw _))
 --the sticky root's square,beside the number
 have J:1152921504606846976*(4*q)≤4*N:=by
  have:=Nat.mul_le_mul_right q hq
  omega
 have L:1152921504606846976*(tS a*tS a)≤1152921504606846976*(4*N)+4*N∧1152921504606846976*(4*N)≤1152921504606846976*(tS a*tS a)+4*N:=by
  generalize tS a*tS a=Z at*
  omega
 have M:=aw (-1196)
 have O:=Rat.mul_le_mul_of_nonneg_left (Rat.natCast_le_natCast.2 L.1) (Rat.le_of_lt M)
 have Q:=Rat.mul_le_mul_of_nonneg_left (Rat.natCast_le_natCast.2 L.2) (Rat.le_of_lt M)
 rw[Rat.natCast_add,Rat.natCast_mul 1152921504606846976,Rat.natCast_mul 1152921504606846976]at O Q
 have T:((1152921504606846976:Nat):Rat)=1152921504606846976:=rfl
 rw[T]at O Q
 have s0:0≤fQ a:=by rw[t];exact Rat.mul_nonneg Rat.natCast_nonneg (Rat.le_of_lt M)
 refine⟨h,hS,by rw[F];omega,by rw[G];omega,by rw[hY];exact I,?_⟩
 rw[hY]
 have g1:1152921504606846976*(xE (tS a) (-598)*xE (tS a) (-598))≤1152921504606846976*fQ a+fQ a:=by rw[d,t];grind
 have g2:1152921504606846976*fQ a≤1152921504606846976*(xE (tS a) (-598)*xE (tS a) (-598))+fQ a:=by rw[d,t];grind
 clear O Q L J hT d t hN U
 generalize xE (tS a) (-598)=X at*
 generalize yE (tS a) (-598)=Y at*
 generalize fQ a=S at*
 obtain⟨D,hD⟩:∃D,Y=X+D:=⟨Y-X,by grind⟩
 subst hD
 have m1:=Rat.mul_nonneg l (show 0≤X-9007199254740992*D by grind)
 have m2:=Rat.mul_nonneg l (show 0≤X+9007199254740992*D by grind)
 have m3:=Rat.mul_nonneg (show 0≤X-9007199254740992*D by grind) (show 0≤X+9007199254740992*D by grind)
 have m4:=al D
 constructor
 ·grind
 ·grind
end Go.Proofs.YtmpkkhackbpflaaGreatDoor
