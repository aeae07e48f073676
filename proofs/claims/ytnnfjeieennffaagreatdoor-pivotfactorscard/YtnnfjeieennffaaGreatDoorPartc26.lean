/- Part 26 of the texts. -/
import Derived.Test.YtnnfjeieennffaaGreatDoorPartc24
namespace Go.Proofs.YtnnfjeieennffaaGreatDoor
open Go.RowKit
def p2(e:Int):Rat:=(2:Rat)^e
theorem Hx:(2:Rat)≠0:=by decide
theorem dp(e:Int):0<p2 e:=Rat.zpow_pos (by decide)
theorem cX(a b:Int):p2 (a+b)=p2 a*p2 b:=Rat.zpow_add Hx a b
theorem Jo:p2 0=1:=Rat.zpow_zero 2
theorem eD(k:Nat):p2 (k:Int)=((2^k:Nat):Rat):=by
 unfold p2
 rw[Rat.zpow_natCast,Rat.natCast_pow]
 rfl
theorem JL:p2 1=2:=Rat.zpow_one 2
theorem Bs(a:Int):p2 (-a)*p2 a=1:=by rw[←cX,show-a+a=0 by omega,Jo]
theorem wN(e:Int):p2 (e+1)=2*p2 e:=by rw[cX,JL,Rat.mul_comm]
theorem Jp(e:Int):p2 (e+52)=4503599627370496*p2 e:=by
 rw[cX,show(52:Int)=((52:Nat):Int) by rfl,eD,Rat.mul_comm]
 rfl
theorem mL{a b:Int}(h:a≤b):p2 a≤p2 b:=by
 obtain⟨k,m⟩:∃k:Nat,b=a+(k:Int):=⟨(b-a).toNat,by omega⟩
 rw[m,cX,eD]
 have f:((1:Nat):Rat)≤((2^k:Nat):Rat):=Rat.natCast_le_natCast.2 Nat.one_le_two_pow
 have d:=Rat.mul_le_mul_of_nonneg_left f (Rat.le_of_lt (dp a))
 have l:((1:Nat):Rat)=1:=rfl
 rw[l,Rat.mul_one]at d
 exact d
def xE(v:Nat)(E:Int):Rat:=(v:Rat)*p2 E
def yE(v:Nat)(E:Int):Rat:=(rv (bw v E):Rat)*p2 (-1074)
theorem Hy(v:Nat)(E:Int)(h:v≠0)(d:(bl v:Int)+E≤1024):rv (bw v E)=cV v E*2^(av v E+1074).toNat:=by
 obtain⟨f,l,t⟩:=co v E h
 obtain⟨z,A,D⟩:=bW v E
 rw[cq v E h d]
 exact jC _ _ f (fun m=>l (by omega))
theorem wO(v:Nat)(E:Int)(h:v≠0)(d:(bl v:Int)+E≤1024):yE v E=(cV v E:Rat)*p2 (av v E):=by
 obtain⟨f,l,m⟩:=bW v E
 unfold yE
 rw[Hy v E h d,Rat.natCast_mul,←eD,Rat.mul_assoc,←cX]
 congr 2
 omega
theorem wP(v:Nat)(E:Int)(h:v≠0)(d:bw v E<9218868437227405312):(bl v:Int)+E≤1024:=by
 rcases Int.lt_or_le 1024 ((bl v:Int)+E)with g|g
 ·have:=(ky h g).1
  omega
 ·exact g
theorem th(v:Nat)(E:Int)(h:v≠0)(m:(bl v:Int)+E≤1024):
  (av v E≤E→yE v E=xE v E)∧2*yE v E≤2*xE v E+p2 (av v E)∧2*xE v E≤2*yE v E+p2 (av v E):=by
 have M:=dp (av v E)
 by_cases D:av v E≤E
 ·have e:yE v E=xE v E:=by
   obtain⟨k,f⟩:∃k:Nat,E-av v E=(k:Int):=⟨(E-av v E).toNat,by omega⟩
   rw[wO v E h m]
   unfold cV xE
   rw[f,iQ,Rat.natCast_mul,←eD,Rat.mul_assoc,←cX,show((k:Nat):Int)+av v E=E by omega]
  refine⟨fun _=>e,?_,?_⟩<;>rw[e]<;>grind
 ·obtain⟨k,f,l⟩:∃k:Nat,E-av v E= -(k:Int)∧1≤k:=⟨(av v E-E).toNat,by omega,by omega⟩
  obtain⟨K,L⟩:=xv v k
  have t:av v E=(k:Int)+E:=by omega
  have F:yE v E=((cK v k*2^k:Nat):Rat)*p2 E:=by
   rw[wO v E h m]
   unfold cV
   rw[f,cZ _ _ l,t,cX,eD,Rat.natCast_mul,Rat.mul_assoc]
  have d:=dp E
  have G:p2 (av v E)=((2^k:Nat):Rat)*p2 E:=by rw[t,cX,eD]
  have z:=Rat.mul_le_mul_of_nonneg_left (Rat.natCast_le_natCast.2 K) (Rat.le_of_lt d)
  have A:=Rat.mul_le_mul_of_nonneg_left (Rat.natCast_le_natCast.2 L) (Rat.le_of_lt d)
  rw[Rat.natCast_add,Rat.natCast_mul 2,Rat.natCast_mul 2]at z A
  have H:((2:Nat):Rat)=2:=rfl
  rw[H]at z A
  refine⟨fun g=>absurd g D,?_,?_⟩<;>rw[F,G]<;>unfold xE<;>grind
theorem mM(v:Nat)(E:Int)(A:bw v E<9218868437227405312):
  (9007199254740992*yE v E≤9007199254740992*xE v E+xE v E∧9007199254740992*xE v E≤9007199254740992*yE v E+xE v E)∨
  (bw v E≤4503599627370496∧E< -1074∧2*yE v E≤2*xE v E+p2 (-1074)∧2*xE v E≤2*yE v E+p2 (-1074)):=by
 by_cases h:v=0
 ·subst h
  refine .inl ?_
  have e:yE 0 E=0:=by unfold yE;rw[kv,dR];exact Rat.zero_mul _
  have D:xE 0 E=0:=Rat.zero_mul _
  rw[e,D]
  constructor<;>grind
 have f:=wP v E h A
 obtain⟨V,X,m⟩:=bW v E
 obtain⟨L,t,z⟩:=th v E h f
 obtain⟨Y,M,N⟩:=aY v h
 have F:0≤xE v E:=Rat.mul_nonneg (Rat.natCast_nonneg) (Rat.le_of_lt (dp E))
 by_cases G:av v E≤E
 ·refine .inl ?_
  rw[L G]
  constructor<;>grind
 ·rcases(show(av v E= -1074∧(bl v:Int)+E< -1021)∨av v E=(bl v:Int)+E-53 by omega)with⟨Q,Z⟩|m
  ·refine .inr ⟨?_,by omega,?_⟩
   ·obtain⟨k,O,d⟩:∃k:Nat,E-av v E= -(k:Int)∧1≤k:=⟨(av v E-E).toNat,by omega,by omega⟩
    have H:cV v E≤4503599627370496:=by
     unfold cV
     rw[O,cZ _ _ d]
     refine kZ ?_
     have l:v<2^(52+k):=Nat.lt_of_lt_of_le N (dP (by omega))
     rw[Nat.pow_add,F6]at l
     exact Nat.le_of_lt l
    have K:(av v E+1074).toNat=0:=by omega
    rw[cq v E h f,K,Nat.zero_mul,Nat.add_zero]
    exact H
   ·rw[Q]at t z
    exact⟨t,z⟩
  ·refine .inl ?_
   have U:4503599627370496*p2 (av v E)≤xE v E:=by
    rw[←Jp,m,show(bl v:Int)+E-53+52=((bl v-1:Nat):Int)+E by omega,cX,eD]
    unfold xE
    have:=Rat.mul_le_mul_of_nonneg_left (Rat.natCast_le_natCast.2 M) (Rat.le_of_lt (dp E))
    grind
   constructor<;>grind
def ab(x:Rat):Rat:=if x<0 then-x else x
theorem Jq{x y:Rat}(d:x≤y)(f:-x≤y):ab x≤y:=by unfold ab;grind
theorem kF(x:Rat):x≤ab x∧-x≤ab x:=by unfold ab;grind
theorem gQ{x:Rat}(h:0≤x):ab x=x:=by unfold ab;grind
theorem vl(x:Rat):ab (-x)=ab x:=by unfold ab;grind
theorem Hz(x y:Rat):ab (x-y)=ab (y-x):=by unfold ab;grind
theorem qZ(x y:Rat):ab (x*y)=ab x*ab y:=by
 have d:0≤x→0≤y→0≤x*y:=fun a b=>Rat.mul_nonneg a b
 have f:0≤-x→0≤y→0≤-x*y:=fun a b=>Rat.mul_nonneg a b
 have h:0≤x→0≤-y→0≤x* -y:=fun a b=>Rat.mul_nonneg a b
 have l:0≤-x→0≤-y→0≤-x* -y:=fun a b=>Rat.mul_nonneg a b
 unfold ab
 by_cases a:x<0<;>by_cases b:y<0<;>simp only[a,b,if_true,if_false]<;>grind
theorem ef(x:Rat):0≤x*x:=by
 have d:0≤x→0≤x*x:=fun a=>Rat.mul_nonneg a a
 have f:0≤-x→0≤-x* -x:=fun a=>Rat.mul_nonneg a a
 by_cases a:0≤x
 ·exact d a
 ·have:=f (by grind)
  grind
def fQ(a:Nat):Rat:=(fZ a:Rat)*p2 (-1074)
theorem Gd(n:Bool)(r:Nat):(pv n r:Rat)*p2 (-1074)=if n=true then-((rv r:Rat)*p2 (-1074))else(rv r:Rat)*p2 (-1074):=by
 unfold pv
 cases n
 ·simp only[Bool.false_eq_true,if_false];rfl
 ·simp only[if_true]
  rw[Rat.intCast_neg,Rat.neg_mul]
  rfl
theorem e9(a:Nat):fQ a=if fS a=true then-((rv (fR a):Rat)*p2 (-1074))else(rv (fR a):Rat)*p2 (-1074):=Gd _ _
theorem wQ(r:Nat):0≤(rv r:Rat)*p2 (-1074):=Rat.mul_nonneg Rat.natCast_nonneg (Rat.le_of_lt (dp _))
theorem me(a:Nat):ab (fQ a)=(rv (fR a):Rat)*p2 (-1074):=by
 have:=wQ (fR a)
 rw[e9]
 cases fS a
 ·simp only[Bool.false_eq_true,if_false];exact gQ this
 ·simp only[if_true];rw[vl];exact gQ this
theorem ti(z:Int):(z:Rat)=if z<0 then-(z.natAbs:Rat)else(z.natAbs:Rat):=by
 by_cases h:z<0
 ·rw[if_pos h]
  have:z= -(z.natAbs:Int):=by omega
  conv=>lhs;rw[this]
  rw[Rat.intCast_neg]
  rfl
 ·rw[if_neg h]
  have:z=(z.natAbs:Int):=by omega
  conv=>lhs;rw[this]
  rfl
theorem Fa(a b:Nat)(f:ap a=true)(l:ap b=true)(m:ap (aV a b)=true):
  9007199254740992*ab (fQ (aV a b)-(fQ a+fQ b))≤ab (fQ a+fQ b):=by
 obtain⟨D,F⟩:=qI a b f l
 have d:=iA _ m
 rw[D]at d
 have t:fQ a+fQ b=((aZ a b:Int):Rat)*p2 (-1074):=by
  unfold fQ aZ
  rw[Rat.intCast_add,Rat.add_mul]
 have z:fQ (aV a b)=((JC (aZ a b) (-1074):Int):Rat)*p2 (-1074):=by
  unfold fQ;rw[F]
 rw[t,z]
 unfold JC
 rw[Gd,ti]
 have e:=mM (aZ a b).natAbs (-1074) d
 unfold yE xE at e
 have A:=dp (-1074)
 have G:(0:Rat)≤((aZ a b).natAbs:Rat)*p2 (-1074):=Rat.mul_nonneg Rat.natCast_nonneg (Rat.le_of_lt A)
 by_cases h:aZ a b<0
 ·simp only[h,decide_true,if_true]
  unfold ab
  grind
 ·simp only[h,decide_false,if_false,Bool.false_eq_true]
  unfold ab
  grind
theorem vn(a b:Nat)(d:ap a=true)(f:ap b=true):mV a b=bZ (fS a^^fS b) (bw (rv (fR a)*rv (fR b)) (-2148)):=by
 obtain⟨h,l⟩:=bB d
 obtain⟨m,t⟩:=bB f
 unfold mV
 rw[if_neg (by omega),if_neg (by omega)]
theorem Fb(a b:Nat)(G:ap a=true)(H:ap b=true)(K:ap (mV a b)=true):
  9007199254740992*ab (fQ (mV a b)-fQ a*fQ b)≤ab (fQ a*fQ b)∨(fR (mV a b)≤4503599627370496∧2*ab (fQ (mV a b)-fQ a*fQ b)≤p2 (-1074)):=by
 have m:=iA _ K
 have z:=vn a b G H
 have N:=cN (rv (fR a)*rv (fR b)) (-2148)
 have h:fR (mV a b)=bw (rv (fR a)*rv (fR b)) (-2148):=by rw[z,eC _ _ (by omega)]
 have O:fS (mV a b)=(fS a^^fS b):=by rw[z,gP _ _ (by omega)]
 rw[h]at m
 have e:=mM _ _ m
 have Q:xE (rv (fR a)*rv (fR b)) (-2148)=(rv (fR a):Rat)*p2 (-1074)*((rv (fR b):Rat)*p2 (-1074)):=by
  unfold xE
  rw[Rat.natCast_mul,show(-2148:Int)= -1074+-1074 by rfl,cX]
  grind
 rw[Q]at e
 unfold yE at e
 have hp:=dp (-1074)
 have U:fQ (mV a b)=if(fS a^^fS b)=true then-((rv (bw (rv (fR a)*rv (fR b)) (-2148)):Rat)*p2 (-1074))else(rv (bw (rv (fR a)*rv (fR b)) (-2148)):Rat)*p2 (-1074):=by rw[e9,O,h]
 have V:=wQ (fR a);have X:=wQ (fR b)
 have Z:=Rat.mul_nonneg V X
 rw[U,e9 a,e9 b,h]
 generalize (rv (fR a):Rat)*p2 (-1074)=A at*
 generalize (rv (fR b):Rat)*p2 (-1074)=B at*
 generalize (rv (bw (rv (fR a)*rv (fR b)) (-2148)):Rat)*p2 (-1074)=Y at*
 have f:ab (A*B)=A*B:=gQ Z
 have D:ab (Y-A*B)=ab (A*B-Y):=Hz _ _
 have k3:∀t:Rat,9007199254740992*Y≤9007199254740992*(A*B)+t→9007199254740992*(A*B)≤9007199254740992*Y+t→9007199254740992*ab (Y-A*B)≤t:=fun t L M=>by unfold ab;grind
 have k4:2*Y≤2*(A*B)+p2 (-1074)→2*(A*B)≤2*Y+p2 (-1074)→2*ab (Y-A*B)≤p2 (-1074):=fun L M=>by unfold ab;grind
 have d:9007199254740992*ab (Y-A*B)≤A*B∨(bw (rv (fR a)*rv (fR b)) (-2148)≤4503599627370496∧2*ab (Y-A*B)≤p2 (-1074)):=by
  rcases e with⟨l,F⟩|⟨l,F,e3,e4⟩
  ·exact .inl (k3 _ l F)
  ·exact .inr ⟨l,k4 e3 e4⟩
 cases fS a<;>cases fS b<;>simp only[Bool.xor_false,Bool.xor_true,Bool.not_true,Bool.not_false,Bool.false_eq_true,if_true,if_false]
 ·rw[f];exact d
 ·rw[show-Y-A* -B=A*B-Y by grind,show A* -B= -(A*B) by grind,vl,f,←D];exact d
 ·rw[show-Y- -A*B=A*B-Y by grind,show-A*B= -(A*B) by grind,vl,f,←D];exact d
 ·rw[show Y- -A* -B=Y-A*B by grind,show-A* -B=A*B by grind,f];exact d
theorem Bt{a b:Int}(h:p2 a<p2 b):a<b:=by
 rcases Int.lt_or_le a b with g|g
 ·exact g
 ·have:=mL g
  grind
theorem vp(v:Nat)(E:Int)(h:v≠0):p2 ((bl v:Int)+E-1)≤xE v E∧xE v E<p2 ((bl v:Int)+E):=by
 obtain⟨m,f,l⟩:=aY v h
 have d:=dp E
 constructor
 ·rw[show(bl v:Int)+E-1=((bl v-1:Nat):Int)+E by omega,cX,eD]
  unfold xE
  have:=Rat.mul_le_mul_of_nonneg_left (Rat.natCast_le_natCast.2 f) (Rat.le_of_lt d)
  grind
 ·rw[cX,eD]
  unfold xE
  have:=Rat.mul_lt_mul_of_pos_left (Rat.natCast_lt_natCast.2 l) d
  grind
theorem jW(v:Nat)(E:Int)(h:xE v E<p2 1023):bw v E<9218868437227405312:=by
 by_cases d:v=0
 ·rw[d,kv];decide
 ·have D:=(vp v E d).1
  have F:(bl v:Int)+E-1<1023:=Bt (by grind)
  by_cases G:(bl v:Int)+E≤1022
  ·obtain⟨f,l,m⟩:=co v E d
   obtain⟨t,z,A⟩:=bW v E
   rw[cq v E d (by omega)]
   have:(av v E+1074).toNat≤2043:=by omega
   omega
  ·obtain⟨f,l,m⟩:=co v E d
   obtain⟨t,z,A⟩:=bW v E
   rw[cq v E d (by omega)]
   have:(av v E+1074).toNat≤2044:=by omega
   omega
theorem yJ(v:Nat)(E:Int)(O:bl v≤53)(f:bw v E<9218868437227405312):
  yE v E=xE v E∨(xE v E<p2 (-1022)∧bw v E≤4503599627370496∧2*yE v E≤2*xE v E+p2 (-1074)∧2*xE v E≤2*yE v E+p2 (-1074)):=by
 by_cases h:v=0
 ·subst h
  refine .inl ?_
  have e:yE 0 E=0:=by unfold yE;rw[kv,dR];exact Rat.zero_mul _
  have D:xE 0 E=0:=Rat.zero_mul _
  rw[e,D]
 have l:=wP v E h f
 obtain⟨U,V,X⟩:=bW v E
 obtain⟨L,z,A⟩:=th v E h l
 by_cases F:av v E≤E
 ·exact .inl (L F)
 ·have m:av v E= -1074∧(bl v:Int)+E< -1021:=by omega
  have Q:=(vp v E h).2
  have G:=mL (show(bl v:Int)+E≤-1022 by omega)
  rcases mM v E f with e|e
  ·refine .inr ⟨by grind,?_,by rw[m.1]at z;exact z,by rw[m.1]at A;exact A⟩
   obtain⟨Y,Z,M⟩:=aY v h
   obtain⟨k,N,d⟩:∃k:Nat,E-av v E= -(k:Int)∧1≤k:=⟨(av v E-E).toNat,by omega,by omega⟩
   have H:cV v E≤4503599627370496:=by
    unfold cV
    rw[N,cZ _ _ d]
    refine kZ ?_
    have t:v<2^(52+k):=Nat.lt_of_lt_of_le M (dP (by omega))
    rw[Nat.pow_add,F6]at t
    exact Nat.le_of_lt t
   have K:(av v E+1074).toNat=0:=by omega
   rw[cq v E h l,K,Nat.zero_mul,Nat.add_zero]
   exact H
  ·exact .inr ⟨by grind,e.1,e.2.2⟩
theorem vq(a:Nat)(d:a<18446744073709551616)(f:ap a=true)(h:fK a≠0)(n:Int):xE (fD a).natAbs (fX a+n)=(rv (fR a):Rat)*p2 (-1074)*p2 n:=by
 obtain⟨β,m,l,t,z⟩:=iB a d f h
 unfold xE
 rw[l,Rat.natCast_mul,←eD,show fX a+n=(β:Int)+-1074+n by omega,cX,cX]
 grind
theorem q8(a:Nat)(n:Int)(d:ap a=true)(h:fK a≠0):xV a n=bZ (fS a) (bw (fD a).natAbs (fX a+n)):=by
 obtain⟨l,f⟩:=bB d
 unfold xV
 rw[if_neg f,if_neg (by omega)]
theorem p9(a:Nat)(n:Int)(d:fK a=0):xV a n=a:=by
 unfold xV
 rw[if_neg (by omega),if_pos (.inr d)]
theorem lE(a:Nat)(d:fK a=0):fQ a=0:=by
 have h:=me a
 rw[(aS a).1 d,dR]at h
 have f:ab (fQ a)=0:=by rw[h];exact Rat.zero_mul _
 unfold ab at f
 grind
theorem yK(a:Nat)(n:Int)(l:a<18446744073709551616)(d:ap a=true)(h:ab (fQ a)*p2 n<p2 1023):ap (xV a n)=true:=by
 by_cases f:fK a=0
 ·rw[p9 a n f];exact d
 ·rw[q8 a n d f]
  rw[me,←vq a l d f]at h
  have:=jW _ _ h
  exact(aQ _).2.2.2 (by rw[eC _ _ (by omega)];exact this)
theorem yL(a:Nat)(n:Int)(h:a<18446744073709551616)(f:ap a=true)(D:ap (xV a n)=true):
  fQ (xV a n)=fQ a*p2 n∨(ab (fQ a)*p2 n<p2 (-1022)∧fR (xV a n)≤4503599627370496∧2*ab (fQ (xV a n)-fQ a*p2 n)≤p2 (-1074)):=by
 by_cases d:fK a=0
 ·rw[p9 a n d,lE a d,Rat.zero_mul];exact .inl rfl
 ·have t:=iA _ D
  have F:=cN (fD a).natAbs (fX a+n)
  have z:fR (xV a n)=bw (fD a).natAbs (fX a+n):=by rw[q8 a n f d,eC _ _ (by omega)]
  have G:fS (xV a n)=fS a:=by rw[q8 a n f d,gP _ _ (by omega)]
  rw[z]at t
  obtain⟨z1,z2,M,N,O,Q,U,V,X⟩:=gv a h f d
  have H:bl (fD a).natAbs≤53:=(cJ a h f d).1
  have e:=yJ _ _ H t
  rw[vq a h f d n]at e
  unfold yE at e
  rw[e9 (xV a n),G,z,me,e9 a]
  generalize (rv (bw (fD a).natAbs (fX a+n)):Rat)*p2 (-1074)=Y at*
  generalize (rv (fR a):Rat)*p2 (-1074)=A at*
  cases fS a<;>simp only[Bool.false_eq_true,if_true,if_false]
  ·rcases e with e|⟨l,m,K,L⟩
   ·exact .inl e
   ·refine .inr ⟨l,m,?_⟩
    unfold ab;grind
  ·rcases e with e|⟨l,m,K,L⟩
   ·refine .inl ?_
    grind
   ·refine .inr ⟨l,m,?_⟩
    unfold ab;grind
theorem Fc(a b:Nat)(d:ap a=true)(f:ap b=true)(h:ab (fQ a+fQ b)<p2 1023):ap (aV a b)=true:=by
 obtain⟨m,z⟩:=qI a b d f
 have l:ab (fQ a+fQ b)=xE (aZ a b).natAbs (-1074):=by
  have:fQ a+fQ b=((aZ a b:Int):Rat)*p2 (-1074):=by
   unfold fQ aZ
   rw[Rat.intCast_add,Rat.add_mul]
  rw[this,ti]
  have t:(0:Rat)≤((aZ a b).natAbs:Rat)*p2 (-1074):=Rat.mul_nonneg Rat.natCast_nonneg (Rat.le_of_lt (dp _))
  unfold xE ab
  split<;>grind
 rw[l]at h
 exact(aQ _).2.2.2 (by rw[m];exact jW _ _ h)
theorem Fd(a b:Nat)(d:ap a=true)(f:ap b=true)(h:ab (fQ a*fQ b)<p2 1023):ap (mV a b)=true:=by
 have l:xE (rv (fR a)*rv (fR b)) (-2148)=ab (fQ a*fQ b):=by
  rw[qZ,me,me]
  unfold xE
  rw[Rat.natCast_mul,show(-2148:Int)= -1074+-1074 by rfl,cX]
  grind
 rw[←l]at h
 have:=jW _ _ h
 exact(aQ _).2.2.2 (by rw[vn a b d f,eC _ _ (by omega)];exact this)
theorem Jr(a:Nat)(f:fK a≠0):∃N q:Nat,N=rv (fR a)*2^120∧1152921504606846976≤q∧q*q≤N∧(tS a*tS a=4*N∨(tS a*tS a≤4*N+4*q∧4*N≤tS a*tS a+4*q)):=by
 refine⟨_,aX (rv (fR a)*2^120),rfl,?_,?_,?_⟩
 ·have:=(Bj a f).1
  have e:(2:Nat)^60=1152921504606846976:=by decide
  omega
 ·exact(bU _).1
 ·obtain⟨t,z⟩:=bU (rv (fR a)*2^120)
  unfold tS rS
  generalize rv (fR a)*2^120=N at*
  generalize aX N=q at*
  have d:(2*q)*(2*q)=4*(q*q):=by rw[Nat.mul_mul_mul_comm]
  have l:(2*q+1)*(2*q+1)=4*(q*q)+4*q+1:=by rw[c8,d];omega
  have m:=c8 q
  by_cases h:q*q=N
  ·rw[if_pos h,Nat.add_zero]
   exact .inl (by rw[d,h])
  ·rw[if_neg h]
   refine .inr ?_
   rw[l]
   generalize q*q=Q at*
   omega
theorem H6(a:Nat)(f:ap a=true)(l:fK a≠0)(m:fS a=false):sV a=tV a:=by
 obtain⟨d,t⟩:=bB f
 unfold sV
 rw[if_neg t,if_neg (fun h=>?_),if_neg (by rw[m];decide)]
 rcases h with h|h
 ·exact l h
 ·rw[h]at d
  exact d (by decide)
theorem Bu(a:Nat)(U:ap a=true)(m:fK a≠0)(V:fS a=false):
  ap (sV a)=true∧fS (sV a)=false∧sV a<18446744073709551616∧4503599627370496<fR (sV a)∧0≤fQ (sV a)∧9007199254740992*(fQ (sV a)*fQ (sV a))≤9007199254740992*fQ a+3*fQ a∧9007199254740992*fQ a≤9007199254740992*(fQ (sV a)*fQ (sV a))+3*fQ a:=by
 obtain⟨N,q,hN,hq,Q,hT⟩:=Jr a m
 obtain⟨t1,t2⟩:=Bk a U m
 have t:=H6 a U m V
 have z:fR (sV a)=tV a:=by rw[t];unfold fR;omega
 have hS:fS (sV a)=false:=by rw[t];exact decide_eq_false (by omega)
 have f:ap (sV a)=true:=(aQ _).2.2.2 (by rw[z];omega)
 have hY:fQ (sV a)=yE (tS a) (-598):=by
  rw[e9,hS,if_neg (by decide),z]
  rfl
 have l:fQ a=((4*N:Nat):Rat)*p2 (-1196):=by
  rw[e9,V,if_neg (by decide),hN,Rat.natCast_mul,Rat.natCast_mul,←eD,show(-1074:Int)=2+(120:Nat)+-1196 by rfl,cX,cX,show p2 2=((4:Nat):Rat) by rw[show(2:Int)=((2:Nat):Int) by rfl,eD]]
  grind
 have d:xE (tS a) (-598)*xE (tS a) (-598)=((tS a*tS a:Nat):Rat)*p2 (-1196):=by
  unfold xE
  rw[Rat.natCast_mul,show(-1196:Int)= -598+-598 by rfl,cX]
  grind
 have A:bw (tS a) (-598)<9218868437227405312:=by
  have:bw (tS a) (-598)=tV a:=rfl
  omega
 have e:9007199254740992*yE (tS a) (-598)≤9007199254740992*xE (tS a) (-598)+xE (tS a) (-598)∧9007199254740992*xE (tS a) (-598)≤9007199254740992*yE (tS a) (-598)+xE (tS a) (-598):=by
  rcases mM _ _ A with e|e
  ·exact e
  ·have:bw (tS a) (-598)=tV a:=rfl
   omega
 have h:0≤xE (tS a) (-598):=Rat.mul_nonneg Rat.natCast_nonneg (Rat.le_of_lt (dp _))
 have F:0≤yE (tS a) (-598):=Rat.mul_nonneg Rat.natCast_nonneg (Rat.le_of_lt (dp _))
 --the sticky root's square,beside the number
 have G:1152921504606846976*(4*q)≤4*N:=by
  have:=Nat.mul_le_mul_right q hq
  omega
 have H:1152921504606846976*(tS a*tS a)≤1152921504606846976*(4*N)+4*N∧1152921504606846976*(4*N)≤1152921504606846976*(tS a*tS a)+4*N:=by
  generalize tS a*tS a=Z at*
  omega
 have K:=dp (-1196)
 have L:=Rat.mul_le_mul_of_nonneg_left (Rat.natCast_le_natCast.2 H.1) (Rat.le_of_lt K)
 have M:=Rat.mul_le_mul_of_nonneg_left (Rat.natCast_le_natCast.2 H.2) (Rat.le_of_lt K)
 rw[Rat.natCast_add,Rat.natCast_mul 1152921504606846976,Rat.natCast_mul 1152921504606846976]at L M
 have O:((1152921504606846976:Nat):Rat)=1152921504606846976:=rfl
 rw[O]at L M
 have s0:0≤fQ a:=by rw[l];exact Rat.mul_nonneg Rat.natCast_nonneg (Rat.le_of_lt K)
 refine⟨f,hS,by rw[t];omega,by rw[z];omega,by rw[hY];exact F,?_⟩
 rw[hY]
 have g1:1152921504606846976*(xE (tS a) (-598)*xE (tS a) (-598))≤1152921504606846976*fQ a+fQ a:=by rw[d,l];grind
 have g2:1152921504606846976*fQ a≤1152921504606846976*(xE (tS a) (-598)*xE (tS a) (-598))+fQ a:=by rw[d,l];grind
 clear L M H G hT d l hN Q
 generalize xE (tS a) (-598)=X at*
 generalize yE (tS a) (-598)=Y at*
 generalize fQ a=S at*
 obtain⟨D,hD⟩:∃D,Y=X+D:=⟨Y-X,by grind⟩
 subst hD
 have m1:=Rat.mul_nonneg h (show 0≤X-9007199254740992*D by grind)
 have m2:=Rat.mul_nonneg h (show 0≤X+9007199254740992*D by grind)
 have m3:=Rat.mul_nonneg (show 0≤X-9007199254740992*D by grind) (show 0≤X+9007199254740992*D by grind)
 have m4:=ef D
 constructor
 ·grind
 ·grind
theorem qa:1267650600228229401496703205376*p2 (-1075)≤1∧0<p2 (-1075)∧p2 (-1074)=2*p2 (-1075):=by
 refine⟨?_,dp _,?_⟩
 ·have h:=mL (show(-1075:Int)≤-100 by decide)
  have d:=Bs 100
  have f:p2 100=1267650600228229401496703205376:=by rw[show(100:Int)=((100:Nat):Int) by rfl,eD];rfl
  rw[f]at d
  grind
 ·rw[show(-1074:Int)= -1075+1 by rfl,wN]
theorem Bv:(1024:Rat)≤p2 1023:=by
 have h:=mL (show(10:Int)≤1023 by decide)
 have d:p2 10=1024:=by rw[show(10:Int)=((10:Nat):Int) by rfl,eD];rfl
 grind
theorem vr(a:Nat)(h:fS a=false):0≤fQ a:=by
 rw[e9,h]
 exact wQ _
def H7(k:Int)(s x:Nat):Nat:=aV s (mV (xV x (-k)) (xV x (-k)))
def dQ(k:Int)(x:Nat):Rat:=fQ x*p2 (-k)
theorem q9(t:Nat)(d:ap t=true):fS (mV t t)=false∧mV t t<9223372036854775808:=by
 have f:=cN (rv (fR t)*rv (fR t)) (-2148)
 rw[vn t t d d,Bool.xor_self,aU]
 exact⟨decide_eq_false (by omega),by omega⟩
theorem H8(k:Int)(x:Nat)(m:x<18446744073709551616)(D:ap x=true)(U:ab (dQ k x)≤2):
  ap (mV (xV x (-k)) (xV x (-k)))=true∧fS (mV (xV x (-k)) (xV x (-k)))=false∧
  9007199254740992*ab (fQ (mV (xV x (-k)) (xV x (-k)))-dQ k x*dQ k x)≤dQ k x*dQ k x+9007199254740992*(8*p2 (-1075)):=by
 obtain⟨n1,n2,O⟩:=qa
 have V:=Bv
 have F:ab (fQ x)*p2 (-k)=ab (dQ k x):=by
  unfold dQ
  rw[qZ,gQ (Rat.le_of_lt (dp _))]
 have f:=yK x (-k) m D (by rw[F];grind)
 have z:=yL x (-k) m D f
 rw[show fQ x*p2 (-k)=dQ k x from rfl]at z
 have L:=pZ x (-k) m
 generalize xV x (-k)=t at*
 generalize dQ k x=d at*
 have M:ab (fQ t-d)≤p2 (-1075):=by
  rcases z with e|e
  ·rw[e];unfold ab;grind
  ·have:=e.2.2
   grind
 generalize p2 (-1075)=η at*
 clear z F
 obtain⟨δ,h⟩:∃δ,fQ t=d+δ:=⟨fQ t-d,by grind⟩
 rw[h]at M
 have X:δ≤η∧-δ≤η:=by
  have:=kF (d+δ-d)
  grind
 have l:=kF d
 have Y:=Rat.mul_nonneg (show 0≤2-d by grind) (show 0≤η-δ by grind)
 have Z:=Rat.mul_nonneg (show 0≤2-d by grind) (show 0≤η+δ by grind)
 have m3:=Rat.mul_nonneg (show 0≤2+d by grind) (show 0≤η-δ by grind)
 have m4:=Rat.mul_nonneg (show 0≤2+d by grind) (show 0≤η+δ by grind)
 have m5:=Rat.mul_nonneg (show 0≤η-δ by grind) (show 0≤η+δ by grind)
 have m6:=ef δ
 have m7:=ef d
 have m8:=Rat.mul_nonneg (show 0≤η by grind) (show 0≤1-η by grind)
 have m9:=Rat.mul_nonneg (show 0≤2-d by grind) (show 0≤2+d by grind)
 have A:fQ t*fQ t=d*d+2*(d*δ)+δ*δ:=by rw[h];grind
 have N:fQ t*fQ t≤d*d+5*η∧d*d≤fQ t*fQ t+5*η:=by
  rw[A];constructor<;>grind
 have G:=ef (fQ t)
 have H:=Fd t t f f (by rw[gQ G];grind)
 refine⟨H,(q9 t f).1,?_⟩
 have K:=Fb t t f f H
 rw[gQ G,O]at K
 generalize fQ (mV t t)=P at*
 generalize fQ t*fQ t=Q at*
 rcases K with e|e
 ·have:=kF (P-Q)
  unfold ab
  grind
 ·have:=kF (P-Q)
  have:=e.2
  unfold ab
  grind
theorem Fe(k:Int)(s x:Nat)(T H G:Rat)(z:x<18446744073709551616)(A:ap x=true)(F:ab (dQ k x)≤2)(d:ap s=true)(h:fS s=false)
  (X:T+dQ k x*dQ k x≤G) (K:1≤G) (L:G≤256) (Z:H≤64*G)
  (he:9007199254740992*ab (fQ s-T)≤2*T+2*H):
  ap (H7 k s x)=true∧fS (H7 k s x)=false∧9007199254740992*ab (fQ (H7 k s x)-(T+dQ k x*dQ k x))≤2*(T+dQ k x*dQ k x)+2*(H+G):=by
 obtain⟨f,l,ep⟩:=H8 k x z A F
 obtain⟨n1,n2,n3⟩:=qa
 have hB:=Bv
 unfold H7
 generalize mV (xV x (-k)) (xV x (-k))=p at*
 have s0:=vr s h
 have p0:=vr p l
 have m7:=ef (dQ k x)
 generalize dQ k x*dQ k x=D at*
 have l1:=kF (fQ s-T)
 have l2:=kF (fQ p-D)
 have m:ab (fQ s+fQ p)=fQ s+fQ p:=gQ (by grind)
 have t:=Fc s p d f (by rw[m];grind)
 have M:=Fa s p d f t
 rw[m]at M
 refine⟨t,?_,?_⟩
 ·have h1:=(qI s p d f).2
  have hz:0≤fZ s∧0≤fZ p:=by
   unfold fZ pv;rw[h,l];simp only[Bool.false_eq_true,if_false];omega
  obtain⟨O,Q⟩:=bB d
  obtain⟨U,V⟩:=bB f
  rw[(sJ s p O Q U V).1]
  split
  ·rw[h,l];decide
  ·have N:=cN (aZ s p).natAbs (-1074)
   rw[gP _ _ (by omega)]
   exact decide_eq_false (by unfold aZ;omega)
 ·have l3:=kF (fQ (aV s p)-(fQ s+fQ p))
  generalize fQ (aV s p)=Y at*
  generalize fQ s=S at*
  generalize fQ p=P at*
  generalize p2 (-1075)=η at*
  refine Rat.le_trans (Rat.mul_le_mul_of_nonneg_left (Jq (y:=ab (Y-(S+P))+ab (S-T)+ab (P-D)) (by grind) (by grind)) (by decide)) ?_
  grind
end Go.Proofs.YtnnfjeieennffaaGreatDoor
