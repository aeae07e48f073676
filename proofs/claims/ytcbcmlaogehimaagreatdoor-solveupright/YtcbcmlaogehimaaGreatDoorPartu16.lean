/- Part 16 of the texts. -/
import Derived.Test.YtcbcmlaogehimaaGreatDoorPartu15
set_option maxHeartbeats 2000000
set_option maxRecDepth 20000
namespace Go.Proofs.YtcbcmlaogehimaaGreatDoor
open Go.RowKit
def ab(x:Rat):Rat:=if x<0 then-x else x
theorem bK(x:Rat):0<=ab x:=by unfold ab;grind
theorem bP{x y:Rat}(h:x<=y)(l:-x<=y):ab x<=y:=by unfold ab;grind
theorem aw(x:Rat):x<=ab x/\-x<=ab x:=by unfold ab;grind
theorem aQ{x:Rat}(h:0<=x):ab x=x:=by unfold ab;grind
theorem ki(x:Rat):ab (-x)=ab x:=by unfold ab;grind
theorem rp(x y:Rat):ab (x-y)=ab (y-x):=by unfold ab;grind
theorem zf(x y:Rat):ab (x+y)<=ab x+ab y:=by unfold ab;grind
theorem aM(x y:Rat):ab (x*y)=ab x*ab y:=by
 have h:0<=x->0<=y->0<=x*y:=fun a b=>Rat.mul_nonneg a b
 have l:0<=-x->0<=y->0<=-x*y:=fun a b=>Rat.mul_nonneg a b
 have t:0<=x->0<=-y->0<=x* -y:=fun a b=>Rat.mul_nonneg a b
 have D:0<=-x->0<=-y->0<=-x* -y:=fun a b=>Rat.mul_nonneg a b
 unfold ab
 by_cases a:x<0<;>by_cases b:y<0<;>simp only[a,b,if_true,if_false]<;>grind
theorem ak(x:Rat):0<=x*x:=by
 have h:0<=x->0<=x*x:=fun a=>Rat.mul_nonneg a a
 have l:0<=-x->0<=-x* -x:=fun a=>Rat.mul_nonneg a a
 by_cases a:0<=x
 ·exact h a
 ·have:=l (by grind)
  grind
def fQ(a:Nat):Rat:=(fZ a:Rat)*p2 (-1074)
theorem ME(n:Bool)(r:Nat):(pv n r:Rat)*p2 (-1074)=if n=true then-((rv r:Rat)*p2 (-1074))else(rv r:Rat)*p2 (-1074):=by
 unfold pv
 cases n
 ·simp only[Bool.false_eq_true,if_false];rfl
 ·simp only[if_true]
  rw[Rat.intCast_neg,Rat.neg_mul];rfl
theorem dD(a:Nat):fQ a=if fS a=true then-((rv (fR a):Rat)*p2 (-1074))else(rv (fR a):Rat)*p2 (-1074):=ME _ _
theorem rq(r:Nat):0<=(rv r:Rat)*p2 (-1074):=Rat.mul_nonneg Rat.natCast_nonneg (Rat.le_of_lt (av _))
theorem jp(a:Nat):ab (fQ a)=(rv (fR a):Rat)*p2 (-1074):=by
 have:=rq (fR a);rw[dD]
 cases fS a
 ·simp only[Bool.false_eq_true,if_false];exact aQ this
 ·simp only[if_true];rw[ki];exact aQ this
theorem wH(z:Int):(z:Rat)=if z<0 then-(z.natAbs:Rat)else(z.natAbs:Rat):=by
 by_cases h:z<0
 ·rw[if_pos h]
  have:z= -(z.natAbs:Int):=by omega
  conv=>lhs;rw[this]
  rw[Rat.intCast_neg];rfl
 ·rw[if_neg h]
  have:z=(z.natAbs:Int):=by omega
  conv=>lhs;rw[this]
  rfl
theorem gS(a b:Nat)(t:ah a=true)(D:ah b=true)(F:ah (aV a b)=true):
  9007199254740992*ab (fQ (aV a b)-(fQ a+fQ b))<=ab (fQ a+fQ b):=by
 obtain⟨J,K⟩:=rf a b t D;have l:=kN _ F;rw[J]at l;have G:fQ a+fQ b=((aZ a b:Int):Rat)*p2 (-1074):=by
  unfold fQ aZ;rw[Rat.intCast_add,Rat.add_mul]
 have H:fQ (aV a b)=((Dc (aZ a b) (-1074):Int):Rat)*p2 (-1074):=by
  unfold fQ;rw[K]
 rw[G,H];unfold Dc;rw[ME,wH];have e:=nM (aZ a b).natAbs (-1074) l;unfold yE xE at e;have I:=av (-1074);have L:(0:Rat)<=((aZ a b).natAbs:Rat)*p2 (-1074):=Rat.mul_nonneg Rat.natCast_nonneg (Rat.le_of_lt I)
 by_cases h:aZ a b<0
 ·simp only[h,decide_true,if_true]
  unfold ab
  grind
 ·simp only[h,decide_false,if_false,Bool.false_eq_true]
  unfold ab
  grind
theorem zh(a b:Nat)(h:ah a=true)(l:ah b=true):mV a b=iJ (fS a^^fS b) (cU (rv (fR a)*rv (fR b)) (-2148)):=by
 obtain⟨t,D⟩:=cI h;obtain⟨F,G⟩:=cI l;unfold mV;rw[if_neg (by omega),if_neg (by omega)]
theorem uI(a b:Nat)(K:ah a=true)(L:ah b=true)(M:ah (mV a b)=true):
  9007199254740992*ab (fQ (mV a b)-fQ a*fQ b)<=ab (fQ a*fQ b)\/(fR (mV a b)<=4503599627370496/\2*ab (fQ (mV a b)-fQ a*fQ b)<=p2 (-1074)):=by
 have G:=kN _ M;have H:=zh a b K L;have Q:=ej (rv (fR a)*rv (fR b)) (-2148);have D:fR (mV a b)=cU (rv (fR a)*rv (fR b)) (-2148):=by rw[H,iL _ _ (by omega)]
 have U:fS (mV a b)=(fS a^^fS b):=by rw[H,kg _ _ (by omega)]
 rw[D]at G;have e:=nM _ _ G;have Z:xE (rv (fR a)*rv (fR b)) (-2148)=(rv (fR a):Rat)*p2 (-1074)*((rv (fR b):Rat)*p2 (-1074)):=by
  unfold xE;rw[Rat.natCast_mul,show(-2148:Int)= -1074+-1074 by rfl,bR]
  grind
 rw[Z]at e;unfold yE at e;have hp:=av (-1074);have hQ:fQ (mV a b)=if(fS a^^fS b)=true then-((rv (cU (rv (fR a)*rv (fR b)) (-2148)):Rat)*p2 (-1074))else(rv (cU (rv (fR a)*rv (fR b)) (-2148)):Rat)*p2 (-1074):=by rw[dD,U,D]
 have n0:=rq (fR a);have n1:=rq (fR b);have n2:=Rat.mul_nonneg n0 n1;rw[hQ,dD a,dD b,D];generalize (rv (fR a):Rat)*p2 (-1074)=A at*;generalize (rv (fR b):Rat)*p2 (-1074)=B at*;generalize (rv (cU (rv (fR a)*rv (fR b)) (-2148)):Rat)*p2 (-1074)=Y at*;have l:ab (A*B)=A*B:=aQ n2;have I:ab (Y-A*B)=ab (A*B-Y):=rp _ _;have k3:∀t:Rat,9007199254740992*Y<=9007199254740992*(A*B)+t->9007199254740992*(A*B)<=9007199254740992*Y+t->9007199254740992*ab (Y-A*B)<=t:=fun t N O=>by unfold ab;grind
 have k4:2*Y<=2*(A*B)+p2 (-1074)->2*(A*B)<=2*Y+p2 (-1074)->2*ab (Y-A*B)<=p2 (-1074):=fun N O=>by unfold ab;grind
 have h:9007199254740992*ab (Y-A*B)<=A*B\/(cU (rv (fR a)*rv (fR b)) (-2148)<=4503599627370496/\2*ab (Y-A*B)<=p2 (-1074)):=by
  rcases e with⟨F,J⟩|⟨F,J,e3,e4⟩
  ·exact .inl (k3 _ F J)
  ·exact .inr ⟨F,k4 e3 e4⟩
 cases fS a<;>cases fS b<;>simp only[Bool.xor_false,Bool.xor_true,Bool.not_true,Bool.not_false,Bool.false_eq_true,if_true,if_false]
 ·rw[l];exact h
 ·rw[show-Y-A* -B=A*B-Y by grind,show A* -B= -(A*B) by grind,ki,l,<-I];exact h
 ·rw[show-Y- -A*B=A*B-Y by grind,show-A*B= -(A*B) by grind,ki,l,<-I];exact h
 ·rw[show Y- -A* -B=Y-A*B by grind,show-A* -B=A*B by grind,l];exact h
theorem PV{a b:Int}(h:a<b):p2 a<p2 b:=by
 have l:=aq (show a+1<=b by omega);rw[bu]at l;have:=av a
 grind
theorem FP{a b:Int}(h:p2 a<p2 b):a<b:=by
 rcases Int.lt_or_le a b with g|g
 ·exact g
 ·have:=aq g
  grind
theorem zi(v:Nat)(E:Int)(h:v≠0):p2 ((bl v:Int)+E-1)<=xE v E/\xE v E<p2 ((bl v:Int)+E):=by
 obtain⟨F,t,D⟩:=cC v h;have l:=av E
 constructor
 ·rw[show(bl v:Int)+E-1=((bl v-1:Nat):Int)+E by omega,bR,cN]
  unfold xE;have:=Rat.mul_le_mul_of_nonneg_left (Rat.natCast_le_natCast.2 t) (Rat.le_of_lt l)
  grind
 ·rw[bR,cN]
  unfold xE;have:=Rat.mul_lt_mul_of_pos_left (Rat.natCast_lt_natCast.2 D) l
  grind
theorem jd(v:Nat)(E:Int)(h:xE v E<p2 1023):cU v E<9218868437227405312:=by
 by_cases l:v=0
 ·rw[l,wB];decide
 ·have J:=(zi v E l).1
  have K:(bl v:Int)+E-1<1023:=FP (by grind)
  by_cases L:(bl v:Int)+E<=1022
  ·obtain⟨t,D,F⟩:=eW v E l
   obtain⟨G,H,I⟩:=dk v E;rw[gj v E l (by omega)];have:(aP v E+1074).toNat<=2043:=by omega
   omega
  ·obtain⟨t,D,F⟩:=eW v E l
   obtain⟨G,H,I⟩:=dk v E;rw[gj v E l (by omega)];have:(aP v E+1074).toNat<=2044:=by omega
   omega
theorem Dd(v:Nat)(E:Int)(Z:bl v<=53)(t:cU v E<9218868437227405312):
  yE v E=xE v E\/(xE v E<p2 (-1022)/\cU v E<=4503599627370496/\2*yE v E<=2*xE v E+p2 (-1074)/\2*xE v E<=2*yE v E+p2 (-1074)):=by
 by_cases h:v=0
 ·subst h
  refine .inl ?_;have e:yE 0 E=0:=by unfold yE;rw[wB,gp];exact Rat.zero_mul _
  have J:xE 0 E=0:=Rat.zero_mul _;rw[e,J]
 have D:=A8 v E h t;obtain⟨l1,l2,l3⟩:=dk v E;obtain⟨O,H,I⟩:=wE v E h D
 by_cases K:aP v E<=E
 ·exact .inl (O K)
 ·have F:aP v E= -1074/\(bl v:Int)+E< -1021:=by omega
  have hx:=(zi v E h).2;have L:=aq (show(bl v:Int)+E<=-1022 by omega);rcases nM v E t with e|e
  ·refine .inr ⟨by grind,?_,by rw[F.1]at H;exact H,by rw[F.1]at I;exact I⟩
   obtain⟨b1,b2,Q⟩:=cC v h;obtain⟨k,U,l⟩:∃k:Nat,E-aP v E= -(k:Int)/\1<=k:=⟨(aP v E-E).toNat,by omega,by omega⟩;have M:gO v E<=4503599627370496:=by
    unfold gO;rw[U,gi _ _ l];refine oG ?_;have G:v<2^(52+k):=Nat.lt_of_lt_of_le Q (jn (by omega));rw[Nat.pow_add,Ng]at G;exact Nat.le_of_lt G
   have N:(aP v E+1074).toNat=0:=by omega
   rw[gj v E h D,N,Nat.zero_mul,Nat.add_zero];exact M
  ·exact .inr ⟨by grind,e.1,e.2.2⟩
theorem rt(a:Nat)(h:a<18446744073709551616)(l:ah a=true)(t:fK a≠0)(n:Int):xE (fD a).natAbs (fX a+n)=(rv (fR a):Rat)*p2 (-1074)*p2 n:=by
 obtain⟨β,F,D,G,H⟩:=p9 a h l t;unfold xE;rw[D,Rat.natCast_mul,<-cN,show fX a+n=(β:Int)+-1074+n by omega,bR,bR]
 grind
theorem ru(a:Nat)(n:Int)(h:ah a=true)(t:fK a≠0):xV a n=iJ (fS a) (cU (fD a).natAbs (fX a+n)):=by
 obtain⟨D,l⟩:=cI h;unfold xV;rw[if_neg l,if_neg (by omega)]
theorem oT(a:Nat)(n:Int)(h:fK a=0):xV a n=a:=by
 unfold xV;rw[if_neg (by omega),if_pos (.inr h)]
theorem bf(a:Nat)(l:fK a=0):fQ a=0:=by
 have h:=jp a;rw[(dY a).1 l,gp]at h;have t:ab (fQ a)=0:=by rw[h];exact Rat.zero_mul _
 unfold ab at t
 grind
theorem jP(a:Nat)(n:Int)(D:a<18446744073709551616)(l:ah a=true)(h:ab (fQ a)*p2 n<p2 1023):ah (xV a n)=true:=by
 by_cases t:fK a=0
 ·rw[oT a n t];exact l
 ·rw[ru a n l t]
  rw[jp,<-rt a D l t]at h;have:=jd _ _ h;exact(cY _).2.2.2 (by rw[iL _ _ (by omega)];exact this)
theorem lO(a:Nat)(n:Int)(t:a<18446744073709551616)(l:ah a=true)(I:ah (xV a n)=true):
  fQ (xV a n)=fQ a*p2 n\/(ab (fQ a)*p2 n<p2 (-1022)/\fR (xV a n)<=4503599627370496/\2*ab (fQ (xV a n)-fQ a*p2 n)<=p2 (-1074)):=by
 by_cases h:fK a=0
 ·rw[oT a n h,bf a h,Rat.zero_mul];exact .inl rfl
 ·have G:=kN _ I
  have J:=ej (fD a).natAbs (fX a+n);have H:fR (xV a n)=cU (fD a).natAbs (fX a+n):=by rw[ru a n l h,iL _ _ (by omega)]
  have K:fS (xV a n)=fS a:=by rw[ru a n l h,kg _ _ (by omega)]
  rw[H]at G;obtain⟨z1,z2,O,Q,U,Z,z7,z8,z9⟩:=gf a t l h;have L:bl (fD a).natAbs<=53:=(dJ a t l h).1;have e:=Dd _ _ L G;rw[rt a t l h n]at e;unfold yE at e;rw[dD (xV a n),K,H,jp,dD a];generalize (rv (cU (fD a).natAbs (fX a+n)):Rat)*p2 (-1074)=Y at*;generalize (rv (fR a):Rat)*p2 (-1074)=A at*
  cases fS a<;>simp only[Bool.false_eq_true,if_true,if_false]
  ·rcases e with e|⟨D,F,M,N⟩
   ·exact .inl e
   ·refine .inr ⟨D,F,?_⟩
    unfold ab;grind
  ·rcases e with e|⟨D,F,M,N⟩
   ·refine .inl ?_
    grind
   ·refine .inr ⟨D,F,?_⟩
    unfold ab;grind
theorem pn(a:Nat)(n:Int)(h:a<18446744073709551616)(l:ah a=true)(D:ab (fQ a)*p2 n<p2 1023)(F:p2 (-1022)<=ab (fQ a)*p2 n):
  ah (xV a n)=true/\fQ (xV a n)=fQ a*p2 n:=by
 have t:=jP a n h l D;refine⟨t,?_⟩;rcases lO a n h l t with e|e
 ·exact e
 ·grind
theorem gy(a b:Nat)(l:ah a=true)(t:ah b=true)(h:ab (fQ a+fQ b)<p2 1023):ah (aV a b)=true:=by
 obtain⟨F,H⟩:=rf a b l t;have D:ab (fQ a+fQ b)=xE (aZ a b).natAbs (-1074):=by
  have:fQ a+fQ b=((aZ a b:Int):Rat)*p2 (-1074):=by
   unfold fQ aZ;rw[Rat.intCast_add,Rat.add_mul]
  rw[this,wH];have G:(0:Rat)<=((aZ a b).natAbs:Rat)*p2 (-1074):=Rat.mul_nonneg Rat.natCast_nonneg (Rat.le_of_lt (av _));unfold xE ab
  split<;>grind
 rw[D]at h;exact(cY _).2.2.2 (by rw[F];exact jd _ _ h)
theorem uJ(a b:Nat)(l:ah a=true)(t:ah b=true)(h:ab (fQ a*fQ b)<p2 1023):ah (mV a b)=true:=by
 have D:xE (rv (fR a)*rv (fR b)) (-2148)=ab (fQ a*fQ b):=by
  rw[aM,jp,jp];unfold xE;rw[Rat.natCast_mul,show(-2148:Int)= -1074+-1074 by rfl,bR]
  grind
 rw[<-D]at h;have:=jd _ _ h;exact(cY _).2.2.2 (by rw[zh a b l t,iL _ _ (by omega)];exact this)
theorem PX(a:Nat)(t:fK a≠0):∃N q:Nat,N=rv (fR a)*2^120/\1152921504606846976<=q/\q*q<=N/\(tS a*tS a=4*N\/(tS a*tS a<=4*N+4*q/\4*N<=tS a*tS a+4*q)):=by
 refine⟨_,bX (rv (fR a)*2^120),rfl,?_,?_,?_⟩
 ·have:=(Fz a t).1
  have e:(2:Nat)^60=1152921504606846976:=by decide
  omega
 ·exact(cZ _).1
 ·obtain⟨G,H⟩:=cZ (rv (fR a)*2^120)
  unfold tS rS;generalize rv (fR a)*2^120=N at*;generalize bX N=q at*;have l:(2*q)*(2*q)=4*(q*q):=by rw[Nat.mul_mul_mul_comm]
  have D:(2*q+1)*(2*q+1)=4*(q*q)+4*q+1:=by rw[ig,l];omega
  have F:=ig q
  by_cases h:q*q=N
  ·rw[if_pos h,Nat.add_zero]
   exact .inl (by rw[l,h])
  ·rw[if_neg h]
   refine .inr ?_;rw[D];generalize q*q=Q at*;omega
theorem NZ(a:Nat)(t:ah a=true)(D:fK a≠0)(F:fS a=false):sV a=tV a:=by
 obtain⟨l,G⟩:=cI t;unfold sV;rw[if_neg G,if_neg (fun h=>?_),if_neg (by rw[F];decide)];rcases h with h|h
 ·exact D h
 ·rw[h]at l
  exact l (by decide)
theorem kP(a:Nat)(fa:ah a=true)(G:fK a≠0)(hs:fS a=false):
  ah (sV a)=true/\fS (sV a)=false/\sV a<18446744073709551616/\4503599627370496<fR (sV a)/\0<=fQ (sV a)/\9007199254740992*(fQ (sV a)*fQ (sV a))<=9007199254740992*fQ a+3*fQ a/\9007199254740992*fQ a<=9007199254740992*(fQ (sV a)*fQ (sV a))+3*fQ a:=by
 obtain⟨N,q,hN,hq,ae,hT⟩:=PX a G;obtain⟨t1,t2⟩:=FA a fa G;have H:=NZ a fa G hs;have I:fR (sV a)=tV a:=by rw[H];unfold fR;omega
 have hS:fS (sV a)=false:=by rw[H];exact decide_eq_false (by omega)
 have l:ah (sV a)=true:=(cY _).2.2.2 (by rw[I];omega);have hY:fQ (sV a)=yE (tS a) (-598):=by
  rw[dD,hS,if_neg (by decide),I];rfl
 have F:fQ a=((4*N:Nat):Rat)*p2 (-1196):=by
  rw[dD,hs,if_neg (by decide),hN,Rat.natCast_mul,Rat.natCast_mul,<-cN,show(-1074:Int)=2+(120:Nat)+-1196 by rfl,bR,bR,show p2 2=((4:Nat):Rat) by rw[show(2:Int)=((2:Nat):Int) by rfl,cN]]
  grind
 have h:xE (tS a) (-598)*xE (tS a) (-598)=((tS a*tS a:Nat):Rat)*p2 (-1196):=by
  unfold xE;rw[Rat.natCast_mul,show(-1196:Int)= -598+-598 by rfl,bR]
  grind
 have J:cU (tS a) (-598)<9218868437227405312:=by
  have:cU (tS a) (-598)=tV a:=rfl;omega
 have e:9007199254740992*yE (tS a) (-598)<=9007199254740992*xE (tS a) (-598)+xE (tS a) (-598)/\9007199254740992*xE (tS a) (-598)<=9007199254740992*yE (tS a) (-598)+xE (tS a) (-598):=by
  rcases nM _ _ J with e|e
  ·exact e
  ·have:cU (tS a) (-598)=tV a:=rfl
   omega
 have t:0<=xE (tS a) (-598):=Rat.mul_nonneg Rat.natCast_nonneg (Rat.le_of_lt (av _));have K:0<=yE (tS a) (-598):=Rat.mul_nonneg Rat.natCast_nonneg (Rat.le_of_lt (av _))
 --the sticky root's square,beside the number
 have L:1152921504606846976*(4*q)<=4*N:=by
  have:=Nat.mul_le_mul_right q hq;omega
 have M:1152921504606846976*(tS a*tS a)<=1152921504606846976*(4*N)+4*N/\1152921504606846976*(4*N)<=1152921504606846976*(tS a*tS a)+4*N:=by
  generalize tS a*tS a=Z at*;omega
 have O:=av (-1196);have Q:=Rat.mul_le_mul_of_nonneg_left (Rat.natCast_le_natCast.2 M.1) (Rat.le_of_lt O);have U:=Rat.mul_le_mul_of_nonneg_left (Rat.natCast_le_natCast.2 M.2) (Rat.le_of_lt O);rw[Rat.natCast_add,Rat.natCast_mul 1152921504606846976,Rat.natCast_mul 1152921504606846976]at Q U;have aa:((1152921504606846976:Nat):Rat)=1152921504606846976:=rfl;rw[aa]at Q U;have s0:0<=fQ a:=by rw[F];exact Rat.mul_nonneg Rat.natCast_nonneg (Rat.le_of_lt O)
 refine⟨l,hS,by rw[H];omega,by rw[I];omega,by rw[hY];exact K,?_⟩;rw[hY];have g1:1152921504606846976*(xE (tS a) (-598)*xE (tS a) (-598))<=1152921504606846976*fQ a+fQ a:=by rw[h,F];grind
 have g2:1152921504606846976*fQ a<=1152921504606846976*(xE (tS a) (-598)*xE (tS a) (-598))+fQ a:=by rw[h,F];grind
 clear Q U M L hT h F hN ae;generalize xE (tS a) (-598)=X at*;generalize yE (tS a) (-598)=Y at*;generalize fQ a=S at*;obtain⟨D,hD⟩:∃D,Y=X+D:=⟨Y-X,by grind⟩;subst hD;have m1:=Rat.mul_nonneg t (show 0<=X-9007199254740992*D by grind);have m2:=Rat.mul_nonneg t (show 0<=X+9007199254740992*D by grind);have m3:=Rat.mul_nonneg (show 0<=X-9007199254740992*D by grind) (show 0<=X+9007199254740992*D by grind);have m4:=ak D
 constructor
 ·grind
 ·grind
theorem PY(a:Nat)(k:Int)(w:World)(G:k=4\/k=3\/k=0)
  (D:∀h,BS 164 #[CI a] h (C0 k)):
  BS 119 #[CI a] w (C0 0):=by
 have F:=ac D;clear D;rcases G with rfl|rfl|rfl
 all_goals
  go_enter Tryz.func119,Tryz.ntmps119
  go_wp2_with fail;refine(uH F _).mono ?_;rintro e H ⟨rfl,t⟩;clear F
  go_wp2
  go_ret
  exact⟨rfl,t⟩
theorem PZ(a:Nat)(k D X t:Int)(w:World)(h4:(k==4)=false)(h3:(k==3)=false)(h0:(k==0)=false)(ht:-2000<=t/\t<=2000)(Q:cX w)
  (U:∀l,BS 164 #[CI a] l (C0 k))
  (Z:∀l,cX l->GF 168 #[CI a] l fun r F=>pG F r 0 D X/\H8 l F)
  (C3:∀l v,aH l v D X->BS 169 #[v] l (C0 t)):
  BS 119 #[CI a] w (C0 (t-1)):=by
 have K1:=ac U;have K2:=ac Z;have K3:=ac C3;have HT:=ac Q;clear U Z C3 Q;have hw:=bC (t-1) (by omega)
 go_enter Tryz.func119,Tryz.ntmps119
 go_wp2_with fail;refine(uH K1 _).mono ?_;rintro e w1 ⟨rfl,h⟩;have J:=ac h;clear K1 h;go_wp2_with fail;refine(uH K2 _ ((uH HT).all (uH J))).mono ?_;rintro e I ⟨⟨v,rfl,hv⟩,h⟩;obtain⟨L,M,N,H,rfl,i2⟩:=hv;have G:H8 I (I.alloc (.cells #[.bool L,.slice M H.length N,C0 X] 35)):=(Below.refl _ _).alloc (Nat.le_refl _) _;have HY:=ac ((show aH I (.agg #[.bool L,.slice M H.length N,C0 X]) D X from⟨L,M,N,H,rfl,i2⟩).below G);have O:=ac ((uH J).trans ((h.trans (G.mono h.size)).mono (uH J).size));have K:=ar.new I (.bool L) (.slice M H.length N) (C0 X);have z0:=K.c0;have z1:=K.c1;have z2:=K.c2;clear i2 h G K2 K J;generalize H.length=l2 at*;go_wp2_with fail;refine(uH K3 _ _ (uH HY)).mono ?_;rintro e w3 ⟨rfl,h⟩;have B3:=ac ((uH O).trans (h.mono (uH O).size));clear h K3 O z0 z1 z2 HY
 go_wp2
 go_ret
 exact⟨rfl,uH B3⟩
theorem JQ{v:Nat}(h:v<9007199254740992):bl v<=53:=by
 by_cases l:v=0
 ·subst l;decide
 ·obtain⟨D,t,F⟩:=cC v l
  have:=dE (Nat.lt_of_le_of_lt t (by rw[IF];exact h));omega
theorem P3{w:World}{v:Value}{D X:Int}(h:aH w v D X)(F:D%2=1)(G:D.natAbs<9007199254740992)(N:-1074<=X/\X<=1024):
  BS 169 #[v] w (C0 ((bl D.natAbs:Int)+X)):=by
 obtain⟨l,ao,J,A,rfl,t,K,L,U,M⟩:=h.right (df _ (by omega));have:=nF l ao J A X w t (by omega);have O:np l A X=true:=M.trans (uG F (by omega));have h:aj A=D.natAbs:=by rw[<-L,aU]
 have I:=kf t.2.1 K;have Q:bl D.natAbs<=53:=JQ G;rw[I,h,bC _ (by omega)]at this;exact this
def eX(a:Nat):Int:=if fK a=4\/fK a=3\/fK a=0 then 0 else(bl (fD a).natAbs:Int)+fX a-1
theorem FQ(a:Nat)(w:World)(D:a<18446744073709551616)(H:cX w):
  BS 119 #[CI a] w (C0 (eX a)):=by
 have F:=fun l=>dp a l D
 unfold eX
 by_cases h:fK a=4\/fK a=3\/fK a=0
 ·rw[if_pos h]
  exact PY a _ w h F
 ·rw[if_neg h]
  have G:=fO a (by omega) (by omega);obtain⟨z1,z2,J,K,L,M,N,O,Q⟩:=gf a D G (by omega);exact PZ a _ (fD a) (fX a) _ w (by simp;omega) (by simp;omega) (by simp;omega) (by omega) H F (fun l t=>fh a l D G t) (fun l v I=>P3 I z1 z2 (by omega))
theorem dg:1267650600228229401496703205376*p2 (-1075)<=1/\0<p2 (-1075)/\p2 (-1074)=2*p2 (-1075):=by
 refine⟨?_,av _,?_⟩
 ·have t:=aq (show(-1075:Int)<=-100 by decide)
  have h:=rk 100;have l:p2 100=1267650600228229401496703205376:=by rw[show(100:Int)=((100:Nat):Int) by rfl,cN];rfl
  rw[l]at h
  grind
 ·rw[show(-1074:Int)= -1075+1 by rfl,bu]
theorem FR:(1024:Rat)<=p2 1023:=by
 have h:=aq (show(10:Int)<=1023 by decide);have l:p2 10=1024:=by rw[show(10:Int)=((10:Nat):Int) by rfl,cN];rfl
 grind
theorem iM(a:Nat)(h:fS a=false):0<=fQ a:=by
 rw[dD,h];exact rq _
def FS(k:Int)(s x:Nat):Nat:=aV s (mV (xV x (-k)) (xV x (-k)))
def dQ(k:Int)(x:Nat):Rat:=fQ x*p2 (-k)
theorem uK(t:Nat)(h:ah t=true):fS (mV t t)=false/\mV t t<9223372036854775808:=by
 have l:=ej (rv (fR t)*rv (fR t)) (-2148);rw[zh t t h h,Bool.xor_self,cJ];exact⟨decide_eq_false (by omega),by omega⟩
theorem zj(k:Int)(x:Nat)(F:x<18446744073709551616)(I:ah x=true)(hd:ab (dQ k x)<=2):
  ah (mV (xV x (-k)) (xV x (-k)))=true/\fS (mV (xV x (-k)) (xV x (-k)))=false/\
  9007199254740992*ab (fQ (mV (xV x (-k)) (xV x (-k)))-dQ k x*dQ k x)<=dQ k x*dQ k x+9007199254740992*(8*p2 (-1075)):=by
 obtain⟨n1,n2,Z⟩:=dg;have hB:=FR;have J:ab (fQ x)*p2 (-k)=ab (dQ k x):=by
  unfold dQ;rw[aM,aQ (Rat.le_of_lt (av _))]
 have h:=jP x (-k) F I (by rw[J];grind);have G:=lO x (-k) F I h;rw[show fQ x*p2 (-k)=dQ k x from rfl]at G;have N:=Bb x (-k) F;generalize xV x (-k)=t at*;generalize dQ k x=d at*;have O:ab (fQ t-d)<=p2 (-1075):=by
  rcases G with e|e
  ·rw[e];unfold ab;grind
  ·have:=e.2.2
   grind
 generalize p2 (-1075)=η at*;clear G J;obtain⟨δ,D⟩:∃δ,fQ t=d+δ:=⟨fQ t-d,by grind⟩;rw[D]at O;have e2:δ<=η/\-δ<=η:=by
  have:=aw (d+δ-d)
  grind
 have l:=aw d;have m1:=Rat.mul_nonneg (show 0<=2-d by grind) (show 0<=η-δ by grind);have m2:=Rat.mul_nonneg (show 0<=2-d by grind) (show 0<=η+δ by grind);have m3:=Rat.mul_nonneg (show 0<=2+d by grind) (show 0<=η-δ by grind);have m4:=Rat.mul_nonneg (show 0<=2+d by grind) (show 0<=η+δ by grind);have m5:=Rat.mul_nonneg (show 0<=η-δ by grind) (show 0<=η+δ by grind);have m6:=ak δ;have m7:=ak d;have m8:=Rat.mul_nonneg (show 0<=η by grind) (show 0<=1-η by grind);have m9:=Rat.mul_nonneg (show 0<=2-d by grind) (show 0<=2+d by grind);have H:fQ t*fQ t=d*d+2*(d*δ)+δ*δ:=by rw[D];grind
 have U:fQ t*fQ t<=d*d+5*η/\d*d<=fQ t*fQ t+5*η:=by
  rw[H];constructor<;>grind
 have K:=ak (fQ t);have L:=uJ t t h h (by rw[aQ K];grind);refine⟨L,(uK t h).1,?_⟩;have M:=uI t t h h L;rw[aQ K,Z]at M;generalize fQ (mV t t)=P at*;generalize fQ t*fQ t=Q at*;rcases M with e|e
 ·have:=aw (P-Q)
  unfold ab
  grind
 ·have:=aw (P-Q)
  have:=e.2;unfold ab
  grind
theorem Be(k:Int)(s x:Nat)(T H G:Rat)(K:x<18446744073709551616)(L:ah x=true)(M:ab (dQ k x)<=2)(h:ah s=true)(t:fS s=false)
  (hT:T+dQ k x*dQ k x<=G) (N:1<=G) (O:G<=256) (hH:H<=64*G)
  (he:9007199254740992*ab (fQ s-T)<=2*T+2*H):
  ah (FS k s x)=true/\fS (FS k s x)=false/\9007199254740992*ab (fQ (FS k s x)-(T+dQ k x*dQ k x))<=2*(T+dQ k x*dQ k x)+2*(H+G):=by
 obtain⟨l,F,ep⟩:=zj k x K L M;obtain⟨n1,n2,n3⟩:=dg;have hB:=FR;unfold FS;generalize mV (xV x (-k)) (xV x (-k))=p at*;have s0:=iM s t;have p0:=iM p F;have m7:=ak (dQ k x);generalize dQ k x*dQ k x=D at*;have l1:=aw (fQ s-T);have l2:=aw (fQ p-D);have I:ab (fQ s+fQ p)=fQ s+fQ p:=aQ (by grind);have J:=gy s p h l (by rw[I];grind);have Q:=gS s p h l J;rw[I]at Q;refine⟨J,?_,?_⟩
 ·have h1:=(rf s p h l).2
  have hz:0<=fZ s/\0<=fZ p:=by
   unfold fZ pv;rw[t,F];simp only[Bool.false_eq_true,if_false];omega
  obtain⟨Z,c2⟩:=cI h;obtain⟨c3,c4⟩:=cI l;rw[(A2 s p Z c2 c3 c4).1]
  split
  ·rw[t,F];decide
  ·have U:=ej (aZ s p).natAbs (-1074)
   rw[kg _ _ (by omega)];exact decide_eq_false (by unfold aZ;omega)
 ·have l3:=aw (fQ (aV s p)-(fQ s+fQ p))
  generalize fQ (aV s p)=Y at*;generalize fQ s=S at*;generalize fQ p=P at*;generalize p2 (-1075)=η at*;refine Rat.le_trans (Rat.mul_le_mul_of_nonneg_left (bP (y:=ab (Y-(S+P))+ab (S-T)+ab (P-D)) (by grind) (by grind)) (by decide)) ?_
  grind
def tU(k:Int):Nat->H3->Nat
 |s,[]=>s
 |s,x::xs=>tU k (FS k s x) xs
def gX(k:Int):H3->Rat
 | []=>0
 |x::xs=>dQ k x*dQ k x+gX k xs
theorem FT(k:Int)(h:H3):0<=gX k h:=by
 induction h with
 |nil=>exact Rat.le_refl
 |cons x h ih=>
  have:=ak (dQ k x);unfold gX
  grind
theorem zk(k:Int)(G:Rat)(l:1<=G)(t:G<=256):∀(h:H3) (s:Nat) (T H:Rat),(∀x∈h,x<18446744073709551616/\ah x=true/\ab (dQ k x)<=2)->ah s=true->fS s=false->
  T+gX k h<=G->H+(h.length:Rat)*G<=64*G->9007199254740992*ab (fQ s-T)<=2*T+2*H->
  ah (tU k s h)=true/\fS (tU k s h)=false/\9007199254740992*ab (fQ (tU k s h)-(T+gX k h))<=2*(T+gX k h)+2*(H+(h.length:Rat)*G):=by
 intro h
 induction h with
 |nil=>
  intro s T H _ I J _ _ K;refine⟨I,J,?_⟩;have N:tU k s []=s:=rfl;have D:gX k []=0:=rfl;have F:(([]:H3).length:Rat)=0:=rfl;rw[N,D,F,Rat.add_zero]
  grind
 |cons x h ih=>
  intro s T H L I J hT hH K;obtain⟨Q,U,Z⟩:=L x (List.mem_cons_self);have D:gX k (x::h)=dQ k x*dQ k x+gX k h:=rfl;have F:((x::h).length:Rat)=(h.length:Rat)+1:=by rw[List.length_cons,Rat.natCast_add];rfl
  have O:((x::h).length:Rat)*G=(h.length:Rat)*G+G:=by rw[F];grind
  have q0:=FT k h;have l0:0<=(h.length:Rat)*G:=Rat.mul_nonneg Rat.natCast_nonneg (by grind);rw[D]at hT⊢;rw[O]at hH⊢;obtain⟨g1,g2,g3⟩:=Be k s x T H G Q U Z I J (by grind) l t (by grind) K;obtain⟨i1,i2,i3⟩:=ih (FS k s x) (T+dQ k x*dQ k x) (H+G) (fun y M=>L y (List.mem_cons_of_mem _ M)) g1 g2 (by grind) (by grind) g3;refine⟨i1,i2,?_⟩;rw[show T+(dQ k x*dQ k x+gX k h)=T+dQ k x*dQ k x+gX k h by grind,show H+((h.length:Rat)*G+G)=H+G+(h.length:Rat)*G by grind];exact i3
def mx(a b:Nat):Nat:=if fK a=4\/fK b=4 then 9221120237041090560 else if fZ a<fZ b then b else a
def bT:Nat->H3->Nat
 |m,[]=>m
 |m,x::xs=>bT (mx m (fR x)) xs
theorem kQ(r:Nat)(h:r<9223372036854775808):fZ r=(rv r:Int)/\fR r=r/\fS r=false:=by
 have l:fR r=r:=by unfold fR;omega
 have t:fS r=false:=decide_eq_false (by omega);refine⟨?_,l,t⟩;unfold fZ pv;rw[l,t];rfl
theorem N3(m r:Nat)(l:m<9218868437227405312)(t:r<9218868437227405312):mx m r=max m r:=by
 obtain⟨D,F,K⟩:=kQ m (by omega);obtain⟨G,H,L⟩:=kQ r (by omega);have I:=(cI ((cY m).2.2.2 (by rw[F];exact l))).2;have J:=(cI ((cY r).2.2.2 (by rw[H];exact t))).2;unfold mx;rw[if_neg (by omega),D,G];rcases Nat.lt_or_ge m r with h|h
 ·have:=uE h
  rw[if_pos (by omega)];omega
 ·have:=j0 h
  rw[if_neg (by omega)];omega
theorem nO:∀(l:H3) (m:Nat),m<9218868437227405312->(∀x∈l,ah x=true)->
  bT m l<9218868437227405312/\m<=bT m l/\(∀x∈l,fR x<=bT m l)/\(bT m l=m\/∃x∈l,fR x=bT m l):=by
 intro l
 induction l with
 |nil=>intro m G _;exact⟨G,Nat.le_refl _,(fun x D=>(by cases D)),Or.inl rfl⟩
 |cons x l ih=>
  intro m G D;have H:=kN x (D x List.mem_cons_self);have e:bT m (x::l)=bT (max m (fR x)) l:=by
   show bT (mx m (fR x)) l=_;rw[N3 m _ G H]
  obtain⟨I,K,J,F⟩:=ih (max m (fR x)) (by omega) (fun y t=>D y (List.mem_cons_of_mem _ t));rw[e];refine⟨I,by omega,?_,?_⟩
  ·intro y t
   rcases List.mem_cons.1 t with rfl|t
   ·omega
   ·exact J y t
  ·rcases F with F|⟨y,t,F⟩
   ·rcases Nat.lt_or_ge m (fR x)with h|h
    ·exact .inr ⟨x,List.mem_cons_self,by omega⟩
    ·exact .inl (by omega)
   ·exact .inr ⟨y,List.mem_cons_of_mem _ t,F⟩
def bM(xs:H3):Nat:=if bT 0 xs=0\/ah (bT 0 xs)=false then bT 0 xs else xV (sV (tU (eX (bT 0 xs)) 0 xs)) (eX (bT 0 xs))
theorem iN(a:Nat)(t:a<18446744073709551616)(l:ah a=true)(D:fK a≠0):p2 (eX a)<=ab (fQ a)/\ab (fQ a)<p2 (eX a+1):=by
 obtain⟨G,H⟩:=cI l;obtain⟨z1,z2,F,I,J,K,L,M,N⟩:=gf a t l D;have h:=zi (fD a).natAbs (fX a) F;have e:=rt a t l D 0;rw[Int.add_zero,oR,Rat.mul_one,<-jp]at e;rw[e]at h;unfold eX;rw[if_neg (by omega),show(bl (fD a).natAbs:Int)+fX a-1+1=(bl (fD a).natAbs:Int)+fX a by omega];exact h
def aL:H3->Rat
 | []=>0
 |x::xs=>fQ x*fQ x+aL xs
theorem JR(k:Int)(h:H3):gX k h*(p2 k*p2 k)=aL h:=by
 have l:=rk k
 induction h with
 |nil=>exact Rat.zero_mul _
 |cons x h ih=>
  have e:dQ k x*dQ k x*(p2 k*p2 k)=fQ x*fQ x:=by
   unfold dQ;rw[show fQ x*p2 (-k)*(fQ x*p2 (-k))*(p2 k*p2 k)=fQ x*fQ x*((p2 (-k)*p2 k)*(p2 (-k)*p2 k)) by grind,l]
   grind
  unfold gX aL;rw[Rat.add_mul,e,ih]
theorem uL(k:Int):∀(l:H3) (x:Nat),x∈l->dQ k x*dQ k x<=gX k l:=by
 intro l
 induction l with
 |nil=>intro x h;cases h
 |cons y ys ih=>
  intro x h;have t:=FT k ys;have D:=ak (dQ k y);have e:gX k (y::ys)=dQ k y*dQ k y+gX k ys:=rfl;rw[e];rcases List.mem_cons.1 h with rfl|h
  ·grind
  ·have:=ih x h
   grind
theorem zl(k:Int):∀(t:H3),(∀x∈t,ab (dQ k x)<=2)->gX k t<=4*(t.length:Rat):=by
 intro t
 induction t with
 |nil=>
  intro _;have e:gX k []=0:=rfl;have D:(([]:H3).length:Rat)=0:=rfl;rw[e,D]
  grind
 |cons y ys ih=>
  intro h;have G:=ih (fun x F=>h x (List.mem_cons_of_mem _ F));have H:=h y List.mem_cons_self;have l:=aw (dQ k y);have m:=Rat.mul_nonneg (show 0<=2-dQ k y by grind) (show 0<=2+dQ k y by grind);have e:gX k (y::ys)=dQ k y*dQ k y+gX k ys:=rfl;have D:((y::ys).length:Rat)=(ys.length:Rat)+1:=by rw[List.length_cons,Rat.natCast_add];rfl
  rw[e,D]
  grind
theorem P7(l:H3)(h:∀x∈l,ah x=true)(F:bT 0 l=0):∀x∈l,fQ x=0:=by
 obtain⟨G,H,t,I⟩:=nO l 0 (by decide) h;intro x D;have:=t x D;exact bf x ((dY x).2 (by omega))
theorem zm(a:Nat)(t:a<18446744073709551616)(D:ah a=true):Dc (fZ a) (-1074)=fZ a:=by
 have h:=NF a t D
 by_cases l:fK a=0
 ·have F:fZ a=0:=by
   have:=ie a;rw[(dY a).1 l,gp]at this;omega
  rw[F]
  decide+kernel
 ·obtain⟨z1,z2⟩:=Ba a l
  unfold Dc;rw[z2,ie,h];rfl
theorem N4(s p:Nat)(H:s<18446744073709551616)(I:p<18446744073709551616)(h:ah s=true)(l:ah p=true)(J:fS s=false)(K:fS p=false):
  fQ s<=fQ (aV s p)/\fQ p<=fQ (aV s p):=by
 have t:=(rf s p h l).2;have L:0<=fZ s/\0<=fZ p:=by
  unfold fZ pv;rw[J,K];simp only[Bool.false_eq_true,if_false];omega
 have D:Dc (fZ s) (-1074)<=Dc (aZ s p) (-1074):=wA (by unfold aZ;omega);have F:Dc (fZ p) (-1074)<=Dc (aZ s p) (-1074):=wA (by unfold aZ;omega);rw[zm s H h,<-t]at D;rw[zm p I l,<-t]at F;have G:=Rat.le_of_lt (av (-1074));have M:=Rat.mul_le_mul_of_nonneg_left (Rat.intCast_le_intCast.2 D) G;have N:=Rat.mul_le_mul_of_nonneg_left (Rat.intCast_le_intCast.2 F) G;unfold fQ
 constructor<;>grind
theorem P8(k:Int)(G:Rat)(D:1<=G)(F:G<=256):∀(h:H3) (s:Nat) (T H:Rat),(∀x∈h,x<18446744073709551616/\ah x=true/\ab (dQ k x)<=2)->s<18446744073709551616->ah s=true->fS s=false->
  T+gX k h<=G->H+(h.length:Rat)*G<=64*G->9007199254740992*ab (fQ s-T)<=2*T+2*H->
  fQ s<=fQ (tU k s h)/\∀x∈h,fQ (mV (xV x (-k)) (xV x (-k)))<=fQ (tU k s h):=by
 intro h
 induction h with
 |nil=>
  intro s T H _ _ J K _ _ U;exact⟨Rat.le_refl,fun x t=>(by cases t)⟩
 |cons x h ih=>
  intro s T H t hs J K hT hH U;obtain⟨L,M,N⟩:=t x (List.mem_cons_self);have Z:gX k (x::h)=dQ k x*dQ k x+gX k h:=rfl;have e3:((x::h).length:Rat)=(h.length:Rat)+1:=by rw[List.length_cons,Rat.natCast_add];rfl
  have e4:((x::h).length:Rat)*G=(h.length:Rat)*G+G:=by rw[e3];grind
  have e5:tU k s (x::h)=tU k (FS k s x) h:=rfl;have q0:=FT k h;have l0:0<=(h.length:Rat)*G:=Rat.mul_nonneg Rat.natCast_nonneg (by grind);rw[Z]at hT;rw[e4]at hH;obtain⟨g1,O,g3⟩:=Be k s x T H G L M N J K (by grind) D F (by grind) U;obtain⟨p1,p2,p3⟩:=zj k x L M N;have I:mV (xV x (-k)) (xV x (-k))<18446744073709551616:=by
   have:=of_decide_eq_false p2;omega
  obtain⟨a1,a2⟩:=N4 s _ hs I J p1 K p2;obtain⟨Q,i2⟩:=ih (FS k s x) (T+dQ k x*dQ k x) (H+G) (fun y l=>t y (List.mem_cons_of_mem _ l)) (by have:=of_decide_eq_false O;omega) g1 O (by grind) (by grind) g3;rw[e5];have b1:fQ s<=fQ (FS k s x):=a1;have b2:fQ (mV (xV x (-k)) (xV x (-k)))<=fQ (FS k s x):=a2;refine⟨Rat.le_trans b1 Q,fun y l=>?_⟩;rcases List.mem_cons.1 l with rfl|l
  ·exact Rat.le_trans b2 Q
  ·exact i2 y l
end Go.Proofs.YtcbcmlaogehimaaGreatDoor
