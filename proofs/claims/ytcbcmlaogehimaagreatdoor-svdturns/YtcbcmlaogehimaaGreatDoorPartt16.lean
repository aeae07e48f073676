/- Part 16 of the texts. -/
import Derived.Test.YtcbcmlaogehimaaGreatDoorPartt15
set_option maxHeartbeats 2000000
set_option maxRecDepth 20000
namespace Go.Proofs.YtcbcmlaogehimaaGreatDoor
open Go.RowKit
def ab(x:Rat):Rat:=if x<0 then-x else x
theorem cS(x:Rat):0≤ab x:=by unfold ab;grind
theorem mQ{x y:Rat}(d:x≤y)(h:-x≤y):ab x≤y:=by unfold ab;grind
theorem br(x:Rat):x≤ab x∧-x≤ab x:=by unfold ab;grind
theorem aY{x:Rat}(h:0≤x):ab x=x:=by unfold ab;grind
theorem kt(x:Rat):ab (-x)=ab x:=by unfold ab;grind
theorem vZ(x y:Rat):ab (x-y)=ab (y-x):=by unfold ab;grind
theorem dZ(x y:Rat):ab (x+y)≤ab x+ab y:=by unfold ab;grind
theorem bJ(x y:Rat):ab (x*y)=ab x*ab y:=by
 have d:0≤x→0≤y→0≤x*y:=fun a b=>Rat.mul_nonneg a b
 have h:0≤-x→0≤y→0≤-x*y:=fun a b=>Rat.mul_nonneg a b
 have u:0≤x→0≤-y→0≤x* -y:=fun a b=>Rat.mul_nonneg a b
 have z:0≤-x→0≤-y→0≤-x* -y:=fun a b=>Rat.mul_nonneg a b
 unfold ab
 by_cases a:x<0<;>by_cases b:y<0<;>simp only[a,b,if_true,if_false]<;>grind
theorem aw(x:Rat):0≤x*x:=by
 have d:0≤x→0≤x*x:=fun a=>Rat.mul_nonneg a a
 have h:0≤-x→0≤-x* -x:=fun a=>Rat.mul_nonneg a a
 by_cases a:0≤x
 ·exact d a
 ·have:=h (by grind)
  grind
def fQ(a:Nat):Rat:=(fZ a:Rat)*p2 (-1074)
theorem H6(n:Bool)(r:Nat):(pv n r:Rat)*p2 (-1074)=if n=true then-((rv r:Rat)*p2 (-1074))else(rv r:Rat)*p2 (-1074):=by
 unfold pv
 cases n
 ·simp only[Bool.false_eq_true,if_false];rfl
 ·simp only[if_true]
  rw[Rat.intCast_neg,Rat.neg_mul]
  rfl
theorem dq(a:Nat):fQ a=if fS a=true then-((rv (fR a):Rat)*p2 (-1074))else(rv (fR a):Rat)*p2 (-1074):=H6 _ _
theorem oQ(r:Nat):0≤(rv r:Rat)*p2 (-1074):=Rat.mul_nonneg Rat.natCast_nonneg (Rat.le_of_lt (aE _))
theorem ge(a:Nat):ab (fQ a)=(rv (fR a):Rat)*p2 (-1074):=by
 have:=oQ (fR a)
 rw[dq]
 cases fS a
 ·simp only[Bool.false_eq_true,if_false];exact aY this
 ·simp only[if_true];rw[kt];exact aY this
theorem tU(z:Int):(z:Rat)=if z<0 then-(z.natAbs:Rat)else(z.natAbs:Rat):=by
 by_cases h:z<0
 ·rw[if_pos h]
  have:z= -(z.natAbs:Int):=by omega
  conv=>lhs;rw[this]
  rw[Rat.intCast_neg]
  rfl
 ·rw[if_neg h]
  have:z=(z.natAbs:Int):=by omega
  conv=>lhs;rw[this]
  rfl
theorem gZ(a b:Nat)(u:aj a=true)(z:aj b=true)(A:aj (aV a b)=true):
  9007199254740992*ab (fQ (aV a b)-(fQ a+fQ b))≤ab (fQ a+fQ b):=by
 obtain⟨H,I⟩:=rk a b u z
 have d:=iY _ A
 rw[H]at d
 have D:fQ a+fQ b=((aZ a b:Int):Rat)*p2 (-1074):=by
  unfold fQ aZ
  rw[Rat.intCast_add,Rat.add_mul]
 have F:fQ (aV a b)=((zG (aZ a b) (-1074):Int):Rat)*p2 (-1074):=by
  unfold fQ;rw[I]
 rw[D,F]
 unfold zG
 rw[H6,tU]
 have e:=kW (aZ a b).natAbs (-1074) d
 unfold yE xE at e
 have G:=aE (-1074)
 have J:(0:Rat)≤((aZ a b).natAbs:Rat)*p2 (-1074):=Rat.mul_nonneg Rat.natCast_nonneg (Rat.le_of_lt G)
 by_cases h:aZ a b<0
 ·simp only[h,decide_true,if_true]
  unfold ab
  grind
 ·simp only[h,decide_false,if_false,Bool.false_eq_true]
  unfold ab
  grind
theorem wg(a b:Nat)(d:aj a=true)(h:aj b=true):mV a b=gF (fS a^^fS b) (cd (rv (fR a)*rv (fR b)) (-2148)):=by
 obtain⟨u,z⟩:=bS d
 obtain⟨A,D⟩:=bS h
 unfold mV
 rw[if_neg (by omega),if_neg (by omega)]
theorem xY(a b:Nat)(H:aj a=true)(I:aj b=true)(J:aj (mV a b)=true):
  9007199254740992*ab (fQ (mV a b)-fQ a*fQ b)≤ab (fQ a*fQ b)∨(fR (mV a b)≤4503599627370496∧2*ab (fQ (mV a b)-fQ a*fQ b)≤p2 (-1074)):=by
 have D:=iY _ J
 have F:=wg a b H I
 have N:=dU (rv (fR a)*rv (fR b)) (-2148)
 have u:fR (mV a b)=cd (rv (fR a)*rv (fR b)) (-2148):=by rw[F,iZ _ _ (by omega)]
 have O:fS (mV a b)=(fS a^^fS b):=by rw[F,ju _ _ (by omega)]
 rw[u]at D
 have e:=kW _ _ D
 have Q:xE (rv (fR a)*rv (fR b)) (-2148)=(rv (fR a):Rat)*p2 (-1074)*((rv (fR b):Rat)*p2 (-1074)):=by
  unfold xE
  rw[Rat.natCast_mul,show(-2148:Int)= -1074+-1074 by rfl,aU]
  grind
 rw[Q]at e
 unfold yE at e
 have hp:=aE (-1074)
 have U:fQ (mV a b)=if(fS a^^fS b)=true then-((rv (cd (rv (fR a)*rv (fR b)) (-2148)):Rat)*p2 (-1074))else(rv (cd (rv (fR a)*rv (fR b)) (-2148)):Rat)*p2 (-1074):=by rw[dq,O,u]
 have X:=oQ (fR a);have Z:=oQ (fR b)
 have n2:=Rat.mul_nonneg X Z
 rw[U,dq a,dq b,u]
 generalize (rv (fR a):Rat)*p2 (-1074)=A at*
 generalize (rv (fR b):Rat)*p2 (-1074)=B at*
 generalize (rv (cd (rv (fR a)*rv (fR b)) (-2148)):Rat)*p2 (-1074)=Y at*
 have h:ab (A*B)=A*B:=aY n2
 have k2:ab (Y-A*B)=ab (A*B-Y):=vZ _ _
 have k3:∀t:Rat,9007199254740992*Y≤9007199254740992*(A*B)+t→9007199254740992*(A*B)≤9007199254740992*Y+t→9007199254740992*ab (Y-A*B)≤t:=fun t K L=>by unfold ab;grind
 have k4:2*Y≤2*(A*B)+p2 (-1074)→2*(A*B)≤2*Y+p2 (-1074)→2*ab (Y-A*B)≤p2 (-1074):=fun K L=>by unfold ab;grind
 have d:9007199254740992*ab (Y-A*B)≤A*B∨(cd (rv (fR a)*rv (fR b)) (-2148)≤4503599627370496∧2*ab (Y-A*B)≤p2 (-1074)):=by
  rcases e with⟨z,G⟩|⟨z,G,e3,e4⟩
  ·exact .inl (k3 _ z G)
  ·exact .inr ⟨z,k4 e3 e4⟩
 cases fS a<;>cases fS b<;>simp only[Bool.xor_false,Bool.xor_true,Bool.not_true,Bool.not_false,Bool.false_eq_true,if_true,if_false]
 ·rw[h];exact d
 ·rw[show-Y-A* -B=A*B-Y by grind,show A* -B= -(A*B) by grind,kt,h,←k2];exact d
 ·rw[show-Y- -A*B=A*B-Y by grind,show-A*B= -(A*B) by grind,kt,h,←k2];exact d
 ·rw[show Y- -A* -B=Y-A*B by grind,show-A* -B=A*B by grind,h];exact d
theorem kY{a b:Int}(h:p2 a<p2 b):a<b:=by
 rcases Int.lt_or_le a b with g|g
 ·exact g
 ·have:=aS g
  grind
theorem wh(v:Nat)(E:Int)(h:v≠0):p2 ((bl v:Int)+E-1)≤xE v E∧xE v E<p2 ((bl v:Int)+E):=by
 obtain⟨A,u,z⟩:=bG v h
 have d:=aE E
 constructor
 ·rw[show(bl v:Int)+E-1=((bl v-1:Nat):Int)+E by omega,aU,bu]
  unfold xE
  have:=Rat.mul_le_mul_of_nonneg_left (Rat.natCast_le_natCast.2 u) (Rat.le_of_lt d)
  grind
 ·rw[aU,bu]
  unfold xE
  have:=Rat.mul_lt_mul_of_pos_left (Rat.natCast_lt_natCast.2 z) d
  grind
theorem i8(v:Nat)(E:Int)(h:xE v E<p2 1023):cd v E<9218868437227405312:=by
 by_cases d:v=0
 ·rw[d,tN];decide
 ·have H:=(wh v E d).1
  have I:(bl v:Int)+E-1<1023:=kY (by grind)
  by_cases J:(bl v:Int)+E≤1022
  ·obtain⟨u,z,A⟩:=cT v E d
   obtain⟨D,F,G⟩:=cC v E
   rw[dn v E d (by omega)]
   have:(aD v E+1074).toNat≤2043:=by omega
   omega
  ·obtain⟨u,z,A⟩:=cT v E d
   obtain⟨D,F,G⟩:=cC v E
   rw[dn v E d (by omega)]
   have:(aD v E+1074).toNat≤2044:=by omega
   omega
theorem zI(v:Nat)(E:Int)(U:bl v≤53)(u:cd v E<9218868437227405312):
  yE v E=xE v E∨(xE v E<p2 (-1022)∧cd v E≤4503599627370496∧2*yE v E≤2*xE v E+p2 (-1074)∧2*xE v E≤2*yE v E+p2 (-1074)):=by
 by_cases h:v=0
 ·subst h
  refine .inl ?_
  have e:yE 0 E=0:=by unfold yE;rw[tN,dK];exact Rat.zero_mul _
  have H:xE 0 E=0:=Rat.zero_mul _
  rw[e,H]
 have z:=xR v E h u
 obtain⟨Y,Z,l3⟩:=cC v E
 obtain⟨N,F,G⟩:=tP v E h z
 by_cases I:aD v E≤E
 ·exact .inl (N I)
 ·have A:aD v E= -1074∧(bl v:Int)+E< -1021:=by omega
  have X:=(wh v E h).2
  have J:=aS (show(bl v:Int)+E≤-1022 by omega)
  rcases kW v E u with e|e
  ·refine .inr ⟨by grind,?_,by rw[A.1]at F;exact F,by rw[A.1]at G;exact G⟩
   obtain⟨b1,b2,O⟩:=bG v h
   obtain⟨k,Q,d⟩:∃k:Nat,E-aD v E= -(k:Int)∧1≤k:=⟨(aD v E-E).toNat,by omega,by omega⟩
   have K:d8 v E≤4503599627370496:=by
    unfold d8
    rw[Q,dl _ _ d]
    refine me ?_
    have D:v<2^(52+k):=Nat.lt_of_lt_of_le O (gV (by omega))
    rw[Nat.pow_add,Hq]at D
    exact Nat.le_of_lt D
   have L:(aD v E+1074).toNat=0:=by omega
   rw[dn v E h z,L,Nat.zero_mul,Nat.add_zero]
   exact K
  ·exact .inr ⟨by grind,e.1,e.2.2⟩
theorem oR(a:Nat)(d:a<18446744073709551616)(h:aj a=true)(u:fK a≠0)(n:Int):xE (fD a).natAbs (fX a+n)=(rv (fR a):Rat)*p2 (-1074)*p2 n:=by
 obtain⟨β,A,z,D,F⟩:=nB a d h u
 unfold xE
 rw[z,Rat.natCast_mul,←bu,show fX a+n=(β:Int)+-1074+n by omega,aU,aU]
 grind
theorem ru(a:Nat)(n:Int)(d:aj a=true)(u:fK a≠0):xV a n=gF (fS a) (cd (fD a).natAbs (fX a+n)):=by
 obtain⟨z,h⟩:=bS d
 unfold xV
 rw[if_neg h,if_neg (by omega)]
theorem iC(a:Nat)(n:Int)(d:fK a=0):xV a n=a:=by
 unfold xV
 rw[if_neg (by omega),if_pos (.inr d)]
theorem bm(a:Nat)(d:fK a=0):fQ a=0:=by
 have h:=ge a
 rw[(cr a).1 d,dK]at h
 have u:ab (fQ a)=0:=by rw[h];exact Rat.zero_mul _
 unfold ab at u
 grind
theorem jP(a:Nat)(n:Int)(z:a<18446744073709551616)(d:aj a=true)(h:ab (fQ a)*p2 n<p2 1023):aj (xV a n)=true:=by
 by_cases u:fK a=0
 ·rw[iC a n u];exact d
 ·rw[ru a n d u]
  rw[ge,←oR a z d u]at h
  have:=i8 _ _ h
  exact(cf _).2.2.2 (by rw[iZ _ _ (by omega)];exact this)
theorem jQ(a:Nat)(n:Int)(u:a<18446744073709551616)(h:aj a=true)(H:aj (xV a n)=true):
  fQ (xV a n)=fQ a*p2 n∨(ab (fQ a)*p2 n<p2 (-1022)∧fR (xV a n)≤4503599627370496∧2*ab (fQ (xV a n)-fQ a*p2 n)≤p2 (-1074)):=by
 by_cases d:fK a=0
 ·rw[iC a n d,bm a d,Rat.zero_mul];exact .inl rfl
 ·have F:=iY _ H
  have I:=dU (fD a).natAbs (fX a+n)
  have G:fR (xV a n)=cd (fD a).natAbs (fX a+n):=by rw[ru a n h d,iZ _ _ (by omega)]
  have J:fS (xV a n)=fS a:=by rw[ru a n h d,ju _ _ (by omega)]
  rw[G]at F
  obtain⟨z1,z2,O,Q,U,X,Z,z8,z9⟩:=ee a u h d
  have K:bl (fD a).natAbs≤53:=(cQ a u h d).1
  have e:=zI _ _ K F
  rw[oR a u h d n]at e
  unfold yE at e
  rw[dq (xV a n),J,G,ge,dq a]
  generalize (rv (cd (fD a).natAbs (fX a+n)):Rat)*p2 (-1074)=Y at*
  generalize (rv (fR a):Rat)*p2 (-1074)=A at*
  cases fS a<;>simp only[Bool.false_eq_true,if_true,if_false]
  ·rcases e with e|⟨z,D,L,N⟩
   ·exact .inl e
   ·refine .inr ⟨z,D,?_⟩
    unfold ab;grind
  ·rcases e with e|⟨z,D,L,N⟩
   ·refine .inl ?_
    grind
   ·refine .inr ⟨z,D,?_⟩
    unfold ab;grind
theorem g6(a:Nat)(n:Int)(d:a<18446744073709551616)(h:aj a=true)(z:ab (fQ a)*p2 n<p2 1023)(A:p2 (-1022)≤ab (fQ a)*p2 n):
  aj (xV a n)=true∧fQ (xV a n)=fQ a*p2 n:=by
 have u:=jP a n d h z
 refine⟨u,?_⟩
 rcases jQ a n d h u with e|e
 ·exact e
 ·grind
theorem g7(a b:Nat)(d:aj a=true)(u:aj b=true)(h:ab (fQ a+fQ b)<p2 1023):aj (aV a b)=true:=by
 obtain⟨A,F⟩:=rk a b d u
 have z:ab (fQ a+fQ b)=xE (aZ a b).natAbs (-1074):=by
  have:fQ a+fQ b=((aZ a b:Int):Rat)*p2 (-1074):=by
   unfold fQ aZ
   rw[Rat.intCast_add,Rat.add_mul]
  rw[this,tU]
  have D:(0:Rat)≤((aZ a b).natAbs:Rat)*p2 (-1074):=Rat.mul_nonneg Rat.natCast_nonneg (Rat.le_of_lt (aE _))
  unfold xE ab
  split<;>grind
 rw[z]at h
 exact(cf _).2.2.2 (by rw[A];exact i8 _ _ h)
theorem xZ(a b:Nat)(d:aj a=true)(u:aj b=true)(h:ab (fQ a*fQ b)<p2 1023):aj (mV a b)=true:=by
 have z:xE (rv (fR a)*rv (fR b)) (-2148)=ab (fQ a*fQ b):=by
  rw[bJ,ge,ge]
  unfold xE
  rw[Rat.natCast_mul,show(-2148:Int)= -1074+-1074 by rfl,aU]
  grind
 rw[←z]at h
 have:=i8 _ _ h
 exact(cf _).2.2.2 (by rw[wg a b d u,iZ _ _ (by omega)];exact this)
theorem Lk(a:Nat)(u:fK a≠0):∃N q:Nat,N=rv (fR a)*2^120∧1152921504606846976≤q∧q*q≤N∧(tS a*tS a=4*N∨(tS a*tS a≤4*N+4*q∧4*N≤tS a*tS a+4*q)):=by
 refine⟨_,bj (rv (fR a)*2^120),rfl,?_,?_,?_⟩
 ·have:=(B9 a u).1
  have e:(2:Nat)^60=1152921504606846976:=by decide
  omega
 ·exact(cg _).1
 ·obtain⟨D,F⟩:=cg (rv (fR a)*2^120)
  unfold tS rS
  generalize rv (fR a)*2^120=N at*
  generalize bj N=q at*
  have d:(2*q)*(2*q)=4*(q*q):=by rw[Nat.mul_mul_mul_comm]
  have z:(2*q+1)*(2*q+1)=4*(q*q)+4*q+1:=by rw[dp,d];omega
  have A:=dp q
  by_cases h:q*q=N
  ·rw[if_pos h,Nat.add_zero]
   exact .inl (by rw[d,h])
  ·rw[if_neg h]
   refine .inr ?_
   rw[z]
   generalize q*q=Q at*
   omega
theorem Jk(a:Nat)(u:aj a=true)(z:fK a≠0)(A:fS a=false):sV a=tV a:=by
 obtain⟨d,D⟩:=bS u
 unfold sV
 rw[if_neg D,if_neg (fun h=>?_),if_neg (by rw[A];decide)]
 rcases h with h|h
 ·exact z h
 ·rw[h]at d
  exact d (by decide)
theorem gM(a:Nat)(fa:aj a=true)(A:fK a≠0)(hs:fS a=false):
  aj (sV a)=true∧fS (sV a)=false∧sV a<18446744073709551616∧4503599627370496<fR (sV a)∧0≤fQ (sV a)∧9007199254740992*(fQ (sV a)*fQ (sV a))≤9007199254740992*fQ a+3*fQ a∧9007199254740992*fQ a≤9007199254740992*(fQ (sV a)*fQ (sV a))+3*fQ a:=by
 obtain⟨N,q,hN,hq,aa,hT⟩:=Lk a A
 obtain⟨t1,t2⟩:=Ca a fa A
 have F:=Jk a fa A hs
 have G:fR (sV a)=tV a:=by rw[F];unfold fR;omega
 have hS:fS (sV a)=false:=by rw[F];exact decide_eq_false (by omega)
 have h:aj (sV a)=true:=(cf _).2.2.2 (by rw[G];omega)
 have hY:fQ (sV a)=yE (tS a) (-598):=by
  rw[dq,hS,if_neg (by decide),G]
  rfl
 have z:fQ a=((4*N:Nat):Rat)*p2 (-1196):=by
  rw[dq,hs,if_neg (by decide),hN,Rat.natCast_mul,Rat.natCast_mul,←bu,show(-1074:Int)=2+(120:Nat)+-1196 by rfl,aU,aU,show p2 2=((4:Nat):Rat) by rw[show(2:Int)=((2:Nat):Int) by rfl,bu]]
  grind
 have d:xE (tS a) (-598)*xE (tS a) (-598)=((tS a*tS a:Nat):Rat)*p2 (-1196):=by
  unfold xE
  rw[Rat.natCast_mul,show(-1196:Int)= -598+-598 by rfl,aU]
  grind
 have H:cd (tS a) (-598)<9218868437227405312:=by
  have:cd (tS a) (-598)=tV a:=rfl
  omega
 have e:9007199254740992*yE (tS a) (-598)≤9007199254740992*xE (tS a) (-598)+xE (tS a) (-598)∧9007199254740992*xE (tS a) (-598)≤9007199254740992*yE (tS a) (-598)+xE (tS a) (-598):=by
  rcases kW _ _ H with e|e
  ·exact e
  ·have:cd (tS a) (-598)=tV a:=rfl
   omega
 have u:0≤xE (tS a) (-598):=Rat.mul_nonneg Rat.natCast_nonneg (Rat.le_of_lt (aE _))
 have I:0≤yE (tS a) (-598):=Rat.mul_nonneg Rat.natCast_nonneg (Rat.le_of_lt (aE _))
 --the sticky root's square,beside the number
 have J:1152921504606846976*(4*q)≤4*N:=by
  have:=Nat.mul_le_mul_right q hq
  omega
 have K:1152921504606846976*(tS a*tS a)≤1152921504606846976*(4*N)+4*N∧1152921504606846976*(4*N)≤1152921504606846976*(tS a*tS a)+4*N:=by
  generalize tS a*tS a=Z at*
  omega
 have L:=aE (-1196)
 have O:=Rat.mul_le_mul_of_nonneg_left (Rat.natCast_le_natCast.2 K.1) (Rat.le_of_lt L)
 have Q:=Rat.mul_le_mul_of_nonneg_left (Rat.natCast_le_natCast.2 K.2) (Rat.le_of_lt L)
 rw[Rat.natCast_add,Rat.natCast_mul 1152921504606846976,Rat.natCast_mul 1152921504606846976]at O Q
 have U:((1152921504606846976:Nat):Rat)=1152921504606846976:=rfl
 rw[U]at O Q
 have s0:0≤fQ a:=by rw[z];exact Rat.mul_nonneg Rat.natCast_nonneg (Rat.le_of_lt L)
 refine⟨h,hS,by rw[F];omega,by rw[G];omega,by rw[hY];exact I,?_⟩
 rw[hY]
 have g1:1152921504606846976*(xE (tS a) (-598)*xE (tS a) (-598))≤1152921504606846976*fQ a+fQ a:=by rw[d,z];grind
 have g2:1152921504606846976*fQ a≤1152921504606846976*(xE (tS a) (-598)*xE (tS a) (-598))+fQ a:=by rw[d,z];grind
 clear O Q K J hT d z hN aa
 generalize xE (tS a) (-598)=X at*
 generalize yE (tS a) (-598)=Y at*
 generalize fQ a=S at*
 obtain⟨D,hD⟩:∃D,Y=X+D:=⟨Y-X,by grind⟩
 subst hD
 have m1:=Rat.mul_nonneg u (show 0≤X-9007199254740992*D by grind)
 have m2:=Rat.mul_nonneg u (show 0≤X+9007199254740992*D by grind)
 have m3:=Rat.mul_nonneg (show 0≤X-9007199254740992*D by grind) (show 0≤X+9007199254740992*D by grind)
 have m4:=aw D
 constructor
 ·grind
 ·grind
theorem Ll(a:Nat)(k:Int)(w:World)(D:k=4∨k=3∨k=0)
  (z:∀d,Calls Tryz.prog 164 #[.int .u64 a] d fun r h=>r=.returned (.int .i64 k)∧Below d.heap.size d h):
  Calls Tryz.prog 119 #[.int .u64 a] w fun r d=>r=.returned (.int .i64 0)∧Below w.heap.size w d:=by
 have A:=ac z
 clear z
 rcases D with rfl|rfl|rfl
 all_goals
  go_enter Tryz.func119,Tryz.ntmps119
  go_wp2_with fail
  refine(uH A _).mono ?_
  rintro e F ⟨rfl,u⟩
  clear A
  go_wp2
  go_ret
  exact⟨rfl,u⟩
theorem Lm(a:Nat)(k D X t:Int)(w:World)(h4:(k==4)=false)(h3:(k==3)=false)(h0:(k==0)=false)(ht:-2000≤t∧t≤2000)(N:cq w)
  (O:∀h,Calls Tryz.prog 164 #[.int .u64 a] h fun r u=>r=.returned (.int .i64 k)∧Below h.heap.size h u)
  (Q:∀h,cq h→Calls Tryz.prog 168 #[.int .u64 a] h fun r u=>nj u r 0 D X∧Below h.heap.size h u)
  (U:∀h v,aC h v D X→Calls Tryz.prog 169 #[v] h fun r u=>r=.returned (.int .i64 t)∧Below h.heap.size h u):
  Calls Tryz.prog 119 #[.int .u64 a] w fun r h=>r=.returned (.int .i64 (t-1))∧Below w.heap.size w h:=by
 have Y:=ac O;have Z:=ac Q;have K3:=ac U;have HT:=ac N
 clear O Q U N
 have hw:=a8 (t-1) (by omega)
 go_enter Tryz.func119,Tryz.ntmps119
 go_wp2_with fail
 refine(uH Y _).mono ?_
 rintro e w1 ⟨rfl,d⟩
 have G:=ac d
 clear Y d
 go_wp2_with fail
 refine(uH Z _ ((uH HT).all (uH G))).mono ?_
 rintro e F ⟨⟨v,rfl,hv⟩,d⟩
 obtain⟨I,J,K,A,rfl,i2⟩:=hv
 have z:Below F.heap.size F (F.alloc (.cells #[.bool I,.slice J A.length K,.int .i64 X] 35)):=(Below.refl _ _).alloc (Nat.le_refl _) _
 have HY:=ac ((show aC F (.agg #[.bool I,.slice J A.length K,.int .i64 X]) D X from⟨I,J,K,A,rfl,i2⟩).below z)
 have L:=ac ((uH G).trans ((d.trans (z.mono d.size)).mono (uH G).size))
 have H:=ak.new F (.bool I) (.slice J A.length K) (.int .i64 X)
 have z0:=H.c0;have z1:=H.c1;have z2:=H.c2
 clear i2 d z Z H G
 generalize A.length=l2 at*
 go_wp2_with fail
 refine(uH K3 _ _ (uH HY)).mono ?_
 rintro e w3 ⟨rfl,d⟩
 have B3:=ac ((uH L).trans (d.mono (uH L).size))
 clear d K3 L z0 z1 z2 HY
 go_wp2
 go_ret
 exact⟨rfl,uH B3⟩
theorem FR{v:Nat}(h:v<9007199254740992):bl v≤53:=by
 by_cases d:v=0
 ·subst d;decide
 ·obtain⟨z,u,A⟩:=bG v d
  have:=cK (Nat.lt_of_le_of_lt u (by rw[AZ];exact h))
  omega
theorem Ln{w:World}{v:Value}{D X:Int}(d:aC w v D X)(z:D%2=1)(F:D.natAbs<9007199254740992)(O:-1074≤X∧X≤1024):
  Calls Tryz.prog 169 #[v] w fun r G=>r=.returned (.int .i64 ((bl D.natAbs:Int)+X))∧Below w.heap.size w G:=by
 obtain⟨h,I,J,A,rfl,u,K,L,Y,N⟩:=d.right (cw _ (by omega))
 have:=kO h I J A X w u (by omega)
 have Q:kC h A X=true:=N.trans (rr z (by omega))
 have d:ai A=D.natAbs:=by rw[←L,aM]
 have H:=iX u.2.1 K
 have U:bl D.natAbs≤53:=FR F
 rw[H,d,a8 _ (by omega)]at this
 exact this
def eX(a:Nat):Int:=if fK a=4∨fK a=3∨fK a=0 then 0 else(bl (fD a).natAbs:Int)+fX a-1
theorem tW(a:Nat)(w:World)(u:a<18446744073709551616)(D:cq w):
  Calls Tryz.prog 119 #[.int .u64 a] w fun r d=>r=.returned (.int .i64 (eX a))∧Below w.heap.size w d:=by
 have z:=fun d=>cY a d u
 unfold eX
 by_cases h:fK a=4∨fK a=3∨fK a=0
 ·rw[if_pos h]
  exact Ll a _ w h z
 ·rw[if_neg h]
  have A:=et a (by omega) (by omega)
  obtain⟨z1,z2,G,H,I,J,K,L,N⟩:=ee a u A (by omega)
  exact Lm a _ (fD a) (fX a) _ w (by simp;omega) (by simp;omega) (by simp;omega) (by omega) D z (fun d t=>dE a d u A t) (fun d v F=>Ln F z1 z2 (by omega))
theorem iD:1267650600228229401496703205376*p2 (-1075)≤1∧0<p2 (-1075)∧p2 (-1074)=2*p2 (-1075):=by
 refine⟨?_,aE _,?_⟩
 ·have u:=aS (show(-1075:Int)≤-100 by decide)
  have d:=rn 100
  have h:p2 100=1267650600228229401496703205376:=by rw[show(100:Int)=((100:Nat):Int) by rfl,bu];rfl
  rw[h]at d
  grind
 ·rw[show(-1074:Int)= -1075+1 by rfl,cX]
theorem ms:(1024:Rat)≤p2 1023:=by
 have h:=aS (show(10:Int)≤1023 by decide)
 have d:p2 10=1024:=by rw[show(10:Int)=((10:Nat):Int) by rfl,bu];rfl
 grind
theorem gu(a:Nat)(h:fS a=false):0≤fQ a:=by
 rw[dq,h]
 exact oQ _
def Cm(k:Int)(s x:Nat):Nat:=aV s (mV (xV x (-k)) (xV x (-k)))
def dQ(k:Int)(x:Nat):Rat:=fQ x*p2 (-k)
theorem rx(t:Nat)(d:aj t=true):fS (mV t t)=false∧mV t t<9223372036854775808:=by
 have h:=dU (rv (fR t)*rv (fR t)) (-2148)
 rw[wg t t d d,Bool.xor_self,bN]
 exact⟨decide_eq_false (by omega),by omega⟩
theorem wi(k:Int)(x:Nat)(z:x<18446744073709551616)(F:aj x=true)(U:ab (dQ k x)≤2):
  aj (mV (xV x (-k)) (xV x (-k)))=true∧fS (mV (xV x (-k)) (xV x (-k)))=false∧
  9007199254740992*ab (fQ (mV (xV x (-k)) (xV x (-k)))-dQ k x*dQ k x)≤dQ k x*dQ k x+9007199254740992*(8*p2 (-1075)):=by
 obtain⟨n1,n2,O⟩:=iD
 have X:=ms
 have G:ab (fQ x)*p2 (-k)=ab (dQ k x):=by
  unfold dQ
  rw[bJ,aY (Rat.le_of_lt (aE _))]
 have h:=jP x (-k) z F (by rw[G];grind)
 have A:=jQ x (-k) z F h
 rw[show fQ x*p2 (-k)=dQ k x from rfl]at A
 have K:=oO x (-k) z
 generalize xV x (-k)=t at*
 generalize dQ k x=d at*
 have L:ab (fQ t-d)≤p2 (-1075):=by
  rcases A with e|e
  ·rw[e];unfold ab;grind
  ·have:=e.2.2
   grind
 generalize p2 (-1075)=η at*
 clear A G
 obtain⟨δ,u⟩:∃δ,fQ t=d+δ:=⟨fQ t-d,by grind⟩
 rw[u]at L
 have Y:δ≤η∧-δ≤η:=by
  have:=br (d+δ-d)
  grind
 have l:=br d
 have Z:=Rat.mul_nonneg (show 0≤2-d by grind) (show 0≤η-δ by grind)
 have m2:=Rat.mul_nonneg (show 0≤2-d by grind) (show 0≤η+δ by grind)
 have m3:=Rat.mul_nonneg (show 0≤2+d by grind) (show 0≤η-δ by grind)
 have m4:=Rat.mul_nonneg (show 0≤2+d by grind) (show 0≤η+δ by grind)
 have m5:=Rat.mul_nonneg (show 0≤η-δ by grind) (show 0≤η+δ by grind)
 have m6:=aw δ
 have m7:=aw d
 have m8:=Rat.mul_nonneg (show 0≤η by grind) (show 0≤1-η by grind)
 have m9:=Rat.mul_nonneg (show 0≤2-d by grind) (show 0≤2+d by grind)
 have D:fQ t*fQ t=d*d+2*(d*δ)+δ*δ:=by rw[u];grind
 have N:fQ t*fQ t≤d*d+5*η∧d*d≤fQ t*fQ t+5*η:=by
  rw[D];constructor<;>grind
 have H:=aw (fQ t)
 have I:=xZ t t h h (by rw[aY H];grind)
 refine⟨I,(rx t h).1,?_⟩
 have J:=xY t t h h I
 rw[aY H,O]at J
 generalize fQ (mV t t)=P at*
 generalize fQ t*fQ t=Q at*
 rcases J with e|e
 ·have:=br (P-Q)
  unfold ab
  grind
 ·have:=br (P-Q)
  have:=e.2
  unfold ab
  grind
theorem ya(k:Int)(s x:Nat)(T H G:Rat)(I:x<18446744073709551616)(J:aj x=true)(K:ab (dQ k x)≤2)(d:aj s=true)(u:fS s=false)
  (hT:T+dQ k x*dQ k x≤G) (L:1≤G) (N:G≤256) (hH:H≤64*G)
  (he:9007199254740992*ab (fQ s-T)≤2*T+2*H):
  aj (Cm k s x)=true∧fS (Cm k s x)=false∧9007199254740992*ab (fQ (Cm k s x)-(T+dQ k x*dQ k x))≤2*(T+dQ k x*dQ k x)+2*(H+G):=by
 obtain⟨h,z,ep⟩:=wi k x I J K
 obtain⟨n1,n2,n3⟩:=iD
 have hB:=ms
 unfold Cm
 generalize mV (xV x (-k)) (xV x (-k))=p at*
 have s0:=gu s u
 have p0:=gu p z
 have m7:=aw (dQ k x)
 generalize dQ k x*dQ k x=D at*
 have l1:=br (fQ s-T)
 have l2:=br (fQ p-D)
 have A:ab (fQ s+fQ p)=fQ s+fQ p:=aY (by grind)
 have F:=g7 s p d h (by rw[A];grind)
 have O:=gZ s p d h F
 rw[A]at O
 refine⟨F,?_,?_⟩
 ·have h1:=(rk s p d h).2
  have hz:0≤fZ s∧0≤fZ p:=by
   unfold fZ pv;rw[u,z];simp only[Bool.false_eq_true,if_false];omega
  obtain⟨U,X⟩:=bS d
  obtain⟨Z,c4⟩:=bS h
  rw[(xL s p U X Z c4).1]
  split
  ·rw[u,z];decide
  ·have Q:=dU (aZ s p).natAbs (-1074)
   rw[ju _ _ (by omega)]
   exact decide_eq_false (by unfold aZ;omega)
 ·have l3:=br (fQ (aV s p)-(fQ s+fQ p))
  generalize fQ (aV s p)=Y at*
  generalize fQ s=S at*
  generalize fQ p=P at*
  generalize p2 (-1075)=η at*
  refine Rat.le_trans (Rat.mul_le_mul_of_nonneg_left (mQ (y:=ab (Y-(S+P))+ab (S-T)+ab (P-D)) (by grind) (by grind)) (by decide)) ?_
  grind
def ry(k:Int):Nat→List Nat→Nat
 |s,[]=>s
 |s,x::xs=>ry k (Cm k s x) xs
def gG(k:Int):List Nat→Rat
 | []=>0
 |x::xs=>dQ k x*dQ k x+gG k xs
theorem Cn(k:Int)(d:List Nat):0≤gG k d:=by
 induction d with
 |nil=>exact Rat.le_refl
 |cons x d ih=>
  have:=aw (dQ k x)
  unfold gG
  grind
theorem Co(k:Int)(G:Rat)(h:1≤G)(u:G≤256):∀(d:List Nat) (s:Nat) (T H:Rat),(∀x∈d,x<18446744073709551616∧aj x=true∧ab (dQ k x)≤2)→aj s=true→fS s=false→
  T+gG k d≤G→H+(d.length:Rat)*G≤64*G→9007199254740992*ab (fQ s-T)≤2*T+2*H→
  aj (ry k s d)=true∧fS (ry k s d)=false∧9007199254740992*ab (fQ (ry k s d)-(T+gG k d))≤2*(T+gG k d)+2*(H+(d.length:Rat)*G):=by
 intro d
 induction d with
 |nil=>
  intro s T H _ D F _ _ I
  refine⟨D,F,?_⟩
  have L:ry k s []=s:=rfl
  have z:gG k []=0:=rfl
  have A:(([]:List Nat).length:Rat)=0:=rfl
  rw[L,z,A,Rat.add_zero]
  grind
 |cons x d ih=>
  intro s T H J D F hT hH I
  obtain⟨O,Q,U⟩:=J x (List.mem_cons_self)
  have z:gG k (x::d)=dQ k x*dQ k x+gG k d:=rfl
  have A:((x::d).length:Rat)=(d.length:Rat)+1:=by rw[List.length_cons,Rat.natCast_add];rfl
  have N:((x::d).length:Rat)*G=(d.length:Rat)*G+G:=by rw[A];grind
  have q0:=Cn k d
  have l0:0≤(d.length:Rat)*G:=Rat.mul_nonneg Rat.natCast_nonneg (by grind)
  rw[z]at hT⊢
  rw[N]at hH⊢
  obtain⟨X,Y,Z⟩:=ya k s x T H G O Q U D F (by grind) h u (by grind) I
  obtain⟨i1,i2,i3⟩:=ih (Cm k s x) (T+dQ k x*dQ k x) (H+G) (fun y K=>J y (List.mem_cons_of_mem _ K)) X Y (by grind) (by grind) Z
  refine⟨i1,i2,?_⟩
  rw[show T+(dQ k x*dQ k x+gG k d)=T+dQ k x*dQ k x+gG k d by grind,show H+((d.length:Rat)*G+G)=H+G+(d.length:Rat)*G by grind]
  exact i3
def mx(a b:Nat):Nat:=if fK a=4∨fK b=4 then 9221120237041090560 else if fZ a<fZ b then b else a
def bB:Nat→List Nat→Nat
 |m,[]=>m
 |m,x::xs=>bB (mx m (fR x)) xs
theorem i9(r:Nat)(h:r<9223372036854775808):fZ r=(rv r:Int)∧fR r=r∧fS r=false:=by
 have d:fR r=r:=by unfold fR;omega
 have u:fS r=false:=decide_eq_false (by omega)
 refine⟨?_,d,u⟩
 unfold fZ pv
 rw[d,u]
 rfl
theorem Jl(m r:Nat)(d:m<9218868437227405312)(u:r<9218868437227405312):mx m r=max m r:=by
 obtain⟨z,A,H⟩:=i9 m (by omega)
 obtain⟨D,F,I⟩:=i9 r (by omega)
 have G:=(bS ((cf m).2.2.2 (by rw[A];exact d))).2
 have k2:=(bS ((cf r).2.2.2 (by rw[F];exact u))).2
 unfold mx
 rw[if_neg (by omega),z,D]
 rcases Nat.lt_or_ge m r with h|h
 ·have:=oN h
  rw[if_pos (by omega)]
  omega
 ·have:=iP h
  rw[if_neg (by omega)]
  omega
theorem kZ:∀(d:List Nat) (m:Nat),m<9218868437227405312→(∀x∈d,aj x=true)→
  bB m d<9218868437227405312∧m≤bB m d∧(∀x∈d,fR x≤bB m d)∧(bB m d=m∨∃x∈d,fR x=bB m d):=by
 intro d
 induction d with
 |nil=>intro m D _;exact⟨D,Nat.le_refl _,(fun x z=>(by cases z)),Or.inl rfl⟩
 |cons x d ih=>
  intro m D z
  have F:=iY x (z x List.mem_cons_self)
  have e:bB m (x::d)=bB (max m (fR x)) d:=by
   show bB (mx m (fR x)) d=_
   rw[Jl m _ D F]
  obtain⟨G,I,H,A⟩:=ih (max m (fR x)) (by omega) (fun y u=>z y (List.mem_cons_of_mem _ u))
  rw[e]
  refine⟨G,by omega,?_,?_⟩
  ·intro y u
   rcases List.mem_cons.1 u with rfl|u
   ·omega
   ·exact H y u
  ·rcases A with A|⟨y,u,A⟩
   ·rcases Nat.lt_or_ge m (fR x)with h|h
    ·exact .inr ⟨x,List.mem_cons_self,by omega⟩
    ·exact .inl (by omega)
   ·exact .inr ⟨y,List.mem_cons_of_mem _ u,A⟩
def dj(xs:List Nat):Nat:=if bB 0 xs=0∨aj (bB 0 xs)=false then bB 0 xs else xV (sV (ry (eX (bB 0 xs)) 0 xs)) (eX (bB 0 xs))
theorem gx(a:Nat)(u:a<18446744073709551616)(d:aj a=true)(z:fK a≠0):p2 (eX a)≤ab (fQ a)∧ab (fQ a)<p2 (eX a+1):=by
 obtain⟨D,F⟩:=bS d
 obtain⟨z1,z2,A,G,H,I,J,K,L⟩:=ee a u d z
 have h:=wh (fD a).natAbs (fX a) A
 have e:=oR a u d z 0
 rw[Int.add_zero,ji,Rat.mul_one,←ge]at e
 rw[e]at h
 unfold eX
 rw[if_neg (by omega),show(bl (fD a).natAbs:Int)+fX a-1+1=(bl (fD a).natAbs:Int)+fX a by omega]
 exact h
def bT:List Nat→Rat
 | []=>0
 |x::xs=>fQ x*fQ x+bT xs
theorem FS(k:Int)(d:List Nat):gG k d*(p2 k*p2 k)=bT d:=by
 have h:=rn k
 induction d with
 |nil=>exact Rat.zero_mul _
 |cons x d ih=>
  have e:dQ k x*dQ k x*(p2 k*p2 k)=fQ x*fQ x:=by
   unfold dQ
   rw[show fQ x*p2 (-k)*(fQ x*p2 (-k))*(p2 k*p2 k)=fQ x*fQ x*((p2 (-k)*p2 k)*(p2 (-k)*p2 k)) by grind,h]
   grind
  unfold gG bT
  rw[Rat.add_mul,e,ih]
theorem yb(k:Int):∀(h:List Nat) (x:Nat),x∈h→dQ k x*dQ k x≤gG k h:=by
 intro h
 induction h with
 |nil=>intro x d;cases d
 |cons y ys ih=>
  intro x d
  have u:=Cn k ys
  have z:=aw (dQ k y)
  have e:gG k (y::ys)=dQ k y*dQ k y+gG k ys:=rfl
  rw[e]
  rcases List.mem_cons.1 d with rfl|d
  ·grind
  ·have:=ih x d
   grind
theorem Cp(k:Int):∀(d:List Nat),(∀x∈d,ab (dQ k x)≤2)→gG k d≤4*(d.length:Rat):=by
 intro d
 induction d with
 |nil=>
  intro _
  have e:gG k []=0:=rfl
  have u:(([]:List Nat).length:Rat)=0:=rfl
  rw[e,u]
  grind
 |cons y ys ih=>
  intro h
  have A:=ih (fun x z=>h x (List.mem_cons_of_mem _ z))
  have D:=h y List.mem_cons_self
  have l:=br (dQ k y)
  have m:=Rat.mul_nonneg (show 0≤2-dQ k y by grind) (show 0≤2+dQ k y by grind)
  have e:gG k (y::ys)=dQ k y*dQ k y+gG k ys:=rfl
  have u:((y::ys).length:Rat)=(ys.length:Rat)+1:=by rw[List.length_cons,Rat.natCast_add];rfl
  rw[e,u]
  grind
theorem Cq(a:Nat)(u:a<18446744073709551616)(z:aj a=true):zG (fZ a) (-1074)=fZ a:=by
 have h:=I8 a u z
 by_cases d:fK a=0
 ·have A:fZ a=0:=by
   have:=fU a
   rw[(cr a).1 d,dK]at this
   omega
  rw[A]
  decide+kernel
 ·obtain⟨z1,z2⟩:=xW a d
  unfold zG
  rw[z2,fU,h]
  rfl
theorem Jm(s p:Nat)(F:s<18446744073709551616)(G:p<18446744073709551616)(d:aj s=true)(h:aj p=true)(H:fS s=false)(I:fS p=false):
  fQ s≤fQ (aV s p)∧fQ p≤fQ (aV s p):=by
 have u:=(rk s p d h).2
 have J:0≤fZ s∧0≤fZ p:=by
  unfold fZ pv;rw[H,I];simp only[Bool.false_eq_true,if_false];omega
 have z:zG (fZ s) (-1074)≤zG (aZ s p) (-1074):=tM (by unfold aZ;omega)
 have A:zG (fZ p) (-1074)≤zG (aZ s p) (-1074):=tM (by unfold aZ;omega)
 rw[Cq s F d,←u]at z
 rw[Cq p G h,←u]at A
 have D:=Rat.le_of_lt (aE (-1074))
 have K:=Rat.mul_le_mul_of_nonneg_left (Rat.intCast_le_intCast.2 z) D
 have L:=Rat.mul_le_mul_of_nonneg_left (Rat.intCast_le_intCast.2 A) D
 unfold fQ
 constructor<;>grind
theorem Lo(k:Int)(G:Rat)(z:1≤G)(A:G≤256):∀(d:List Nat) (s:Nat) (T H:Rat),(∀x∈d,x<18446744073709551616∧aj x=true∧ab (dQ k x)≤2)→s<18446744073709551616→aj s=true→fS s=false→
  T+gG k d≤G→H+(d.length:Rat)*G≤64*G→9007199254740992*ab (fQ s-T)≤2*T+2*H→
  fQ s≤fQ (ry k s d)∧∀x∈d,fQ (mV (xV x (-k)) (xV x (-k)))≤fQ (ry k s d):=by
 intro d
 induction d with
 |nil=>
  intro s T H _ _ F I _ _ Q
  exact⟨Rat.le_refl,fun x u=>(by cases u)⟩
 |cons x d ih=>
  intro s T H u hs F I hT hH Q
  obtain⟨J,K,L⟩:=u x (List.mem_cons_self)
  have U:gG k (x::d)=dQ k x*dQ k x+gG k d:=rfl
  have X:((x::d).length:Rat)=(d.length:Rat)+1:=by rw[List.length_cons,Rat.natCast_add];rfl
  have Y:((x::d).length:Rat)*G=(d.length:Rat)*G+G:=by rw[X];grind
  have Z:ry k s (x::d)=ry k (Cm k s x) d:=rfl
  have q0:=Cn k d
  have l0:0≤(d.length:Rat)*G:=Rat.mul_nonneg Rat.natCast_nonneg (by grind)
  rw[U]at hT
  rw[Y]at hH
  obtain⟨g1,N,g3⟩:=ya k s x T H G J K L F I (by grind) z A (by grind) Q
  obtain⟨p1,p2,p3⟩:=wi k x J K L
  have D:mV (xV x (-k)) (xV x (-k))<18446744073709551616:=by
   have:=of_decide_eq_false p2
   omega
  obtain⟨a1,a2⟩:=Jm s _ hs D F p1 I p2
  obtain⟨O,i2⟩:=ih (Cm k s x) (T+dQ k x*dQ k x) (H+G) (fun y h=>u y (List.mem_cons_of_mem _ h)) (by have:=of_decide_eq_false N;omega) g1 N (by grind) (by grind) g3
  rw[Z]
  have b1:fQ s≤fQ (Cm k s x):=a1
  have b2:fQ (mV (xV x (-k)) (xV x (-k)))≤fQ (Cm k s x):=a2
  refine⟨Rat.le_trans b1 O,fun y h=>?_⟩
  rcases List.mem_cons.1 h with rfl|h
  ·exact Rat.le_trans b2 O
  ·exact i2 y h
end Go.Proofs.YtcbcmlaogehimaaGreatDoor
