/- Part 21 of the texts. -/
import Derived.Test.YtmpkkhackbpflaaGreatDoorPartg20
namespace Go.Proofs.YtmpkkhackbpflaaGreatDoor
open Go.RowKit
theorem gu(n:Bool)(r:Nat)(h:r<9223372036854775808):fR (gc n r)=r:=(A2 n r h).2
theorem xn(n:Bool)(r:Nat)(h:r<9223372036854775808):fZ (gc n r)=pv n r:=by
 unfold fZ;rw[js n r h,gu n r h]
theorem GF{a b:Nat}(h:fR a=fR b):fK a=fK b:=by
 have hF:∀b,fF b=fR b%4503599627370496:=fun b=>by unfold fF fR;omega
 have d:∀b,fP b=fR b/4503599627370496:=fun b=>rfl
 unfold fK
 rw[hF,d,hF b,d b,h]
theorem Jk(b:Nat)(h:b<18446744073709551616):fK (fN b)=fK b:=GF (Dx b h)
theorem gY(b:Nat)(h:b<18446744073709551616):ah (fN b)=ah b:=by
 have e:=Dx b h
 unfold ah
 rw[show fP (fN b)=fP b from by show fR (fN b)/4503599627370496=fR b/4503599627370496;rw[e]]
theorem MG(b:Nat)(h:b<18446744073709551616):fZ (fN b)= -fZ b:=by
 unfold fZ
 rw[MF b h,Dx b h]
 unfold pv
 cases fS b<;>simp
theorem bY{b:Nat}(d:ah b=true):fK b≠3∧fK b≠4:=by
 rcases iS b with⟨h,_⟩|⟨_,h⟩
 ·rw[d]at h;cases h
 ·omega
theorem sT(a b:Nat)(l:ah a=true)(t:ah b=true):fR (aV a b)=cC (aZ a b).natAbs (-1074)∧fZ (aV a b)=A3 (aZ a b) (-1074):=by
 obtain⟨D,F⟩:=bY l
 obtain⟨G,H⟩:=bY t
 rw[(zg a b D F G H).1]
 by_cases d:aZ a b=0
 ·rw[if_pos d,d]
  have e:(if(fS a&&fS b)=true then 9223372036854775808 else 0)=gc (fS a&&fS b) 0:=by unfold gc;split<;>rfl
  have h:cC (0:Int).natAbs (-1074)=0:=uX _
  rw[e,gu _ _ (by decide),xn _ _ (by decide),h]
  refine⟨rfl,?_⟩
  unfold A3 pv
  rw[h,fC]
  split<;>simp
 ·rw[if_neg d]
  have z:=di (aZ a b).natAbs (-1074)
  rw[gu _ _ (by omega),xn _ _ (by omega)]
  exact⟨rfl,rfl⟩
theorem Dy(v:Nat)(E:Int)(h:v≠0)(l:(bl v:Int)+E≤1024)(t:aB v E≤E):rv (cC v E)=v*2^(E+1074).toNat:=by
 have d:=cE v E h
 obtain⟨D,F,G⟩:=cD v E
 rw[cY v E h l,mf _ _ d.1 (fun z=>d.2.1 (by omega))]
 unfold dY mS
 rw[if_pos (by omega),Nat.mul_assoc,←Nat.pow_add]
 congr 2
 omega
end Go.Proofs.YtmpkkhackbpflaaGreatDoor
namespace Go.Proofs.YtmpkkhackbpflaaGreatDoor
def db(N d:Nat):Nat:=2*(N/d)+(if N%d=0 then 0 else 1)
def Dz(N D:Nat):Nat:=N/D+(if D<2*(N%D)∨(D=2*(N%D)∧N/D%2=1)then 1 else 0)
theorem xp(N D i:Nat):Dz (N*2^i) (D*2^i)=Dz N D:=by
 have d:0<2^i:=Nat.two_pow_pos _
 unfold Dz
 rw[Nat.mul_div_mul_right _ _ d,Nat.mul_mod_mul_right]
 have l:(D*2^i<2*(N%D*2^i))↔D<2*(N%D):=by
  rw[←Nat.mul_assoc];exact Nat.mul_lt_mul_right d
 have t:(D*2^i=2*(N%D*2^i))↔D=2*(N%D):=by
  rw[←Nat.mul_assoc];exact⟨fun h=>Nat.eq_of_mul_eq_mul_right d h,fun h=>by rw[←h]⟩
 simp only[l,t]
theorem zi(N d k:Nat)(I:0<d)(T:1≤k):dq (db N d) (k+1)=Dz N (d*2^k):=by
 obtain⟨j,rfl⟩:∃j,k=j+1:=⟨k-1,by omega⟩
 have U:=Nat.div_add_mod N d
 have V:=Nat.mod_lt N I
 have X:0<2^j:=Nat.two_pow_pos _
 have D:(2:Nat)^(j+1)=2*2^j:=by rw[Nat.pow_succ,Nat.mul_comm]
 have J:(2:Nat)^(j+1+1)=2*(2*2^j):=by rw[Nat.pow_succ,D,Nat.mul_comm]
 have Y:(if N%d=0 then 0 else 1)≤1:=by split<;>omega
 have l:(if N%d=0 then 0 else 1)=0↔N%d=0:=by split<;>simp_all
 unfold dq Dz db
 rw[J,D]
 generalize (2:Nat)^j=g at*
 generalize (if N%d=0 then 0 else 1)=t at*
 have F:=Nat.div_add_mod (N/d) (2*g)
 have Z:=Nat.mod_lt (N/d) (show 0<2*g by omega)
 have L:N/(d*(2*g))=N/d/(2*g):=(Nat.div_div_eq_div_mul N d (2*g)).symm
 have M:N%(d*(2*g))=d*(N/d%(2*g))+N%d:=by
  rw[Nat.mod_mul];omega
 rw[L,M]
 generalize N%d=r at*
 generalize N/d=q at*
 generalize hA:q%(2*g)=a at*
 generalize hQ:q/(2*g)=b at*
 have O:(2*q+t)/(2*(2*g))=b:=by
  rw[←F,Nat.mul_add,←Nat.mul_assoc 2 (2*g) b,Nat.add_assoc]
  rw[Nat.mul_add_div (by omega),Nat.div_eq_of_lt (by omega),Nat.add_zero]
 have Q:(2*q+t)%(2*(2*g))=2*a+t:=by
  rw[←F,Nat.mul_add,←Nat.mul_assoc 2 (2*g) b,Nat.add_assoc,Nat.mul_add_mod,Nat.mod_eq_of_lt (by omega)]
 rw[O,Q]
 congr 1
 --where a stands beside half
 rcases Nat.lt_trichotomy a g with h|h|h
 ·have:d*a+d≤d*g:=by rw[←Nat.mul_succ];exact Nat.mul_le_mul_left d h
  have z:d*(2*g)=2*(d*g):=by rw[Nat.mul_left_comm]
  rw[z]
  rw[if_neg (by omega),if_neg (by omega)]
 ·subst h
  have z:d*(2*a)=2*(d*a):=by rw[Nat.mul_left_comm]
  rw[z]
  by_cases G:r=0
  ·have:=l.2 G
   by_cases H:b%2=1
   ·rw[if_pos (Or.inr ⟨by omega,H⟩),if_pos (Or.inr ⟨by omega,H⟩)]
   ·rw[if_neg (by omega),if_neg (by omega)]
  ·have:t≠0:=fun e=>G (l.1 e)
   rw[if_pos (Or.inl (by omega)),if_pos (Or.inl (by omega))]
 ·have:d*g+d≤d*a:=by rw[←Nat.mul_succ];exact Nat.mul_le_mul_left d h
  have z:d*(2*g)=2*(d*g):=by rw[Nat.mul_left_comm]
  rw[z]
  rw[if_pos (Or.inl (by omega)),if_pos (Or.inl (by omega))]
theorem J9(N d i:Nat)(l:0<d)(T:0<N/d):bl (db (N*2^i) d)=bl (db N d)+i:=by
 have D:0<2^i:=Nat.two_pow_pos _
 have F:db N d≠0:=by unfold db;omega
 obtain⟨Y,z,t⟩:=bQ (db N d) F
 have U:2≤db N d:=by unfold db;omega
 have G:2≤bl (db N d):=by
  rcases Nat.lt_or_ge (bl (db N d)) 2 with h|h
  ·have:bl (db N d)=1:=by omega
   rw[this]at t;omega
  ·exact h
 obtain⟨c,Q⟩:∃c,bl (db N d)=c+2:=⟨bl (db N d)-2,by omega⟩
 rw[Q]at z t⊢
 --of whole quotients:2^c≤N/d<2^(c+1)
 have H:2^(c+1)≤N/d*2:=by
  rw[show c+2-1=c+1 by omega,Nat.pow_succ]at z
  unfold db at z
  rw[Nat.pow_succ]
  have I:(if N%d=0 then 0 else 1)≤1:=by split<;>omega
  omega
 have J:N/d<2^(c+1):=by
  rw[Nat.pow_succ]at t
  unfold db at t
  omega
 have L:2^c≤N/d:=by rw[Nat.pow_succ]at H;omega
 have M:2^c*d≤N:=(Nat.le_div_iff_mul_le l).1 L
 have O:N<2^(c+1)*d:=(Nat.div_lt_iff_lt_mul l).1 J
 have V:2^(c+i)≤N*2^i/d:=(Nat.le_div_iff_mul_le l).2 (by
  rw[Nat.pow_add,Nat.mul_right_comm];exact Nat.mul_le_mul_right _ M)
 have X:N*2^i/d<2^(c+1+i):=(Nat.div_lt_iff_lt_mul l).2 (by
  rw[Nat.pow_add,Nat.mul_right_comm];exact(Nat.mul_lt_mul_right D).2 O)
 refine oc (by omega) ?_ ?_
 ·rw[show c+2+i-1=c+i+1 by omega,Nat.pow_succ]
  unfold db
  omega
 ·rw[show c+2+i=c+1+i+1 by omega,Nat.pow_succ]
  unfold db
  have I:(if N*2^i%d=0 then 0 else 1)≤1:=by split<;>omega
  omega
theorem GG{N d:Nat}(z:9007199254740992≤N/d):55≤bl (db N d):=by
 have l:db N d≠0:=by unfold db;omega
 obtain⟨D,F,t⟩:=bQ (db N d) l
 have h:2^54≤db N d:=by
  have:(2:Nat)^54=2*9007199254740992:=by decide
  rw[this];unfold db;omega
 have:=dh (Nat.lt_of_le_of_lt h t)
 omega
theorem pw(N d i:Nat)(E:Int)(t:0<d)(G:9007199254740992≤N/d):
  cC (db (N*2^i) d) (E-i)=cC (db N d) E∧aB (db (N*2^i) d) (E-i)=aB (db N d) E∧(bl (db (N*2^i) d):Int)+(E-i)=(bl (db N d):Int)+E∧E+2≤aB (db N d) E:=by
 have z:=J9 N d i t (by omega)
 have H:=GG G
 have I:db N d≠0:=by unfold db;omega
 have D:db (N*2^i) d≠0:=fun h=>by
  rw[h]at z
  have:bl 0=0:=rfl
  omega
 have F:aB (db (N*2^i) d) (E-i)=aB (db N d) E:=by unfold aB;rw[z];omega
 have l:(bl (db (N*2^i) d):Int)+(E-i)=(bl (db N d):Int)+E:=by rw[z];omega
 have J:E+2≤aB (db N d) E:=by have:=(cD (db N d) E).2.1;omega
 refine⟨?_,F,l,J⟩
 have L:dY (db (N*2^i) d) (E-i)=dY (db N d) E:=by
  unfold dY
  rw[F]
  obtain⟨k,M⟩:∃k:Nat,aB (db N d) E=E+k+1∧1≤k:=⟨(aB (db N d) E-E-1).toNat,by omega,by omega⟩
  rw[show E-i-aB (db N d) E= -((k+i+1:Nat):Int) by omega,show E-aB (db N d) E= -((k+1:Nat):Int) by omega]
  rw[dO _ _ (by omega),dO _ _ (by omega),zi _ _ _ t (by omega),zi _ _ _ t (by omega)]
  rw[Nat.pow_add,←Nat.mul_assoc]
  exact xp _ _ _
 unfold cC
 rw[if_neg I,if_neg D,l,L,F]
theorem u6(N d i:Nat)(E:Int)(hd:d%2=1)(J:9007199254740992≤N/d):
  bX (oM (db (N*2^i) d:Nat)).natAbs (oE (db (N*2^i) d:Nat) (E-i))=bX (oM (db N d:Nat)).natAbs (oE (db N d:Nat) E):=by
 have l:0<d:=by omega
 obtain⟨X,Y,Z,s4⟩:=pw N d i E l J
 by_cases t:N%d=0
 ·have L:N=N/d*d:=by have:=Nat.div_add_mod N d;rw[t,Nat.add_zero,Nat.mul_comm]at this;exact this.symm
  have D:N*2^i%d=0:=by rw[Nat.mul_mod,t];simp
  have M:N*2^i/d=N/d*2^i:=by
   conv=>lhs;rw[L,Nat.mul_right_comm]
   exact Nat.mul_div_cancel _ l
  have e:db (N*2^i) d=db N d*2^i:=by
   unfold db;rw[if_pos t,if_pos D,M];rw[Nat.add_zero,Nat.add_zero,Nat.mul_assoc]
  have O:((db (N*2^i) d:Nat):Int)=((db N d:Nat):Int)*2^i:=by rw[e,Int.natCast_mul,Int.natCast_pow];rfl
  have:=mp ((db N d:Nat):Int) i (E-i)
  rw[O,this.1,this.2,show E-(i:Int)+i=E by omega]
 ·have D:N*2^i%d≠0:=fun h=>t (by
   have F:d∣N*2^i:=Nat.dvd_of_mod_eq_zero h
   have Q:Nat.Coprime d (2^i):=by
    apply Nat.Coprime.pow_right
    unfold Nat.Coprime
    have G:Nat.gcd d 2∣2:=Nat.gcd_dvd_right d 2
    have T:Nat.gcd d 2∣d:=Nat.gcd_dvd_left d 2
    have h6:Nat.gcd d 2≤2:=Nat.le_of_dvd (by decide) G
    have h7:Nat.gcd d 2≠0:=fun e=>by rw[e]at G;exact absurd (Nat.eq_zero_of_zero_dvd G) (by decide)
    have h8:Nat.gcd d 2≠2:=fun e=>by rw[e]at T;omega
    omega
   exact Nat.mod_eq_zero_of_dvd (Q.dvd_of_dvd_mul_right F))
  have H:((db N d:Nat):Int)%2=1:=by unfold db;rw[if_neg t];omega
  have I:((db (N*2^i) d:Nat):Int)%2=1:=by unfold db;rw[if_neg D];omega
  have z1:∀(v:Nat) (e:Int),(v:Int)%2=1→oM (v:Int)=v∧oE (v:Int) e=e:=fun v e h=>by
   have z:(v:Int)≠0:=by omega
   have a:=(gW (v:Int) z).unique (m':=(v:Int)) (k':=0) ⟨by simp,h⟩
   exact⟨a.1,by rw[d9 _ _ z,a.2];simp⟩
  rw[(z1 _ (E-i) I).1,(z1 _ (E-i) I).2,(z1 _ E H).1,(z1 _ E H).2,Int.natAbs_natCast,Int.natAbs_natCast]
  have U:db N d≠0:=by omega
  have V:db (N*2^i) d≠0:=by omega
  unfold bX
  rw[if_neg U,if_neg V,Z,Y,X,if_neg (show¬aB (db N d) E≤E-i by omega),if_neg (show¬aB (db N d) E≤E by omega)]
theorem GH(n d p q:Nat)(c:Int)(l:0<d)(z:9007199254740992≤n*2^p/d)(D:9007199254740992≤n*2^q/d):
  cC (db (n*2^p) d) (c-p)=cC (db (n*2^q) d) (c-q):=by
 have t:=(pw (n*2^p) d q (c-p) l z).1
 have h:=(pw (n*2^q) d p (c-q) l D).1
 rw[Nat.mul_assoc,←Nat.pow_add]at t h
 rw[Nat.add_comm q p,show c-(q:Int)-p=c-p-q by omega]at h
 rw[←t,←h]
theorem sU(n d p q:Nat)(c:Int)(l:d%2=1)(z:9007199254740992≤n*2^p/d)(D:9007199254740992≤n*2^q/d):
  bX (oM (db (n*2^p) d:Nat)).natAbs (oE (db (n*2^p) d:Nat) (c-p))=bX (oM (db (n*2^q) d:Nat)).natAbs (oE (db (n*2^q) d:Nat) (c-q)):=by
 have t:=u6 (n*2^p) d q (c-p) l z
 have h:=u6 (n*2^q) d p (c-q) l D
 rw[Nat.mul_assoc,←Nat.pow_add]at t h
 rw[Nat.add_comm q p,show c-(q:Int)-p=c-p-q by omega]at h
 rw[←t,←h]
theorem DA(N d c:Nat):db (N*2^c) (d*2^c)=db N d:=by
 have l:0<2^c:=Nat.two_pow_pos _
 unfold db
 rw[Nat.mul_div_mul_right _ _ l,Nat.mul_mod_mul_right]
 have:N%d*2^c=0↔N%d=0:=by
  constructor
  ·intro h;rcases Nat.mul_eq_zero.1 h with h|h<;>omega
  ·intro h;rw[h,Nat.zero_mul]
 simp only[this]
open Go.RowKit
theorem nG(r:Nat):rv r=0↔r=0:=by
 constructor
 ·intro h
  rcases Nat.eq_zero_or_pos r with e|e
  ·exact e
  ·have:=Jh e;rw[fC]at this;omega
 ·intro h;rw[h,fC]
theorem cP(b:Nat):fK b=0↔fR b=0:=by
 have h:=jG b
 have hF:fF b=fR b%4503599627370496:=by unfold fF fR;omega
 have d:fP b=fR b/4503599627370496:=rfl
 unfold fK
 rw[hF,d]
 generalize fR b=r at*
 split
 ·split<;>constructor<;>intro _<;>omega
 ·split
  ·split<;>constructor<;>intro _<;>omega
  ·constructor<;>intro _<;>omega
def mV(a b:Nat):Nat:=
 if fK a=4∨fK b=4 then 9221120237041090560
 else if fK a=3∨fK b=3 then(if fK a=0∨fK b=0 then 9221120237041090560 else gc (fS a^^fS b) 9218868437227405312)
 else gc (fS a^^fS b) (cC (rv (fR a)*rv (fR b)) (-2148))
def mF(a b:Nat):Int:=
 if fK a=4∨fK b=4 then 0
 else if fK a=3∨fK b=3 then(if fK a=0∨fK b=0 then 16 else 0)
 else if fK a=0∨fK b=0 then 0
 else bX (oM (fZ a*fZ b)).natAbs (oE (fZ a*fZ b) (-2148))
theorem kL(a b:Nat):mV a b<18446744073709551616:=by
 have h:=di (rv (fR a)*rv (fR b)) (-2148)
 unfold mV
 split
 ·omega
 ·split
  ·split
   ·omega
   ·exact jS _ _ (by omega)
  ·exact jS _ _ (by omega)
theorem oI(b:Nat)(t:b<18446744073709551616)(z:ah b=true)(D:fK b≠0):
  ∃β:Nat,fX b= -1074+(β:Int)∧rv (fR b)=(fD b).natAbs*2^β∧(fD b).natAbs%2=1∧(fD b).natAbs<9007199254740992:=by
 obtain⟨h,H⟩:=fJ b t z
 have F:fR b≠0:=fun e=>D ((cP b).2 e)
 have d:fZ b≠0:=fun e=>F ((nG _).1 (by rw[←gR,e];rfl))
 have l:=Dv (fZ b) d
 have G:=d9 (fZ b) (-1074) d
 refine⟨tz (fZ b).natAbs,by rw[←H,G],by rw[←gR,l,h];congr 2;rw[←h,←l],?_,?_⟩
 ·have:=(iB (fZ b) d).2
  rw[h]at this
  omega
 ·have:(oM (fM b)).natAbs≤(fM b).natAbs:=rI _
  have I:=uL b
  show(oM (fM b)).natAbs<_
  omega
def qS(a b:Nat):Nat:=db ((fD a).natAbs*2^180) (fD b).natAbs
def qV(a b:Nat):Nat:=cC (qS a b) (fX a-fX b-181)
def qF(a b:Nat):Int:=bX (oM (qS a b:Nat)).natAbs (oE (qS a b:Nat) (fX a-fX b-181))
def dV(a b:Nat):Nat:=
 if fK a=4∨fK b=4 then 9221120237041090560
 else if fK a=fK b∧(fK a=3∨fK a=0)then 9221120237041090560
 else if fK a=3 then gc (fS a^^fS b) 9218868437227405312
 else if fK b=3∨fK a=0 then gc (fS a^^fS b) 0
 else if fK b=0 then gc (fS a^^fS b) 9218868437227405312
 else gc (fS a^^fS b) (qV a b)
def dF(a b:Nat):Int:=
 if fK a=4∨fK b=4 then 0
 else if fK a=fK b∧(fK a=3∨fK a=0)then 16
 else if fK a=3 then 0
 else if fK b=3∨fK a=0 then 0
 else if fK b=0 then 8
 else qF a b
theorem Jl(a b:Nat):dV a b<18446744073709551616:=by
 have h:qV a b≤9218868437227405312:=di _ _
 have d:=jS (fS a^^fS b) 9218868437227405312 (by decide)
 have l:=jS (fS a^^fS b) 0 (by decide)
 have t:=jS (fS a^^fS b) (qV a b) (by omega)
 unfold dV
 repeat' split
 all_goals omega
theorem GI(o d:Nat)(l:1≤o)(F:d<9007199254740992)(h:0<d):9007199254740992≤o*2^180/d:=by
 rw[Nat.le_div_iff_mul_le h]
 have t:9007199254740992*d≤9007199254740992*9007199254740992:=Nat.mul_le_mul_left _ (by omega)
 have z:9007199254740992*9007199254740992≤1*2^180:=by decide+kernel
 have D:1*2^180≤o*2^180:=Nat.mul_le_mul_right _ l
 exact Nat.le_trans t (Nat.le_trans z D)
theorem MH(b:Nat)(h:ah b=true):cC (fD b).natAbs (fX b)=fR b:=by
 have l:=Du b h
 have d:=jr (fM b) (fE b)
 rw[JU]at d
 exact d.1.trans l.1
theorem Ka(b:Nat)(l:b<18446744073709551616)(d:ah b=true):cC (rv (fR b)) (-1074)=fR b:=by
 obtain⟨t,z⟩:=fJ b l d
 have h:=(jr (fZ b) (-1074)).1
 rw[t,z,gR,MH b d]at h
 exact h.symm
theorem mr(a:Nat)(d:ah a=true)(h:fK a≠0):fK a≠3∧fK a≠4∧fK a≠0:=⟨(bY d).1,(bY d).2,h⟩
theorem px(a b:Nat)(h:ah a=true)(l:ah b=true)(t:fK a≠0)(d:fK b≠0):dV a b=gc (fS a^^fS b) (qV a b)∧dF a b=qF a b:=by
 obtain⟨G,H,_⟩:=mr a h t
 obtain⟨I,J,_⟩:=mr b l d
 have z:¬(fK a=4∨fK b=4):=by omega
 have D:¬(fK a=fK b∧(fK a=3∨fK a=0)):=by omega
 have F:¬(fK b=3∨fK a=0):=by omega
 unfold dV dF
 simp only[if_neg z,if_neg D,if_neg G,if_neg F,if_neg d,and_self]
theorem xq(a b:Nat)(d:ah a=true)(h:ah b=true)(l:fK a≠0)(t:fK b≠0):mV a b=gc (fS a^^fS b) (cC (rv (fR a)*rv (fR b)) (-2148))∧mF a b=bX (oM (fZ a*fZ b)).natAbs (oE (fZ a*fZ b) (-2148)):=by
 obtain⟨G,H,_⟩:=mr a d l
 obtain⟨I,J,_⟩:=mr b h t
 have z:¬(fK a=4∨fK b=4):=by omega
 have D:¬(fK a=3∨fK b=3):=by omega
 have F:¬(fK a=0∨fK b=0):=by omega
 unfold mV mF
 simp only[if_neg z,if_neg D,if_neg F,and_self]
theorem py{v:Nat}{E:Int}(d:v≠0)(h:1024<(bl v:Int)+E):cC v E=9218868437227405312∧bX v E=5:=by
 unfold bX cC
 rw[if_neg d,if_pos h,if_neg d,if_pos h]
 exact⟨rfl,rfl⟩
theorem xr{v k:Nat}(h:2*v<2^k):dq v k=0:=by
 unfold dq
 have d:v/2^k=0:=Nat.div_eq_of_lt (by omega)
 have l:v%2^k=v:=Nat.mod_eq_of_lt (by omega)
 rw[d,l,if_neg (by omega)]
theorem zj{v:Nat}{E:Int}(d:v≠0)(h:(bl v:Int)+E< -1074):cC v E=0∧bX v E=3:=by
 obtain⟨G,H,I⟩:=bQ v d
 have l:aB v E= -1074:=by unfold aB;omega
 obtain⟨j,F⟩:∃j:Nat,E- -1074= -((j:Nat):Int):=⟨(-1074-E).toNat,by omega⟩
 have z:dY v E=0:=by
  unfold dY
  rw[l,F,dO _ _ (by omega)]
  refine xr ?_
  have D:2^(bl v+1)≤2^j:=Nat.pow_le_pow_right (by decide) (by omega)
  rw[Nat.pow_succ]at D
  omega
 have t:cC v E=0:=by
  rw[cY v E d (by omega),z,l]
  rfl
 refine⟨t,?_⟩
 unfold bX
 rw[if_neg d,if_neg (by omega),if_neg (by rw[l];omega),t,if_neg (by decide),if_pos (by decide)]
def gM(r:Nat):Nat:=4503599627370496+r%4503599627370496
theorem MI(r:Nat)(h:4503599627370496≤r):rv r=gM r*2^(r/4503599627370496-1):=by
 have e:r=gM r+(r/4503599627370496-1)*4503599627370496:=by unfold gM;omega
 have:=mf (gM r) (r/4503599627370496-1) (by unfold gM;omega) (fun _=>by unfold gM;omega)
 rwa[←e]at this
end Go.Proofs.YtmpkkhackbpflaaGreatDoor
