/- Part 19 of the texts. -/
import Derived.Test.YtlnphkioddknfaaGreatDoorParty18
namespace Go.Proofs.YtlnphkioddknfaaGreatDoor
def cE(N d:Nat):Nat:=2*(N/d)+(if N%d=0 then 0 else 1)
def AW(N D:Nat):Nat:=N/D+(if D<2*(N%D)∨(D=2*(N%D)∧N/D%2=1)then 1 else 0)
theorem uS(N D i:Nat):AW (N*2^i) (D*2^i)=AW N D:=by
 have d:0<2^i:=Nat.two_pow_pos _
 unfold AW
 rw[Nat.mul_div_mul_right _ _ d,Nat.mul_mod_mul_right]
 have f:(D*2^i<2*(N%D*2^i))↔D<2*(N%D):=by
  rw[←Nat.mul_assoc];exact Nat.mul_lt_mul_right d
 have l:(D*2^i=2*(N%D*2^i))↔D=2*(N%D):=by
  rw[←Nat.mul_assoc];exact⟨fun h=>Nat.eq_of_mul_eq_mul_right d h,fun h=>by rw[←h]⟩
 simp only[f,l]
theorem wO(N d k:Nat)(D:0<d)(L:1≤k):fh (cE N d) (k+1)=AW N (d*2^k):=by
 obtain⟨j,rfl⟩:∃j,k=j+1:=⟨k-1,by omega⟩
 have M:=Nat.div_add_mod N d
 have O:=Nat.mod_lt N D
 have Q:0<2^j:=Nat.two_pow_pos _
 have m:(2:Nat)^(j+1)=2*2^j:=by rw[Nat.pow_succ,Nat.mul_comm]
 have F:(2:Nat)^(j+1+1)=2*(2*2^j):=by rw[Nat.pow_succ,m,Nat.mul_comm]
 have U:(if N%d=0 then 0 else 1)≤1:=by split<;>omega
 have f:(if N%d=0 then 0 else 1)=0↔N%d=0:=by split<;>simp_all
 unfold fh AW cE
 rw[F,m]
 generalize (2:Nat)^j=g at*
 generalize (if N%d=0 then 0 else 1)=t at*
 have y:=Nat.div_add_mod (N/d) (2*g)
 have V:=Nat.mod_lt (N/d) (show 0<2*g by omega)
 have G:N/(d*(2*g))=N/d/(2*g):=(Nat.div_div_eq_div_mul N d (2*g)).symm
 have H:N%(d*(2*g))=d*(N/d%(2*g))+N%d:=by
  rw[Nat.mod_mul];omega
 rw[G,H]
 generalize N%d=r at*
 generalize N/d=q at*
 generalize X:q%(2*g)=a at*
 generalize Y:q/(2*g)=b at*
 have I:(2*q+t)/(2*(2*g))=b:=by
  rw[←y,Nat.mul_add,←Nat.mul_assoc 2 (2*g) b,Nat.add_assoc]
  rw[Nat.mul_add_div (by omega),Nat.div_eq_of_lt (by omega),Nat.add_zero]
 have K:(2*q+t)%(2*(2*g))=2*a+t:=by
  rw[←y,Nat.mul_add,←Nat.mul_assoc 2 (2*g) b,Nat.add_assoc,Nat.mul_add_mod,Nat.mod_eq_of_lt (by omega)]
 rw[I,K]
 congr 1
 --where a stands beside half
 rcases Nat.lt_trichotomy a g with h|h|h
 ·have:d*a+d≤d*g:=by rw[←Nat.mul_succ];exact Nat.mul_le_mul_left d h
  have l:d*(2*g)=2*(d*g):=by rw[Nat.mul_left_comm]
  rw[l]
  rw[if_neg (by omega),if_neg (by omega)]
 ·subst h
  have l:d*(2*a)=2*(d*a):=by rw[Nat.mul_left_comm]
  rw[l]
  by_cases z:r=0
  ·have:=f.2 z
   by_cases A:b%2=1
   ·rw[if_pos (Or.inr ⟨by omega,A⟩),if_pos (Or.inr ⟨by omega,A⟩)]
   ·rw[if_neg (by omega),if_neg (by omega)]
  ·have:t≠0:=fun e=>z (f.1 e)
   rw[if_pos (Or.inl (by omega)),if_pos (Or.inl (by omega))]
 ·have:d*g+d≤d*a:=by rw[←Nat.mul_succ];exact Nat.mul_le_mul_left d h
  have l:d*(2*g)=2*(d*g):=by rw[Nat.mul_left_comm]
  rw[l]
  rw[if_pos (Or.inl (by omega)),if_pos (Or.inl (by omega))]
theorem Hd(N d i:Nat)(f:0<d)(L:0<N/d):bl (cE (N*2^i) d)=bl (cE N d)+i:=by
 have t:0<2^i:=Nat.two_pow_pos _
 have y:cE N d≠0:=by unfold cE;omega
 obtain⟨U,m,l⟩:=bK (cE N d) y
 have M:2≤cE N d:=by unfold cE;omega
 have z:2≤bl (cE N d):=by
  rcases Nat.lt_or_ge (bl (cE N d)) 2 with h|h
  ·have:bl (cE N d)=1:=by omega
   rw[this]at l;omega
  ·exact h
 obtain⟨c,K⟩:∃c,bl (cE N d)=c+2:=⟨bl (cE N d)-2,by omega⟩
 rw[K]at m l⊢
 --of whole quotients:2^c≤N/d<2^(c+1)
 have A:2^(c+1)≤N/d*2:=by
  rw[show c+2-1=c+1 by omega,Nat.pow_succ]at m
  unfold cE at m
  rw[Nat.pow_succ]
  have D:(if N%d=0 then 0 else 1)≤1:=by split<;>omega
  omega
 have F:N/d<2^(c+1):=by
  rw[Nat.pow_succ]at l
  unfold cE at l
  omega
 have G:2^c≤N/d:=by rw[Nat.pow_succ]at A;omega
 have H:2^c*d≤N:=(Nat.le_div_iff_mul_le f).1 G
 have I:N<2^(c+1)*d:=(Nat.div_lt_iff_lt_mul f).1 F
 have O:2^(c+i)≤N*2^i/d:=(Nat.le_div_iff_mul_le f).2 (by
  rw[Nat.pow_add,Nat.mul_right_comm];exact Nat.mul_le_mul_right _ H)
 have Q:N*2^i/d<2^(c+1+i):=(Nat.div_lt_iff_lt_mul f).2 (by
  rw[Nat.pow_add,Nat.mul_right_comm];exact(Nat.mul_lt_mul_right t).2 I)
 refine pq (by omega) ?_ ?_
 ·rw[show c+2+i-1=c+i+1 by omega,Nat.pow_succ]
  unfold cE
  omega
 ·rw[show c+2+i=c+1+i+1 by omega,Nat.pow_succ]
  unfold cE
  have D:(if N*2^i%d=0 then 0 else 1)≤1:=by split<;>omega
  omega
theorem EN{N d:Nat}(m:9007199254740992≤N/d):55≤bl (cE N d):=by
 have f:cE N d≠0:=by unfold cE;omega
 obtain⟨t,y,l⟩:=bK (cE N d) f
 have h:2^54≤cE N d:=by
  have:(2:Nat)^54=2*9007199254740992:=by decide
  rw[this];unfold cE;omega
 have:=cF (Nat.lt_of_le_of_lt h l)
 omega
theorem kH(N d i:Nat)(E:Int)(l:0<d)(z:9007199254740992≤N/d):
  bX (cE (N*2^i) d) (E-i)=bX (cE N d) E∧aJ (cE (N*2^i) d) (E-i)=aJ (cE N d) E∧(bl (cE (N*2^i) d):Int)+(E-i)=(bl (cE N d):Int)+E∧E+2≤aJ (cE N d) E:=by
 have m:=Hd N d i l (by omega)
 have A:=EN z
 have D:cE N d≠0:=by unfold cE;omega
 have t:cE (N*2^i) d≠0:=fun h=>by
  rw[h]at m
  have:bl 0=0:=rfl
  omega
 have y:aJ (cE (N*2^i) d) (E-i)=aJ (cE N d) E:=by unfold aJ;rw[m];omega
 have f:(bl (cE (N*2^i) d):Int)+(E-i)=(bl (cE N d):Int)+E:=by rw[m];omega
 have F:E+2≤aJ (cE N d) E:=by have:=(gd (cE N d) E).2.1;omega
 refine⟨?_,y,f,F⟩
 have G:fL (cE (N*2^i) d) (E-i)=fL (cE N d) E:=by
  unfold fL
  rw[y]
  obtain⟨k,H⟩:∃k:Nat,aJ (cE N d) E=E+k+1∧1≤k:=⟨(aJ (cE N d) E-E-1).toNat,by omega,by omega⟩
  rw[show E-i-aJ (cE N d) E= -((k+i+1:Nat):Int) by omega,show E-aJ (cE N d) E= -((k+1:Nat):Int) by omega]
  rw[fH _ _ (by omega),fH _ _ (by omega),wO _ _ _ l (by omega),wO _ _ _ l (by omega)]
  rw[Nat.pow_add,←Nat.mul_assoc]
  exact uS _ _ _
 unfold bX
 rw[if_neg D,if_neg t,f,G,y]
theorem sG(N d i:Nat)(E:Int)(X:d%2=1)(F:9007199254740992≤N/d):
  bM (oM (cE (N*2^i) d:Nat)).natAbs (oE (cE (N*2^i) d:Nat) (E-i))=bM (oM (cE N d:Nat)).natAbs (oE (cE N d:Nat) E):=by
 have f:0<d:=by omega
 obtain⟨Q,U,V,s4⟩:=kH N d i E f F
 by_cases l:N%d=0
 ·have G:N=N/d*d:=by have:=Nat.div_add_mod N d;rw[l,Nat.add_zero,Nat.mul_comm]at this;exact this.symm
  have t:N*2^i%d=0:=by rw[Nat.mul_mod,l];simp
  have H:N*2^i/d=N/d*2^i:=by
   conv=>lhs;rw[G,Nat.mul_right_comm]
   exact Nat.mul_div_cancel _ f
  have e:cE (N*2^i) d=cE N d*2^i:=by
   unfold cE;rw[if_pos l,if_pos t,H];rw[Nat.add_zero,Nat.add_zero,Nat.mul_assoc]
  have I:((cE (N*2^i) d:Nat):Int)=((cE N d:Nat):Int)*2^i:=by rw[e,Int.natCast_mul,Int.natCast_pow];rfl
  have:=kC ((cE N d:Nat):Int) i (E-i)
  rw[I,this.1,this.2,show E-(i:Int)+i=E by omega]
 ·have t:N*2^i%d≠0:=fun h=>l (by
   have y:d∣N*2^i:=Nat.dvd_of_mod_eq_zero h
   have K:Nat.Coprime d (2^i):=by
    apply Nat.Coprime.pow_right
    unfold Nat.Coprime
    have z:Nat.gcd d 2∣2:=Nat.gcd_dvd_right d 2
    have L:Nat.gcd d 2∣d:=Nat.gcd_dvd_left d 2
    have Y:Nat.gcd d 2≤2:=Nat.le_of_dvd (by decide) z
    have Z:Nat.gcd d 2≠0:=fun e=>by rw[e]at z;exact absurd (Nat.eq_zero_of_zero_dvd z) (by decide)
    have h8:Nat.gcd d 2≠2:=fun e=>by rw[e]at L;omega
    omega
   exact Nat.mod_eq_zero_of_dvd (K.dvd_of_dvd_mul_right y))
  have A:((cE N d:Nat):Int)%2=1:=by unfold cE;rw[if_neg l];omega
  have D:((cE (N*2^i) d:Nat):Int)%2=1:=by unfold cE;rw[if_neg t];omega
  have z1:∀(v:Nat) (e:Int),(v:Int)%2=1→oM (v:Int)=v∧oE (v:Int) e=e:=fun v e h=>by
   have m:(v:Int)≠0:=by omega
   have a:=(fG (v:Int) m).unique (m':=(v:Int)) (k':=0) ⟨by simp,h⟩
   exact⟨a.1,by rw[dI _ _ m,a.2];simp⟩
  rw[(z1 _ (E-i) D).1,(z1 _ (E-i) D).2,(z1 _ E A).1,(z1 _ E A).2,Int.natAbs_natCast,Int.natAbs_natCast]
  have M:cE N d≠0:=by omega
  have O:cE (N*2^i) d≠0:=by omega
  unfold bM
  rw[if_neg M,if_neg O,V,U,Q,if_neg (show¬aJ (cE N d) E≤E-i by omega),if_neg (show¬aJ (cE N d) E≤E by omega)]
theorem wP(n d p q:Nat)(c:Int)(h:0<d)(m:9007199254740992≤n*2^p/d)(t:9007199254740992≤n*2^q/d):
  bX (cE (n*2^p) d) (c-p)=bX (cE (n*2^q) d) (c-q):=by
 have l:=(kH (n*2^p) d q (c-p) h m).1
 have f:=(kH (n*2^q) d p (c-q) h t).1
 rw[Nat.mul_assoc,←Nat.pow_add]at l f
 rw[Nat.add_comm q p,show c-(q:Int)-p=c-p-q by omega]at f
 rw[←l,←f]
theorem qH(n d p q:Nat)(c:Int)(h:d%2=1)(m:9007199254740992≤n*2^p/d)(t:9007199254740992≤n*2^q/d):
  bM (oM (cE (n*2^p) d:Nat)).natAbs (oE (cE (n*2^p) d:Nat) (c-p))=bM (oM (cE (n*2^q) d:Nat)).natAbs (oE (cE (n*2^q) d:Nat) (c-q)):=by
 have l:=sG (n*2^p) d q (c-p) h m
 have f:=sG (n*2^q) d p (c-q) h t
 rw[Nat.mul_assoc,←Nat.pow_add]at l f
 rw[Nat.add_comm q p,show c-(q:Int)-p=c-p-q by omega]at f
 rw[←l,←f]
theorem nz(N d c:Nat):cE (N*2^c) (d*2^c)=cE N d:=by
 have f:0<2^c:=Nat.two_pow_pos _
 unfold cE
 rw[Nat.mul_div_mul_right _ _ f,Nat.mul_mod_mul_right]
 have:N%d*2^c=0↔N%d=0:=by
  constructor
  ·intro h;rcases Nat.mul_eq_zero.1 h with h|h<;>omega
  ·intro h;rw[h,Nat.zero_mul]
 simp only[this]
open Go.RowKit
theorem ls(r:Nat):rv r=0↔r=0:=by
 constructor
 ·intro h
  rcases Nat.eq_zero_or_pos r with e|e
  ·exact e
  ·have:=sD e;rw[fO]at this;omega
 ·intro h;rw[h,fO]
theorem bs(b:Nat):fK b=0↔fR b=0:=by
 have h:=kE b
 have hF:fF b=fR b%4503599627370496:=by unfold fF fR;omega
 have d:fP b=fR b/4503599627370496:=rfl
 unfold fK
 rw[hF,d]
 generalize fR b=r at*
 split
 ·split<;>constructor<;>intro _<;>omega
 ·split
  ·split<;>constructor<;>intro _<;>omega
  ·constructor<;>intro _<;>omega
def mV(a b:Nat):Nat:=
 if fK a=4∨fK b=4 then 9221120237041090560
 else if fK a=3∨fK b=3 then(if fK a=0∨fK b=0 then 9221120237041090560 else cr (fS a^^fS b) 9218868437227405312)
 else cr (fS a^^fS b) (bX (rv (fR a)*rv (fR b)) (-2148))
def mF(a b:Nat):Int:=
 if fK a=4∨fK b=4 then 0
 else if fK a=3∨fK b=3 then(if fK a=0∨fK b=0 then 16 else 0)
 else if fK a=0∨fK b=0 then 0
 else bM (oM (fZ a*fZ b)).natAbs (oE (fZ a*fZ b) (-2148))
def mN(a b:Nat):Bool:=decide ((fK a=4∨fK b=4)∨((fK a=3∨fK b=3)∧(fK a=0∨fK b=0)))
theorem gp(a b:Nat):mV a b<18446744073709551616:=by
 have h:=eM (rv (fR a)*rv (fR b)) (-2148)
 unfold mV
 split
 ·omega
 ·split
  ·split
   ·omega
   ·exact ey _ _ (by omega)
  ·exact ey _ _ (by omega)
theorem yt(a b:Nat):mV a b=mV b a∧mF a b=mF b a:=by
 have d:(fK a=4∨fK b=4)↔(fK b=4∨fK a=4):=Or.comm
 have f:(fK a=3∨fK b=3)↔(fK b=3∨fK a=3):=Or.comm
 have h:(fK a=0∨fK b=0)↔(fK b=0∨fK a=0):=Or.comm
 unfold mV mF
 rw[Bool.xor_comm (fS b) (fS a),Nat.mul_comm (rv (fR b)),Int.mul_comm (fZ b)]
 simp only[d,f,h,and_self]
theorem cC{m k r:Nat}(h:m*2^k=rv r):m=0↔r=0:=by
 have d:0<2^k:=Nat.two_pow_pos _
 rw[←ls r,←h]
 constructor
 ·intro e;rw[e,Nat.zero_mul]
 ·intro e;rcases Nat.mul_eq_zero.1 e with e|e<;>omega
theorem pI(a b:Nat)(l:a<18446744073709551616)(t:b<18446744073709551616)(h:mN a b=true):Ieee.double.mul a b=none∧mV a b=9221120237041090560:=by
 unfold Ieee.Format.mul
 rcases of_decide_eq_true h with(h|h)|⟨d,D⟩
 ·obtain⟨s,f,e⟩:=dK a l h
  refine⟨by rw[e];rfl,?_⟩
  unfold mV;rw[if_pos (Or.inl h)]
 ·obtain⟨s,f,e⟩:=dK b t h
  refine⟨?_,?_⟩
  ·rw[e];cases Ieee.double.read a<;>rfl
  ·unfold mV;rw[if_pos (Or.inr h)]
 ·refine⟨?_,?_⟩
  ·rcases d with d|d
   ·have y:fK b=0:=by rcases D with h|h<;>omega
    obtain⟨m,k,e,A⟩:=b8 b t (bh b (by omega) (by omega))
    have:m=0:=(cC A).2 ((bs b).1 y)
    rw[bU a l d,e,this];rfl
   ·have z:fK a=0:=by rcases D with h|h<;>omega
    obtain⟨m,k,e,A⟩:=b8 a l (bh a (by omega) (by omega))
    have:m=0:=(cC A).2 ((bs a).1 z)
    rw[bU b t d,e,this];rfl
  ·unfold mV
   by_cases F:fK a=4∨fK b=4
   ·rw[if_pos F]
   ·rw[if_neg F,if_pos d,if_pos D]
theorem lu(a b:Nat)(I:a<18446744073709551616)(l:b<18446744073709551616)(h:mN a b=false):Ieee.double.mul a b=some (mV a b):=by
 have K:=of_decide_eq_false h
 have L:¬(fK a=4∨fK b=4):=fun e=>K (Or.inl e)
 have t:(fK a=3∨fK b=3)→¬(fK a=0∨fK b=0):=fun e z=>K (Or.inr ⟨e,z⟩)
 unfold Ieee.Format.mul mV
 rw[if_neg L]
 by_cases f:fK a=3
 ·rw[if_pos (Or.inl f),if_neg (t (Or.inl f)),bU a I f]
  by_cases d:fK b=3
  ·rw[bU b l d]
   show some (Ieee.double.write (.infinity (fS a^^fS b)))=_
   rw[dt]
  ·obtain⟨m,k,e,y⟩:=b8 b l (bh b d (by omega))
   have D:m≠0:=fun A=>t (Or.inl f) (Or.inr ((bs b).2 ((cC y).1 A)))
   rw[e]
   show Option.map Ieee.double.write (if m=0 then none else some (.infinity (fS a^^fS b)))=_
   rw[if_neg D,Option.map_some,dt]
 ·obtain⟨m,k,e,y⟩:=b8 a I (bh a f (by omega))
  rw[e]
  by_cases d:fK b=3
  ·have D:m≠0:=fun A=>t (Or.inr d) (Or.inl ((bs a).2 ((cC y).1 A)))
   rw[if_pos (Or.inr d),if_neg (t (Or.inr d)),bU b l d]
   show Option.map Ieee.double.write (if m=0 then none else some (.infinity (fS b^^fS a)))=_
   rw[if_neg D,Option.map_some,dt,Bool.xor_comm]
  ·obtain⟨F,G,z,H⟩:=b8 b l (bh b d (by omega))
   rw[if_neg (by omega),z]
   show some (Ieee.double.nearest (fS a^^fS b) (m*F) (-1074+(k:Int)+(-1074+(G:Int))))=_
   rw[dg]
   congr 2
   rw[←y,←H,show m*2^k*(F*2^G)=m*F*2^(k+G) by rw[Nat.pow_add];ac_rfl,dY]
   congr 1
   omega
theorem jI(b:Nat)(l:b<18446744073709551616)(m:aC b=true)(t:fK b≠0):
  ∃β:Nat,fX b= -1074+(β:Int)∧rv (fR b)=(fD b).natAbs*2^β∧(fD b).natAbs%2=1∧(fD b).natAbs<9007199254740992:=by
 obtain⟨f,A⟩:=dJ b l m
 have y:fR b≠0:=fun e=>t ((bs b).2 e)
 have d:fZ b≠0:=fun e=>y ((ls _).1 (by rw[←gU,e];rfl))
 have h:=AN (fZ b) d
 have z:=dI (fZ b) (-1074) d
 refine⟨tz (fZ b).natAbs,by rw[←A,z],by rw[←gU,h,f];congr 2;rw[←f,←h],?_,?_⟩
 ·have:=(gJ (fZ b) d).2
  rw[f]at this
  omega
 ·have:(oM (fM b)).natAbs≤(fM b).natAbs:=wI _
  have D:=se b
  show(oM (fM b)).natAbs<_
  omega
def qS(a b:Nat):Nat:=cE ((fD a).natAbs*2^180) (fD b).natAbs
def qV(a b:Nat):Nat:=bX (qS a b) (fX a-fX b-181)
def qF(a b:Nat):Int:=bM (oM (qS a b:Nat)).natAbs (oE (qS a b:Nat) (fX a-fX b-181))
def dV(a b:Nat):Nat:=
 if fK a=4∨fK b=4 then 9221120237041090560
 else if fK a=fK b∧(fK a=3∨fK a=0)then 9221120237041090560
 else if fK a=3 then cr (fS a^^fS b) 9218868437227405312
 else if fK b=3∨fK a=0 then cr (fS a^^fS b) 0
 else if fK b=0 then cr (fS a^^fS b) 9218868437227405312
 else cr (fS a^^fS b) (qV a b)
def dF(a b:Nat):Int:=
 if fK a=4∨fK b=4 then 0
 else if fK a=fK b∧(fK a=3∨fK a=0)then 16
 else if fK a=3 then 0
 else if fK b=3∨fK a=0 then 0
 else if fK b=0 then 8
 else qF a b
def dN(a b:Nat):Bool:=decide ((fK a=4∨fK b=4)∨(fK a=fK b∧(fK a=3∨fK a=0)))
theorem nA(a b:Nat):dV a b<18446744073709551616:=by
 have h:qV a b≤9218868437227405312:=eM _ _
 have d:=ey (fS a^^fS b) 9218868437227405312 (by decide)
 have f:=ey (fS a^^fS b) 0 (by decide)
 have l:=ey (fS a^^fS b) (qV a b) (by omega)
 unfold dV
 repeat' split
 all_goals omega
theorem wQ(o d:Nat)(h:1≤o)(y:d<9007199254740992)(f:0<d):9007199254740992≤o*2^180/d:=by
 rw[Nat.le_div_iff_mul_le f]
 have l:9007199254740992*d≤9007199254740992*9007199254740992:=Nat.mul_le_mul_left _ (by omega)
 have m:9007199254740992*9007199254740992≤1*2^180:=by decide+kernel
 have t:1*2^180≤o*2^180:=Nat.mul_le_mul_right _ h
 exact Nat.le_trans l (Nat.le_trans m t)
theorem EP(a b:Nat)(G:a<18446744073709551616)(H:b<18446744073709551616)(I:aC a=true)(K:aC b=true)(L:fK a≠0)(M:fK b≠0)
  (m k n j p:Nat) (N:m*2^k=rv (fR a)) (O:n*2^j=rv (fR b)) (l:0<n) (z:9007199254740992≤m*2^p/n):
  bX (cE (m*2^p) n) ((k:Int)-j-p-1)=qV a b:=by
 obtain⟨α,V,X,x3,x4⟩:=jI a G I L
 obtain⟨β,Y,Z,y3,y4⟩:=jI b H K M
 unfold qV qS
 rw[V,Y,show-1074+(α:Int)-(-1074+(β:Int))-181=((α:Int)-β-1)-(180:Nat) by omega]
 have f:=wQ (fD a).natAbs (fD b).natAbs (by omega) y4 (by omega)
 generalize (fD a).natAbs=h at*
 generalize (fD b).natAbs=d at*
 have t:∀i:Nat,0<2^i:=fun i=>Nat.two_pow_pos i
 --more digits,then both sides times a power
 obtain⟨F,_,_,_⟩:=kH (m*2^p) n (k+β) ((k:Int)-j-p-1) l z
 have A:m*2^p*2^(k+β)*2^j=h*2^(α+p+j)*2^β:=by
  rw[Nat.pow_add,show m*2^p*(2^k*2^β)*2^j=(m*2^k)*(2^p*2^β*2^j) by ac_rfl,N,X,Nat.pow_add,Nat.pow_add]
  ac_rfl
 have D:n*2^j=d*2^β:=by rw[O,Z]
 have Q:cE (m*2^p*2^(k+β)) n=cE (h*2^(α+p+j)) d:=by
  rw[←nz _ n j,A,D,nz]
 rw[Q]at F
 rw[←F]
 have y:9007199254740992≤h*2^(α+p+j)/d:=by
  have U:h*2^(α+p+j)/d=m*2^p*2^(k+β)/n:=by
   rw[←Nat.mul_div_mul_right _ d (t β),←A,←D,Nat.mul_div_mul_right _ n (t j)]
  rw[U]
  refine Nat.le_trans z (Nat.div_le_div_right ?_)
  exact Nat.le_mul_of_pos_right _ (t _)
 have:=wP h d (α+p+j) 180 ((α:Int)-β-1) (by omega) y f
 rw[←this]
 congr 1
 omega
theorem pJ(a b:Nat)(l:a<18446744073709551616)(t:b<18446744073709551616)(h:dN a b=true):Ieee.double.div a b=none∧dV a b=9221120237041090560:=by
 unfold Ieee.Format.div
 rcases of_decide_eq_true h with(h|h)|⟨H,d⟩
 ·obtain⟨s,f,e⟩:=dK a l h
  refine⟨by rw[e];rfl,?_⟩
  unfold dV;rw[if_pos (Or.inl h)]
 ·obtain⟨s,f,e⟩:=dK b t h
  refine⟨?_,?_⟩
  ·rw[e];cases Ieee.double.read a<;>rfl
  ·unfold dV;rw[if_pos (Or.inr h)]
 ·refine⟨?_,?_⟩
  ·rcases d with d|d
   ·rw[bU a l d,bU b t (by omega)];rfl
   ·obtain⟨m,k,e,D⟩:=b8 a l (bh a (by omega) (by omega))
    obtain⟨n,j,F,G⟩:=b8 b t (bh b (by omega) (by omega))
    have z:m=0:=(cC D).2 ((bs a).1 d)
    have A:n=0:=(cC G).2 ((bs b).1 (by omega))
    rw[e,F,z,A];rfl
  ·unfold dV
   by_cases y:fK a=4∨fK b=4
   ·rw[if_pos y]
   ·rw[if_neg y,if_pos ⟨H,d⟩]
theorem pK(a b:Nat)(G:a<18446744073709551616)(D:b<18446744073709551616)(h:dN a b=false):Ieee.double.div a b=some (dV a b):=by
 have O:=of_decide_eq_false h
 have U:¬(fK a=4∨fK b=4):=fun e=>O (Or.inl e)
 have H:¬(fK a=fK b∧(fK a=3∨fK a=0)):=fun e=>O (Or.inr e)
 unfold Ieee.Format.div dV
 rw[if_neg U,if_neg H]
 by_cases f:fK a=3
 ·obtain⟨n,j,L,A⟩:=b8 b D (bh b (fun e=>H ⟨by omega,Or.inl f⟩) (by omega))
  rw[if_pos f,bU a G f,L]
  show some (Ieee.double.write (.infinity (fS a^^fS b)))=_
  rw[dt]
 ·obtain⟨m,k,e,M⟩:=b8 a G (bh a f (by omega))
  rw[if_neg f,e]
  by_cases F:fK b=3
  ·rw[if_pos (Or.inl F),bU b D F]
   show some (Ieee.double.nearest (fS a^^fS b) 0 0)=_
   rw[dg,pF]
  ·obtain⟨n,j,L,A⟩:=b8 b D (bh b F (by omega))
   rw[L]
   show Option.map Ieee.double.write (if n=0 then if m=0 then none else some (.infinity (fS a^^fS b))else some (.number (fS a^^fS b) (2*(m <<< (54+n.log2-m.log2)/n)+(m <<< (54+n.log2-m.log2)%n != 0).toNat) (-1074+(k:Int)-(-1074+(j:Int))-((54+n.log2-m.log2:Nat):Int)-1)))=_
   by_cases l:fK a=0
   ·have y:m=0:=(cC M).2 ((bs a).1 l)
    have d:n≠0:=fun t=>H ⟨by rw[l,(bs b).2 ((cC A).1 t)],Or.inr l⟩
    rw[if_pos (Or.inr l),if_neg d,y,Nat.zero_shiftLeft,Nat.zero_div,Nat.zero_mod]
    show some (Ieee.double.nearest (fS a^^fS b) 0 _)=_
    rw[dg,pF]
   ·have y:m≠0:=fun t=>l ((bs a).2 ((cC M).1 t))
    have I:¬(fK b=3∨fK a=0):=by omega
    rw[if_neg I]
    by_cases z:fK b=0
    ·have d:n=0:=(cC A).2 ((bs b).1 z)
     rw[if_pos z,if_pos d,if_neg y,Option.map_some,dt]
    ·have d:n≠0:=fun t=>z ((bs b).2 ((cC A).1 t))
     rw[if_neg z,if_neg d]
     have K:2*(m <<< (54+n.log2-m.log2)/n)+(m <<< (54+n.log2-m.log2)%n != 0).toNat=cE (m*2^(54+n.log2-m.log2)) n:=by
      rw[Nat.shiftLeft_eq]
      unfold cE
      congr 1
      split
      ·rename_i N;rw[N];rfl
      ·rename_i N;simp[N]
     rw[K]
     show some (Ieee.double.nearest (fS a^^fS b) (cE (m*2^(54+n.log2-m.log2)) n) _)=_
     rw[dg]
     have Q:=bK m y
     have V:=bK n d
     have X:bl m=m.log2+1:=by unfold bl;rw[if_neg y]
     have Y:bl n=n.log2+1:=by unfold bl;rw[if_neg d]
     rw[X,show m.log2+1-1=m.log2 by omega]at Q
     rw[Y]at V
     have Z:9007199254740992≤m*2^(54+n.log2-m.log2)/n:=by
      rw[Nat.le_div_iff_mul_le (by omega)]
      have h1:9007199254740992*n≤2^53*2^(n.log2+1):=by rw[Ah];exact Nat.mul_le_mul_left _ (by omega)
      have h2:(2:Nat)^53*2^(n.log2+1)≤2^m.log2*2^(54+n.log2-m.log2):=by
       rw[←Nat.pow_add,←Nat.pow_add];exact e9 (by omega)
      have h3:2^m.log2*2^(54+n.log2-m.log2)≤m*2^(54+n.log2-m.log2):=Nat.mul_le_mul_right _ Q.2.1
      omega
     have:=EP a b G D (bh a f (by omega)) (bh b F (by omega)) l z m k n j (54+n.log2-m.log2) M A (by omega) Z
     rw[←this]
     congr 3
     omega
theorem I8(b:Nat)(f:aC b=true):bX (fD b).natAbs (fX b)=fR b:=by
 have h:=AM b f
 have d:=jG (fM b) (fE b)
 rw[GV]at d
 exact d.1.trans h.1
theorem He(b:Nat)(f:b<18446744073709551616)(d:aC b=true):bX (rv (fR b)) (-1074)=fR b:=by
 obtain⟨l,m⟩:=dJ b f d
 have h:=(jG (fZ b) (-1074)).1
 rw[l,m,gU,I8 b d]at h
 exact h.symm
theorem kI(a:Nat)(d:aC a=true)(f:fK a≠0):fK a≠3∧fK a≠4∧fK a≠0:=⟨(dL d).1,(dL d).2,f⟩
theorem AX(a b:Nat)(f:aC a=true)(h:aC b=true)(l:fK a≠0)(d:fK b≠0):dV a b=cr (fS a^^fS b) (qV a b)∧dF a b=qF a b:=by
 obtain⟨z,A,_⟩:=kI a f l
 obtain⟨D,F,_⟩:=kI b h d
 have m:¬(fK a=4∨fK b=4):=by omega
 have t:¬(fK a=fK b∧(fK a=3∨fK a=0)):=by omega
 have y:¬(fK b=3∨fK a=0):=by omega
 unfold dV dF
 simp only[if_neg m,if_neg t,if_neg z,if_neg y,if_neg d,and_self]
theorem nB(a b:Nat)(d:aC a=true)(f:aC b=true)(h:fK a≠0)(l:fK b≠0):mV a b=cr (fS a^^fS b) (bX (rv (fR a)*rv (fR b)) (-2148))∧mF a b=bM (oM (fZ a*fZ b)).natAbs (oE (fZ a*fZ b) (-2148)):=by
 obtain⟨z,A,_⟩:=kI a d h
 obtain⟨D,F,_⟩:=kI b f l
 have m:¬(fK a=4∨fK b=4):=by omega
 have t:¬(fK a=3∨fK b=3):=by omega
 have y:¬(fK a=0∨fK b=0):=by omega
 unfold mV mF
 simp only[if_neg m,if_neg t,if_neg y,and_self]
theorem nC{v:Nat}{E:Int}(d:v≠0)(h:1024<(bl v:Int)+E):bX v E=9218868437227405312∧bM v E=5:=by
 unfold bM bX
 rw[if_neg d,if_pos h,if_neg d,if_pos h]
 exact⟨rfl,rfl⟩
theorem uT{v k:Nat}(h:2*v<2^k):fh v k=0:=by
 unfold fh
 have d:v/2^k=0:=Nat.div_eq_of_lt (by omega)
 have f:v%2^k=v:=Nat.mod_eq_of_lt (by omega)
 rw[d,f,if_neg (by omega)]
theorem qI{v:Nat}{E:Int}(d:v≠0)(h:(bl v:Int)+E< -1074):bX v E=0∧bM v E=3:=by
 obtain⟨z,A,D⟩:=bK v d
 have f:aJ v E= -1074:=by unfold aJ;omega
 obtain⟨j,y⟩:∃j:Nat,E- -1074= -((j:Nat):Int):=⟨(-1074-E).toNat,by omega⟩
 have m:fL v E=0:=by
  unfold fL
  rw[f,y,fH _ _ (by omega)]
  refine uT ?_
  have t:2^(bl v+1)≤2^j:=Nat.pow_le_pow_right (by decide) (by omega)
  rw[Nat.pow_succ]at t
  omega
 have l:bX v E=0:=by
  rw[gI v E d (by omega),m,f]
  rfl
 refine⟨l,?_⟩
 unfold bM
 rw[if_neg d,if_neg (by omega),if_neg (by rw[f];omega),l,if_neg (by decide),if_pos (by decide)]
def gM(r:Nat):Nat:=4503599627370496+r%4503599627370496
theorem AY(r:Nat):bl (gM r)=53:=by
 refine pq (by decide) ?_ ?_
 ·rw[show(2:Nat)^(53-1)=4503599627370496 by decide]
  unfold gM;omega
 ·rw[show(2:Nat)^53=9007199254740992 by decide]
  unfold gM;omega
theorem AZ(r:Nat):gM r≠0:=by unfold gM;omega
theorem sH(r:Nat)(h:4503599627370496≤r):rv r=gM r*2^(r/4503599627370496-1):=by
 have e:r=gM r+(r/4503599627370496-1)*4503599627370496:=by unfold gM;omega
 have:=mP (gM r) (r/4503599627370496-1) (by unfold gM;omega) (fun _=>by unfold gM;omega)
 rwa[←e]at this
theorem qJ(r:Nat)(n e:Int)(h:4503599627370496≤r)(d:e=n+(r/4503599627370496:Nat)-1023):
  bX (rv r) (n-1074)=bX (gM r) (e-52):=by
 rw[sH r h,dY]
 congr 1
 omega
theorem yu(r:Nat)(e:Int)(l:-1022≤e)(m:e≤1023):bX (gM r) (e-52)=r%4503599627370496+(e+1023).toNat*4503599627370496:=by
 have d:=AY r
 have f:aJ (gM r) (e-52)=e-52:=by unfold aJ;rw[d];omega
 rw[gI _ _ (AZ r) (by rw[d];omega),f]
 have h:fL (gM r) (e-52)=gM r:=by
  unfold fL
  rw[f,show e-52-(e-52)=((0:Nat):Int) by omega,jQ,Nat.pow_zero,Nat.mul_one]
 rw[h,show(e-52+1074).toNat=(e+1023).toNat-1 by omega]
 have:1≤(e+1023).toNat:=by omega
 unfold gM
 omega
theorem uU(r:Nat)(e:Int)(h:1023<e):bX (gM r) (e-52)=9218868437227405312:=(nC (AZ r) (by rw[AY];omega)).1
theorem yv(r:Nat)(e:Int)(h:e< -1075):bX (gM r) (e-52)=0:=(qI (AZ r) (by rw[AY];omega)).1
theorem nD(i j k:Nat)(h:i+j=k):(2:Nat)^i*2^j=2^k:=by rw[←Nat.pow_add,h]
theorem nE(v x y:Nat)(E F:Int)(h:E+x+y=F):bX (v*2^x*2^y) E=bX v F:=by
 rw[Nat.mul_assoc,←Nat.pow_add,dY]
 congr 1
 omega
theorem nF(v x:Nat)(E F:Int)(h:E+x=F):bX (v*2^x) E=bX v F:=by rw[dY,h]
theorem yw(s:Bool)(r:Nat)(e:Int)(L:-1075≤e)(M:e< -1022):
  mV (cr s (r%4503599627370496+(e+53+1023).toNat*4503599627370496)) 4368491638549381120=cr s (bX (gM r) (e-52)):=by
 obtain⟨q,I⟩:∃q,q=r%4503599627370496+(e+53+1023).toNat*4503599627370496:=⟨_,rfl⟩
 rw[←I]
 have f:4503599627370496≤q:=by omega
 have l:q<9218868437227405312:=by omega
 have t:gM q=gM r:=by unfold gM;omega
 have y:q/4503599627370496-1=(e+1075).toNat:=by omega
 have d:=gV s q (by omega)
 have z:aC (cr s q)=true:=(bu _).2.2.2 (by rw[d];exact l)
 have A:fK (cr s q)≠0:=fun h=>by
  have:=(bs _).1 h
  rw[d]at this
  omega
 have m:fR 4368491638549381120=4368491638549381120:=by decide
 have D:aC 4368491638549381120=true:=by decide
 have F:fK 4368491638549381120≠0:=by decide
 have G:fS 4368491638549381120=false:=by decide
 obtain⟨K,N⟩:∃K:Nat,K=1021:=⟨_,rfl⟩
 have H:rv 4368491638549381120=2^K:=by
  have:=sH 4368491638549381120 (by decide)
  rw[this,show gM 4368491638549381120=2^52 by decide,show 4368491638549381120/4503599627370496-1=969 by decide]
  exact nD 52 969 K (by omega)
 rw[(nB _ _ z D A F).1,d,m,H,sH q f,t,y,lk s q (by omega),G,Bool.xor_false,nE _ _ _ _ (e-52) (by omega)]
theorem uV(s:Bool)(r:Nat)(m:r≠0)(h:r<4503599627370496):
  ∃q,mV (cr s r) 4841369599423283200=cr s q∧4503599627370496≤q∧q<9218868437227405312∧∀n:Int,bX (rv r) (n-1074)=bX (rv q) (n-52-1074):=by
 obtain⟨b1,D,L⟩:=bK r m
 have f:bl r≤52:=by
  have t:(2:Nat)^52=4503599627370496:=by decide
  have:=cF (Nat.lt_of_le_of_lt D (by rw[t];exact h))
  omega
 have l:rv r=r:=by
  have:=mP r 0 (by omega) (fun h=>absurd rfl h)
  simpa using this
 obtain⟨b,F⟩:∃b,bl r=b+1:=⟨bl r-1,by omega⟩
 rw[F]at D L f
 have N:(2:Nat)^(b+1-1)*2^(52-b)=4503599627370496:=by rw[←Nat.pow_add,show b+1-1+(52-b)=52 by omega]
 have O:(2:Nat)^(b+1)*2^(52-b)=9007199254740992:=by rw[←Nat.pow_add,show b+1+(52-b)=53 by omega]
 have Q:=Nat.two_pow_pos (52-b)
 have y:=Nat.mul_le_mul_right (2^(52-b)) D
 have H:=(Nat.mul_lt_mul_right Q).2 L
 rw[N]at y
 rw[O]at H
 obtain⟨M,G⟩:∃M,M=r*2^(52-b):=⟨_,rfl⟩
 rw[←G]at y H
 have I:aJ r (-1022)=(b:Int)-1074:=by unfold aJ;rw[F];omega
 have U:bX r (-1022)=M+b*4503599627370496:=by
  rw[gI r _ m (by rw[F];omega),I]
  unfold fL
  rw[I,show(-1022:Int)-((b:Int)-1074)=((52-b:Nat):Int) by omega,jQ,←G,show((b:Int)-1074+1074).toNat=b by omega]
 have d:=gV s r (by omega)
 have V:aC (cr s r)=true:=(bu _).2.2.2 (by rw[d];omega)
 have X:fK (cr s r)≠0:=fun h=>m (by have:=(bs _).1 h;rwa[d]at this)
 have z:fR 4841369599423283200=4841369599423283200:=by decide
 have Y:aC 4841369599423283200=true:=by decide
 have Z:fK 4841369599423283200≠0:=by decide
 have s2:fS 4841369599423283200=false:=by decide
 obtain⟨K,hK⟩:∃K:Nat,K=1126:=⟨_,rfl⟩
 have r2:rv 4841369599423283200=2^K:=by
  have:=sH 4841369599423283200 (by decide)
  rw[this,show gM 4841369599423283200=2^52 by decide,show 4841369599423283200/4503599627370496-1=1074 by decide]
  exact nD 52 1074 K (by omega)
 refine⟨M+b*4503599627370496,?_,by omega,by omega,fun n=>?_⟩
 ·rw[(nB _ _ V Y X Z).1,d,z,r2,l,lk s r (by omega),s2,Bool.xor_false,nF _ _ _ (-1022) (by omega),U]
 ·have A:rv (M+b*4503599627370496)=M*2^b:=mP M b (by omega) (fun _=>y)
  rw[A,l,G]
  exact(nE r (52-b) b _ _ (by omega)).symm
def p2(e:Int):Rat:=(2:Rat)^e
end Go.Proofs.YtlnphkioddknfaaGreatDoor
