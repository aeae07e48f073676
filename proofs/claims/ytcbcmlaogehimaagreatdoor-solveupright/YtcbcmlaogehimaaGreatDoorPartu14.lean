/- Part 14 of the texts. -/
import Derived.Test.YtcbcmlaogehimaaGreatDoorPartu13
namespace Go.Proofs.YtcbcmlaogehimaaGreatDoor
open Go.RowKit
def fR(b:Nat):Nat:=b%9223372036854775808
def fZ(b:Nat):Int:=pv (fS b) (fR b)
theorem Mv(b:Nat)(h:b<18446744073709551616):iJ (fS b) (fR b)=b:=by
 unfold fS fR
 by_cases c:9223372036854775808<=b
 ·rw[decide_eq_true c,gc];omega
 ·rw[decide_eq_false c,cJ];omega
theorem kL(b:Nat):fR b<9223372036854775808:=by unfold fR;omega
theorem kN(b:Nat)(h:ah b=true):fR b<9218868437227405312:=by
 have l:=of_decide_eq_true h;unfold fP at l;unfold fR;omega
theorem PF(n:Bool)(s:Nat):sg n (rv s)=pv n s:=rfl
theorem d7(b:Nat)(h:b<18446744073709551616)(F:ah b=true):oM (fZ b)=fD b/\oE (fZ b) (-1074)=fX b:=by
 obtain⟨j,t,D⟩:=NA (fS b) (fR b) (kN b F);rw[Mv b h]at t D;have l:=iy (fM b) j (-1074);rw[D,PF,<-t]at l;exact l
theorem Fo:rv 9218868437227405312=2^2098:=by decide+kernel
theorem NC(n:Bool)(r:Nat):(pv n r).natAbs=rv r:=by unfold pv;split<;>omega
theorem ie(b:Nat):(fZ b).natAbs=rv (fR b):=NC _ _
theorem ew(b:Nat)(h:ah b=true):(fZ b).natAbs<2^2098:=by
 rw[ie,<-Fo];exact Ms (kN b h)
def aZ(a b:Nat):Int:=fZ a+fZ b
def aV(a b:Nat):Nat:=
 if fK a=4\/fK b=4 then 9221120237041090560
 else if fK a=3 then(if fK b=3/\a≠b then 9221120237041090560 else a)
 else if fK b=3 then b
 else if aZ a b=0 then(if(fS a&&fS b)=true then 9223372036854775808 else 0)
 else iJ (decide (aZ a b<0)) (cU (aZ a b).natAbs (-1074))
def aF(a b:Nat):Int:=
 if fK a=4\/fK b=4 then 0
 else if fK a=3 then(if fK b=3/\a≠b then 16 else 0)
 else if fK b=3 then 0
 else if aZ a b=0 then 0
 else cD (oM (aZ a b)).natAbs (oE (aZ a b) (-1074))
theorem Mw:(2:Nat)^2098+2^2098=2^2099:=by decide+kernel
theorem oP(b:Nat)(h:ah b=true):ga (-1074) 2099 (fZ b):=by
 have t:=ew b h;have l:=Mw;have D:=Nat.two_pow_pos 2098;generalize (2:Nat)^2098=P at*;exact⟨by rw[<-l];omega,by decide,by decide,by decide⟩
theorem ND(a b:Nat)(h:ah a=true)(l:ah b=true):ga (-1074) 2099 (fZ a+fZ b):=by
 have D:=ew a h;have F:=ew b l;have t:=Mw;generalize (2:Nat)^2098=P at*;exact⟨by rw[<-t];omega,by decide,by decide,by decide⟩
theorem mN(n:Bool)(r:Nat)(h:r<9223372036854775808):iJ n r<18446744073709551616:=by unfold iJ;split<;>omega
theorem jc(a b:Nat)(h:a<18446744073709551616)(l:b<18446744073709551616):aV a b<18446744073709551616:=by
 unfold aV
 split
 ·omega
 ·split
  ·split<;>omega
  ·split
   ·omega
   ·split
    ·split<;>omega
    ·have:=ej (aZ a b).natAbs (-1074)
     exact mN _ _ (by omega)
theorem A2(a b:Nat)(l:fK a≠3)(D:fK a≠4)(t:fK b≠3)(F:fK b≠4):
  aV a b=(if aZ a b=0 then(if(fS a&&fS b)=true then 9223372036854775808 else 0)else iJ (decide (aZ a b<0)) (cU (aZ a b).natAbs (-1074)))/\aF a b=(if aZ a b=0 then 0 else cD (oM (aZ a b)).natAbs (oE (aZ a b) (-1074))):=by
 have h:¬(fK a=4\/fK b=4):=by omega
 unfold aV aF;simp only[if_neg h,if_neg l,if_neg t,and_self]
theorem wB(E:Int):cU 0 E=0:=by unfold cU;exact if_pos rfl
theorem cY(b:Nat):(fK b=4↔9218868437227405312<fR b)/\(fK b=3↔fR b=9218868437227405312)/\(ah b=true↔fR b<9218868437227405312):=by
 have h:=kL b;have hF:fF b=fR b%4503599627370496:=by unfold fF fR;omega
 have l:fP b=fR b/4503599627370496:=rfl;unfold fK ah;rw[hF,l];generalize fR b=r at*;refine⟨?_,?_,?_⟩
 ·split
  ·split<;>constructor<;>intro _<;>omega
  ·split
   ·split<;>constructor<;>intro _<;>omega
   ·constructor<;>intro _<;>omega
 ·split
  ·split<;>constructor<;>intro _<;>omega
  ·split
   ·split<;>constructor<;>intro _<;>omega
   ·constructor<;>intro _<;>omega
 ·rw[decide_eq_true_iff];omega
theorem fO(b:Nat)(l:fK b≠3)(t:fK b≠4):ah b=true:=by
 rcases i9 b with⟨_,h|h⟩|⟨h,_⟩
 ·exact absurd h l
 ·exact absurd h t
 ·exact h
theorem A3(b:Nat)(h:b<18446744073709551616):fN b=iJ (!fS b) (fR b):=by
 unfold fN fS fR
 by_cases c:9223372036854775808<=b
 ·rw[if_pos c,decide_eq_true c];show _=iJ false _;rw[cJ];omega
 ·rw[if_neg c,decide_eq_false c];show _=iJ true _;rw[gc];omega
theorem PG(b:Nat)(h:b<18446744073709551616):fS (fN b)= !fS b:=by rw[A3 b h,kg _ _ (kL b)]
theorem My(b:Nat)(h:b<18446744073709551616):fR (fN b)=fR b:=by
 have:=kL b;rw[A3 b h];unfold fR at*
 cases (!fS b)
 ·rw[cJ];omega
 ·rw[gc];omega
theorem iL(n:Bool)(r:Nat)(h:r<9223372036854775808):fR (iJ n r)=r:=(Db n r h).2
theorem Fp(n:Bool)(r:Nat)(h:r<9223372036854775808):fZ (iJ n r)=pv n r:=by
 unfold fZ;rw[kg n r h,iL n r h]
theorem gu(b:Nat)(h:b<18446744073709551616):ah (fN b)=ah b:=by
 have e:=My b h;unfold ah;rw[show fP (fN b)=fP b from by show fR (fN b)/4503599627370496=fR b/4503599627370496;rw[e]]
theorem PH(b:Nat)(h:b<18446744073709551616):fZ (fN b)= -fZ b:=by
 unfold fZ;rw[PG b h,My b h];unfold pv
 cases fS b<;>simp
theorem cI{b:Nat}(l:ah b=true):fK b≠3/\fK b≠4:=by
 rcases i9 b with⟨h,_⟩|⟨_,h⟩
 ·rw[l]at h;cases h
 ·omega
theorem rf(a b:Nat)(t:ah a=true)(D:ah b=true):fR (aV a b)=cU (aZ a b).natAbs (-1074)/\fZ (aV a b)=Dc (aZ a b) (-1074):=by
 obtain⟨G,H⟩:=cI t;obtain⟨I,J⟩:=cI D;rw[(A2 a b G H I J).1]
 by_cases h:aZ a b=0
 ·rw[if_pos h,h]
  have e:(if(fS a&&fS b)=true then 9223372036854775808 else 0)=iJ (fS a&&fS b) 0:=by unfold iJ;split<;>rfl
  have l:cU (0:Int).natAbs (-1074)=0:=wB _;rw[e,iL _ _ (by decide),Fp _ _ (by decide),l];refine⟨rfl,?_⟩;unfold Dc pv;rw[l,gp]
  split<;>simp
 ·rw[if_neg h]
  have F:=ej (aZ a b).natAbs (-1074);rw[iL _ _ (by omega),Fp _ _ (by omega)];exact⟨rfl,rfl⟩
end Go.Proofs.YtcbcmlaogehimaaGreatDoor
namespace Go.Proofs.YtcbcmlaogehimaaGreatDoor
def dC(N d:Nat):Nat:=2*(N/d)+(if N%d=0 then 0 else 1)
def Fq(N D:Nat):Nat:=N/D+(if D<2*(N%D)\/(D=2*(N%D)/\N/D%2=1)then 1 else 0)
theorem yY(N D i:Nat):Fq (N*2^i) (D*2^i)=Fq N D:=by
 have l:0<2^i:=Nat.two_pow_pos _;unfold Fq;rw[Nat.mul_div_mul_right _ _ l,Nat.mul_mod_mul_right];have t:(D*2^i<2*(N%D*2^i))↔D<2*(N%D):=by
  rw[<-Nat.mul_assoc];exact Nat.mul_lt_mul_right l
 have F:(D*2^i=2*(N%D*2^i))↔D=2*(N%D):=by
  rw[<-Nat.mul_assoc];exact⟨fun h=>Nat.eq_of_mul_eq_mul_right l h,fun h=>by rw[<-h]⟩
 simp only[t,F]
theorem A4(N d k:Nat)(J:0<d)(U:1<=k):io (dC N d) (k+1)=Fq N (d*2^k):=by
 obtain⟨j,rfl⟩:∃j,k=j+1:=⟨k-1,by omega⟩;have Z:=Nat.div_add_mod N d;have hr:=Nat.mod_lt N J;have hg:0<2^j:=Nat.two_pow_pos _;have F:(2:Nat)^(j+1)=2*2^j:=by rw[Nat.pow_succ,Nat.mul_comm]
 have K:(2:Nat)^(j+1+1)=2*(2*2^j):=by rw[Nat.pow_succ,F,Nat.mul_comm]
 have ht:(if N%d=0 then 0 else 1)<=1:=by split<;>omega
 have l:(if N%d=0 then 0 else 1)=0↔N%d=0:=by split<;>simp_all
 unfold io Fq dC;rw[K,F];generalize (2:Nat)^j=g at*;generalize (if N%d=0 then 0 else 1)=t at*;have G:=Nat.div_add_mod (N/d) (2*g);have ha:=Nat.mod_lt (N/d) (show 0<2*g by omega);have L:N/(d*(2*g))=N/d/(2*g):=(Nat.div_div_eq_div_mul N d (2*g)).symm;have M:N%(d*(2*g))=d*(N/d%(2*g))+N%d:=by
  rw[Nat.mod_mul];omega
 rw[L,M];generalize N%d=r at*;generalize N/d=q at*;generalize hA:q%(2*g)=a at*;generalize hQ:q/(2*g)=b at*;have O:(2*q+t)/(2*(2*g))=b:=by
  rw[<-G,Nat.mul_add,<-Nat.mul_assoc 2 (2*g) b,Nat.add_assoc];rw[Nat.mul_add_div (by omega),Nat.div_eq_of_lt (by omega),Nat.add_zero]
 have Q:(2*q+t)%(2*(2*g))=2*a+t:=by
  rw[<-G,Nat.mul_add,<-Nat.mul_assoc 2 (2*g) b,Nat.add_assoc,Nat.mul_add_mod,Nat.mod_eq_of_lt (by omega)]
 rw[O,Q]
 congr 1
 --where a stands beside half
 rcases Nat.lt_trichotomy a g with h|h|h
 ·have:d*a+d<=d*g:=by rw[<-Nat.mul_succ];exact Nat.mul_le_mul_left d h
  have D:d*(2*g)=2*(d*g):=by rw[Nat.mul_left_comm]
  rw[D];rw[if_neg (by omega),if_neg (by omega)]
 ·subst h
  have D:d*(2*a)=2*(d*a):=by rw[Nat.mul_left_comm]
  rw[D]
  by_cases H:r=0
  ·have:=l.2 H
   by_cases I:b%2=1
   ·rw[if_pos (Or.inr ⟨by omega,I⟩),if_pos (Or.inr ⟨by omega,I⟩)]
   ·rw[if_neg (by omega),if_neg (by omega)]
  ·have:t≠0:=fun e=>H (l.1 e)
   rw[if_pos (Or.inl (by omega)),if_pos (Or.inl (by omega))]
 ·have:d*g+d<=d*a:=by rw[<-Nat.mul_succ];exact Nat.mul_le_mul_left d h
  have D:d*(2*g)=2*(d*g):=by rw[Nat.mul_left_comm]
  rw[D];rw[if_pos (Or.inl (by omega)),if_pos (Or.inl (by omega))]
theorem NE(N d i:Nat)(l:0<d)(U:0<N/d):bl (dC (N*2^i) d)=bl (dC N d)+i:=by
 have F:0<2^i:=Nat.two_pow_pos _;have G:dC N d≠0:=by unfold dC;omega
 obtain⟨b1,D,t⟩:=cC (dC N d) G;have Z:2<=dC N d:=by unfold dC;omega
 have H:2<=bl (dC N d):=by
  rcases Nat.lt_or_ge (bl (dC N d)) 2 with h|h
  ·have:bl (dC N d)=1:=by omega
   rw[this]at t;omega
  ·exact h
 obtain⟨c,Q⟩:∃c,bl (dC N d)=c+2:=⟨bl (dC N d)-2,by omega⟩;rw[Q]at D t⊢
 --of whole quotients:2^c<=N/d<2^(c+1)
 have I:2^(c+1)<=N/d*2:=by
  rw[show c+2-1=c+1 by omega,Nat.pow_succ]at D;unfold dC at D;rw[Nat.pow_succ];have J:(if N%d=0 then 0 else 1)<=1:=by split<;>omega
  omega
 have K:N/d<2^(c+1):=by
  rw[Nat.pow_succ]at t;unfold dC at t;omega
 have L:2^c<=N/d:=by rw[Nat.pow_succ]at I;omega
 have M:2^c*d<=N:=(Nat.le_div_iff_mul_le l).1 L;have O:N<2^(c+1)*d:=(Nat.div_lt_iff_lt_mul l).1 K;have m1:2^(c+i)<=N*2^i/d:=(Nat.le_div_iff_mul_le l).2 (by
  rw[Nat.pow_add,Nat.mul_right_comm];exact Nat.mul_le_mul_right _ M)
 have m2:N*2^i/d<2^(c+1+i):=(Nat.div_lt_iff_lt_mul l).2 (by
  rw[Nat.pow_add,Nat.mul_right_comm];exact(Nat.mul_lt_mul_right F).2 O)
 refine vL (by omega) ?_ ?_
 ·rw[show c+2+i-1=c+i+1 by omega,Nat.pow_succ]
  unfold dC;omega
 ·rw[show c+2+i=c+1+i+1 by omega,Nat.pow_succ]
  unfold dC;have J:(if N*2^i%d=0 then 0 else 1)<=1:=by split<;>omega
  omega
theorem JG{N d:Nat}(D:9007199254740992<=N/d):55<=bl (dC N d):=by
 have l:dC N d≠0:=by unfold dC;omega
 obtain⟨F,G,t⟩:=cC (dC N d) l;have h:2^54<=dC N d:=by
  have:(2:Nat)^54=2*9007199254740992:=by decide
  rw[this];unfold dC;omega
 have:=dE (Nat.lt_of_le_of_lt h t);omega
theorem rg(N d i:Nat)(E:Int)(t:0<d)(H:9007199254740992<=N/d):
  cU (dC (N*2^i) d) (E-i)=cU (dC N d) E/\aP (dC (N*2^i) d) (E-i)=aP (dC N d) E/\(bl (dC (N*2^i) d):Int)+(E-i)=(bl (dC N d):Int)+E/\E+2<=aP (dC N d) E:=by
 have D:=NE N d i t (by omega);have I:=JG H;have J:dC N d≠0:=by unfold dC;omega
 have F:dC (N*2^i) d≠0:=fun h=>by
  rw[h]at D;have:bl 0=0:=rfl;omega
 have G:aP (dC (N*2^i) d) (E-i)=aP (dC N d) E:=by unfold aP;rw[D];omega
 have l:(bl (dC (N*2^i) d):Int)+(E-i)=(bl (dC N d):Int)+E:=by rw[D];omega
 have K:E+2<=aP (dC N d) E:=by have:=(dk (dC N d) E).2.1;omega
 refine⟨?_,G,l,K⟩;have L:gO (dC (N*2^i) d) (E-i)=gO (dC N d) E:=by
  unfold gO;rw[G];obtain⟨k,M⟩:∃k:Nat,aP (dC N d) E=E+k+1/\1<=k:=⟨(aP (dC N d) E-E-1).toNat,by omega,by omega⟩;rw[show E-i-aP (dC N d) E= -((k+i+1:Nat):Int) by omega,show E-aP (dC N d) E= -((k+1:Nat):Int) by omega];rw[gi _ _ (by omega),gi _ _ (by omega),A4 _ _ _ t (by omega),A4 _ _ _ t (by omega)];rw[Nat.pow_add,<-Nat.mul_assoc];exact yY _ _ _
 unfold cU;rw[if_neg J,if_neg F,l,L,G]
theorem wC(N d i:Nat)(E:Int)(hd:d%2=1)(K:9007199254740992<=N/d):
  cD (oM (dC (N*2^i) d:Nat)).natAbs (oE (dC (N*2^i) d:Nat) (E-i))=cD (oM (dC N d:Nat)).natAbs (oE (dC N d:Nat) E):=by
 have l:0<d:=by omega
 obtain⟨s1,s2,s3,s4⟩:=rg N d i E l K
 by_cases t:N%d=0
 ·have L:N=N/d*d:=by have:=Nat.div_add_mod N d;rw[t,Nat.add_zero,Nat.mul_comm]at this;exact this.symm
  have F:N*2^i%d=0:=by rw[Nat.mul_mod,t];simp
  have M:N*2^i/d=N/d*2^i:=by
   conv=>lhs;rw[L,Nat.mul_right_comm]
   exact Nat.mul_div_cancel _ l
  have e:dC (N*2^i) d=dC N d*2^i:=by
   unfold dC;rw[if_pos t,if_pos F,M];rw[Nat.add_zero,Nat.add_zero,Nat.mul_assoc]
  have O:((dC (N*2^i) d:Nat):Int)=((dC N d:Nat):Int)*2^i:=by rw[e,Int.natCast_mul,Int.natCast_pow];rfl
  have:=iy ((dC N d:Nat):Int) i (E-i);rw[O,this.1,this.2,show E-(i:Int)+i=E by omega]
 ·have F:N*2^i%d≠0:=fun h=>t (by
   have G:d∣N*2^i:=Nat.dvd_of_mod_eq_zero h;have Q:Nat.Coprime d (2^i):=by
    apply Nat.Coprime.pow_right
    unfold Nat.Coprime;have H:Nat.gcd d 2∣2:=Nat.gcd_dvd_right d 2;have U:Nat.gcd d 2∣d:=Nat.gcd_dvd_left d 2;have h6:Nat.gcd d 2<=2:=Nat.le_of_dvd (by decide) H;have h7:Nat.gcd d 2≠0:=fun e=>by rw[e]at H;exact absurd (Nat.eq_zero_of_zero_dvd H) (by decide)
    have h8:Nat.gcd d 2≠2:=fun e=>by rw[e]at U;omega
    omega
   exact Nat.mod_eq_zero_of_dvd (Q.dvd_of_dvd_mul_right G))
  have I:((dC N d:Nat):Int)%2=1:=by unfold dC;rw[if_neg t];omega
  have J:((dC (N*2^i) d:Nat):Int)%2=1:=by unfold dC;rw[if_neg F];omega
  have z1:∀(v:Nat) (e:Int),(v:Int)%2=1->oM (v:Int)=v/\oE (v:Int) e=e:=fun v e h=>by
   have D:(v:Int)≠0:=by omega
   have a:=(gN (v:Int) D).unique (m':=(v:Int)) (k':=0) ⟨by simp,h⟩;exact⟨a.1,by rw[dc _ _ D,a.2];simp⟩
  rw[(z1 _ (E-i) J).1,(z1 _ (E-i) J).2,(z1 _ E I).1,(z1 _ E I).2,Int.natAbs_natCast,Int.natAbs_natCast];have Z:dC N d≠0:=by omega
  have n2:dC (N*2^i) d≠0:=by omega
  unfold cD;rw[if_neg Z,if_neg n2,s3,s2,s1,if_neg (show¬aP (dC N d) E<=E-i by omega),if_neg (show¬aP (dC N d) E<=E by omega)]
theorem JH(n d p q:Nat)(c:Int)(l:0<d)(D:9007199254740992<=n*2^p/d)(F:9007199254740992<=n*2^q/d):
  cU (dC (n*2^p) d) (c-p)=cU (dC (n*2^q) d) (c-q):=by
 have t:=(rg (n*2^p) d q (c-p) l D).1;have h:=(rg (n*2^q) d p (c-q) l F).1;rw[Nat.mul_assoc,<-Nat.pow_add]at t h;rw[Nat.add_comm q p,show c-(q:Int)-p=c-p-q by omega]at h;rw[<-t,<-h]
theorem uC(n d p q:Nat)(c:Int)(l:d%2=1)(D:9007199254740992<=n*2^p/d)(F:9007199254740992<=n*2^q/d):
  cD (oM (dC (n*2^p) d:Nat)).natAbs (oE (dC (n*2^p) d:Nat) (c-p))=cD (oM (dC (n*2^q) d:Nat)).natAbs (oE (dC (n*2^q) d:Nat) (c-q)):=by
 have t:=wC (n*2^p) d q (c-p) l D;have h:=wC (n*2^q) d p (c-q) l F;rw[Nat.mul_assoc,<-Nat.pow_add]at t h;rw[Nat.add_comm q p,show c-(q:Int)-p=c-p-q by omega]at h;rw[<-t,<-h]
theorem Fr(N d c:Nat):dC (N*2^c) (d*2^c)=dC N d:=by
 have l:0<2^c:=Nat.two_pow_pos _;unfold dC;rw[Nat.mul_div_mul_right _ _ l,Nat.mul_mod_mul_right];have:N%d*2^c=0↔N%d=0:=by
  constructor
  ·intro h;rcases Nat.mul_eq_zero.1 h with h|h<;>omega
  ·intro h;rw[h,Nat.zero_mul]
 simp only[this]
open Go.RowKit
theorem oQ(r:Nat):rv r=0↔r=0:=by
 constructor
 ·intro h
  rcases Nat.eq_zero_or_pos r with e|e
  ·exact e
  ·have:=Ms e;rw[gp]at this;omega
 ·intro h;rw[h,gp]
theorem dY(b:Nat):fK b=0↔fR b=0:=by
 have h:=kL b;have hF:fF b=fR b%4503599627370496:=by unfold fF fR;omega
 have l:fP b=fR b/4503599627370496:=rfl;unfold fK;rw[hF,l];generalize fR b=r at*
 split
 ·split<;>constructor<;>intro _<;>omega
 ·split
  ·split<;>constructor<;>intro _<;>omega
  ·constructor<;>intro _<;>omega
def mV(a b:Nat):Nat:=
 if fK a=4\/fK b=4 then 9221120237041090560
 else if fK a=3\/fK b=3 then(if fK a=0\/fK b=0 then 9221120237041090560 else iJ (fS a^^fS b) 9218868437227405312)
 else iJ (fS a^^fS b) (cU (rv (fR a)*rv (fR b)) (-2148))
def mF(a b:Nat):Int:=
 if fK a=4\/fK b=4 then 0
 else if fK a=3\/fK b=3 then(if fK a=0\/fK b=0 then 16 else 0)
 else if fK a=0\/fK b=0 then 0
 else cD (oM (fZ a*fZ b)).natAbs (oE (fZ a*fZ b) (-2148))
theorem iQ(a b:Nat):mV a b<18446744073709551616:=by
 have h:=ej (rv (fR a)*rv (fR b)) (-2148);unfold mV
 split
 ·omega
 ·split
  ·split
   ·omega
   ·exact mN _ _ (by omega)
  ·exact mN _ _ (by omega)
theorem p9(b:Nat)(D:b<18446744073709551616)(F:ah b=true)(G:fK b≠0):
  ∃β:Nat,fX b= -1074+(β:Int)/\rv (fR b)=(fD b).natAbs*2^β/\(fD b).natAbs%2=1/\(fD b).natAbs<9007199254740992:=by
 obtain⟨l,J⟩:=d7 b D F;have H:fR b≠0:=fun e=>G ((dY b).2 e)
 have h:fZ b≠0:=fun e=>H ((oQ _).1 (by rw[<-ie,e];rfl))
 have t:=Fn (fZ b) h;have I:=dc (fZ b) (-1074) h;refine⟨tz (fZ b).natAbs,by rw[<-J,I],by rw[<-ie,t,l];congr 2;rw[<-l,<-t],?_,?_⟩
 ·have:=(g6 (fZ b) h).2
  rw[l]at this;omega
 ·have:(oM (fM b)).natAbs<=(fM b).natAbs:=tO _
  have K:=wi b;show(oM (fM b)).natAbs<_;omega
def qS(a b:Nat):Nat:=dC ((fD a).natAbs*2^180) (fD b).natAbs
def qV(a b:Nat):Nat:=cU (qS a b) (fX a-fX b-181)
def qF(a b:Nat):Int:=cD (oM (qS a b:Nat)).natAbs (oE (qS a b:Nat) (fX a-fX b-181))
def dV(a b:Nat):Nat:=
 if fK a=4\/fK b=4 then 9221120237041090560
 else if fK a=fK b/\(fK a=3\/fK a=0)then 9221120237041090560
 else if fK a=3 then iJ (fS a^^fS b) 9218868437227405312
 else if fK b=3\/fK a=0 then iJ (fS a^^fS b) 0
 else if fK b=0 then iJ (fS a^^fS b) 9218868437227405312
 else iJ (fS a^^fS b) (qV a b)
def dF(a b:Nat):Int:=
 if fK a=4\/fK b=4 then 0
 else if fK a=fK b/\(fK a=3\/fK a=0)then 16
 else if fK a=3 then 0
 else if fK b=3\/fK a=0 then 0
 else if fK b=0 then 8
 else qF a b
theorem wD(a b:Nat):dV a b<18446744073709551616:=by
 have h:qV a b<=9218868437227405312:=ej _ _;have l:=mN (fS a^^fS b) 9218868437227405312 (by decide);have t:=mN (fS a^^fS b) 0 (by decide);have D:=mN (fS a^^fS b) (qV a b) (by omega);unfold dV
 repeat' split
 all_goals omega
theorem JI(o d:Nat)(l:1<=o)(G:d<9007199254740992)(h:0<d):9007199254740992<=o*2^180/d:=by
 rw[Nat.le_div_iff_mul_le h];have t:9007199254740992*d<=9007199254740992*9007199254740992:=Nat.mul_le_mul_left _ (by omega);have D:9007199254740992*9007199254740992<=1*2^180:=by decide+kernel
 have F:1*2^180<=o*2^180:=Nat.mul_le_mul_right _ l;exact Nat.le_trans t (Nat.le_trans D F)
theorem PI(b:Nat)(l:ah b=true):cU (fD b).natAbs (fX b)=fR b:=by
 have t:=Fm b l;have h:=lM (fM b) (fE b);rw[Nw]at h;exact h.1.trans t.1
theorem NF(b:Nat)(t:b<18446744073709551616)(l:ah b=true):cU (rv (fR b)) (-1074)=fR b:=by
 obtain⟨D,F⟩:=d7 b t l;have h:=(lM (fZ b) (-1074)).1;rw[D,F,ie,PI b l]at h;exact h.symm
theorem nL(a:Nat)(h:ah a=true)(l:fK a≠0):fK a≠3/\fK a≠4/\fK a≠0:=⟨(cI h).1,(cI h).2,l⟩
theorem rh(a b:Nat)(l:ah a=true)(t:ah b=true)(D:fK a≠0)(h:fK b≠0):dV a b=iJ (fS a^^fS b) (qV a b)/\dF a b=qF a b:=by
 obtain⟨I,J,_⟩:=nL a l D;obtain⟨K,L,_⟩:=nL b t h;have F:¬(fK a=4\/fK b=4):=by omega
 have G:¬(fK a=fK b/\(fK a=3\/fK a=0)):=by omega
 have H:¬(fK b=3\/fK a=0):=by omega
 unfold dV dF;simp only[if_neg F,if_neg G,if_neg I,if_neg H,if_neg h,and_self]
theorem Fs(a b:Nat)(h:ah a=true)(l:ah b=true)(t:fK a≠0)(D:fK b≠0):mV a b=iJ (fS a^^fS b) (cU (rv (fR a)*rv (fR b)) (-2148))/\mF a b=cD (oM (fZ a*fZ b)).natAbs (oE (fZ a*fZ b) (-2148)):=by
 obtain⟨I,J,_⟩:=nL a h t;obtain⟨K,L,_⟩:=nL b l D;have F:¬(fK a=4\/fK b=4):=by omega
 have G:¬(fK a=3\/fK b=3):=by omega
 have H:¬(fK a=0\/fK b=0):=by omega
 unfold mV mF;simp only[if_neg F,if_neg G,if_neg H,and_self]
theorem ri{v:Nat}{E:Int}(l:v≠0)(h:1024<(bl v:Int)+E):cU v E=9218868437227405312/\cD v E=5:=by
 unfold cD cU;rw[if_neg l,if_pos h,if_neg l,if_pos h];exact⟨rfl,rfl⟩
theorem yZ{v k:Nat}(h:2*v<2^k):io v k=0:=by
 unfold io;have l:v/2^k=0:=Nat.div_eq_of_lt (by omega);have t:v%2^k=v:=Nat.mod_eq_of_lt (by omega);rw[l,t,if_neg (by omega)]
theorem A5{v:Nat}{E:Int}(l:v≠0)(h:(bl v:Int)+E< -1074):cU v E=0/\cD v E=3:=by
 obtain⟨I,J,K⟩:=cC v l;have t:aP v E= -1074:=by unfold aP;omega
 obtain⟨j,H⟩:∃j:Nat,E- -1074= -((j:Nat):Int):=⟨(-1074-E).toNat,by omega⟩;have F:gO v E=0:=by
  unfold gO;rw[t,H,gi _ _ (by omega)];refine yZ ?_;have G:2^(bl v+1)<=2^j:=Nat.pow_le_pow_right (by decide) (by omega);rw[Nat.pow_succ]at G;omega
 have D:cU v E=0:=by
  rw[gj v E l (by omega),F,t];rfl
 refine⟨D,?_⟩;unfold cD;rw[if_neg l,if_neg (by omega),if_neg (by rw[t];omega),D,if_neg (by decide),if_pos (by decide)]
def gM(r:Nat):Nat:=4503599627370496+r%4503599627370496
theorem PJ(r:Nat)(h:4503599627370496<=r):rv r=gM r*2^(r/4503599627370496-1):=by
 have e:r=gM r+(r/4503599627370496-1)*4503599627370496:=by unfold gM;omega
 have:=tD (gM r) (r/4503599627370496-1) (by unfold gM;omega) (fun _=>by unfold gM;omega)
 rwa[<-e]at this
end Go.Proofs.YtcbcmlaogehimaaGreatDoor
