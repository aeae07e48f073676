/- Part 14 of the texts. -/
import Derived.Test.YtcbcmlaogehimaaGreatDoorPartt13
namespace Go.Proofs.YtcbcmlaogehimaaGreatDoor
open Go.RowKit
def fR(b:Nat):Nat:=b%9223372036854775808
def fZ(b:Nat):Int:=pv (fS b) (fR b)
theorem Hw(b:Nat)(h:b<18446744073709551616):gF (fS b) (fR b)=b:=by
 unfold fS fR
 by_cases c:9223372036854775808≤b
 ·rw[decide_eq_true c,eY];omega
 ·rw[decide_eq_false c,bN];omega
theorem jg(b:Nat):fR b<9223372036854775808:=by unfold fR;omega
theorem iY(b:Nat)(d:aj b=true):fR b<9218868437227405312:=by
 have h:=of_decide_eq_true d
 unfold fP at h
 unfold fR
 omega
theorem KZ(n:Bool)(s:Nat):sg n (rv s)=pv n s:=rfl
theorem dc(b:Nat)(h:b<18446744073709551616)(A:aj b=true):oM (fZ b)=fD b∧oE (fZ b) (-1074)=fX b:=by
 obtain⟨j,u,z⟩:=I4 (fS b) (fR b) (iY b A)
 rw[Hw b h]at u z
 have d:=gd (fM b) j (-1074)
 rw[z,KZ,←u]at d
 exact d
theorem BM:rv 9218868437227405312=2^2098:=by decide+kernel
theorem I5(n:Bool)(r:Nat):(pv n r).natAbs=rv r:=by unfold pv;split<;>omega
theorem fU(b:Nat):(fZ b).natAbs=rv (fR b):=I5 _ _
theorem e9(b:Nat)(d:aj b=true):(fZ b).natAbs<2^2098:=by
 rw[fU,←BM];exact Ht (iY b d)
def aZ(a b:Nat):Int:=fZ a+fZ b
def aV(a b:Nat):Nat:=
 if fK a=4∨fK b=4 then 9221120237041090560
 else if fK a=3 then(if fK b=3∧a≠b then 9221120237041090560 else a)
 else if fK b=3 then b
 else if aZ a b=0 then(if(fS a&&fS b)=true then 9223372036854775808 else 0)
 else gF (decide (aZ a b<0)) (cd (aZ a b).natAbs (-1074))
def aF(a b:Nat):Int:=
 if fK a=4∨fK b=4 then 0
 else if fK a=3 then(if fK b=3∧a≠b then 16 else 0)
 else if fK b=3 then 0
 else if aZ a b=0 then 0
 else bI (oM (aZ a b)).natAbs (oE (aZ a b) (-1074))
theorem Hx:(2:Nat)^2098+2^2098=2^2099:=by decide+kernel
theorem mp(b:Nat)(d:aj b=true):eL (-1074) 2099 (fZ b):=by
 have u:=e9 b d
 have h:=Hx
 have z:=Nat.two_pow_pos 2098
 generalize (2:Nat)^2098=P at*
 exact⟨by rw[←h];omega,by decide,by decide,by decide⟩
theorem I6(a b:Nat)(d:aj a=true)(h:aj b=true):eL (-1074) 2099 (fZ a+fZ b):=by
 have z:=e9 a d
 have A:=e9 b h
 have u:=Hx
 generalize (2:Nat)^2098=P at*
 exact⟨by rw[←u];omega,by decide,by decide,by decide⟩
theorem ko(n:Bool)(r:Nat)(h:r<9223372036854775808):gF n r<18446744073709551616:=by unfold gF;split<;>omega
theorem gY(a b:Nat)(d:a<18446744073709551616)(h:b<18446744073709551616):aV a b<18446744073709551616:=by
 unfold aV
 split
 ·omega
 ·split
  ·split<;>omega
  ·split
   ·omega
   ·split
    ·split<;>omega
    ·have:=dU (aZ a b).natAbs (-1074)
     exact ko _ _ (by omega)
theorem xL(a b:Nat)(d:fK a≠3)(z:fK a≠4)(u:fK b≠3)(A:fK b≠4):
  aV a b=(if aZ a b=0 then(if(fS a&&fS b)=true then 9223372036854775808 else 0)else gF (decide (aZ a b<0)) (cd (aZ a b).natAbs (-1074)))∧aF a b=(if aZ a b=0 then 0 else bI (oM (aZ a b)).natAbs (oE (aZ a b) (-1074))):=by
 have h:¬(fK a=4∨fK b=4):=by omega
 unfold aV aF
 simp only[if_neg h,if_neg d,if_neg u,and_self]
theorem tN(E:Int):cd 0 E=0:=by unfold cd;exact if_pos rfl
theorem cf(b:Nat):(fK b=4↔9218868437227405312<fR b)∧(fK b=3↔fR b=9218868437227405312)∧(aj b=true↔fR b<9218868437227405312):=by
 have h:=jg b
 have hF:fF b=fR b%4503599627370496:=by unfold fF fR;omega
 have d:fP b=fR b/4503599627370496:=rfl
 unfold fK aj
 rw[hF,d]
 generalize fR b=r at*
 refine⟨?_,?_,?_⟩
 ·split
  ·split<;>constructor<;>intro _<;>omega
  ·split
   ·split<;>constructor<;>intro _<;>omega
   ·constructor<;>intro _<;>omega
 ·split
  ·split<;>constructor<;>intro _<;>omega
  ·split
   ·split<;>constructor<;>intro _<;>omega
   ·constructor<;>intro _<;>omega
 ·rw[decide_eq_true_iff];omega
theorem et(b:Nat)(d:fK b≠3)(u:fK b≠4):aj b=true:=by
 rcases gI b with⟨_,h|h⟩|⟨h,_⟩
 ·exact absurd h d
 ·exact absurd h u
 ·exact h
theorem xM(b:Nat)(h:b<18446744073709551616):fN b=gF (!fS b) (fR b):=by
 unfold fN fS fR
 by_cases c:9223372036854775808≤b
 ·rw[if_pos c,decide_eq_true c];show _=gF false _;rw[bN];omega
 ·rw[if_neg c,decide_eq_false c];show _=gF true _;rw[eY];omega
theorem K9(b:Nat)(h:b<18446744073709551616):fS (fN b)= !fS b:=by rw[xM b h,ju _ _ (jg b)]
theorem Hy(b:Nat)(h:b<18446744073709551616):fR (fN b)=fR b:=by
 have:=jg b
 rw[xM b h]
 unfold fR at*
 cases (!fS b)
 ·rw[bN];omega
 ·rw[eY];omega
theorem iZ(n:Bool)(r:Nat)(h:r<9223372036854775808):fR (gF n r)=r:=(zF n r h).2
theorem BN(n:Bool)(r:Nat)(h:r<9223372036854775808):fZ (gF n r)=pv n r:=by
 unfold fZ;rw[ju n r h,iZ n r h]
theorem jO(b:Nat)(h:b<18446744073709551616):aj (fN b)=aj b:=by
 have e:=Hy b h
 unfold aj
 rw[show fP (fN b)=fP b from by show fR (fN b)/4503599627370496=fR b/4503599627370496;rw[e]]
theorem La(b:Nat)(h:b<18446744073709551616):fZ (fN b)= -fZ b:=by
 unfold fZ
 rw[K9 b h,Hy b h]
 unfold pv
 cases fS b<;>simp
theorem bS{b:Nat}(d:aj b=true):fK b≠3∧fK b≠4:=by
 rcases gI b with⟨h,_⟩|⟨_,h⟩
 ·rw[d]at h;cases h
 ·omega
theorem rk(a b:Nat)(u:aj a=true)(z:aj b=true):fR (aV a b)=cd (aZ a b).natAbs (-1074)∧fZ (aV a b)=zG (aZ a b) (-1074):=by
 obtain⟨D,F⟩:=bS u
 obtain⟨G,H⟩:=bS z
 rw[(xL a b D F G H).1]
 by_cases d:aZ a b=0
 ·rw[if_pos d,d]
  have e:(if(fS a&&fS b)=true then 9223372036854775808 else 0)=gF (fS a&&fS b) 0:=by unfold gF;split<;>rfl
  have h:cd (0:Int).natAbs (-1074)=0:=tN _
  rw[e,iZ _ _ (by decide),BN _ _ (by decide),h]
  refine⟨rfl,?_⟩
  unfold zG pv
  rw[h,dK]
  split<;>simp
 ·rw[if_neg d]
  have A:=dU (aZ a b).natAbs (-1074)
  rw[iZ _ _ (by omega),BN _ _ (by omega)]
  exact⟨rfl,rfl⟩
end Go.Proofs.YtcbcmlaogehimaaGreatDoor
namespace Go.Proofs.YtcbcmlaogehimaaGreatDoor
def cJ(N d:Nat):Nat:=2*(N/d)+(if N%d=0 then 0 else 1)
def BO(N D:Nat):Nat:=N/D+(if D<2*(N%D)∨(D=2*(N%D)∧N/D%2=1)then 1 else 0)
theorem vS(N D i:Nat):BO (N*2^i) (D*2^i)=BO N D:=by
 have d:0<2^i:=Nat.two_pow_pos _
 unfold BO
 rw[Nat.mul_div_mul_right _ _ d,Nat.mul_mod_mul_right]
 have u:(D*2^i<2*(N%D*2^i))↔D<2*(N%D):=by
  rw[←Nat.mul_assoc];exact Nat.mul_lt_mul_right d
 have z:(D*2^i=2*(N%D*2^i))↔D=2*(N%D):=by
  rw[←Nat.mul_assoc];exact⟨fun h=>Nat.eq_of_mul_eq_mul_right d h,fun h=>by rw[←h]⟩
 simp only[u,z]
theorem xN(N d k:Nat)(H:0<d)(Q:1≤k):dw (cJ N d) (k+1)=BO N (d*2^k):=by
 obtain⟨j,rfl⟩:∃j,k=j+1:=⟨k-1,by omega⟩
 have U:=Nat.div_add_mod N d
 have X:=Nat.mod_lt N H
 have Y:0<2^j:=Nat.two_pow_pos _
 have A:(2:Nat)^(j+1)=2*2^j:=by rw[Nat.pow_succ,Nat.mul_comm]
 have I:(2:Nat)^(j+1+1)=2*(2*2^j):=by rw[Nat.pow_succ,A,Nat.mul_comm]
 have Z:(if N%d=0 then 0 else 1)≤1:=by split<;>omega
 have u:(if N%d=0 then 0 else 1)=0↔N%d=0:=by split<;>simp_all
 unfold dw BO cJ
 rw[I,A]
 generalize (2:Nat)^j=g at*
 generalize (if N%d=0 then 0 else 1)=t at*
 have D:=Nat.div_add_mod (N/d) (2*g)
 have ha:=Nat.mod_lt (N/d) (show 0<2*g by omega)
 have J:N/(d*(2*g))=N/d/(2*g):=(Nat.div_div_eq_div_mul N d (2*g)).symm
 have K:N%(d*(2*g))=d*(N/d%(2*g))+N%d:=by
  rw[Nat.mod_mul];omega
 rw[J,K]
 generalize N%d=r at*
 generalize N/d=q at*
 generalize hA:q%(2*g)=a at*
 generalize hQ:q/(2*g)=b at*
 have L:(2*q+t)/(2*(2*g))=b:=by
  rw[←D,Nat.mul_add,←Nat.mul_assoc 2 (2*g) b,Nat.add_assoc]
  rw[Nat.mul_add_div (by omega),Nat.div_eq_of_lt (by omega),Nat.add_zero]
 have O:(2*q+t)%(2*(2*g))=2*a+t:=by
  rw[←D,Nat.mul_add,←Nat.mul_assoc 2 (2*g) b,Nat.add_assoc,Nat.mul_add_mod,Nat.mod_eq_of_lt (by omega)]
 rw[L,O]
 congr 1
 --where a stands beside half
 rcases Nat.lt_trichotomy a g with h|h|h
 ·have:d*a+d≤d*g:=by rw[←Nat.mul_succ];exact Nat.mul_le_mul_left d h
  have z:d*(2*g)=2*(d*g):=by rw[Nat.mul_left_comm]
  rw[z]
  rw[if_neg (by omega),if_neg (by omega)]
 ·subst h
  have z:d*(2*a)=2*(d*a):=by rw[Nat.mul_left_comm]
  rw[z]
  by_cases F:r=0
  ·have:=u.2 F
   by_cases G:b%2=1
   ·rw[if_pos (Or.inr ⟨by omega,G⟩),if_pos (Or.inr ⟨by omega,G⟩)]
   ·rw[if_neg (by omega),if_neg (by omega)]
  ·have:t≠0:=fun e=>F (u.1 e)
   rw[if_pos (Or.inl (by omega)),if_pos (Or.inl (by omega))]
 ·have:d*g+d≤d*a:=by rw[←Nat.mul_succ];exact Nat.mul_le_mul_left d h
  have z:d*(2*g)=2*(d*g):=by rw[Nat.mul_left_comm]
  rw[z]
  rw[if_pos (Or.inl (by omega)),if_pos (Or.inl (by omega))]
theorem I7(N d i:Nat)(u:0<d)(U:0<N/d):bl (cJ (N*2^i) d)=bl (cJ N d)+i:=by
 have D:0<2^i:=Nat.two_pow_pos _
 have F:cJ N d≠0:=by unfold cJ;omega
 obtain⟨b1,A,z⟩:=bG (cJ N d) F
 have X:2≤cJ N d:=by unfold cJ;omega
 have G:2≤bl (cJ N d):=by
  rcases Nat.lt_or_ge (bl (cJ N d)) 2 with h|h
  ·have:bl (cJ N d)=1:=by omega
   rw[this]at z;omega
  ·exact h
 obtain⟨c,Q⟩:∃c,bl (cJ N d)=c+2:=⟨bl (cJ N d)-2,by omega⟩
 rw[Q]at A z⊢
 --of whole quotients:2^c≤N/d<2^(c+1)
 have H:2^(c+1)≤N/d*2:=by
  rw[show c+2-1=c+1 by omega,Nat.pow_succ]at A
  unfold cJ at A
  rw[Nat.pow_succ]
  have I:(if N%d=0 then 0 else 1)≤1:=by split<;>omega
  omega
 have J:N/d<2^(c+1):=by
  rw[Nat.pow_succ]at z
  unfold cJ at z
  omega
 have K:2^c≤N/d:=by rw[Nat.pow_succ]at H;omega
 have L:2^c*d≤N:=(Nat.le_div_iff_mul_le u).1 K
 have O:N<2^(c+1)*d:=(Nat.div_lt_iff_lt_mul u).1 J
 have Y:2^(c+i)≤N*2^i/d:=(Nat.le_div_iff_mul_le u).2 (by
  rw[Nat.pow_add,Nat.mul_right_comm];exact Nat.mul_le_mul_right _ L)
 have Z:N*2^i/d<2^(c+1+i):=(Nat.div_lt_iff_lt_mul u).2 (by
  rw[Nat.pow_add,Nat.mul_right_comm];exact(Nat.mul_lt_mul_right D).2 O)
 refine mL (by omega) ?_ ?_
 ·rw[show c+2+i-1=c+i+1 by omega,Nat.pow_succ]
  unfold cJ
  omega
 ·rw[show c+2+i=c+1+i+1 by omega,Nat.pow_succ]
  unfold cJ
  have I:(if N*2^i%d=0 then 0 else 1)≤1:=by split<;>omega
  omega
theorem FG{N d:Nat}(A:9007199254740992≤N/d):55≤bl (cJ N d):=by
 have u:cJ N d≠0:=by unfold cJ;omega
 obtain⟨D,F,z⟩:=bG (cJ N d) u
 have h:2^54≤cJ N d:=by
  have:(2:Nat)^54=2*9007199254740992:=by decide
  rw[this];unfold cJ;omega
 have:=cK (Nat.lt_of_le_of_lt h z)
 omega
theorem oK(N d i:Nat)(E:Int)(z:0<d)(G:9007199254740992≤N/d):
  cd (cJ (N*2^i) d) (E-i)=cd (cJ N d) E∧aD (cJ (N*2^i) d) (E-i)=aD (cJ N d) E∧(bl (cJ (N*2^i) d):Int)+(E-i)=(bl (cJ N d):Int)+E∧E+2≤aD (cJ N d) E:=by
 have A:=I7 N d i z (by omega)
 have H:=FG G
 have I:cJ N d≠0:=by unfold cJ;omega
 have D:cJ (N*2^i) d≠0:=fun h=>by
  rw[h]at A
  have:bl 0=0:=rfl
  omega
 have F:aD (cJ (N*2^i) d) (E-i)=aD (cJ N d) E:=by unfold aD;rw[A];omega
 have u:(bl (cJ (N*2^i) d):Int)+(E-i)=(bl (cJ N d):Int)+E:=by rw[A];omega
 have J:E+2≤aD (cJ N d) E:=by have:=(cC (cJ N d) E).2.1;omega
 refine⟨?_,F,u,J⟩
 have K:d8 (cJ (N*2^i) d) (E-i)=d8 (cJ N d) E:=by
  unfold d8
  rw[F]
  obtain⟨k,L⟩:∃k:Nat,aD (cJ N d) E=E+k+1∧1≤k:=⟨(aD (cJ N d) E-E-1).toNat,by omega,by omega⟩
  rw[show E-i-aD (cJ N d) E= -((k+i+1:Nat):Int) by omega,show E-aD (cJ N d) E= -((k+1:Nat):Int) by omega]
  rw[dl _ _ (by omega),dl _ _ (by omega),xN _ _ _ z (by omega),xN _ _ _ z (by omega)]
  rw[Nat.pow_add,←Nat.mul_assoc]
  exact vS _ _ _
 unfold cd
 rw[if_neg I,if_neg D,u,K,F]
theorem tO(N d i:Nat)(E:Int)(hd:d%2=1)(J:9007199254740992≤N/d):
  bI (oM (cJ (N*2^i) d:Nat)).natAbs (oE (cJ (N*2^i) d:Nat) (E-i))=bI (oM (cJ N d:Nat)).natAbs (oE (cJ N d:Nat) E):=by
 have u:0<d:=by omega
 obtain⟨Z,s2,s3,s4⟩:=oK N d i E u J
 by_cases z:N%d=0
 ·have K:N=N/d*d:=by have:=Nat.div_add_mod N d;rw[z,Nat.add_zero,Nat.mul_comm]at this;exact this.symm
  have D:N*2^i%d=0:=by rw[Nat.mul_mod,z];simp
  have L:N*2^i/d=N/d*2^i:=by
   conv=>lhs;rw[K,Nat.mul_right_comm]
   exact Nat.mul_div_cancel _ u
  have e:cJ (N*2^i) d=cJ N d*2^i:=by
   unfold cJ;rw[if_pos z,if_pos D,L];rw[Nat.add_zero,Nat.add_zero,Nat.mul_assoc]
  have O:((cJ (N*2^i) d:Nat):Int)=((cJ N d:Nat):Int)*2^i:=by rw[e,Int.natCast_mul,Int.natCast_pow];rfl
  have:=gd ((cJ N d:Nat):Int) i (E-i)
  rw[O,this.1,this.2,show E-(i:Int)+i=E by omega]
 ·have D:N*2^i%d≠0:=fun h=>z (by
   have F:d∣N*2^i:=Nat.dvd_of_mod_eq_zero h
   have Q:Nat.Coprime d (2^i):=by
    apply Nat.Coprime.pow_right
    unfold Nat.Coprime
    have G:Nat.gcd d 2∣2:=Nat.gcd_dvd_right d 2
    have U:Nat.gcd d 2∣d:=Nat.gcd_dvd_left d 2
    have h6:Nat.gcd d 2≤2:=Nat.le_of_dvd (by decide) G
    have h7:Nat.gcd d 2≠0:=fun e=>by rw[e]at G;exact absurd (Nat.eq_zero_of_zero_dvd G) (by decide)
    have h8:Nat.gcd d 2≠2:=fun e=>by rw[e]at U;omega
    omega
   exact Nat.mod_eq_zero_of_dvd (Q.dvd_of_dvd_mul_right F))
  have H:((cJ N d:Nat):Int)%2=1:=by unfold cJ;rw[if_neg z];omega
  have I:((cJ (N*2^i) d:Nat):Int)%2=1:=by unfold cJ;rw[if_neg D];omega
  have z1:∀(v:Nat) (e:Int),(v:Int)%2=1→oM (v:Int)=v∧oE (v:Int) e=e:=fun v e h=>by
   have A:(v:Int)≠0:=by omega
   have a:=(eQ (v:Int) A).unique (m':=(v:Int)) (k':=0) ⟨by simp,h⟩
   exact⟨a.1,by rw[cu _ _ A,a.2];simp⟩
  rw[(z1 _ (E-i) I).1,(z1 _ (E-i) I).2,(z1 _ E H).1,(z1 _ E H).2,Int.natAbs_natCast,Int.natAbs_natCast]
  have X:cJ N d≠0:=by omega
  have Y:cJ (N*2^i) d≠0:=by omega
  unfold bI
  rw[if_neg X,if_neg Y,s3,s2,Z,if_neg (show¬aD (cJ N d) E≤E-i by omega),if_neg (show¬aD (cJ N d) E≤E by omega)]
theorem FH(n d p q:Nat)(c:Int)(u:0<d)(A:9007199254740992≤n*2^p/d)(D:9007199254740992≤n*2^q/d):
  cd (cJ (n*2^p) d) (c-p)=cd (cJ (n*2^q) d) (c-q):=by
 have z:=(oK (n*2^p) d q (c-p) u A).1
 have h:=(oK (n*2^q) d p (c-q) u D).1
 rw[Nat.mul_assoc,←Nat.pow_add]at z h
 rw[Nat.add_comm q p,show c-(q:Int)-p=c-p-q by omega]at h
 rw[←z,←h]
theorem rl(n d p q:Nat)(c:Int)(u:d%2=1)(A:9007199254740992≤n*2^p/d)(D:9007199254740992≤n*2^q/d):
  bI (oM (cJ (n*2^p) d:Nat)).natAbs (oE (cJ (n*2^p) d:Nat) (c-p))=bI (oM (cJ (n*2^q) d:Nat)).natAbs (oE (cJ (n*2^q) d:Nat) (c-q)):=by
 have z:=tO (n*2^p) d q (c-p) u A
 have h:=tO (n*2^q) d p (c-q) u D
 rw[Nat.mul_assoc,←Nat.pow_add]at z h
 rw[Nat.add_comm q p,show c-(q:Int)-p=c-p-q by omega]at h
 rw[←z,←h]
theorem BQ(N d c:Nat):cJ (N*2^c) (d*2^c)=cJ N d:=by
 have u:0<2^c:=Nat.two_pow_pos _
 unfold cJ
 rw[Nat.mul_div_mul_right _ _ u,Nat.mul_mod_mul_right]
 have:N%d*2^c=0↔N%d=0:=by
  constructor
  ·intro h;rcases Nat.mul_eq_zero.1 h with h|h<;>omega
  ·intro h;rw[h,Nat.zero_mul]
 simp only[this]
open Go.RowKit
theorem mq(r:Nat):rv r=0↔r=0:=by
 constructor
 ·intro h
  rcases Nat.eq_zero_or_pos r with e|e
  ·exact e
  ·have:=Ht e;rw[dK]at this;omega
 ·intro h;rw[h,dK]
theorem cr(b:Nat):fK b=0↔fR b=0:=by
 have h:=jg b
 have hF:fF b=fR b%4503599627370496:=by unfold fF fR;omega
 have d:fP b=fR b/4503599627370496:=rfl
 unfold fK
 rw[hF,d]
 generalize fR b=r at*
 split
 ·split<;>constructor<;>intro _<;>omega
 ·split
  ·split<;>constructor<;>intro _<;>omega
  ·constructor<;>intro _<;>omega
def mV(a b:Nat):Nat:=
 if fK a=4∨fK b=4 then 9221120237041090560
 else if fK a=3∨fK b=3 then(if fK a=0∨fK b=0 then 9221120237041090560 else gF (fS a^^fS b) 9218868437227405312)
 else gF (fS a^^fS b) (cd (rv (fR a)*rv (fR b)) (-2148))
def mF(a b:Nat):Int:=
 if fK a=4∨fK b=4 then 0
 else if fK a=3∨fK b=3 then(if fK a=0∨fK b=0 then 16 else 0)
 else if fK a=0∨fK b=0 then 0
 else bI (oM (fZ a*fZ b)).natAbs (oE (fZ a*fZ b) (-2148))
theorem de(a b:Nat):mV a b<18446744073709551616:=by
 have h:=dU (rv (fR a)*rv (fR b)) (-2148)
 unfold mV
 split
 ·omega
 ·split
  ·split
   ·omega
   ·exact ko _ _ (by omega)
  ·exact ko _ _ (by omega)
theorem nB(b:Nat)(z:b<18446744073709551616)(A:aj b=true)(D:fK b≠0):
  ∃β:Nat,fX b= -1074+(β:Int)∧rv (fR b)=(fD b).natAbs*2^β∧(fD b).natAbs%2=1∧(fD b).natAbs<9007199254740992:=by
 obtain⟨h,H⟩:=dc b z A
 have F:fR b≠0:=fun e=>D ((cr b).2 e)
 have d:fZ b≠0:=fun e=>F ((mq _).1 (by rw[←fU,e];rfl))
 have u:=BL (fZ b) d
 have G:=cu (fZ b) (-1074) d
 refine⟨tz (fZ b).natAbs,by rw[←H,G],by rw[←fU,u,h];congr 2;rw[←h,←u],?_,?_⟩
 ·have:=(fw (fZ b) d).2
  rw[h]at this
  omega
 ·have:(oM (fM b)).natAbs≤(fM b).natAbs:=qt _
  have I:=tu b
  show(oM (fM b)).natAbs<_
  omega
def qS(a b:Nat):Nat:=cJ ((fD a).natAbs*2^180) (fD b).natAbs
def qV(a b:Nat):Nat:=cd (qS a b) (fX a-fX b-181)
def qF(a b:Nat):Int:=bI (oM (qS a b:Nat)).natAbs (oE (qS a b:Nat) (fX a-fX b-181))
def dV(a b:Nat):Nat:=
 if fK a=4∨fK b=4 then 9221120237041090560
 else if fK a=fK b∧(fK a=3∨fK a=0)then 9221120237041090560
 else if fK a=3 then gF (fS a^^fS b) 9218868437227405312
 else if fK b=3∨fK a=0 then gF (fS a^^fS b) 0
 else if fK b=0 then gF (fS a^^fS b) 9218868437227405312
 else gF (fS a^^fS b) (qV a b)
def dF(a b:Nat):Int:=
 if fK a=4∨fK b=4 then 0
 else if fK a=fK b∧(fK a=3∨fK a=0)then 16
 else if fK a=3 then 0
 else if fK b=3∨fK a=0 then 0
 else if fK b=0 then 8
 else qF a b
theorem xO(a b:Nat):dV a b<18446744073709551616:=by
 have h:qV a b≤9218868437227405312:=dU _ _
 have d:=ko (fS a^^fS b) 9218868437227405312 (by decide)
 have u:=ko (fS a^^fS b) 0 (by decide)
 have z:=ko (fS a^^fS b) (qV a b) (by omega)
 unfold dV
 repeat' split
 all_goals omega
theorem FI(o d:Nat)(u:1≤o)(F:d<9007199254740992)(h:0<d):9007199254740992≤o*2^180/d:=by
 rw[Nat.le_div_iff_mul_le h]
 have z:9007199254740992*d≤9007199254740992*9007199254740992:=Nat.mul_le_mul_left _ (by omega)
 have A:9007199254740992*9007199254740992≤1*2^180:=by decide+kernel
 have D:1*2^180≤o*2^180:=Nat.mul_le_mul_right _ u
 exact Nat.le_trans z (Nat.le_trans A D)
theorem Lb(b:Nat)(h:aj b=true):cd (fD b).natAbs (fX b)=fR b:=by
 have u:=BK b h
 have d:=jM (fM b) (fE b)
 rw[IM]at d
 exact d.1.trans u.1
theorem I8(b:Nat)(u:b<18446744073709551616)(d:aj b=true):cd (rv (fR b)) (-1074)=fR b:=by
 obtain⟨z,A⟩:=dc b u d
 have h:=(jM (fZ b) (-1074)).1
 rw[z,A,fU,Lb b d]at h
 exact h.symm
theorem kV(a:Nat)(d:aj a=true)(h:fK a≠0):fK a≠3∧fK a≠4∧fK a≠0:=⟨(bS d).1,(bS d).2,h⟩
theorem rm(a b:Nat)(h:aj a=true)(u:aj b=true)(z:fK a≠0)(d:fK b≠0):dV a b=gF (fS a^^fS b) (qV a b)∧dF a b=qF a b:=by
 obtain⟨G,H,_⟩:=kV a h z
 obtain⟨I,J,_⟩:=kV b u d
 have A:¬(fK a=4∨fK b=4):=by omega
 have D:¬(fK a=fK b∧(fK a=3∨fK a=0)):=by omega
 have F:¬(fK b=3∨fK a=0):=by omega
 unfold dV dF
 simp only[if_neg A,if_neg D,if_neg G,if_neg F,if_neg d,and_self]
theorem vT(a b:Nat)(d:aj a=true)(h:aj b=true)(u:fK a≠0)(z:fK b≠0):mV a b=gF (fS a^^fS b) (cd (rv (fR a)*rv (fR b)) (-2148))∧mF a b=bI (oM (fZ a*fZ b)).natAbs (oE (fZ a*fZ b) (-2148)):=by
 obtain⟨G,H,_⟩:=kV a d u
 obtain⟨I,J,_⟩:=kV b h z
 have A:¬(fK a=4∨fK b=4):=by omega
 have D:¬(fK a=3∨fK b=3):=by omega
 have F:¬(fK a=0∨fK b=0):=by omega
 unfold mV mF
 simp only[if_neg A,if_neg D,if_neg F,and_self]
theorem oL{v:Nat}{E:Int}(d:v≠0)(h:1024<(bl v:Int)+E):cd v E=9218868437227405312∧bI v E=5:=by
 unfold bI cd
 rw[if_neg d,if_pos h,if_neg d,if_pos h]
 exact⟨rfl,rfl⟩
theorem vU{v k:Nat}(h:2*v<2^k):dw v k=0:=by
 unfold dw
 have d:v/2^k=0:=Nat.div_eq_of_lt (by omega)
 have u:v%2^k=v:=Nat.mod_eq_of_lt (by omega)
 rw[d,u,if_neg (by omega)]
theorem xP{v:Nat}{E:Int}(d:v≠0)(h:(bl v:Int)+E< -1074):cd v E=0∧bI v E=3:=by
 obtain⟨G,H,I⟩:=bG v d
 have u:aD v E= -1074:=by unfold aD;omega
 obtain⟨j,F⟩:∃j:Nat,E- -1074= -((j:Nat):Int):=⟨(-1074-E).toNat,by omega⟩
 have A:d8 v E=0:=by
  unfold d8
  rw[u,F,dl _ _ (by omega)]
  refine vU ?_
  have D:2^(bl v+1)≤2^j:=Nat.pow_le_pow_right (by decide) (by omega)
  rw[Nat.pow_succ]at D
  omega
 have z:cd v E=0:=by
  rw[dn v E d (by omega),A,u]
  rfl
 refine⟨z,?_⟩
 unfold bI
 rw[if_neg d,if_neg (by omega),if_neg (by rw[u];omega),z,if_neg (by decide),if_pos (by decide)]
end Go.Proofs.YtcbcmlaogehimaaGreatDoor
