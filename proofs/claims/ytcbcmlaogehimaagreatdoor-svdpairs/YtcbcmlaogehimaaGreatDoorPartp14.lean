/- Part 14 of the texts. -/
import Derived.Test.YtcbcmlaogehimaaGreatDoorPartp13
namespace Go.Proofs.YtcbcmlaogehimaaGreatDoor
open Go.RowKit
def fR(b:Nat):Nat:=b%9223372036854775808
def fZ(b:Nat):Int:=pv (fS b) (fR b)
theorem IY(b:Nat)(h:b<18446744073709551616):gJ (fS b) (fR b)=b:=by
 unfold fS fR
 by_cases c:9223372036854775808≤b
 ·rw[decide_eq_true c,fg];omega
 ·rw[decide_eq_false c,bQ];omega
theorem ji(b:Nat):fR b<9223372036854775808:=by unfold fR;omega
theorem i9(b:Nat)(d:ai b=true):fR b<9218868437227405312:=by
 have h:=of_decide_eq_true d
 unfold fP at h
 unfold fR
 omega
theorem LU(n:Bool)(s:Nat):sg n (rv s)=pv n s:=rfl
theorem de(b:Nat)(h:b<18446744073709551616)(A:ai b=true):oM (fZ b)=fD b∧oE (fZ b) (-1074)=fX b:=by
 obtain⟨j,u,z⟩:=JM (fS b) (fR b) (i9 b A)
 rw[IY b h]at u z
 have d:=gu (fM b) j (-1074)
 rw[z,LU,←u]at d
 exact d
theorem Cx:rv 9218868437227405312=2^2098:=by decide+kernel
theorem JN(n:Bool)(r:Nat):(pv n r).natAbs=rv r:=by unfold pv;split<;>omega
theorem f9(b:Nat):(fZ b).natAbs=rv (fR b):=JN _ _
theorem fi(b:Nat)(d:ai b=true):(fZ b).natAbs<2^2098:=by
 rw[f9,←Cx];exact IW (i9 b d)
def aZ(a b:Nat):Int:=fZ a+fZ b
def aV(a b:Nat):Nat:=
 if fK a=4∨fK b=4 then 9221120237041090560
 else if fK a=3 then(if fK b=3∧a≠b then 9221120237041090560 else a)
 else if fK b=3 then b
 else if aZ a b=0 then(if(fS a&&fS b)=true then 9223372036854775808 else 0)
 else gJ (decide (aZ a b<0)) (cg (aZ a b).natAbs (-1074))
def aF(a b:Nat):Int:=
 if fK a=4∨fK b=4 then 0
 else if fK a=3 then(if fK b=3∧a≠b then 16 else 0)
 else if fK b=3 then 0
 else if aZ a b=0 then 0
 else bM (oM (aZ a b)).natAbs (oE (aZ a b) (-1074))
theorem I4:(2:Nat)^2098+2^2098=2^2099:=by decide+kernel
theorem mJ(b:Nat)(d:ai b=true):fv (-1074) 2099 (fZ b):=by
 have u:=fi b d
 have h:=I4
 have z:=Nat.two_pow_pos 2098
 generalize (2:Nat)^2098=P at*
 exact⟨by rw[←h];omega,by decide,by decide,by decide⟩
theorem JO(a b:Nat)(d:ai a=true)(h:ai b=true):fv (-1074) 2099 (fZ a+fZ b):=by
 have z:=fi a d
 have A:=fi b h
 have u:=I4
 generalize (2:Nat)^2098=P at*
 exact⟨by rw[←u];omega,by decide,by decide,by decide⟩
theorem kC(n:Bool)(r:Nat)(h:r<9223372036854775808):gJ n r<18446744073709551616:=by unfold gJ;split<;>omega
theorem h9(a b:Nat)(d:a<18446744073709551616)(h:b<18446744073709551616):aV a b<18446744073709551616:=by
 unfold aV
 split
 ·omega
 ·split
  ·split<;>omega
  ·split
   ·omega
   ·split
    ·split<;>omega
    ·have:=dR (aZ a b).natAbs (-1074)
     exact kC _ _ (by omega)
theorem yq(a b:Nat)(d:fK a≠3)(z:fK a≠4)(u:fK b≠3)(A:fK b≠4):
  aV a b=(if aZ a b=0 then(if(fS a&&fS b)=true then 9223372036854775808 else 0)else gJ (decide (aZ a b<0)) (cg (aZ a b).natAbs (-1074)))∧aF a b=(if aZ a b=0 then 0 else bM (oM (aZ a b)).natAbs (oE (aZ a b) (-1074))):=by
 have h:¬(fK a=4∨fK b=4):=by omega
 unfold aV aF
 simp only[if_neg h,if_neg d,if_neg u,and_self]
theorem um(E:Int):cg 0 E=0:=by unfold cg;exact if_pos rfl
theorem ch(b:Nat):(fK b=4↔9218868437227405312<fR b)∧(fK b=3↔fR b=9218868437227405312)∧(ai b=true↔fR b<9218868437227405312):=by
 have h:=ji b
 have hF:fF b=fR b%4503599627370496:=by unfold fF fR;omega
 have d:fP b=fR b/4503599627370496:=rfl
 unfold fK ai
 rw[hF,d]
 generalize fR b=r at*
 refine⟨?_,?_,?_⟩
 ·split
  ·split<;>constructor<;>intro _<;>omega
  ·split
   ·split<;>constructor<;>intro _<;>omega
   ·constructor<;>intro _<;>omega
 ·split
  ·split<;>constructor<;>intro _<;>omega
  ·split
   ·split<;>constructor<;>intro _<;>omega
   ·constructor<;>intro _<;>omega
 ·rw[decide_eq_true_iff];omega
theorem et(b:Nat)(d:fK b≠3)(u:fK b≠4):ai b=true:=by
 rcases gO b with⟨_,h|h⟩|⟨h,_⟩
 ·exact absurd h d
 ·exact absurd h u
 ·exact h
theorem yr(b:Nat)(h:b<18446744073709551616):fN b=gJ (!fS b) (fR b):=by
 unfold fN fS fR
 by_cases c:9223372036854775808≤b
 ·rw[if_pos c,decide_eq_true c];show _=gJ false _;rw[bQ];omega
 ·rw[if_neg c,decide_eq_false c];show _=gJ true _;rw[fg];omega
theorem LX(b:Nat)(h:b<18446744073709551616):fS (fN b)= !fS b:=by rw[yr b h,jx _ _ (ji b)]
theorem I5(b:Nat)(h:b<18446744073709551616):fR (fN b)=fR b:=by
 have:=ji b
 rw[yr b h]
 unfold fR at*
 cases (!fS b)
 ·rw[bQ];omega
 ·rw[fg];omega
theorem ja(n:Bool)(r:Nat)(h:r<9223372036854775808):fR (gJ n r)=r:=(Aj n r h).2
theorem Cy(n:Bool)(r:Nat)(h:r<9223372036854775808):fZ (gJ n r)=pv n r:=by
 unfold fZ;rw[jx n r h,ja n r h]
theorem jW(b:Nat)(h:b<18446744073709551616):ai (fN b)=ai b:=by
 have e:=I5 b h
 unfold ai
 rw[show fP (fN b)=fP b from by show fR (fN b)/4503599627370496=fR b/4503599627370496;rw[e]]
theorem LY(b:Nat)(h:b<18446744073709551616):fZ (fN b)= -fZ b:=by
 unfold fZ
 rw[LX b h,I5 b h]
 unfold pv
 cases fS b<;>simp
theorem bU{b:Nat}(d:ai b=true):fK b≠3∧fK b≠4:=by
 rcases gO b with⟨h,_⟩|⟨_,h⟩
 ·rw[d]at h;cases h
 ·omega
theorem rI(a b:Nat)(u:ai a=true)(z:ai b=true):fR (aV a b)=cg (aZ a b).natAbs (-1074)∧fZ (aV a b)=Ak (aZ a b) (-1074):=by
 obtain⟨D,F⟩:=bU u
 obtain⟨G,H⟩:=bU z
 rw[(yq a b D F G H).1]
 by_cases d:aZ a b=0
 ·rw[if_pos d,d]
  have e:(if(fS a&&fS b)=true then 9223372036854775808 else 0)=gJ (fS a&&fS b) 0:=by unfold gJ;split<;>rfl
  have h:cg (0:Int).natAbs (-1074)=0:=um _
  rw[e,ja _ _ (by decide),Cy _ _ (by decide),h]
  refine⟨rfl,?_⟩
  unfold Ak pv
  rw[h,dn]
  split<;>simp
 ·rw[if_neg d]
  have A:=dR (aZ a b).natAbs (-1074)
  rw[ja _ _ (by omega),Cy _ _ (by omega)]
  exact⟨rfl,rfl⟩
end Go.Proofs.YtcbcmlaogehimaaGreatDoor
namespace Go.Proofs.YtcbcmlaogehimaaGreatDoor
def cJ(N d:Nat):Nat:=2*(N/d)+(if N%d=0 then 0 else 1)
def Cz(N D:Nat):Nat:=N/D+(if D<2*(N%D)∨(D=2*(N%D)∧N/D%2=1)then 1 else 0)
theorem wK(N D i:Nat):Cz (N*2^i) (D*2^i)=Cz N D:=by
 have d:0<2^i:=Nat.two_pow_pos _
 unfold Cz
 rw[Nat.mul_div_mul_right _ _ d,Nat.mul_mod_mul_right]
 have u:(D*2^i<2*(N%D*2^i))↔D<2*(N%D):=by
  rw[←Nat.mul_assoc];exact Nat.mul_lt_mul_right d
 have z:(D*2^i=2*(N%D*2^i))↔D=2*(N%D):=by
  rw[←Nat.mul_assoc];exact⟨fun h=>Nat.eq_of_mul_eq_mul_right d h,fun h=>by rw[←h]⟩
 simp only[u,z]
theorem yt(N d k:Nat)(H:0<d)(Q:1≤k):dw (cJ N d) (k+1)=Cz N (d*2^k):=by
 obtain⟨j,rfl⟩:∃j,k=j+1:=⟨k-1,by omega⟩
 have U:=Nat.div_add_mod N d
 have X:=Nat.mod_lt N H
 have Y:0<2^j:=Nat.two_pow_pos _
 have A:(2:Nat)^(j+1)=2*2^j:=by rw[Nat.pow_succ,Nat.mul_comm]
 have I:(2:Nat)^(j+1+1)=2*(2*2^j):=by rw[Nat.pow_succ,A,Nat.mul_comm]
 have Z:(if N%d=0 then 0 else 1)≤1:=by split<;>omega
 have u:(if N%d=0 then 0 else 1)=0↔N%d=0:=by split<;>simp_all
 unfold dw Cz cJ
 rw[I,A]
 generalize (2:Nat)^j=g at*
 generalize (if N%d=0 then 0 else 1)=t at*
 have D:=Nat.div_add_mod (N/d) (2*g)
 have ha:=Nat.mod_lt (N/d) (show 0<2*g by omega)
 have J:N/(d*(2*g))=N/d/(2*g):=(Nat.div_div_eq_div_mul N d (2*g)).symm
 have K:N%(d*(2*g))=d*(N/d%(2*g))+N%d:=by
  rw[Nat.mod_mul];omega
 rw[J,K]
 generalize N%d=r at*
 generalize N/d=q at*
 generalize hA:q%(2*g)=a at*
 generalize hQ:q/(2*g)=b at*
 have L:(2*q+t)/(2*(2*g))=b:=by
  rw[←D,Nat.mul_add,←Nat.mul_assoc 2 (2*g) b,Nat.add_assoc]
  rw[Nat.mul_add_div (by omega),Nat.div_eq_of_lt (by omega),Nat.add_zero]
 have O:(2*q+t)%(2*(2*g))=2*a+t:=by
  rw[←D,Nat.mul_add,←Nat.mul_assoc 2 (2*g) b,Nat.add_assoc,Nat.mul_add_mod,Nat.mod_eq_of_lt (by omega)]
 rw[L,O]
 congr 1
 --where a stands beside half
 rcases Nat.lt_trichotomy a g with h|h|h
 ·have:d*a+d≤d*g:=by rw[←Nat.mul_succ];exact Nat.mul_le_mul_left d h
  have z:d*(2*g)=2*(d*g):=by rw[Nat.mul_left_comm]
  rw[z]
  rw[if_neg (by omega),if_neg (by omega)]
 ·subst h
  have z:d*(2*a)=2*(d*a):=by rw[Nat.mul_left_comm]
  rw[z]
  by_cases F:r=0
  ·have:=u.2 F
   by_cases G:b%2=1
   ·rw[if_pos (Or.inr ⟨by omega,G⟩),if_pos (Or.inr ⟨by omega,G⟩)]
   ·rw[if_neg (by omega),if_neg (by omega)]
  ·have:t≠0:=fun e=>F (u.1 e)
   rw[if_pos (Or.inl (by omega)),if_pos (Or.inl (by omega))]
 ·have:d*g+d≤d*a:=by rw[←Nat.mul_succ];exact Nat.mul_le_mul_left d h
  have z:d*(2*g)=2*(d*g):=by rw[Nat.mul_left_comm]
  rw[z]
  rw[if_pos (Or.inl (by omega)),if_pos (Or.inl (by omega))]
theorem JP(N d i:Nat)(u:0<d)(U:0<N/d):bl (cJ (N*2^i) d)=bl (cJ N d)+i:=by
 have D:0<2^i:=Nat.two_pow_pos _
 have F:cJ N d≠0:=by unfold cJ;omega
 obtain⟨b1,A,z⟩:=bK (cJ N d) F
 have X:2≤cJ N d:=by unfold cJ;omega
 have G:2≤bl (cJ N d):=by
  rcases Nat.lt_or_ge (bl (cJ N d)) 2 with h|h
  ·have:bl (cJ N d)=1:=by omega
   rw[this]at z;omega
  ·exact h
 obtain⟨c,Q⟩:∃c,bl (cJ N d)=c+2:=⟨bl (cJ N d)-2,by omega⟩
 rw[Q]at A z⊢
 --of whole quotients:2^c≤N/d<2^(c+1)
 have H:2^(c+1)≤N/d*2:=by
  rw[show c+2-1=c+1 by omega,Nat.pow_succ]at A
  unfold cJ at A
  rw[Nat.pow_succ]
  have I:(if N%d=0 then 0 else 1)≤1:=by split<;>omega
  omega
 have J:N/d<2^(c+1):=by
  rw[Nat.pow_succ]at z
  unfold cJ at z
  omega
 have K:2^c≤N/d:=by rw[Nat.pow_succ]at H;omega
 have L:2^c*d≤N:=(Nat.le_div_iff_mul_le u).1 K
 have O:N<2^(c+1)*d:=(Nat.div_lt_iff_lt_mul u).1 J
 have Y:2^(c+i)≤N*2^i/d:=(Nat.le_div_iff_mul_le u).2 (by
  rw[Nat.pow_add,Nat.mul_right_comm];exact Nat.mul_le_mul_right _ L)
 have Z:N*2^i/d<2^(c+1+i):=(Nat.div_lt_iff_lt_mul u).2 (by
  rw[Nat.pow_add,Nat.mul_right_comm];exact(Nat.mul_lt_mul_right D).2 O)
 refine ni (by omega) ?_ ?_
 ·rw[show c+2+i-1=c+i+1 by omega,Nat.pow_succ]
  unfold cJ
  omega
 ·rw[show c+2+i=c+1+i+1 by omega,Nat.pow_succ]
  unfold cJ
  have I:(if N*2^i%d=0 then 0 else 1)≤1:=by split<;>omega
  omega
theorem Gp{N d:Nat}(A:9007199254740992≤N/d):55≤bl (cJ N d):=by
 have u:cJ N d≠0:=by unfold cJ;omega
 obtain⟨D,F,z⟩:=bK (cJ N d) u
 have h:2^54≤cJ N d:=by
  have:(2:Nat)^54=2*9007199254740992:=by decide
  rw[this];unfold cJ;omega
 have:=cK (Nat.lt_of_le_of_lt h z)
 omega
theorem pa(N d i:Nat)(E:Int)(z:0<d)(G:9007199254740992≤N/d):
  cg (cJ (N*2^i) d) (E-i)=cg (cJ N d) E∧aE (cJ (N*2^i) d) (E-i)=aE (cJ N d) E∧(bl (cJ (N*2^i) d):Int)+(E-i)=(bl (cJ N d):Int)+E∧E+2≤aE (cJ N d) E:=by
 have A:=JP N d i z (by omega)
 have H:=Gp G
 have I:cJ N d≠0:=by unfold cJ;omega
 have D:cJ (N*2^i) d≠0:=fun h=>by
  rw[h]at A
  have:bl 0=0:=rfl
  omega
 have F:aE (cJ (N*2^i) d) (E-i)=aE (cJ N d) E:=by unfold aE;rw[A];omega
 have u:(bl (cJ (N*2^i) d):Int)+(E-i)=(bl (cJ N d):Int)+E:=by rw[A];omega
 have J:E+2≤aE (cJ N d) E:=by have:=(cD (cJ N d) E).2.1;omega
 refine⟨?_,F,u,J⟩
 have K:d8 (cJ (N*2^i) d) (E-i)=d8 (cJ N d) E:=by
  unfold d8
  rw[F]
  obtain⟨k,L⟩:∃k:Nat,aE (cJ N d) E=E+k+1∧1≤k:=⟨(aE (cJ N d) E-E-1).toNat,by omega,by omega⟩
  rw[show E-i-aE (cJ N d) E= -((k+i+1:Nat):Int) by omega,show E-aE (cJ N d) E= -((k+1:Nat):Int) by omega]
  rw[dk _ _ (by omega),dk _ _ (by omega),yt _ _ _ z (by omega),yt _ _ _ z (by omega)]
  rw[Nat.pow_add,←Nat.mul_assoc]
  exact wK _ _ _
 unfold cg
 rw[if_neg I,if_neg D,u,K,F]
theorem uq(N d i:Nat)(E:Int)(hd:d%2=1)(J:9007199254740992≤N/d):
  bM (oM (cJ (N*2^i) d:Nat)).natAbs (oE (cJ (N*2^i) d:Nat) (E-i))=bM (oM (cJ N d:Nat)).natAbs (oE (cJ N d:Nat) E):=by
 have u:0<d:=by omega
 obtain⟨Z,s2,s3,s4⟩:=pa N d i E u J
 by_cases z:N%d=0
 ·have K:N=N/d*d:=by have:=Nat.div_add_mod N d;rw[z,Nat.add_zero,Nat.mul_comm]at this;exact this.symm
  have D:N*2^i%d=0:=by rw[Nat.mul_mod,z];simp
  have L:N*2^i/d=N/d*2^i:=by
   conv=>lhs;rw[K,Nat.mul_right_comm]
   exact Nat.mul_div_cancel _ u
  have e:cJ (N*2^i) d=cJ N d*2^i:=by
   unfold cJ;rw[if_pos z,if_pos D,L];rw[Nat.add_zero,Nat.add_zero,Nat.mul_assoc]
  have O:((cJ (N*2^i) d:Nat):Int)=((cJ N d:Nat):Int)*2^i:=by rw[e,Int.natCast_mul,Int.natCast_pow];rfl
  have:=gu ((cJ N d:Nat):Int) i (E-i)
  rw[O,this.1,this.2,show E-(i:Int)+i=E by omega]
 ·have D:N*2^i%d≠0:=fun h=>z (by
   have F:d∣N*2^i:=Nat.dvd_of_mod_eq_zero h
   have Q:Nat.Coprime d (2^i):=by
    apply Nat.Coprime.pow_right
    unfold Nat.Coprime
    have G:Nat.gcd d 2∣2:=Nat.gcd_dvd_right d 2
    have U:Nat.gcd d 2∣d:=Nat.gcd_dvd_left d 2
    have h6:Nat.gcd d 2≤2:=Nat.le_of_dvd (by decide) G
    have h7:Nat.gcd d 2≠0:=fun e=>by rw[e]at G;exact absurd (Nat.eq_zero_of_zero_dvd G) (by decide)
    have h8:Nat.gcd d 2≠2:=fun e=>by rw[e]at U;omega
    omega
   exact Nat.mod_eq_zero_of_dvd (Q.dvd_of_dvd_mul_right F))
  have H:((cJ N d:Nat):Int)%2=1:=by unfold cJ;rw[if_neg z];omega
  have I:((cJ (N*2^i) d:Nat):Int)%2=1:=by unfold cJ;rw[if_neg D];omega
  have z1:∀(v:Nat) (e:Int),(v:Int)%2=1→oM (v:Int)=v∧oE (v:Int) e=e:=fun v e h=>by
   have A:(v:Int)≠0:=by omega
   have a:=(eR (v:Int) A).unique (m':=(v:Int)) (k':=0) ⟨by simp,h⟩
   exact⟨a.1,by rw[cw _ _ A,a.2];simp⟩
  rw[(z1 _ (E-i) I).1,(z1 _ (E-i) I).2,(z1 _ E H).1,(z1 _ E H).2,Int.natAbs_natCast,Int.natAbs_natCast]
  have X:cJ N d≠0:=by omega
  have Y:cJ (N*2^i) d≠0:=by omega
  unfold bM
  rw[if_neg X,if_neg Y,s3,s2,Z,if_neg (show¬aE (cJ N d) E≤E-i by omega),if_neg (show¬aE (cJ N d) E≤E by omega)]
theorem Gq(n d p q:Nat)(c:Int)(u:0<d)(A:9007199254740992≤n*2^p/d)(D:9007199254740992≤n*2^q/d):
  cg (cJ (n*2^p) d) (c-p)=cg (cJ (n*2^q) d) (c-q):=by
 have z:=(pa (n*2^p) d q (c-p) u A).1
 have h:=(pa (n*2^q) d p (c-q) u D).1
 rw[Nat.mul_assoc,←Nat.pow_add]at z h
 rw[Nat.add_comm q p,show c-(q:Int)-p=c-p-q by omega]at h
 rw[←z,←h]
theorem rJ(n d p q:Nat)(c:Int)(u:d%2=1)(A:9007199254740992≤n*2^p/d)(D:9007199254740992≤n*2^q/d):
  bM (oM (cJ (n*2^p) d:Nat)).natAbs (oE (cJ (n*2^p) d:Nat) (c-p))=bM (oM (cJ (n*2^q) d:Nat)).natAbs (oE (cJ (n*2^q) d:Nat) (c-q)):=by
 have z:=uq (n*2^p) d q (c-p) u A
 have h:=uq (n*2^q) d p (c-q) u D
 rw[Nat.mul_assoc,←Nat.pow_add]at z h
 rw[Nat.add_comm q p,show c-(q:Int)-p=c-p-q by omega]at h
 rw[←z,←h]
theorem CE(N d c:Nat):cJ (N*2^c) (d*2^c)=cJ N d:=by
 have u:0<2^c:=Nat.two_pow_pos _
 unfold cJ
 rw[Nat.mul_div_mul_right _ _ u,Nat.mul_mod_mul_right]
 have:N%d*2^c=0↔N%d=0:=by
  constructor
  ·intro h;rcases Nat.mul_eq_zero.1 h with h|h<;>omega
  ·intro h;rw[h,Nat.zero_mul]
 simp only[this]
open Go.RowKit
theorem mK(r:Nat):rv r=0↔r=0:=by
 constructor
 ·intro h
  rcases Nat.eq_zero_or_pos r with e|e
  ·exact e
  ·have:=IW e;rw[dn]at this;omega
 ·intro h;rw[h,dn]
theorem cs(b:Nat):fK b=0↔fR b=0:=by
 have h:=ji b
 have hF:fF b=fR b%4503599627370496:=by unfold fF fR;omega
 have d:fP b=fR b/4503599627370496:=rfl
 unfold fK
 rw[hF,d]
 generalize fR b=r at*
 split
 ·split<;>constructor<;>intro _<;>omega
 ·split
  ·split<;>constructor<;>intro _<;>omega
  ·constructor<;>intro _<;>omega
def mV(a b:Nat):Nat:=
 if fK a=4∨fK b=4 then 9221120237041090560
 else if fK a=3∨fK b=3 then(if fK a=0∨fK b=0 then 9221120237041090560 else gJ (fS a^^fS b) 9218868437227405312)
 else gJ (fS a^^fS b) (cg (rv (fR a)*rv (fR b)) (-2148))
def mF(a b:Nat):Int:=
 if fK a=4∨fK b=4 then 0
 else if fK a=3∨fK b=3 then(if fK a=0∨fK b=0 then 16 else 0)
 else if fK a=0∨fK b=0 then 0
 else bM (oM (fZ a*fZ b)).natAbs (oE (fZ a*fZ b) (-2148))
theorem df(a b:Nat):mV a b<18446744073709551616:=by
 have h:=dR (rv (fR a)*rv (fR b)) (-2148)
 unfold mV
 split
 ·omega
 ·split
  ·split
   ·omega
   ·exact kC _ _ (by omega)
  ·exact kC _ _ (by omega)
theorem nU(b:Nat)(z:b<18446744073709551616)(A:ai b=true)(D:fK b≠0):
  ∃β:Nat,fX b= -1074+(β:Int)∧rv (fR b)=(fD b).natAbs*2^β∧(fD b).natAbs%2=1∧(fD b).natAbs<9007199254740992:=by
 obtain⟨h,H⟩:=de b z A
 have F:fR b≠0:=fun e=>D ((cs b).2 e)
 have d:fZ b≠0:=fun e=>F ((mK _).1 (by rw[←f9,e];rfl))
 have u:=Cv (fZ b) d
 have G:=cw (fZ b) (-1074) d
 refine⟨tz (fZ b).natAbs,by rw[←H,G],by rw[←f9,u,h];congr 2;rw[←h,←u],?_,?_⟩
 ·have:=(fH (fZ b) d).2
  rw[h]at this
  omega
 ·have:(oM (fM b)).natAbs≤(fM b).natAbs:=qO _
  have I:=t9 b
  show(oM (fM b)).natAbs<_
  omega
def qS(a b:Nat):Nat:=cJ ((fD a).natAbs*2^180) (fD b).natAbs
def qV(a b:Nat):Nat:=cg (qS a b) (fX a-fX b-181)
def qF(a b:Nat):Int:=bM (oM (qS a b:Nat)).natAbs (oE (qS a b:Nat) (fX a-fX b-181))
def dV(a b:Nat):Nat:=
 if fK a=4∨fK b=4 then 9221120237041090560
 else if fK a=fK b∧(fK a=3∨fK a=0)then 9221120237041090560
 else if fK a=3 then gJ (fS a^^fS b) 9218868437227405312
 else if fK b=3∨fK a=0 then gJ (fS a^^fS b) 0
 else if fK b=0 then gJ (fS a^^fS b) 9218868437227405312
 else gJ (fS a^^fS b) (qV a b)
def dF(a b:Nat):Int:=
 if fK a=4∨fK b=4 then 0
 else if fK a=fK b∧(fK a=3∨fK a=0)then 16
 else if fK a=3 then 0
 else if fK b=3∨fK a=0 then 0
 else if fK b=0 then 8
 else qF a b
theorem yu(a b:Nat):dV a b<18446744073709551616:=by
 have h:qV a b≤9218868437227405312:=dR _ _
 have d:=kC (fS a^^fS b) 9218868437227405312 (by decide)
 have u:=kC (fS a^^fS b) 0 (by decide)
 have z:=kC (fS a^^fS b) (qV a b) (by omega)
 unfold dV
 repeat' split
 all_goals omega
theorem Gr(o d:Nat)(u:1≤o)(F:d<9007199254740992)(h:0<d):9007199254740992≤o*2^180/d:=by
 rw[Nat.le_div_iff_mul_le h]
 have z:9007199254740992*d≤9007199254740992*9007199254740992:=Nat.mul_le_mul_left _ (by omega)
 have A:9007199254740992*9007199254740992≤1*2^180:=by decide+kernel
 have D:1*2^180≤o*2^180:=Nat.mul_le_mul_right _ u
 exact Nat.le_trans z (Nat.le_trans A D)
theorem LZ(b:Nat)(h:ai b=true):cg (fD b).natAbs (fX b)=fR b:=by
 have u:=Cu b h
 have d:=jU (fM b) (fE b)
 rw[JI]at d
 exact d.1.trans u.1
theorem JQ(b:Nat)(u:b<18446744073709551616)(d:ai b=true):cg (rv (fR b)) (-1074)=fR b:=by
 obtain⟨z,A⟩:=de b u d
 have h:=(jU (fZ b) (-1074)).1
 rw[z,A,f9,LZ b d]at h
 exact h.symm
theorem lr(a:Nat)(d:ai a=true)(h:fK a≠0):fK a≠3∧fK a≠4∧fK a≠0:=⟨(bU d).1,(bU d).2,h⟩
theorem rK(a b:Nat)(h:ai a=true)(u:ai b=true)(z:fK a≠0)(d:fK b≠0):dV a b=gJ (fS a^^fS b) (qV a b)∧dF a b=qF a b:=by
 obtain⟨G,H,_⟩:=lr a h z
 obtain⟨I,J,_⟩:=lr b u d
 have A:¬(fK a=4∨fK b=4):=by omega
 have D:¬(fK a=fK b∧(fK a=3∨fK a=0)):=by omega
 have F:¬(fK b=3∨fK a=0):=by omega
 unfold dV dF
 simp only[if_neg A,if_neg D,if_neg G,if_neg F,if_neg d,and_self]
theorem wL(a b:Nat)(d:ai a=true)(h:ai b=true)(u:fK a≠0)(z:fK b≠0):mV a b=gJ (fS a^^fS b) (cg (rv (fR a)*rv (fR b)) (-2148))∧mF a b=bM (oM (fZ a*fZ b)).natAbs (oE (fZ a*fZ b) (-2148)):=by
 obtain⟨G,H,_⟩:=lr a d u
 obtain⟨I,J,_⟩:=lr b h z
 have A:¬(fK a=4∨fK b=4):=by omega
 have D:¬(fK a=3∨fK b=3):=by omega
 have F:¬(fK a=0∨fK b=0):=by omega
 unfold mV mF
 simp only[if_neg A,if_neg D,if_neg F,and_self]
theorem pb{v:Nat}{E:Int}(d:v≠0)(h:1024<(bl v:Int)+E):cg v E=9218868437227405312∧bM v E=5:=by
 unfold bM cg
 rw[if_neg d,if_pos h,if_neg d,if_pos h]
 exact⟨rfl,rfl⟩
theorem wM{v k:Nat}(h:2*v<2^k):dw v k=0:=by
 unfold dw
 have d:v/2^k=0:=Nat.div_eq_of_lt (by omega)
 have u:v%2^k=v:=Nat.mod_eq_of_lt (by omega)
 rw[d,u,if_neg (by omega)]
theorem yv{v:Nat}{E:Int}(d:v≠0)(h:(bl v:Int)+E< -1074):cg v E=0∧bM v E=3:=by
 obtain⟨G,H,I⟩:=bK v d
 have u:aE v E= -1074:=by unfold aE;omega
 obtain⟨j,F⟩:∃j:Nat,E- -1074= -((j:Nat):Int):=⟨(-1074-E).toNat,by omega⟩
 have A:d8 v E=0:=by
  unfold d8
  rw[u,F,dk _ _ (by omega)]
  refine wM ?_
  have D:2^(bl v+1)≤2^j:=Nat.pow_le_pow_right (by decide) (by omega)
  rw[Nat.pow_succ]at D
  omega
 have z:cg v E=0:=by
  rw[dl v E d (by omega),A,u]
  rfl
 refine⟨z,?_⟩
 unfold bM
 rw[if_neg d,if_neg (by omega),if_neg (by rw[u];omega),z,if_neg (by decide),if_pos (by decide)]
end Go.Proofs.YtcbcmlaogehimaaGreatDoor
