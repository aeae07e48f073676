/- Part 15 of the texts. -/
import Derived.Test.YtcbcmlaogehimaaGreatDoorPartu14
set_option maxHeartbeats 4000000
set_option maxRecDepth 20000
namespace Go.Proofs.YtcbcmlaogehimaaGreatDoor
open Go.RowKit
def p2(e:Int):Rat:=(2:Rat)^e
theorem NG:(2:Rat)≠0:=by decide
theorem av(e:Int):0<p2 e:=Rat.zpow_pos (by decide)
theorem bR(a b:Int):p2 (a+b)=p2 a*p2 b:=Rat.zpow_add NG a b
theorem oR:p2 0=1:=Rat.zpow_zero 2
theorem cN(k:Nat):p2 (k:Int)=((2^k:Nat):Rat):=by
 unfold p2;rw[Rat.zpow_natCast,Rat.natCast_pow];rfl
theorem NH:p2 1=2:=Rat.zpow_one 2
theorem rk(a:Int):p2 (-a)*p2 a=1:=by rw[<-bR,show-a+a=0 by omega,oR]
theorem bu(e:Int):p2 (e+1)=2*p2 e:=by rw[bR,NH,Rat.mul_comm]
theorem A6(e:Int):p2 (e+52)=4503599627370496*p2 e:=by
 rw[bR,show(52:Int)=((52:Nat):Int) by rfl,cN,Rat.mul_comm];rfl
theorem aq{a b:Int}(h:a<=b):p2 a<=p2 b:=by
 obtain⟨k,F⟩:∃k:Nat,b=a+(k:Int):=⟨(b-a).toNat,by omega⟩;rw[F,bR,cN];have t:((1:Nat):Rat)<=((2^k:Nat):Rat):=Rat.natCast_le_natCast.2 Nat.one_le_two_pow;have l:=Rat.mul_le_mul_of_nonneg_left t (Rat.le_of_lt (av a));have D:((1:Nat):Rat)=1:=rfl;rw[D,Rat.mul_one]at l;exact l
def xE(v:Nat)(E:Int):Rat:=(v:Rat)*p2 E
def yE(v:Nat)(E:Int):Rat:=(rv (cU v E):Rat)*p2 (-1074)
theorem NI(v:Nat)(E:Int)(h:v≠0)(l:(bl v:Int)+E<=1024):rv (cU v E)=gO v E*2^(aP v E+1074).toNat:=by
 obtain⟨t,D,G⟩:=eW v E h;obtain⟨H,I,J⟩:=dk v E;rw[gj v E h l];exact tD _ _ t (fun F=>D (by omega))
theorem A7(v:Nat)(E:Int)(h:v≠0)(l:(bl v:Int)+E<=1024):yE v E=(gO v E:Rat)*p2 (aP v E):=by
 obtain⟨t,D,F⟩:=dk v E;unfold yE;rw[NI v E h l,Rat.natCast_mul,<-cN,Rat.mul_assoc,<-bR]
 congr 2
 omega
theorem A8(v:Nat)(E:Int)(h:v≠0)(l:cU v E<9218868437227405312):(bl v:Int)+E<=1024:=by
 rcases Int.lt_or_le 1024 ((bl v:Int)+E)with g|g
 ·have:=(ri h g).1
  omega
 ·exact g
theorem wE(v:Nat)(E:Int)(h:v≠0)(F:(bl v:Int)+E<=1024):
  (aP v E<=E->yE v E=xE v E)/\2*yE v E<=2*xE v E+p2 (aP v E)/\2*xE v E<=2*yE v E+p2 (aP v E):=by
 have Q:=av (aP v E)
 by_cases J:aP v E<=E
 ·have e:yE v E=xE v E:=by
   obtain⟨k,t⟩:∃k:Nat,E-aP v E=(k:Int):=⟨(E-aP v E).toNat,by omega⟩;rw[A7 v E h F];unfold gO xE;rw[t,nz,Rat.natCast_mul,<-cN,Rat.mul_assoc,<-bR,show((k:Nat):Int)+aP v E=E by omega]
  refine⟨fun _=>e,?_,?_⟩<;>rw[e]<;>grind
 ·obtain⟨k,t,D⟩:∃k:Nat,E-aP v E= -(k:Int)/\1<=k:=⟨(aP v E-E).toNat,by omega,by omega⟩
  obtain⟨N,O⟩:=Ch v k;have G:aP v E=(k:Int)+E:=by omega
  have K:yE v E=((io v k*2^k:Nat):Rat)*p2 E:=by
   rw[A7 v E h F];unfold gO;rw[t,gi _ _ D,G,bR,cN,Rat.natCast_mul,Rat.mul_assoc]
  have l:=av E;have L:p2 (aP v E)=((2^k:Nat):Rat)*p2 E:=by rw[G,bR,cN]
  have H:=Rat.mul_le_mul_of_nonneg_left (Rat.natCast_le_natCast.2 N) (Rat.le_of_lt l);have I:=Rat.mul_le_mul_of_nonneg_left (Rat.natCast_le_natCast.2 O) (Rat.le_of_lt l);rw[Rat.natCast_add,Rat.natCast_mul 2,Rat.natCast_mul 2]at H I;have M:((2:Nat):Rat)=2:=rfl;rw[M]at H I;refine⟨fun g=>absurd g J,?_,?_⟩<;>rw[K,L]<;>unfold xE<;>grind
theorem nM(v:Nat)(E:Int)(I:cU v E<9218868437227405312):
  (9007199254740992*yE v E<=9007199254740992*xE v E+xE v E/\9007199254740992*xE v E<=9007199254740992*yE v E+xE v E)\/
  (cU v E<=4503599627370496/\E< -1074/\2*yE v E<=2*xE v E+p2 (-1074)/\2*xE v E<=2*yE v E+p2 (-1074)):=by
 by_cases h:v=0
 ·subst h
  refine .inl ?_;have e:yE 0 E=0:=by unfold yE;rw[wB,gp];exact Rat.zero_mul _
  have J:xE 0 E=0:=Rat.zero_mul _;rw[e,J]
  constructor<;>grind
 have t:=A8 v E h I;obtain⟨l1,l2,F⟩:=dk v E;obtain⟨O,G,H⟩:=wE v E h t;obtain⟨b1,Q,U⟩:=cC v h;have K:0<=xE v E:=Rat.mul_nonneg (Rat.natCast_nonneg) (Rat.le_of_lt (av E))
 by_cases L:aP v E<=E
 ·refine .inl ?_
  rw[O L]
  constructor<;>grind
 ·rcases(show(aP v E= -1074/\(bl v:Int)+E< -1021)\/aP v E=(bl v:Int)+E-53 by omega)with⟨l4,l5⟩|F
  ·refine .inr ⟨?_,by omega,?_⟩
   ·obtain⟨k,Z,l⟩:∃k:Nat,E-aP v E= -(k:Int)/\1<=k:=⟨(aP v E-E).toNat,by omega,by omega⟩
    have M:gO v E<=4503599627370496:=by
     unfold gO;rw[Z,gi _ _ l];refine oG ?_;have D:v<2^(52+k):=Nat.lt_of_lt_of_le U (jn (by omega));rw[Nat.pow_add,Ng]at D;exact Nat.le_of_lt D
    have N:(aP v E+1074).toNat=0:=by omega
    rw[gj v E h t,N,Nat.zero_mul,Nat.add_zero];exact M
   ·rw[l4]at G H
    exact⟨G,H⟩
  ·refine .inl ?_
   have hq:4503599627370496*p2 (aP v E)<=xE v E:=by
    rw[<-A6,F,show(bl v:Int)+E-53+52=((bl v-1:Nat):Int)+E by omega,bR,cN];unfold xE;have:=Rat.mul_le_mul_of_nonneg_left (Rat.natCast_le_natCast.2 Q) (Rat.le_of_lt (av E))
    grind
   constructor<;>grind
end Go.Proofs.YtcbcmlaogehimaaGreatDoor
namespace Go.Proofs.YtcbcmlaogehimaaGreatDoor
def bX:Nat->Nat
 |0=>0
 |n+1=>if(bX n+1)*(bX n+1)<=n+1 then bX n+1 else bX n
theorem ig(m:Nat):(m+1)*(m+1)=m*m+2*m+1:=by rw[Nat.add_mul,Nat.mul_add];omega
theorem Mz{a b:Nat}(h:a<=b):a*a<=b*b:=Nat.mul_le_mul h h
theorem MA{a b:Nat}(h:a<b):a*a<b*b:=Nat.mul_lt_mul_of_lt_of_le h (Nat.le_of_lt h) (by omega)
theorem fu{a b:Nat}:a*a<b*b↔a<b:=by
 constructor
 ·intro h
  rcases Nat.lt_or_ge a b with l|l
  ·exact l
  ·have:=Mz l;omega
 ·exact MA
theorem cZ(n:Nat):bX n*bX n<=n/\n<(bX n+1)*(bX n+1):=by
 induction n with
 |zero=>exact⟨Nat.le_refl _,by decide⟩
 |succ n ih=>
  unfold bX;obtain⟨D,F⟩:=ih;have l:=ig (bX n);have t:=ig (bX n+1)
  split
  ·rename_i h
   exact⟨h,by omega⟩
  ·rename_i h
   exact⟨by omega,by omega⟩
theorem kh{n m:Nat}(h:m*m<=n)(l:n<(m+1)*(m+1)):bX n=m:=by
 obtain⟨F,G⟩:=cZ n;have t:bX n<m+1:=fu.1 (by omega);have D:m<bX n+1:=fu.1 (by omega);omega
theorem Ft{n m:Nat}(h:n<=m):bX n<=bX m:=by
 obtain⟨l,t⟩:=cZ n;obtain⟨D,F⟩:=cZ m;have:bX n<bX m+1:=fu.1 (by omega);omega
theorem mO(a p:Nat):a*p*(a*p)=a*a*(p*p):=by ac_rfl
theorem oS(N p:Nat)(h:0<p):bX (N*(p*p))/p=bX N:=by
 obtain⟨D,F⟩:=cZ N;obtain⟨J,K⟩:=cZ (N*(p*p));have l:0<p*p:=Nat.mul_pos h h;have G:bX N*p<bX (N*(p*p))+1:=by
  apply fu.1
  rw[mO];have:bX N*bX N*(p*p)<=N*(p*p):=Nat.mul_le_mul_right _ D;omega
 have t:bX (N*(p*p))<(bX N+1)*p:=by
  apply fu.1
  rw[mO];have:N*(p*p)<(bX N+1)*(bX N+1)*(p*p):=(Nat.mul_lt_mul_right l).2 F;omega
 have H:bX N<=bX (N*(p*p))/p:=(Nat.le_div_iff_mul_le h).2 (by omega);have I:bX (N*(p*p))/p<bX N+1:=(Nat.div_lt_iff_lt_mul h).2 t;omega
def rS(N:Nat):Nat:=2*bX N+(if bX N*bX N=N then 0 else 1)
def Fu(N k:Nat):Nat:=bX N/2^k+(if(2*(bX N/2^k)+1)*2^k*((2*(bX N/2^k)+1)*2^k)<4*N\/((2*(bX N/2^k)+1)*2^k*((2*(bX N/2^k)+1)*2^k)=4*N/\bX N/2^k%2=1)then 1 else 0)
theorem zc(N k i:Nat):Fu (N*(2^i*2^i)) (k+i)=Fu N k:=by
 have t:0<2^i:=Nat.two_pow_pos _;have l:0<2^i*2^i:=Nat.mul_pos t t;have e:bX (N*(2^i*2^i))/2^(k+i)=bX N/2^k:=by
  rw[Nat.add_comm k i,Nat.pow_add,<-Nat.div_div_eq_div_mul,oS N _ t]
 unfold Fu;rw[e];generalize bX N/2^k=m;have D:(2*m+1)*2^(k+i)*((2*m+1)*2^(k+i))=(2*m+1)*2^k*((2*m+1)*2^k)*(2^i*2^i):=by
  rw[Nat.pow_add];ac_rfl
 have F:4*(N*(2^i*2^i))=4*N*(2^i*2^i):=by ac_rfl
 rw[D,F];have G:((2*m+1)*2^k*((2*m+1)*2^k)*(2^i*2^i)<4*N*(2^i*2^i))↔(2*m+1)*2^k*((2*m+1)*2^k)<4*N:=Nat.mul_lt_mul_right l;have H:((2*m+1)*2^k*((2*m+1)*2^k)*(2^i*2^i)=4*N*(2^i*2^i))↔(2*m+1)*2^k*((2*m+1)*2^k)=4*N:=
  ⟨fun h=>Nat.eq_of_mul_eq_mul_right l h,fun h=>by rw[h]⟩
 simp only[G,H]
theorem Fv(N k:Nat)(Z:1<=k):io (rS N) (k+1)=Fu N k:=by
 obtain⟨j,rfl⟩:∃j,k=j+1:=⟨k-1,by omega⟩;obtain⟨n1,n2⟩:=cZ N;have hg:0<2^j:=Nat.two_pow_pos _;have F:(2:Nat)^(j+1)=2*2^j:=by rw[Nat.pow_succ,Nat.mul_comm]
 have M:(2:Nat)^(j+1+1)=2*(2*2^j):=by rw[Nat.pow_succ,F,Nat.mul_comm]
 have ht:(if bX N*bX N=N then 0 else 1)<=1:=by split<;>omega
 have l:(if bX N*bX N=N then 0 else 1)=0↔bX N*bX N=N:=by split<;>simp_all
 unfold io Fu rS;rw[M,F];generalize (2:Nat)^j=g at*;generalize (if bX N*bX N=N then 0 else 1)=t at*;generalize bX N=q at*;have G:=Nat.div_add_mod q (2*g);have ha:=Nat.mod_lt q (show 0<2*g by omega);generalize Q:q%(2*g)=a at*;generalize U:q/(2*g)=b at*;have H:(2*q+t)/(2*(2*g))=b:=by
  rw[<-G,Nat.mul_add,<-Nat.mul_assoc 2 (2*g) b,Nat.add_assoc];rw[Nat.mul_add_div (by omega),Nat.div_eq_of_lt (by omega),Nat.add_zero]
 have I:(2*q+t)%(2*(2*g))=2*a+t:=by
  rw[<-G,Nat.mul_add,<-Nat.mul_assoc 2 (2*g) b,Nat.add_assoc,Nat.mul_add_mod,Nat.mod_eq_of_lt (by omega)]
 rw[H,I]
 congr 1
 --half between two,as a square
 obtain⟨c,O⟩:∃c,c=2*g*b+g:=⟨_,rfl⟩;have J:(2*b+1)*(2*g)*((2*b+1)*(2*g))=4*(c*c):=by
  have:(2*b+1)*(2*g)=2*c:=by rw[O,Nat.add_mul,Nat.one_mul,Nat.mul_add];ac_rfl
  rw[this,show(4:Nat)=2*2 by decide]
  ac_rfl
 rw[J];clear J U Q H I;rcases Nat.lt_trichotomy a g with h|h|h
 ·have D:(q+1)*(q+1)<=c*c:=Mz (by omega)
  rw[if_neg (by omega),if_neg (by omega)]
 ·have D:c=q:=by omega
  subst D
  by_cases K:c*c=N
  ·have:=l.2 K
   by_cases L:b%2=1
   ·rw[if_pos (Or.inr ⟨by omega,L⟩),if_pos (Or.inr ⟨by omega,L⟩)]
   ·rw[if_neg (by omega),if_neg (by omega)]
  ·have:t≠0:=fun e=>K (l.1 e)
   rw[if_pos (Or.inl (by omega)),if_pos (Or.inl (by omega))]
 ·have D:c*c<q*q:=MA (by omega)
  rw[if_pos (Or.inl (by omega)),if_pos (Or.inl (by omega))]
theorem PK(N i:Nat)(M:0<bX N):bl (rS (N*(2^i*2^i)))=bl (rS N)+i:=by
 have t:0<2^i:=Nat.two_pow_pos _;have G:rS N≠0:=by unfold rS;omega
 obtain⟨Z,D,l⟩:=cC (rS N) G;have O:2<=rS N:=by unfold rS;omega
 have H:2<=bl (rS N):=by
  rcases Nat.lt_or_ge (bl (rS N)) 2 with h|h
  ·have:bl (rS N)=1:=by omega
   rw[this]at l;omega
  ·exact h
 obtain⟨c,L⟩:∃c,bl (rS N)=c+2:=⟨bl (rS N)-2,by omega⟩;rw[L]at D l⊢;have I:(if bX N*bX N=N then 0 else 1)<=1:=by split<;>omega
 have J:2^c<=bX N:=by
  rw[show c+2-1=c+1 by omega,Nat.pow_succ]at D;unfold rS at D;omega
 have K:bX N<2^(c+1):=by
  rw[Nat.pow_succ]at l;unfold rS at l;omega
 have F:=oS N (2^i) t;have Q:2^(c+i)<=bX (N*(2^i*2^i)):=by
  rw[Nat.pow_add,<-Nat.le_div_iff_mul_le t,F];exact J
 have U:bX (N*(2^i*2^i))<2^(c+1+i):=by
  rw[Nat.pow_add,<-Nat.div_lt_iff_lt_mul t,F];exact K
 refine vL (by omega) ?_ ?_
 ·rw[show c+2+i-1=c+i+1 by omega,Nat.pow_succ]
  unfold rS;omega
 ·rw[show c+2+i=c+1+i+1 by omega,Nat.pow_succ]
  unfold rS;have I:(if bX (N*(2^i*2^i))*bX (N*(2^i*2^i))=N*(2^i*2^i)then 0 else 1)<=1:=by split<;>omega
  omega
theorem NJ{N:Nat}(D:9007199254740992<=bX N):55<=bl (rS N):=by
 have l:rS N≠0:=by unfold rS;omega
 obtain⟨F,G,t⟩:=cC (rS N) l;have h:2^54<=rS N:=by
  have:(2:Nat)^54=2*9007199254740992:=by decide
  rw[this];unfold rS;omega
 have:=dE (Nat.lt_of_le_of_lt h t);omega
theorem uD(N i:Nat)(E:Int)(G:9007199254740992<=bX N):
  cU (rS (N*(2^i*2^i))) (E-i)=cU (rS N) E/\aP (rS (N*(2^i*2^i))) (E-i)=aP (rS N) E/\(bl (rS (N*(2^i*2^i))):Int)+(E-i)=(bl (rS N):Int)+E/\E+2<=aP (rS N) E:=by
 have t:=PK N i (by omega);have H:=NJ G;have I:rS N≠0:=by unfold rS;omega
 have D:rS (N*(2^i*2^i))≠0:=fun h=>by
  rw[h]at t;have:bl 0=0:=rfl;omega
 have F:aP (rS (N*(2^i*2^i))) (E-i)=aP (rS N) E:=by unfold aP;rw[t];omega
 have l:(bl (rS (N*(2^i*2^i))):Int)+(E-i)=(bl (rS N):Int)+E:=by rw[t];omega
 have J:E+2<=aP (rS N) E:=by have:=(dk (rS N) E).2.1;omega
 refine⟨?_,F,l,J⟩;have K:gO (rS (N*(2^i*2^i))) (E-i)=gO (rS N) E:=by
  unfold gO;rw[F];obtain⟨k,L⟩:∃k:Nat,aP (rS N) E=E+k+1/\1<=k:=⟨(aP (rS N) E-E-1).toNat,by omega,by omega⟩;rw[show E-i-aP (rS N) E= -((k+i+1:Nat):Int) by omega,show E-aP (rS N) E= -((k+1:Nat):Int) by omega];rw[gi _ _ (by omega),gi _ _ (by omega),Fv _ _ (by omega),Fv _ _ (by omega)];exact zc _ _ _
 unfold cU;rw[if_neg I,if_neg D,l,K,F]
theorem NK(N i:Nat):bX (N*(2^i*2^i))*bX (N*(2^i*2^i))=N*(2^i*2^i)↔bX N*bX N=N:=by
 have l:0<2^i:=Nat.two_pow_pos _;have F:0<2^i*2^i:=Nat.mul_pos l l
 constructor
 ·intro h
  have t:=oS N (2^i) l;generalize O:bX (N*(2^i*2^i))=R at*
  --2^i goes into R,since its square goes into R's
  have H:∀(n a:Nat),(2^n*2^n)∣a*a->2^n∣a:=by
   intro n
   induction n with
   |zero=>intro a _;simp
   |succ n ih=>
    intro a G;have L:2∣a*a:=Nat.dvd_trans ⟨2^n*2^(n+1),by rw[Nat.pow_succ];ac_rfl⟩ G;have M:a%2=0:=by
     rcases Nat.mod_two_eq_zero_or_one a with h|h
     ·exact h
     ·exfalso
      have:a*a%2=1:=by rw[Nat.mul_mod,h]
      omega
    obtain⟨b,rfl⟩:∃b,a=2*b:=⟨a/2,by omega⟩;have I:2^n*2^n∣b*b:=by
     obtain⟨c,D⟩:=G;refine⟨c,?_⟩;have:4*(b*b)=4*(2^n*2^n*c):=by
      have J:2*b*(2*b)=4*(b*b):=by rw[show(4:Nat)=2*2 by decide];ac_rfl
      have K:2^(n+1)*2^(n+1)*c=4*(2^n*2^n*c):=by rw[Nat.pow_succ,show(4:Nat)=2*2 by decide];ac_rfl
      rw[<-J,D,K]
     omega
    obtain⟨d,t⟩:=ih b I;exact⟨d,by rw[t,Nat.pow_succ];ac_rfl⟩
  obtain⟨c,D⟩:=H i R ⟨N,by rw[h];ac_rfl⟩;rw[D,Nat.mul_div_cancel_left c l]at t;rw[<-t];have:c*c*(2^i*2^i)=N*(2^i*2^i):=by rw[<-h,D];ac_rfl
  exact Nat.eq_of_mul_eq_mul_right F this
 ·intro h
  have:bX (N*(2^i*2^i))=bX N*2^i:=by
   refine kh ?_ ?_
   ·rw[mO,h];exact Nat.le_refl _
   ·have:=ig (bX N*2^i)
    rw[mO,h]at this;omega
  rw[this,mO,h]
theorem A9(N i:Nat)(E:Int)(I:9007199254740992<=bX N):
  cD (oM (rS (N*(2^i*2^i)):Nat)).natAbs (oE (rS (N*(2^i*2^i)):Nat) (E-i))=cD (oM (rS N:Nat)).natAbs (oE (rS N:Nat) E):=by
 obtain⟨O,Q,U,Z⟩:=uD N i E I;have t:=NK N i
 by_cases l:bX N*bX N=N
 ·have F:=t.2 l
  have J:bX (N*(2^i*2^i))=bX N*2^i:=by
   refine kh ?_ ?_
   ·rw[mO,l];exact Nat.le_refl _
   ·have:=ig (bX N*2^i)
    rw[mO,l]at this;omega
  have e:rS (N*(2^i*2^i))=rS N*2^i:=by
   unfold rS;rw[if_pos l,if_pos F,J,Nat.add_zero,Nat.add_zero,Nat.mul_assoc]
  have K:((rS (N*(2^i*2^i)):Nat):Int)=((rS N:Nat):Int)*2^i:=by rw[e,Int.natCast_mul,Int.natCast_pow];rfl
  have:=iy ((rS N:Nat):Int) i (E-i);rw[K,this.1,this.2,show E-(i:Int)+i=E by omega]
 ·have F:¬bX (N*(2^i*2^i))*bX (N*(2^i*2^i))=N*(2^i*2^i):=fun h=>l (t.1 h)
  have G:((rS N:Nat):Int)%2=1:=by unfold rS;rw[if_neg l];omega
  have H:((rS (N*(2^i*2^i)):Nat):Int)%2=1:=by unfold rS;rw[if_neg F];omega
  have z1:∀(v:Nat) (e:Int),(v:Int)%2=1->oM (v:Int)=v/\oE (v:Int) e=e:=fun v e h=>by
   have D:(v:Int)≠0:=by omega
   have a:=(gN (v:Int) D).unique (m':=(v:Int)) (k':=0) ⟨by simp,h⟩;exact⟨a.1,by rw[dc _ _ D,a.2];simp⟩
  rw[(z1 _ (E-i) H).1,(z1 _ (E-i) H).2,(z1 _ E G).1,(z1 _ E G).2,Int.natAbs_natCast,Int.natAbs_natCast];have L:rS N≠0:=by omega
  have M:rS (N*(2^i*2^i))≠0:=by omega
  unfold cD;rw[if_neg L,if_neg M,U,Q,O,if_neg (show¬aP (rS N) E<=E-i by omega),if_neg (show¬aP (rS N) E<=E by omega)]
open Go.RowKit
theorem Fw(m k p D α l:Nat)(t F:Int)(H:m*2^k=D*2^α)(M:2*t=(k:Int)-1074-p)(N:2*F=(α:Int)-1074-l)(I:9007199254740992<=bX (m*2^p))(J:9007199254740992<=bX (D*2^l)):
  cU (rS (m*2^p)) (t-1)=cU (rS (D*2^l)) (F-1)/\cD (oM (rS (m*2^p):Nat)).natAbs (oE (rS (m*2^p):Nat) (t-1))=cD (oM (rS (D*2^l):Nat)).natAbs (oE (rS (D*2^l):Nat) (F-1)):=by
 have G:∀(m k p D α l i:Nat),m*2^k=D*2^α->p+2*i+α=k+l->m*2^p*(2^i*2^i)=D*2^l:=by
  intro m k p D α l i H K;have L:0<2^α:=Nat.two_pow_pos _;refine Nat.eq_of_mul_eq_mul_right L ?_;rw[<-Nat.pow_add,Nat.mul_assoc,Nat.mul_assoc,<-Nat.pow_add,<-Nat.pow_add,show p+(i+i+α)=k+l by omega,Nat.pow_add,<-Nat.mul_assoc,H]
  ac_rfl
 rcases Int.le_total F t with h|h
 ·obtain⟨i,K⟩:∃i:Nat,t-F=i:=⟨(t-F).toNat,by omega⟩
  have e:=G m k p D α l i H (by omega);have s:=uD (m*2^p) i (t-1) I;have f:=A9 (m*2^p) i (t-1) I;rw[e,show t-1-(i:Int)=F-1 by omega]at s f;exact⟨s.1.symm,f.symm⟩
 ·obtain⟨i,K⟩:∃i:Nat,F-t=i:=⟨(F-t).toNat,by omega⟩
  have e:=G D α l m k p i H.symm (by omega);have s:=uD (D*2^l) i (F-1) J;have f:=A9 (D*2^l) i (F-1) J;rw[e,show F-1-(i:Int)=t-1 by omega]at s f;exact⟨s.1,f⟩
def tS(a:Nat):Nat:=rS (rv (fR a)*2^120)
def tV(a:Nat):Nat:=cU (tS a) (-598)
def tF(a:Nat):Int:=cD (oM (tS a:Nat)).natAbs (oE (tS a:Nat) (-598))
def sV(a:Nat):Nat:=
 if fK a=4 then 9221120237041090560
 else if fK a=0\/a=9218868437227405312 then a
 else if fS a=true then 9221120237041090560
 else tV a
def sF(a:Nat):Int:=
 if fK a=4 then 0
 else if fK a=0\/a=9218868437227405312 then 0
 else if fS a=true then 16
 else tF a
theorem Fx{N:Nat}(h:2^106<=N):9007199254740992<=bX N:=by
 obtain⟨l,t⟩:=cZ N;have e:(9007199254740992:Nat)*9007199254740992=2^106:=by decide
 have:9007199254740992<bX N+1:=fu.1 (by omega);omega
theorem NM(a:Nat)(h:fK a≠0):9007199254740992<=bX (rv (fR a)*2^120):=by
 have l:rv (fR a)≠0:=fun e=>h ((dY a).2 ((oQ _).1 e))
 refine Fx (Nat.le_trans (show 2^106<=1*2^120 by decide) (Nat.mul_le_mul_right _ (by omega)))
theorem Fy(a m k p:Nat)(e:Int)(h:fK a≠0)(l:m*2^k=rv (fR a))(t:2*e=(k:Int)-1074-p)(D:9007199254740992<=bX (m*2^p)):
  cU (rS (m*2^p)) (e-1)=tV a/\cD (oM (rS (m*2^p):Nat)).natAbs (oE (rS (m*2^p):Nat) (e-1))=tF a:=by
 have:=Fw m k p (rv (fR a)) 0 120 e (-597) (by rw[l];simp) t (by omega) D (NM a h);exact this
theorem PL(a:Nat):tV a<=9218868437227405312:=ej _ _
theorem MC(a:Nat)(l:a<18446744073709551616):sV a<18446744073709551616:=by
 have h:=PL a;unfold sV
 repeat' split
 all_goals omega
theorem QZ:cU (2^61) (-598)=486*4503599627370496:=by decide+kernel
theorem PM:cU (2^1110) (-598)=1535*4503599627370496:=by decide+kernel
theorem PN:(2:Nat)^60*2^60=1*2^120:=by decide
theorem JJ:(2:Nat)^1109*2^1109=2^2098*2^120:=by decide+kernel
theorem Fz(a:Nat)(l:fK a≠0):2^60<=bX (rv (fR a)*2^120)/\2^61<=tS a:=by
 have G:rv (fR a)≠0:=fun e=>l ((dY a).2 ((oQ _).1 e))
 have t:1*2^120<=rv (fR a)*2^120:=Nat.mul_le_mul_right _ (by omega);obtain⟨H,F⟩:=cZ (rv (fR a)*2^120);have h:2^60<bX (rv (fR a)*2^120)+1:=fu.1 (by rw[PN];exact Nat.lt_of_le_of_lt t F);refine⟨Nat.le_of_lt_succ h,?_⟩;have D:=Nat.le_of_lt_succ h;have e:(2:Nat)^61=2*2^60:=by decide
 unfold tS rS;rw[e];exact Nat.le_trans (Nat.mul_le_mul_left 2 D) (Nat.le_add_right _ _)
theorem NP{V P c R:Nat}(h:V<P)(l:0<c)(t:R*R=P*c):bX (V*c)<R:=by
 obtain⟨D,F⟩:=cZ (V*c);have:V*c<P*c:=(Nat.mul_lt_mul_right l).2 h;exact fu.1 (by rw[t];omega)
theorem JK{V:Nat}(h:V<2^2098):bX (V*2^120)<2^1109:=by
 have l:=JJ;have t:=Nat.two_pow_pos 120;generalize (2:Nat)^1109=R at*;generalize (2:Nat)^2098=P at*;generalize (2:Nat)^120=c at*;exact NP h t l
theorem PO:(2:Nat)^1110=2^1109*2:=by decide+kernel
theorem PS{N P:Nat}(h:bX N<P):rS N<=P*2:=by
 unfold rS;have l:(if bX N*bX N=N then 0 else 1)<=1:=by split<;>omega
 omega
theorem FA(a:Nat)(l:ah a=true)(t:fK a≠0):486*4503599627370496<=tV a/\tV a<=1535*4503599627370496:=by
 have h:=ew a l;rw[ie]at h;have D:=JK h;have F:tS a<=2^1110:=by
  rw[PO];generalize (2:Nat)^1109=R at*;exact PS D
 refine⟨?_,?_⟩
 ·rw[<-QZ];exact nA _ (Fz a t).2
 ·rw[<-PM];exact nA _ F
theorem wF(a:Nat)(h:fS a=false)(l:a<18446744073709551616):fR a=a:=by
 have:=of_decide_eq_false h;unfold fR;omega
theorem tR(a:Nat)(h:fS a=true)(l:a<18446744073709551616):fR a=fN a:=by
 have:=of_decide_eq_true h;unfold fR fN;rw[if_pos this];omega
theorem rl(a:Nat)(w:World)(l:a<18446744073709551616):
  BS 102 #[CI a] w (CI (fR a:Nat)):=by
 have t:=ac (fun D=>gD a D l);have F:=ac (fun D=>iZ a D l)
 cases hs:fS a
 ·rw[hs]at t
  rw[wF a hs l];clear hs l F
  go_enter Tryz.func102,Tryz.ntmps102
  go_wp2_with fail;refine(uH t _).mono ?_;rintro e G ⟨rfl,h⟩;clear t
  go_wp2
  go_ret
  exact⟨rfl,h⟩
 ·rw[hs]at t
  rw[tR a hs l];clear hs l;generalize fN a=q at*
  go_enter Tryz.func102,Tryz.ntmps102
  go_wp2_with fail;refine(uH t _).mono ?_;rintro e G ⟨rfl,h⟩;clear t;go_wp2_with fail;refine(uH F _).mono ?_;rintro e H ⟨rfl,rfl⟩;clear F
  go_wp2
  go_ret
  exact⟨rfl,h⟩
def pl(a:Nat):Int:=if fS a=true then-(fR a:Int)else(fR a:Int)
theorem FB(a r:Nat)(s:Bool)(w:World)(M:r<9223372036854775808)
  (I:∀l,BS 102 #[CI a] l (CI (r:Nat)))
  (J:∀l,BS 161 #[CI a] l (.bool s)):
  BS 199 #[CI a] w (C0 (if s=true then-(r:Int)else(r:Int))):=by
 have F:=ac I;have G:=ac J;have N:IntKind.i64.wrap (r:Int)=(r:Int):=by simp only[IntKind.wrap_i64];omega
 have O:IntKind.i64.wrap (-(r:Int))= -(r:Int):=by simp only[IntKind.wrap_i64];omega
 clear I J
 cases s
 ·go_enter Tryz.func199,Tryz.ntmps199
  go_wp2_with fail;refine(uH F _).mono ?_;rintro e K ⟨rfl,h⟩;have D:=ac h;clear F h;go_wp2_with fail;refine(uH G _).mono ?_;rintro e L ⟨rfl,h⟩;have H:=ac ((uH D).trans (h.mono (uH D).size));clear G h
  go_wp2
  go_ret
  exact⟨rfl,uH H⟩
 ·go_enter Tryz.func199,Tryz.ntmps199
  go_wp2_with fail;refine(uH F _).mono ?_;rintro e K ⟨rfl,h⟩;have D:=ac h;clear F h;go_wp2_with fail;refine(uH G _).mono ?_;rintro e L ⟨rfl,h⟩;have H:=ac ((uH D).trans (h.mono (uH D).size));clear G h
  go_wp2
  go_ret
  exact⟨rfl,uH H⟩
theorem tT(a:Nat)(w:World)(l:a<18446744073709551616):
  BS 199 #[CI a] w (C0 (pl a)):=
 FB a (fR a) (fS a) w (kL a) (fun h=>rl a h l) (fun h=>gD a h l)
theorem mP(a:Int)(w:World):GF 230 #[C0 a] w fun e h=>e=.returned (.bool false)/\w=h:=by
 go_enter Tryz.func230,Tryz.ntmps230
 go_wp2
 go_ret
 exact⟨rfl,rfl⟩
theorem FC(a b:Int)(w:World):GF 198 #[C0 a,C0 b] w fun e l=>e=.returned (C0 (bY a b))/\w=l:=by
 have t:Hid (bY a b=if a<b then-1 else if b<a then 1 else 0):=rfl;generalize bY a b=c at*;rcases(show a<b\/b<a\/a=b by omega)with h|h|h
 ·go_enter Tryz.func198,Tryz.ntmps198
  go_wp2_with(go_at_call 230;refine(mP _ _).mono ?_;rintro e l ⟨rfl,rfl⟩)
  go_ret
  exact⟨bh (by rw[t.out];simp[h]),rfl⟩
 ·have D:¬a<b:=by omega
  go_enter Tryz.func198,Tryz.ntmps198
  go_wp2_with(go_at_call 230;refine(mP _ _).mono ?_;rintro e l ⟨rfl,rfl⟩)
  go_ret
  exact⟨bh (by rw[t.out];simp[h,D]),rfl⟩
 ·subst h
  go_enter Tryz.func198,Tryz.ntmps198
  go_wp2_with(go_at_call 230;refine(mP _ _).mono ?_;rintro e l ⟨rfl,rfl⟩)
  go_ret
  exact⟨bh (by rw[t.out];simp),rfl⟩
def cO(a b:Nat):Int:=if fK a=4\/fK b=4 then 0 else bY (fZ a) (fZ b)
def cB(a b:Nat):Bool:=if fK a=4\/fK b=4 then false else true
theorem uE{r s:Nat}(h:r<s):rv r<rv s:=Nat.lt_of_lt_of_le (um r) (j0 h)
theorem zd{r:Nat}(h:0<r):0<rv r:=by have:=uE h;rw[gp]at this;exact this
theorem jN{a b:Int}(h:a<b):bY a b= -1:=by unfold bY;rw[if_pos h]
theorem jO{a b:Int}(h:b<a):bY a b=1:=by unfold bY;rw[if_neg (by omega),if_pos h]
theorem kO{a b:Int}(h:a=b):bY a b=0:=by unfold bY;rw[if_neg (by omega),if_neg (by omega)]
theorem wG{n m:Bool}{r s:Nat}(h:(if n=true then-(r:Int)else(r:Int))<(if m=true then-(s:Int)else(s:Int))):pv n r<pv m s:=by
 have z:rv 0=0:=gp;have l:r<s->rv r<rv s:=uE;have t:s<r->rv s<rv r:=uE;have D:0<r->0<rv r:=zd;have p2:0<s->0<rv s:=zd;unfold pv
 cases n<;>cases m<;>simp only[if_true,if_false,Bool.false_eq_true]at h⊢<;>omega
theorem NQ(a b:Nat):bY (pl a) (pl b)=bY (fZ a) (fZ b):=by
 have l:pl a<pl b->fZ a<fZ b:=fun h=>wG h
 have t:pl b<pl a->fZ b<fZ a:=fun h=>wG h
 rcases(show pl a<pl b\/pl b<pl a\/pl a=pl b by omega)with h|h|h
 ·rw[jN h,jN (l h)]
 ·rw[jO h,jO (t h)]
 ·have D:fZ a=fZ b:=by
   unfold pl at h;unfold fZ pv
   cases ha:fS a<;>cases hb:fS b<;>rw[ha,hb]at h<;>simp only[if_true,if_false,Bool.false_eq_true]at h⊢
   ·rw[show fR a=fR b by omega]
   ·rw[show fR a=0 by omega,show fR b=0 by omega,gp];rfl
   ·rw[show fR a=0 by omega,show fR b=0 by omega,gp];rfl
   ·rw[show fR a=fR b by omega]
  rw[kO h,kO D]
theorem FG(a b:Nat)(w:World)
  (D:∀h,BS 164 #[CI a] h (C0 4)):
  BS 160 #[CI a,CI b] w (.tuple #[C0 0,.bool false]):=by
 have F:=ac D;clear D
 go_enter Tryz.func160,Tryz.ntmps160
 go_wp2_with fail;refine(uH F _).mono ?_;rintro e G ⟨rfl,t⟩;clear F
 go_wp2
 exact bodyPost_ret (v:=.tuple #[C0 0,.bool false]) (by simp[results,Tryz.results160,go_sem]) rfl ⟨rfl,t⟩
theorem FH(a b:Nat)(D:Int)(w:World)(L:(D==4)=false)
  (F:∀l,BS 164 #[CI a] l (C0 D))
  (G:∀l,BS 164 #[CI b] l (C0 4)):
  BS 160 #[CI a,CI b] w (.tuple #[C0 0,.bool false]):=by
 have H:=ac F;have I:=ac G;clear F G
 go_enter Tryz.func160,Tryz.ntmps160
 go_wp2_with fail;refine(uH H _).mono ?_;rintro e M ⟨rfl,h⟩;clear H;have J:=ac h;clear h;go_wp2_with fail;refine(uH I _).mono ?_;rintro e N ⟨rfl,h⟩;have K:=ac ((uH J).trans (h.mono (uH J).size));clear h I
 go_wp2
 exact bodyPost_ret (v:=.tuple #[C0 0,.bool false]) (by simp[results,Tryz.results160,go_sem]) rfl ⟨rfl,uH K⟩
theorem JL(a b:Nat)(D F x y o:Int)(w:World)(h4:(D==4)=false)(g4:(F==4)=false)
  (G:∀l,BS 164 #[CI a] l (C0 D))
  (H:∀l,BS 164 #[CI b] l (C0 F))
  (I:∀l,BS 199 #[CI a] l (C0 x))
  (J:∀l,BS 199 #[CI b] l (C0 y))
  (K:∀l,GF 198 #[C0 x,C0 y] l fun r t=>r=.returned (C0 o)/\l=t):
  BS 160 #[CI a,CI b] w (.tuple #[C0 o,.bool true]):=by
 have L:=ac G;have M:=ac H;have N:=ac I;have O:=ac J;have Q:=ac K;clear G H I J K
 go_enter Tryz.func160,Tryz.ntmps160
 go_wp2_with fail;refine(uH L _).mono ?_;rintro e w1 ⟨rfl,h⟩;have U:=ac h;clear h L;go_wp2_with fail;refine(uH M _).mono ?_;rintro e w2 ⟨rfl,h⟩;have Z:=ac ((uH U).trans (h.mono (uH U).size));clear h M;go_wp2_with fail;refine(uH N _).mono ?_;rintro e w3 ⟨rfl,h⟩;have B3:=ac ((uH Z).trans (h.mono (uH Z).size));clear h N;go_wp2_with fail;refine(uH O _).mono ?_;rintro e w4 ⟨rfl,h⟩;have B4:=ac ((uH B3).trans (h.mono (uH B3).size));clear h O;go_wp2_with fail;refine(uH Q _).mono ?_;rintro e w5 ⟨rfl,rfl⟩;clear Q
 go_wp2
 exact bodyPost_ret (v:=.tuple #[C0 o,.bool true]) (by simp[results,Tryz.results160,go_sem]) rfl ⟨rfl,uH B4⟩
theorem rm(a b:Nat)(w:World)(H:a<18446744073709551616)(I:b<18446744073709551616):
  BS 160 #[CI a,CI b] w (.tuple #[C0 (cO a b),.bool (cB a b)]):=by
 have F:=fun l=>dp a l H
 have G:=fun l=>dp b l I
 unfold cO cB
 by_cases t:fK a=4
 ·rw[if_pos (Or.inl t),if_pos (Or.inl t)]
  rw[t]at F;exact FG a b w F
 by_cases D:fK b=4
 ·rw[if_pos (Or.inr D),if_pos (Or.inr D)]
  rw[D]at G;exact FH a b _ w (by simp[t]) F G
 have h:¬(fK a=4\/fK b=4):=fun h=>h.elim t D
 rw[if_neg h,if_neg h,<-NQ];exact JL a b _ _ _ _ _ w (by simp[t]) (by simp[D]) F G (fun l=>tT a l H) (fun l=>tT b l I) (fun l=>FC _ _ l)
theorem qe(a b:Nat)(o:Int)(t l q:Bool)(w:World)(I:(o=0/\t=false/\l=false/\q=false)\/(o= -1/\t=true/\l=true/\q=false)\/(o=0/\t=true/\l=false/\q=true)\/(o=1/\t=true/\l=false/\q=false))
  (G:∀h,BS 160 #[CI a,CI b] h (.tuple #[C0 o,.bool t])):
  BS 101 #[CI a,CI b] w (.bool l):=by
 have H:=ac G;clear G;rcases I with⟨rfl,rfl,rfl,rfl⟩|⟨rfl,rfl,rfl,rfl⟩|⟨rfl,rfl,rfl,rfl⟩|⟨rfl,rfl,rfl,rfl⟩
 all_goals
  go_enter Tryz.func101,Tryz.ntmps101
  go_wp2_with fail;refine(uH H _).mono ?_;rintro e J ⟨rfl,F⟩;clear H
  go_wp2
  go_ret
  exact⟨rfl,F⟩
def cM(a b:Nat)(l t:Bool):Nat:=if t=false then 9221120237041090560 else if l=true then b else a
theorem NT(a b:Nat)(o:Int)(t l q:Bool)(w:World)(I:(o=0/\t=false/\l=false/\q=false)\/(o= -1/\t=true/\l=true/\q=false)\/(o=0/\t=true/\l=false/\q=true)\/(o=1/\t=true/\l=false/\q=false))
  (G:∀h,BS 160 #[CI a,CI b] h (.tuple #[C0 o,.bool t])):
  BS 158 #[CI a,CI b] w (CI (cM a b l t:Nat)):=by
 have H:=ac G;clear G;unfold cM;rcases I with⟨rfl,rfl,rfl,rfl⟩|⟨rfl,rfl,rfl,rfl⟩|⟨rfl,rfl,rfl,rfl⟩|⟨rfl,rfl,rfl,rfl⟩
 all_goals
  simp only[if_true,if_false,Bool.false_eq_true,Bool.true_eq_false]
  go_enter Tryz.func158,Tryz.ntmps158
  go_wp2_with fail;refine(uH H _).mono ?_;rintro e J ⟨rfl,F⟩;clear H
  go_wp2
  go_ret
  exact⟨rfl,F⟩
theorem JM(a b:Nat)(o:Int)(t l q:Bool)(w:World)(I:(o=0/\t=false/\l=false/\q=false)\/(o= -1/\t=true/\l=true/\q=false)\/(o=0/\t=true/\l=false/\q=true)\/(o=1/\t=true/\l=false/\q=false))
  (G:∀h,BS 143 #[CI a,CI b] h (.tuple #[C0 o,.bool t])):
  BS 141 #[CI a,CI b] w (CI (cM a b l t:Nat)):=by
 have H:=ac G;clear G;unfold cM;rcases I with⟨rfl,rfl,rfl,rfl⟩|⟨rfl,rfl,rfl,rfl⟩|⟨rfl,rfl,rfl,rfl⟩|⟨rfl,rfl,rfl,rfl⟩
 all_goals
  simp only[if_true,if_false,Bool.false_eq_true,Bool.true_eq_false]
  go_enter Tryz.func141,Tryz.ntmps141
  go_wp2_with fail;refine(uH H _).mono ?_;rintro e J ⟨rfl,F⟩;clear H
  go_wp2
  go_ret
  exact⟨rfl,F⟩
theorem FI(X y:Nat)(t:0<y):X*2/(2*y)=2*(X/(2*y))+(if y<=X%(2*y)then 1 else 0)/\X*2%(2*y)=2*(X%(2*y)-(if y<=X%(2*y)then y else 0)):=by
 have h:=Nat.div_add_mod X (2*y);have D:=Nat.mod_lt X (show 0<2*y by omega);generalize X/(2*y)=q at*;generalize X%(2*y)=r at*;have l:X*2=2*y*(2*q)+2*r:=by rw[<-h,Nat.add_mul,Nat.mul_assoc,Nat.mul_comm q 2,Nat.mul_comm r 2]
 by_cases c:y<=r
 ·rw[if_pos c,if_pos c]
  have e:X*2=2*y*(2*q+1)+2*(r-y):=by rw[Nat.mul_add,Nat.mul_one];omega
  rw[e];refine⟨?_,?_⟩
  ·rw[Nat.mul_add_div (by omega),Nat.div_eq_of_lt (by omega),Nat.add_zero]
  ·rw[Nat.mul_add_mod,Nat.mod_eq_of_lt (by omega)]
 ·rw[if_neg c,if_neg c]
  rw[l];refine⟨?_,?_⟩
  ·rw[Nat.mul_add_div (by omega),Nat.div_eq_of_lt (by omega),Nat.add_zero]
  ·rw[Nat.mul_add_mod,Nat.mod_eq_of_lt (by omega)];omega
def lQ(x y i:Nat):Nat:=x*2^i/(2*y)
def lR(x y i:Nat):Nat:=x*2^i%(2*y)
theorem NU(x y:Nat)(h:x<2*y):lQ x y 0=0/\lR x y 0=x:=by
 unfold lQ lR;rw[Nat.pow_zero,Nat.mul_one];exact⟨Nat.div_eq_of_lt h,Nat.mod_eq_of_lt h⟩
theorem NW(x y i:Nat)(h:0<y):lQ x y (i+1)=2*lQ x y i+(if y<=lR x y i then 1 else 0)/\lR x y (i+1)=2*(lR x y i-(if y<=lR x y i then y else 0)):=by
 have:=FI (x*2^i) y h;unfold lQ lR;rw[Nat.pow_succ,<-Nat.mul_assoc];exact this
theorem PT(x y i:Nat)(h:0<y):lR x y i<2*y:=Nat.mod_lt _ (by omega)
theorem FJ(x y i:Nat)(h:x<2*y):lQ x y i<2^i:=by
 unfold lQ;rw[Nat.div_lt_iff_lt_mul (by omega),Nat.mul_comm (2^i)];exact(Nat.mul_lt_mul_right (Nat.two_pow_pos i)).2 h
theorem MD(x y:Nat):dC (x*2^54) y=2*lQ x y 55+(if 0<lR x y 55 then 1 else 0):=by
 have e:x*2^55=2*(x*2^54):=by rw[show(2:Nat)^55=2*2^54 by decide];ac_rfl
 unfold dC lQ lR;rw[e,Nat.mul_div_mul_left _ _ (by decide),Nat.mul_mod_mul_left]
 congr 1
 by_cases c:x*2^54%y=0
 ·rw[if_pos c,c,if_neg (by omega)]
 ·rw[if_neg c,if_pos (by omega)]
def dS(b:Nat):Nat:=(fD b).natAbs*2^(53-bl (fD b).natAbs)
def dT(b:Nat):Int:=(bl (fD b).natAbs:Int)+fX b
theorem dJ(b:Nat)(J:b<18446744073709551616)(G:ah b=true)(K:fK b≠0):
  bl (fD b).natAbs<=53/\1<=bl (fD b).natAbs/\4503599627370496<=dS b/\dS b<9007199254740992/\-1074<=fX b/\fX b<=1024/\(fD b).natAbs%2=1/\(fD b).natAbs<9007199254740992:=by
 obtain⟨β,x1,O,Q,U⟩:=p9 b J G K;have h:(fD b).natAbs≠0:=by omega
 obtain⟨Z,b2,b3⟩:=cC _ h;have l:bl (fD b).natAbs<=53:=by
  have:(2:Nat)^(bl (fD b).natAbs-1)<2^53:=by rw[IF];omega
  have:=dE this;omega
 have L:=ny (fD b).natAbs (53-bl (fD b).natAbs) h;have t:bl (dS b)=53:=by unfold dS;rw[L];omega
 have D:dS b≠0:=by
  unfold dS;exact Nat.mul_ne_zero h (Nat.pos_iff_ne_zero.1 (Nat.two_pow_pos _))
 obtain⟨c1,I,F⟩:=cC _ D;rw[t]at I F;have H:=ew b G;rw[ie,O]at H;have M:β<2098:=by
  have N:2^β<=(fD b).natAbs*2^β:=Nat.le_mul_of_pos_left _ (by omega);exact dE (Nat.lt_of_le_of_lt N H)
 refine⟨l,Z,?_,?_,by omega,by omega,Q,U⟩
 ·exact I
 ·rw[IF]at F;exact F
def pS(a b:Nat):Nat:=dC (dS a*2^54) (dS b)
theorem FK(a b:Nat)(G:a<18446744073709551616)(H:b<18446744073709551616)(I:ah a=true)(J:ah b=true)(K:fK a≠0)(L:fK b≠0):
  cU (pS a b) (dT a-dT b-55)=qV a b/\cD (oM (pS a b:Nat)).natAbs (oE (pS a b:Nat) (dT a-dT b-55))=qF a b:=by
 obtain⟨x1,x2,x3,x4,x5,x6,x7,x8⟩:=dJ a G I K;obtain⟨y1,y2,y3,y4,y5,y6,Q,U⟩:=dJ b H J L;have t:=JI (fD a).natAbs (fD b).natAbs (by omega) U (by omega);obtain⟨u1,u2,u3⟩:=cC (fD a).natAbs (by omega);obtain⟨v1,v2,v3⟩:=cC (fD b).natAbs (by omega);unfold pS qV qF qS dS dT;generalize (fD a).natAbs=h at*;generalize (fD b).natAbs=l at*;have M:h*2^(53-bl h)*2^54=h*2^(54-bl h+bl l)*2^(53-bl l):=by
  rw[Nat.mul_assoc,<-Nat.pow_add,Nat.mul_assoc,<-Nat.pow_add]
  congr 2
  omega
 have D:54-bl h+bl l=54+bl l-bl h:=by omega
 rw[M,Fr];have F:9007199254740992<=h*2^(54-bl h+bl l)/l:=by
  rw[Nat.le_div_iff_mul_le (by omega)];have Z:9007199254740992*l<=2^53*2^bl l:=by rw[IF];exact Nat.mul_le_mul_left _ (by omega)
  have h2:(2:Nat)^53*2^bl l<=2^(bl h-1)*2^(54-bl h+bl l):=by
   rw[<-Nat.pow_add,<-Nat.pow_add];exact jn (by omega)
  have h3:2^(bl h-1)*2^(54-bl h+bl l)<=h*2^(54-bl h+bl l):=Nat.mul_le_mul_right _ u2;omega
 have N:(bl h:Int)+fX a-((bl l:Int)+fX b)-55=(fX a-fX b-1)-(54-bl h+bl l:Nat):=by omega
 have O:fX a-fX b-181=(fX a-fX b-1)-(180:Nat):=by omega
 rw[N,O];exact⟨JH h l _ 180 _ (by omega) F t,uC h l _ 180 _ Q F t⟩
theorem FL(a b:Nat)(l:a<18446744073709551616)(t:b<18446744073709551616)(D:ah a=true)(F:ah b=true)(G:fK a≠0)(H:fK b≠0):pS a b≠0/\pS a b<144115188075855872/\dS a<2*dS b:=by
 obtain⟨M,N,O,Q,U,Z,x7,x8⟩:=dJ a l D G;obtain⟨y1,y2,y3,y4,y5,y6,y7,y8⟩:=dJ b t F H;have h:=MD (dS a) (dS b);have I:=FJ (dS a) (dS b) 55 (by omega);have J:(2:Nat)^55=36028797018963968:=by decide
 have K:(if 0<lR (dS a) (dS b) 55 then 1 else 0)<=1:=by split<;>omega
 refine⟨?_,?_,by omega⟩
 ·have:1<=dS a*2^54/dS b:=by
   rw[Nat.le_div_iff_mul_le (by omega),Nat.one_mul];have:dS a*1<=dS a*2^54:=Nat.mul_le_mul_left _ (by decide);have L:dS a*2<=dS a*2^54:=Nat.mul_le_mul_left _ (by decide);omega
  unfold pS dC;omega
 ·show dC (dS a*2^54) (dS b)<_
  rw[h];omega
theorem Ba(b:Nat)(h:fK b≠0):fZ b≠0/\decide (fZ b<0)=fS b:=by
 have l:fR b≠0:=fun e=>h ((dY b).2 e)
 have t:0<rv (fR b):=zd (by omega);unfold fZ pv
 cases fS b
 ·simp only[Bool.false_eq_true,if_false]
  exact⟨by omega,decide_eq_false (by omega)⟩
 ·simp only[if_true]
  exact⟨by omega,decide_eq_true (by omega)⟩
theorem gf(a:Nat)(F:a<18446744073709551616)(D:ah a=true)(G:fK a≠0):
  fD a%2=1/\(fD a).natAbs<9007199254740992/\(fD a).natAbs≠0/\decide (fD a<0)=fS a/\-1074<=fX a/\fX a<=1024/\1<=bl (fD a).natAbs/\(bl (fD a).natAbs:Int)+fX a<=1024/\cU (rv (fR a)) (-1074)=cU (fD a).natAbs (fX a):=by
 obtain⟨β,J,H,x3,K⟩:=p9 a F D G;obtain⟨y1,L,y3,y4,M,N,y7,y8⟩:=dJ a F D G;obtain⟨O,d2⟩:=d7 a F D;obtain⟨n1,Q⟩:=Ba a G;have h:(fD a).natAbs≠0:=by omega
 have Z:bl (rv (fR a))=bl (fD a).natAbs+β:=by rw[H];exact ny _ _ h
 have l:=ew a D;rw[ie]at l;have t:rv (fR a)≠0:=by rw[<-ie];omega
 have I:bl (rv (fR a))<=2098:=by
  obtain⟨b1,U,b3⟩:=cC _ t;have:=dE (Nat.lt_of_le_of_lt U l);omega
 refine⟨by omega,K,h,?_,M,N,L,by omega,?_⟩
 ·rw[<-O,lL];exact Q
 ·rw[H,J,tC]
theorem uF(C:Int)(t:2098<C)(v:Nat)(E n:Int)(l:v≠0)(D:(bl v:Int)+E<=1024)(F:-1074<=(bl v:Int)+E):
  cU v (E+n)=cU v (E+max (-C) (min C n))/\cD v (E+n)=cD v (E+max (-C) (min C n)):=by
 rcases Int.lt_or_le C n with h|h
 ·have a:=ri l (E:=E+n) (by omega)
  have b:=ri l (E:=E+max (-C) (min C n)) (by omega);rw[a.1,a.2,b.1,b.2];exact⟨rfl,rfl⟩
 ·rcases Int.lt_or_le n (-C)with g|g
  ·have a:=A5 l (E:=E+n) (by omega)
   have b:=A5 l (E:=E+max (-C) (min C n)) (by omega);rw[a.1,a.2,b.1,b.2];exact⟨rfl,rfl⟩
  ·rw[show max (-C) (min C n)=n by omega]
   exact⟨rfl,rfl⟩
def xV(a:Nat)(n:Int):Nat:=if fK a=4 then 9221120237041090560 else if fK a=3\/fK a=0 then a else iJ (fS a) (cU (fD a).natAbs (fX a+n))
def xF(a:Nat)(n:Int):Int:=if fK a=4 then 0 else if fK a=3\/fK a=0 then 0 else cD (fD a).natAbs (fX a+n)
theorem Bb(a:Nat)(n:Int)(h:a<18446744073709551616):xV a n<18446744073709551616:=by
 unfold xV;have:=ej (fD a).natAbs (fX a+n)
 repeat' split
 ·decide
 ·exact h
 ·exact mN _ _ (by omega)
theorem FN(C:Int)(t:2098<C)(a:Nat)(n:Int)(D:a<18446744073709551616):xV a (max (-C) (min C n))=xV a n/\xF a (max (-C) (min C n))=xF a n:=by
 unfold xV xF
 by_cases h:fK a=4
 ·rw[if_pos h,if_pos h,if_pos h,if_pos h];exact⟨rfl,rfl⟩
 by_cases l:fK a=3\/fK a=0
 ·rw[if_neg h,if_neg h,if_neg h,if_neg h,if_pos l,if_pos l,if_pos l,if_pos l];exact⟨rfl,rfl⟩
 ·rw[if_neg h,if_neg h,if_neg h,if_neg h,if_neg l,if_neg l,if_neg l,if_neg l]
  obtain⟨z1,z2,F,H,I,J,K,G,L⟩:=gf a D (fO a (by omega) h) (by omega);have:=uF C t _ _ n F G (by omega);rw[this.1,this.2];exact⟨rfl,rfl⟩
theorem uG{D E:Int}(h:D%2=1)(l:-16384<=E/\E<=16384):sR D E=true:=by
 unfold sR;rw[if_neg (by omega),decide_eq_true h,decide_eq_true l];rfl
theorem Bc{D:Int}(h:D%2=1):oM D=D/\∀e,oE D e=e:=by
 have l:D≠0:=by omega
 have t:=g6 D l;have:=(gN D l).unique (m':=D) (k':=0) ⟨by simp,h⟩;refine⟨this.1,fun e=>?_⟩;rw[dc _ _ l,this.2];simp
theorem NY{D:Int}(h:D%2=1):tz D.natAbs=0:=by
 have l:D≠0:=by omega
 exact((gN D l).unique (m':=D) (k':=0) ⟨by simp,h⟩).2
theorem JN{w:World}{v:Value}{D X:Int}(n:Int)(F:aH w v D X)(h:D%2=1)(M:D.natAbs<9007199254740992)(N:-1074<=X/\X<=1024)(O:-5000<=n/\n<=5000)(G:cX w):
  GF 228 #[v,C0 n] w fun r t=>pG t r 0 D (X+n)/\H8 w t:=by
 obtain⟨H,ao,I,A,rfl,J,Q,K,U,L⟩:=F.right (df _ (by omega));have:=uA H ao I A X n w J (L.trans (uG h (by omega))) (by omega) G;have l:oK D (X+n)=true:=by
  unfold oK;rw[NY h,decide_eq_true (show-32768<=X+n/\X+n<=32768 by omega),decide_eq_true (show-16384<=X+n+((0:Nat):Int)/\X+n+((0:Nat):Int)<=16384 by omega),Bool.or_true];rfl
 rw[K]at this;unfold dU dM dX at this;rw[l,if_pos rfl,if_pos rfl,if_pos rfl,(Bc h).1,(Bc h).2]at this;exact this
theorem rn(a o:Nat)(n D X Y fl:Int)(w:World)(hT:cX w)
  (C1:∀t,cX t->GF 168 #[CI a] t fun r F=>pG F r 0 D X/\H8 t F)
  (C2:∀t v,cX t->aH t v D X->GF 228 #[v,C0 n] t fun r F=>pG F r 0 D Y/\H8 t F)
  (C3:∀t v,cX t->aH t v D Y->BS 229 #[v] t (.tuple #[CI (o:Nat),.int .u8 fl,C0 0])):
  BS 197 #[CI a,C0 n] w (.tuple #[CI (o:Nat),.int .u8 fl]):=by
 have K1:=ac C1;have K2:=ac C2;have K3:=ac C3;have HT:=ac hT;clear C1 C2 C3 hT
 go_enter Tryz.func197,Tryz.ntmps197
 go_wp2_with fail;refine(uH K1 _ (uH HT)).mono ?_;rintro e J ⟨⟨v,rfl,hv⟩,l⟩;obtain⟨N,O,Q,H,rfl,i1⟩:=hv;have h:H8 J (J.alloc (.cells #[.bool N,.slice O H.length Q,C0 X] 35)):=(Below.refl _ _).alloc (Nat.le_refl _) _;have HX:=ac ((show aH J (.agg #[.bool N,.slice O H.length Q,C0 X]) D X from⟨N,O,Q,H,rfl,i1⟩).below h);have L:=ac (l.trans (h.mono l.size));have G:=ar.new J (.bool N) (.slice O H.length Q) (C0 X);have y0:=G.c0;have y1:=G.c1;have y2:=G.c2;clear i1 l h K1 G;generalize H.length=l1 at*;go_wp2_with fail;refine(uH K2 _ _ ((uH HT).all (uH L)) (uH HX)).mono ?_;rintro e K ⟨⟨v,rfl,hv⟩,l⟩;obtain⟨U,Z,c2,I,rfl,i2⟩:=hv;have h:H8 K (K.alloc (.cells #[.bool U,.slice Z I.length c2,C0 Y] 35)):=(Below.refl _ _).alloc (Nat.le_refl _) _;have HY:=ac ((show aH K (.agg #[.bool U,.slice Z I.length c2,C0 Y]) D Y from⟨U,Z,c2,I,rfl,i2⟩).below h);have M:=ac ((uH L).trans ((l.trans (h.mono l.size)).mono (uH L).size));have G:=ar.new K (.bool U) (.slice Z I.length c2) (C0 Y);have z0:=G.c0;have z1:=G.c1;have z2:=G.c2;clear i2 l h K2 G y0 y1 y2 HX L;generalize I.length=l2 at*;go_wp2_with fail;refine(uH K3 _ _ ((uH HT).all (uH M)) (uH HY)).mono ?_;rintro e w3 ⟨rfl,l⟩;have B3:=ac ((uH M).trans (l.mono (uH M).size));clear l K3 M z0 z1 z2 HY
 go_wp2
 exact bodyPost_ret (v:=.tuple #[CI o,.int .u8 fl]) (by simp[results,Tryz.results197,go_sem]) rfl ⟨rfl,uH B3⟩
theorem pH(a:Nat)(n:Int)(w:World)(D:a<18446744073709551616)(F:ah a=true)(H:fK a≠0)(I:-5000<=n/\n<=5000)(J:cX w):
  BS 197 #[CI a,C0 n] w (.tuple #[CI (iJ (fS a) (cU (fD a).natAbs (fX a+n)):Nat),.int .u8 (cD (fD a).natAbs (fX a+n))]):=by
 obtain⟨z1,z2,L,K,M,N,O,Q,U⟩:=gf a D F H;have G:∀h v,cX h->aH h v (fD a) (fX a+n)->_:=fun h v t l=>kK l (df _ (by omega)) (uG z1 (by omega)) t
 rw[K]at G;exact rn a _ n (fD a) (fX a) (fX a+n) _ w J (fun h t=>fh a h D F t) (fun h v t l=>JN n l z1 z2 (by omega) I t) G
theorem JO(a:Nat)(n:Int)(w:World)
  (D:∀h,BS 164 #[CI a] h (C0 4)):
  BS 155 #[CI a,C0 n] w (.tuple #[CI 9221120237041090560,.int .u8 0]):=by
 have F:=ac D;clear D
 go_enter Tryz.func155,Tryz.ntmps155
 go_wp2_with fail;refine(uH F _).mono ?_;rintro e G ⟨rfl,t⟩;clear F
 go_wp2
 exact bodyPost_ret (v:=.tuple #[CI 9221120237041090560,.int .u8 0]) (by simp[results,Tryz.results155,go_sem]) rfl ⟨rfl,t⟩
theorem FO(a:Nat)(n k:Int)(w:World)(G:k=3\/k=0)
  (F:∀l,BS 164 #[CI a] l (C0 k)):
  BS 155 #[CI a,C0 n] w (.tuple #[CI (a:Nat),.int .u8 0]):=by
 have t:=ac F;clear F;rcases G with rfl|rfl
 ·go_enter Tryz.func155,Tryz.ntmps155
  go_wp2_with fail;refine(uH t _).mono ?_;rintro e H ⟨rfl,h⟩;clear t
  go_wp2
  exact bodyPost_ret (v:=.tuple #[CI (a:Nat),.int .u8 0]) (by simp[results,Tryz.results155,go_sem]) rfl ⟨rfl,h⟩
 ·go_enter Tryz.func155,Tryz.ntmps155
  go_wp2_with fail;refine(uH t _).mono ?_;rintro e H ⟨rfl,h⟩;clear t
  go_wp2
  exact bodyPost_ret (v:=.tuple #[CI (a:Nat),.int .u8 0]) (by simp[results,Tryz.results155,go_sem]) rfl ⟨rfl,h⟩
theorem nN(P:Program)(w:World)(h:Array TypeId)(t:TypeId)(x y:Int):(Builtin.min_ h t #[C0 x,C0 y]).run P w=.ok (C0 (min x y)) w:=by
 rw[run_min_int2]
 congr 2
 split<;>omega
theorem JP(a o:Nat)(n k m c G:Int)(w:World)(Q:(k==4)=false)(U:(k==3)=false)(Z:(k==0)=false)(I:cX w)
  (hM:∀W H t,(Builtin.max_ H t #[C0 n,C0 (-4096)]).run Tryz.prog W=.ok (C0 m) W)
  (hN:∀W H t,(Builtin.min_ H t #[C0 m,C0 4096]).run Tryz.prog W=.ok (C0 c) W)
  (J:∀l,BS 164 #[CI a] l (C0 k))
  (K:∀l,cX l->BS 197 #[CI a,C0 c] l (.tuple #[CI (o:Nat),.int .u8 G])):
  BS 155 #[CI a,C0 n] w (.tuple #[CI (o:Nat),.int .u8 G]):=by
 have L:=ac J;have M:=ac K;have N:=ac I;clear J K I
 go_enter Tryz.func155,Tryz.ntmps155
 go_wp2_with fail;refine(uH L _).mono ?_;rintro e w1 ⟨rfl,h⟩;have F:=ac h;clear L h;go_wp2_with fail;refine(uH M _ ((uH N).all (uH F))).mono ?_;rintro e w2 ⟨rfl,h⟩;have O:=ac ((uH F).trans (h.mono (uH F).size));clear M h F N
 go_wp2
 exact bodyPost_ret (v:=.tuple #[CI (o:Nat),.int .u8 G]) (by simp[results,Tryz.results155,go_sem]) rfl ⟨rfl,uH O⟩
theorem ze(a:Nat)(n:Int)(w:World)(G:a<18446744073709551616)(I:cX w):
  BS 155 #[CI a,C0 n] w (.tuple #[CI (xV a n:Nat),.int .u8 (xF a n)]):=by
 have F:=fun l=>dp a l G
 by_cases h:fK a=4
 ·unfold xV xF
  rw[if_pos h,if_pos h];rw[h]at F;exact JO a n w F
 by_cases D:fK a=3\/fK a=0
 ·unfold xV xF
  rw[if_neg h,if_neg h,if_pos D,if_pos D];exact FO a n _ w D F
 ·have J:=fO a (by omega) h
  have e:=FN 4096 (by decide) a n G;rw[show max (-4096) (min 4096 n)=min (max n (-4096)) 4096 by omega]at e;rw[<-e.1,<-e.2];unfold xV xF;rw[if_neg h,if_neg h,if_neg D,if_neg D];exact JP a _ n _ (max n (-4096)) (min (max n (-4096)) 4096) _ w (by simp[h]) (by simp;omega) (by simp;omega) I (fun W H t=>kJ _ W H t _ _) (fun W H t=>nN _ W H t _ _) F (fun l t=>pH a _ l G J (by omega) (by omega) t)
end Go.Proofs.YtcbcmlaogehimaaGreatDoor
