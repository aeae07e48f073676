/- Part 22 of the texts. -/
import Derived.Test.YtmpkkhackbpflaaGreatDoorPartg21
set_option maxHeartbeats 4000000
set_option maxRecDepth 20000
namespace Go.Proofs.YtmpkkhackbpflaaGreatDoor
open Go.RowKit
def p2(e:Int):Rat:=(2:Rat)^e
theorem Kb:(2:Rat)≠0:=by decide
theorem aw(e:Int):0<p2 e:=Rat.zpow_pos (by decide)
theorem cQ(a b:Int):p2 (a+b)=p2 a*p2 b:=Rat.zpow_add Kb a b
theorem kF:p2 0=1:=Rat.zpow_zero 2
theorem cR(k:Nat):p2 (k:Int)=((2^k:Nat):Rat):=by
 unfold p2
 rw[Rat.zpow_natCast,Rat.natCast_pow]
 rfl
theorem MJ:p2 1=2:=Rat.zpow_one 2
theorem pz(a:Int):p2 (-a)*p2 a=1:=by rw[←cQ,show-a+a=0 by omega,kF]
theorem bR(e:Int):p2 (e+1)=2*p2 e:=by rw[cQ,MJ,Rat.mul_comm]
theorem zk(e:Int):p2 (e+52)=4503599627370496*p2 e:=by
 rw[cQ,show(52:Int)=((52:Nat):Int) by rfl,cR,Rat.mul_comm]
 rfl
theorem aA{a b:Int}(h:a≤b):p2 a≤p2 b:=by
 obtain⟨k,z⟩:∃k:Nat,b=a+(k:Int):=⟨(b-a).toNat,by omega⟩
 rw[z,cQ,cR]
 have l:((1:Nat):Rat)≤((2^k:Nat):Rat):=Rat.natCast_le_natCast.2 Nat.one_le_two_pow
 have d:=Rat.mul_le_mul_of_nonneg_left l (Rat.le_of_lt (aw a))
 have t:((1:Nat):Rat)=1:=rfl
 rw[t,Rat.mul_one]at d
 exact d
def xE(v:Nat)(E:Int):Rat:=(v:Rat)*p2 E
def yE(v:Nat)(E:Int):Rat:=(rv (cC v E):Rat)*p2 (-1074)
theorem Kc(v:Nat)(E:Int)(h:v≠0)(d:(bl v:Int)+E≤1024):rv (cC v E)=dY v E*2^(aB v E+1074).toNat:=by
 obtain⟨l,t,D⟩:=cE v E h
 obtain⟨F,G,H⟩:=cD v E
 rw[cY v E h d]
 exact mf _ _ l (fun z=>t (by omega))
theorem zl(v:Nat)(E:Int)(h:v≠0)(d:(bl v:Int)+E≤1024):yE v E=(dY v E:Rat)*p2 (aB v E):=by
 obtain⟨l,t,z⟩:=cD v E
 unfold yE
 rw[Kc v E h d,Rat.natCast_mul,←cR,Rat.mul_assoc,←cQ]
 congr 2
 omega
theorem zm(v:Nat)(E:Int)(h:v≠0)(d:cC v E<9218868437227405312):(bl v:Int)+E≤1024:=by
 rcases Int.lt_or_le 1024 ((bl v:Int)+E)with g|g
 ·have:=(py h g).1
  omega
 ·exact g
theorem u7(v:Nat)(E:Int)(h:v≠0)(z:(bl v:Int)+E≤1024):
  (aB v E≤E→yE v E=xE v E)∧2*yE v E≤2*xE v E+p2 (aB v E)∧2*xE v E≤2*yE v E+p2 (aB v E):=by
 have O:=aw (aB v E)
 by_cases H:aB v E≤E
 ·have e:yE v E=xE v E:=by
   obtain⟨k,l⟩:∃k:Nat,E-aB v E=(k:Int):=⟨(E-aB v E).toNat,by omega⟩
   rw[zl v E h z]
   unfold dY xE
   rw[l,mc,Rat.natCast_mul,←cR,Rat.mul_assoc,←cQ,show((k:Nat):Int)+aB v E=E by omega]
  refine⟨fun _=>e,?_,?_⟩<;>rw[e]<;>grind
 ·obtain⟨k,l,t⟩:∃k:Nat,E-aB v E= -(k:Int)∧1≤k:=⟨(aB v E-E).toNat,by omega,by omega⟩
  obtain⟨M,N⟩:=Ax v k
  have D:aB v E=(k:Int)+E:=by omega
  have I:yE v E=((dq v k*2^k:Nat):Rat)*p2 E:=by
   rw[zl v E h z]
   unfold dY
   rw[l,dO _ _ t,D,cQ,cR,Rat.natCast_mul,Rat.mul_assoc]
  have d:=aw E
  have J:p2 (aB v E)=((2^k:Nat):Rat)*p2 E:=by rw[D,cQ,cR]
  have F:=Rat.mul_le_mul_of_nonneg_left (Rat.natCast_le_natCast.2 M) (Rat.le_of_lt d)
  have G:=Rat.mul_le_mul_of_nonneg_left (Rat.natCast_le_natCast.2 N) (Rat.le_of_lt d)
  rw[Rat.natCast_add,Rat.natCast_mul 2,Rat.natCast_mul 2]at F G
  have L:((2:Nat):Rat)=2:=rfl
  rw[L]at F G
  refine⟨fun g=>absurd g H,?_,?_⟩<;>rw[I,J]<;>unfold xE<;>grind
theorem mt(v:Nat)(E:Int)(G:cC v E<9218868437227405312):
  (9007199254740992*yE v E≤9007199254740992*xE v E+xE v E∧9007199254740992*xE v E≤9007199254740992*yE v E+xE v E)∨
  (cC v E≤4503599627370496∧E< -1074∧2*yE v E≤2*xE v E+p2 (-1074)∧2*xE v E≤2*yE v E+p2 (-1074)):=by
 by_cases h:v=0
 ·subst h
  refine .inl ?_
  have e:yE 0 E=0:=by unfold yE;rw[uX,fC];exact Rat.zero_mul _
  have H:xE 0 E=0:=Rat.zero_mul _
  rw[e,H]
  constructor<;>grind
 have l:=zm v E h G
 obtain⟨X,Y,z⟩:=cD v E
 obtain⟨N,D,F⟩:=u7 v E h l
 obtain⟨Z,O,Q⟩:=bQ v h
 have I:0≤xE v E:=Rat.mul_nonneg (Rat.natCast_nonneg) (Rat.le_of_lt (aw E))
 by_cases J:aB v E≤E
 ·refine .inl ?_
  rw[N J]
  constructor<;>grind
 ·rcases(show(aB v E= -1074∧(bl v:Int)+E< -1021)∨aB v E=(bl v:Int)+E-53 by omega)with⟨U,l5⟩|z
  ·refine .inr ⟨?_,by omega,?_⟩
   ·obtain⟨k,T,d⟩:∃k:Nat,E-aB v E= -(k:Int)∧1≤k:=⟨(aB v E-E).toNat,by omega,by omega⟩
    have L:dY v E≤4503599627370496:=by
     unfold dY
     rw[T,dO _ _ d]
     refine nB ?_
     have t:v<2^(52+k):=Nat.lt_of_lt_of_le Q (gX (by omega))
     rw[Nat.pow_add,Je]at t
     exact Nat.le_of_lt t
    have M:(aB v E+1074).toNat=0:=by omega
    rw[cY v E h l,M,Nat.zero_mul,Nat.add_zero]
    exact L
   ·rw[U]at D F
    exact⟨D,F⟩
  ·refine .inl ?_
   have V:4503599627370496*p2 (aB v E)≤xE v E:=by
    rw[←zk,z,show(bl v:Int)+E-53+52=((bl v-1:Nat):Int)+E by omega,cQ,cR]
    unfold xE
    have:=Rat.mul_le_mul_of_nonneg_left (Rat.natCast_le_natCast.2 O) (Rat.le_of_lt (aw E))
    grind
   constructor<;>grind
end Go.Proofs.YtmpkkhackbpflaaGreatDoor
namespace Go.Proofs.YtmpkkhackbpflaaGreatDoor
def bH:Nat→Nat
 |0=>0
 |n+1=>if(bH n+1)*(bH n+1)≤n+1 then bH n+1 else bH n
theorem dR(m:Nat):(m+1)*(m+1)=m*m+2*m+1:=by rw[Nat.add_mul,Nat.mul_add];omega
theorem zn{a b:Nat}(h:a≤b):a*a≤b*b:=Nat.mul_le_mul h h
theorem DB{a b:Nat}(h:a<b):a*a<b*b:=Nat.mul_lt_mul_of_lt_of_le h (Nat.le_of_lt h) (by omega)
theorem cX{a b:Nat}:a*a<b*b↔a<b:=by
 constructor
 ·intro h
  rcases Nat.lt_or_ge a b with d|d
  ·exact d
  ·have:=zn d;omega
 ·exact DB
theorem cL(n:Nat):bH n*bH n≤n∧n<(bH n+1)*(bH n+1):=by
 induction n with
 |zero=>exact⟨Nat.le_refl _,by decide⟩
 |succ n ih=>
  unfold bH
  obtain⟨t,z⟩:=ih
  have d:=dR (bH n)
  have l:=dR (bH n+1)
  split
  ·rename_i h
   exact⟨h,by omega⟩
  ·rename_i h
   exact⟨by omega,by omega⟩
theorem ij{n m:Nat}(d:m*m≤n)(h:n<(m+1)*(m+1)):bH n=m:=by
 obtain⟨z,D⟩:=cL n
 have l:bH n<m+1:=cX.1 (by omega)
 have t:m<bH n+1:=cX.1 (by omega)
 omega
theorem DC{n m:Nat}(h:n≤m):bH n≤bH m:=by
 obtain⟨d,l⟩:=cL n
 obtain⟨t,z⟩:=cL m
 have:bH n<bH m+1:=cX.1 (by omega)
 omega
theorem jU(a p:Nat):a*p*(a*p)=a*a*(p*p):=by ac_rfl
theorem nH(N p:Nat)(d:0<p):bH (N*(p*p))/p=bH N:=by
 obtain⟨t,z⟩:=cL N
 obtain⟨H,I⟩:=cL (N*(p*p))
 have h:0<p*p:=Nat.mul_pos d d
 have D:bH N*p<bH (N*(p*p))+1:=by
  apply cX.1
  rw[jU]
  have:bH N*bH N*(p*p)≤N*(p*p):=Nat.mul_le_mul_right _ t
  omega
 have l:bH (N*(p*p))<(bH N+1)*p:=by
  apply cX.1
  rw[jU]
  have:N*(p*p)<(bH N+1)*(bH N+1)*(p*p):=(Nat.mul_lt_mul_right h).2 z
  omega
 have F:bH N≤bH (N*(p*p))/p:=(Nat.le_div_iff_mul_le d).2 (by omega)
 have G:bH (N*(p*p))/p<bH N+1:=(Nat.div_lt_iff_lt_mul d).2 l
 omega
def rS(N:Nat):Nat:=2*bH N+(if bH N*bH N=N then 0 else 1)
def DE(N k:Nat):Nat:=bH N/2^k+(if(2*(bH N/2^k)+1)*2^k*((2*(bH N/2^k)+1)*2^k)<4*N∨((2*(bH N/2^k)+1)*2^k*((2*(bH N/2^k)+1)*2^k)=4*N∧bH N/2^k%2=1)then 1 else 0)
theorem xt(N k i:Nat):DE (N*(2^i*2^i)) (k+i)=DE N k:=by
 have l:0<2^i:=Nat.two_pow_pos _
 have d:0<2^i*2^i:=Nat.mul_pos l l
 have e:bH (N*(2^i*2^i))/2^(k+i)=bH N/2^k:=by
  rw[Nat.add_comm k i,Nat.pow_add,←Nat.div_div_eq_div_mul,nH N _ l]
 unfold DE
 rw[e]
 generalize bH N/2^k=m
 have t:(2*m+1)*2^(k+i)*((2*m+1)*2^(k+i))=(2*m+1)*2^k*((2*m+1)*2^k)*(2^i*2^i):=by
  rw[Nat.pow_add];ac_rfl
 have z:4*(N*(2^i*2^i))=4*N*(2^i*2^i):=by ac_rfl
 rw[t,z]
 have D:((2*m+1)*2^k*((2*m+1)*2^k)*(2^i*2^i)<4*N*(2^i*2^i))↔(2*m+1)*2^k*((2*m+1)*2^k)<4*N:=Nat.mul_lt_mul_right d
 have F:((2*m+1)*2^k*((2*m+1)*2^k)*(2^i*2^i)=4*N*(2^i*2^i))↔(2*m+1)*2^k*((2*m+1)*2^k)=4*N:=
  ⟨fun h=>Nat.eq_of_mul_eq_mul_right d h,fun h=>by rw[h]⟩
 simp only[D,F]
theorem DF(N k:Nat)(T:1≤k):dq (rS N) (k+1)=DE N k:=by
 obtain⟨j,rfl⟩:∃j,k=j+1:=⟨k-1,by omega⟩
 obtain⟨Y,Z⟩:=cL N
 have U:0<2^j:=Nat.two_pow_pos _
 have z:(2:Nat)^(j+1)=2*2^j:=by rw[Nat.pow_succ,Nat.mul_comm]
 have L:(2:Nat)^(j+1+1)=2*(2*2^j):=by rw[Nat.pow_succ,z,Nat.mul_comm]
 have V:(if bH N*bH N=N then 0 else 1)≤1:=by split<;>omega
 have d:(if bH N*bH N=N then 0 else 1)=0↔bH N*bH N=N:=by split<;>simp_all
 unfold dq DE rS
 rw[L,z]
 generalize (2:Nat)^j=g at*
 generalize (if bH N*bH N=N then 0 else 1)=t at*
 generalize bH N=q at*
 have D:=Nat.div_add_mod q (2*g)
 have X:=Nat.mod_lt q (show 0<2*g by omega)
 generalize O:q%(2*g)=a at*
 generalize Q:q/(2*g)=b at*
 have F:(2*q+t)/(2*(2*g))=b:=by
  rw[←D,Nat.mul_add,←Nat.mul_assoc 2 (2*g) b,Nat.add_assoc]
  rw[Nat.mul_add_div (by omega),Nat.div_eq_of_lt (by omega),Nat.add_zero]
 have G:(2*q+t)%(2*(2*g))=2*a+t:=by
  rw[←D,Nat.mul_add,←Nat.mul_assoc 2 (2*g) b,Nat.add_assoc,Nat.mul_add_mod,Nat.mod_eq_of_lt (by omega)]
 rw[F,G]
 congr 1
 --half between two,as a square
 obtain⟨c,M⟩:∃c,c=2*g*b+g:=⟨_,rfl⟩
 have H:(2*b+1)*(2*g)*((2*b+1)*(2*g))=4*(c*c):=by
  have:(2*b+1)*(2*g)=2*c:=by rw[M,Nat.add_mul,Nat.one_mul,Nat.mul_add];ac_rfl
  rw[this,show(4:Nat)=2*2 by decide]
  ac_rfl
 rw[H]
 clear H Q O F G
 rcases Nat.lt_trichotomy a g with h|h|h
 ·have l:(q+1)*(q+1)≤c*c:=zn (by omega)
  rw[if_neg (by omega),if_neg (by omega)]
 ·have l:c=q:=by omega
  subst l
  by_cases I:c*c=N
  ·have:=d.2 I
   by_cases J:b%2=1
   ·rw[if_pos (Or.inr ⟨by omega,J⟩),if_pos (Or.inr ⟨by omega,J⟩)]
   ·rw[if_neg (by omega),if_neg (by omega)]
  ·have:t≠0:=fun e=>I (d.1 e)
   rw[if_pos (Or.inl (by omega)),if_pos (Or.inl (by omega))]
 ·have l:c*c<q*q:=DB (by omega)
  rw[if_pos (Or.inl (by omega)),if_pos (Or.inl (by omega))]
theorem MK(N i:Nat)(L:0<bH N):bl (rS (N*(2^i*2^i)))=bl (rS N)+i:=by
 have l:0<2^i:=Nat.two_pow_pos _
 have D:rS N≠0:=by unfold rS;omega
 obtain⟨T,t,d⟩:=bQ (rS N) D
 have M:2≤rS N:=by unfold rS;omega
 have F:2≤bl (rS N):=by
  rcases Nat.lt_or_ge (bl (rS N)) 2 with h|h
  ·have:bl (rS N)=1:=by omega
   rw[this]at d;omega
  ·exact h
 obtain⟨c,J⟩:∃c,bl (rS N)=c+2:=⟨bl (rS N)-2,by omega⟩
 rw[J]at t d⊢
 have G:(if bH N*bH N=N then 0 else 1)≤1:=by split<;>omega
 have H:2^c≤bH N:=by
  rw[show c+2-1=c+1 by omega,Nat.pow_succ]at t
  unfold rS at t
  omega
 have I:bH N<2^(c+1):=by
  rw[Nat.pow_succ]at d
  unfold rS at d
  omega
 have z:=nH N (2^i) l
 have O:2^(c+i)≤bH (N*(2^i*2^i)):=by
  rw[Nat.pow_add,←Nat.le_div_iff_mul_le l,z];exact H
 have Q:bH (N*(2^i*2^i))<2^(c+1+i):=by
  rw[Nat.pow_add,←Nat.div_lt_iff_lt_mul l,z];exact I
 refine oc (by omega) ?_ ?_
 ·rw[show c+2+i-1=c+i+1 by omega,Nat.pow_succ]
  unfold rS
  omega
 ·rw[show c+2+i=c+1+i+1 by omega,Nat.pow_succ]
  unfold rS
  have G:(if bH (N*(2^i*2^i))*bH (N*(2^i*2^i))=N*(2^i*2^i)then 0 else 1)≤1:=by split<;>omega
  omega
theorem Kd{N:Nat}(t:9007199254740992≤bH N):55≤bl (rS N):=by
 have d:rS N≠0:=by unfold rS;omega
 obtain⟨z,D,l⟩:=bQ (rS N) d
 have h:2^54≤rS N:=by
  have:(2:Nat)^54=2*9007199254740992:=by decide
  rw[this];unfold rS;omega
 have:=dh (Nat.lt_of_le_of_lt h l)
 omega
theorem sW(N i:Nat)(E:Int)(D:9007199254740992≤bH N):
  cC (rS (N*(2^i*2^i))) (E-i)=cC (rS N) E∧aB (rS (N*(2^i*2^i))) (E-i)=aB (rS N) E∧(bl (rS (N*(2^i*2^i))):Int)+(E-i)=(bl (rS N):Int)+E∧E+2≤aB (rS N) E:=by
 have l:=MK N i (by omega)
 have F:=Kd D
 have G:rS N≠0:=by unfold rS;omega
 have t:rS (N*(2^i*2^i))≠0:=fun h=>by
  rw[h]at l
  have:bl 0=0:=rfl
  omega
 have z:aB (rS (N*(2^i*2^i))) (E-i)=aB (rS N) E:=by unfold aB;rw[l];omega
 have d:(bl (rS (N*(2^i*2^i))):Int)+(E-i)=(bl (rS N):Int)+E:=by rw[l];omega
 have H:E+2≤aB (rS N) E:=by have:=(cD (rS N) E).2.1;omega
 refine⟨?_,z,d,H⟩
 have I:dY (rS (N*(2^i*2^i))) (E-i)=dY (rS N) E:=by
  unfold dY
  rw[z]
  obtain⟨k,J⟩:∃k:Nat,aB (rS N) E=E+k+1∧1≤k:=⟨(aB (rS N) E-E-1).toNat,by omega,by omega⟩
  rw[show E-i-aB (rS N) E= -((k+i+1:Nat):Int) by omega,show E-aB (rS N) E= -((k+1:Nat):Int) by omega]
  rw[dO _ _ (by omega),dO _ _ (by omega),DF _ _ (by omega),DF _ _ (by omega)]
  exact xt _ _ _
 unfold cC
 rw[if_neg G,if_neg t,d,I,z]
theorem Ke(N i:Nat):bH (N*(2^i*2^i))*bH (N*(2^i*2^i))=N*(2^i*2^i)↔bH N*bH N=N:=by
 have l:0<2^i:=Nat.two_pow_pos _
 have D:0<2^i*2^i:=Nat.mul_pos l l
 constructor
 ·intro h
  have t:=nH N (2^i) l
  generalize O:bH (N*(2^i*2^i))=R at*
  --2^i goes into R,since its square goes into R's
  have G:∀(n a:Nat),(2^n*2^n)∣a*a→2^n∣a:=by
   intro n
   induction n with
   |zero=>intro a _;simp
   |succ n ih=>
    intro a F
    have L:2∣a*a:=Nat.dvd_trans ⟨2^n*2^(n+1),by rw[Nat.pow_succ];ac_rfl⟩ F
    have M:a%2=0:=by
     rcases Nat.mod_two_eq_zero_or_one a with h|h
     ·exact h
     ·exfalso
      have:a*a%2=1:=by rw[Nat.mul_mod,h]
      omega
    obtain⟨b,rfl⟩:∃b,a=2*b:=⟨a/2,by omega⟩
    have H:2^n*2^n∣b*b:=by
     obtain⟨c,z⟩:=F
     refine⟨c,?_⟩
     have:4*(b*b)=4*(2^n*2^n*c):=by
      have I:2*b*(2*b)=4*(b*b):=by rw[show(4:Nat)=2*2 by decide];ac_rfl
      have J:2^(n+1)*2^(n+1)*c=4*(2^n*2^n*c):=by rw[Nat.pow_succ,show(4:Nat)=2*2 by decide];ac_rfl
      rw[←I,z,J]
     omega
    obtain⟨d,t⟩:=ih b H
    exact⟨d,by rw[t,Nat.pow_succ];ac_rfl⟩
  obtain⟨c,z⟩:=G i R ⟨N,by rw[h];ac_rfl⟩
  rw[z,Nat.mul_div_cancel_left c l]at t
  rw[←t]
  have:c*c*(2^i*2^i)=N*(2^i*2^i):=by rw[←h,z];ac_rfl
  exact Nat.eq_of_mul_eq_mul_right D this
 ·intro h
  have:bH (N*(2^i*2^i))=bH N*2^i:=by
   refine ij ?_ ?_
   ·rw[jU,h];exact Nat.le_refl _
   ·have:=dR (bH N*2^i)
    rw[jU,h]at this
    omega
  rw[this,jU,h]
theorem zo(N i:Nat)(E:Int)(G:9007199254740992≤bH N):
  bX (oM (rS (N*(2^i*2^i)):Nat)).natAbs (oE (rS (N*(2^i*2^i)):Nat) (E-i))=bX (oM (rS N:Nat)).natAbs (oE (rS N:Nat) E):=by
 obtain⟨M,O,Q,T⟩:=sW N i E G
 have l:=Ke N i
 by_cases d:bH N*bH N=N
 ·have z:=l.2 d
  have H:bH (N*(2^i*2^i))=bH N*2^i:=by
   refine ij ?_ ?_
   ·rw[jU,d];exact Nat.le_refl _
   ·have:=dR (bH N*2^i)
    rw[jU,d]at this
    omega
  have e:rS (N*(2^i*2^i))=rS N*2^i:=by
   unfold rS;rw[if_pos d,if_pos z,H,Nat.add_zero,Nat.add_zero,Nat.mul_assoc]
  have I:((rS (N*(2^i*2^i)):Nat):Int)=((rS N:Nat):Int)*2^i:=by rw[e,Int.natCast_mul,Int.natCast_pow];rfl
  have:=mp ((rS N:Nat):Int) i (E-i)
  rw[I,this.1,this.2,show E-(i:Int)+i=E by omega]
 ·have z:¬bH (N*(2^i*2^i))*bH (N*(2^i*2^i))=N*(2^i*2^i):=fun h=>d (l.1 h)
  have D:((rS N:Nat):Int)%2=1:=by unfold rS;rw[if_neg d];omega
  have F:((rS (N*(2^i*2^i)):Nat):Int)%2=1:=by unfold rS;rw[if_neg z];omega
  have z1:∀(v:Nat) (e:Int),(v:Int)%2=1→oM (v:Int)=v∧oE (v:Int) e=e:=fun v e h=>by
   have t:(v:Int)≠0:=by omega
   have a:=(gW (v:Int) t).unique (m':=(v:Int)) (k':=0) ⟨by simp,h⟩
   exact⟨a.1,by rw[d9 _ _ t,a.2];simp⟩
  rw[(z1 _ (E-i) F).1,(z1 _ (E-i) F).2,(z1 _ E D).1,(z1 _ E D).2,Int.natAbs_natCast,Int.natAbs_natCast]
  have J:rS N≠0:=by omega
  have L:rS (N*(2^i*2^i))≠0:=by omega
  unfold bX
  rw[if_neg J,if_neg L,Q,O,M,if_neg (show¬aB (rS N) E≤E-i by omega),if_neg (show¬aB (rS N) E≤E by omega)]
open Go.RowKit
theorem DG(m k p D α d:Nat)(l t:Int)(F:m*2^k=D*2^α)(L:2*l=(k:Int)-1074-p)(M:2*t=(α:Int)-1074-d)(G:9007199254740992≤bH (m*2^p))(H:9007199254740992≤bH (D*2^d)):
  cC (rS (m*2^p)) (l-1)=cC (rS (D*2^d)) (t-1)∧bX (oM (rS (m*2^p):Nat)).natAbs (oE (rS (m*2^p):Nat) (l-1))=bX (oM (rS (D*2^d):Nat)).natAbs (oE (rS (D*2^d):Nat) (t-1)):=by
 have z:∀(m k p D α d i:Nat),m*2^k=D*2^α→p+2*i+α=k+d→m*2^p*(2^i*2^i)=D*2^d:=by
  intro m k p D α d i F I
  have J:0<2^α:=Nat.two_pow_pos _
  refine Nat.eq_of_mul_eq_mul_right J ?_
  rw[←Nat.pow_add,Nat.mul_assoc,Nat.mul_assoc,←Nat.pow_add,←Nat.pow_add,show p+(i+i+α)=k+d by omega,Nat.pow_add,←Nat.mul_assoc,F]
  ac_rfl
 rcases Int.le_total t l with h|h
 ·obtain⟨i,I⟩:∃i:Nat,l-t=i:=⟨(l-t).toNat,by omega⟩
  have e:=z m k p D α d i F (by omega)
  have s:=sW (m*2^p) i (l-1) G
  have f:=zo (m*2^p) i (l-1) G
  rw[e,show l-1-(i:Int)=t-1 by omega]at s f
  exact⟨s.1.symm,f.symm⟩
 ·obtain⟨i,I⟩:∃i:Nat,t-l=i:=⟨(t-l).toNat,by omega⟩
  have e:=z D α d m k p i F.symm (by omega)
  have s:=sW (D*2^d) i (t-1) H
  have f:=zo (D*2^d) i (t-1) H
  rw[e,show t-1-(i:Int)=l-1 by omega]at s f
  exact⟨s.1,f⟩
def tS(a:Nat):Nat:=rS (rv (fR a)*2^120)
def tV(a:Nat):Nat:=cC (tS a) (-598)
def tF(a:Nat):Int:=bX (oM (tS a:Nat)).natAbs (oE (tS a:Nat) (-598))
def sV(a:Nat):Nat:=
 if fK a=4 then 9221120237041090560
 else if fK a=0∨a=9218868437227405312 then a
 else if fS a=true then 9221120237041090560
 else tV a
def sF(a:Nat):Int:=
 if fK a=4 then 0
 else if fK a=0∨a=9218868437227405312 then 0
 else if fS a=true then 16
 else tF a
theorem xu{N:Nat}(h:2^106≤N):9007199254740992≤bH N:=by
 obtain⟨d,l⟩:=cL N
 have e:(9007199254740992:Nat)*9007199254740992=2^106:=by decide
 have:9007199254740992<bH N+1:=cX.1 (by omega)
 omega
theorem Kf(a:Nat)(d:fK a≠0):9007199254740992≤bH (rv (fR a)*2^120):=by
 have h:rv (fR a)≠0:=fun e=>d ((cP a).2 ((nG _).1 e))
 refine xu (Nat.le_trans (show 2^106≤1*2^120 by decide) (Nat.mul_le_mul_right _ (by omega)))
theorem va(a m k p:Nat)(e:Int)(d:fK a≠0)(h:m*2^k=rv (fR a))(l:2*e=(k:Int)-1074-p)(t:9007199254740992≤bH (m*2^p)):
  cC (rS (m*2^p)) (e-1)=tV a∧bX (oM (rS (m*2^p):Nat)).natAbs (oE (rS (m*2^p):Nat) (e-1))=tF a:=by
 have:=DG m k p (rv (fR a)) 0 120 e (-597) (by rw[h];simp) l (by omega) t (Kf a d)
 exact this
theorem ML(a:Nat):tV a≤9218868437227405312:=di _ _
theorem Jm(a:Nat)(d:a<18446744073709551616):sV a<18446744073709551616:=by
 have h:=ML a
 unfold sV
 repeat' split
 all_goals omega
theorem NC:cC (2^61) (-598)=486*4503599627370496:=by decide+kernel
theorem MN:cC (2^1110) (-598)=1535*4503599627370496:=by decide+kernel
theorem MO:(2:Nat)^60*2^60=1*2^120:=by decide
theorem GJ:(2:Nat)^1109*2^1109=2^2098*2^120:=by decide+kernel
theorem DH(a:Nat)(h:fK a≠0):2^60≤bH (rv (fR a)*2^120)∧2^61≤tS a:=by
 have D:rv (fR a)≠0:=fun e=>h ((cP a).2 ((nG _).1 e))
 have l:1*2^120≤rv (fR a)*2^120:=Nat.mul_le_mul_right _ (by omega)
 obtain⟨F,z⟩:=cL (rv (fR a)*2^120)
 have d:2^60<bH (rv (fR a)*2^120)+1:=cX.1 (by rw[MO];exact Nat.lt_of_le_of_lt l z)
 refine⟨Nat.le_of_lt_succ d,?_⟩
 have t:=Nat.le_of_lt_succ d
 have e:(2:Nat)^61=2*2^60:=by decide
 unfold tS rS
 rw[e]
 exact Nat.le_trans (Nat.mul_le_mul_left 2 t) (Nat.le_add_right _ _)
theorem Kg{V P c R:Nat}(d:V<P)(h:0<c)(l:R*R=P*c):bH (V*c)<R:=by
 obtain⟨t,z⟩:=cL (V*c)
 have:V*c<P*c:=(Nat.mul_lt_mul_right h).2 d
 exact cX.1 (by rw[l];omega)
theorem GK{V:Nat}(h:V<2^2098):bH (V*2^120)<2^1109:=by
 have d:=GJ
 have l:=Nat.two_pow_pos 120
 generalize (2:Nat)^1109=R at*
 generalize (2:Nat)^2098=P at*
 generalize (2:Nat)^120=c at*
 exact Kg h l d
theorem MP:(2:Nat)^1110=2^1109*2:=by decide+kernel
theorem MQ{N P:Nat}(h:bH N<P):rS N≤P*2:=by
 unfold rS
 have d:(if bH N*bH N=N then 0 else 1)≤1:=by split<;>omega
 omega
theorem DI(a:Nat)(h:ah a=true)(l:fK a≠0):486*4503599627370496≤tV a∧tV a≤1535*4503599627370496:=by
 have d:=jR a h
 rw[gR]at d
 have t:=GK d
 have z:tS a≤2^1110:=by
  rw[MP]
  generalize (2:Nat)^1109=R at*
  exact MQ t
 refine⟨?_,?_⟩
 ·rw[←NC];exact me _ (DH a l).2
 ·rw[←MN];exact me _ z
theorem DJ(a:Nat)(h:fS a=false)(d:a<18446744073709551616):fR a=a:=by
 have:=of_decide_eq_false h
 unfold fR;omega
theorem A5(a:Nat)(h:fS a=true)(d:a<18446744073709551616):fR a=fN a:=by
 have:=of_decide_eq_true h
 unfold fR fN;rw[if_pos this];omega
theorem pA(a:Nat)(w:World)(h:a<18446744073709551616):
  Calls Tryz.prog 70 #[.int .u64 a] w fun e t=>e=.returned (.int .u64 (fR a:Nat))∧Below w.heap.size w t:=by
 have l:=ac (fun t=>fh a t h)
 have z:=ac (fun t=>ig a t h)
 cases hs:fS a
 ·rw[hs]at l
  rw[DJ a hs h]
  clear hs h z
  go_enter Tryz.func70,Tryz.ntmps70
  go_wp2_with fail
  refine(uH l _).mono ?_
  rintro e D ⟨rfl,d⟩
  clear l
  go_wp2
  go_ret
  exact⟨rfl,d⟩
 ·rw[hs]at l
  rw[A5 a hs h]
  clear hs h
  generalize fN a=q at*
  go_enter Tryz.func70,Tryz.ntmps70
  go_wp2_with fail
  refine(uH l _).mono ?_
  rintro e D ⟨rfl,d⟩
  clear l
  go_wp2_with fail
  refine(uH z _).mono ?_
  rintro e F ⟨rfl,rfl⟩
  clear z
  go_wp2
  go_ret
  exact⟨rfl,d⟩
def pl(a:Nat):Int:=if fS a=true then-(fR a:Int)else(fR a:Int)
theorem DK(a r:Nat)(s:Bool)(w:World)(L:r<9223372036854775808)
  (G:∀h,Calls Tryz.prog 70 #[.int .u64 a] h fun e l=>e=.returned (.int .u64 (r:Nat))∧Below h.heap.size h l)
  (H:∀h,Calls Tryz.prog 129 #[.int .u64 a] h fun e l=>e=.returned (.bool s)∧Below h.heap.size h l):
  Calls Tryz.prog 162 #[.int .u64 a] w fun e h=>e=.returned (.int .i64 (if s=true then-(r:Int)else(r:Int)))∧Below w.heap.size w h:=by
 have z:=ac G;have D:=ac H
 have M:IntKind.i64.wrap (r:Int)=(r:Int):=by simp only[IntKind.wrap_i64];omega
 have N:IntKind.i64.wrap (-(r:Int))= -(r:Int):=by simp only[IntKind.wrap_i64];omega
 clear G H
 cases s
 ·go_enter Tryz.func162,Tryz.ntmps162
  go_wp2_with fail
  refine(uH z _).mono ?_
  rintro e I ⟨rfl,d⟩
  have t:=ac d
  clear z d
  go_wp2_with fail
  refine(uH D _).mono ?_
  rintro e J ⟨rfl,d⟩
  have F:=ac ((uH t).trans (d.mono (uH t).size))
  clear D d
  go_wp2
  go_ret
  exact⟨rfl,uH F⟩
 ·go_enter Tryz.func162,Tryz.ntmps162
  go_wp2_with fail
  refine(uH z _).mono ?_
  rintro e I ⟨rfl,d⟩
  have t:=ac d
  clear z d
  go_wp2_with fail
  refine(uH D _).mono ?_
  rintro e J ⟨rfl,d⟩
  have F:=ac ((uH t).trans (d.mono (uH t).size))
  clear D d
  go_wp2
  go_ret
  exact⟨rfl,uH F⟩
theorem rL(a:Nat)(w:World)(h:a<18446744073709551616):
  Calls Tryz.prog 162 #[.int .u64 a] w fun e d=>e=.returned (.int .i64 (pl a))∧Below w.heap.size w d:=
 DK a (fR a) (fS a) w (jG a) (fun d=>pA a d h) (fun d=>fh a d h)
theorem kX(a:Int)(w:World):Calls Tryz.prog 192 #[.int .i64 a] w fun e d=>e=.returned (.bool false)∧w=d:=by
 go_enter Tryz.func192,Tryz.ntmps192
 go_wp2
 go_ret
 exact⟨rfl,rfl⟩
theorem DL(a b:Int)(w:World):Calls Tryz.prog 161 #[.int .i64 a,.int .i64 b] w fun e d=>e=.returned (.int .i64 (cU a b))∧w=d:=by
 have l:Hid (cU a b=if a<b then-1 else if b<a then 1 else 0):=rfl
 generalize cU a b=c at*
 rcases(show a<b∨b<a∨a=b by omega)with h|h|h
 ·go_enter Tryz.func161,Tryz.ntmps161
  go_wp2_with(go_at_call 192;refine(kX _ _).mono ?_;rintro e d ⟨rfl,rfl⟩)
  go_ret
  exact⟨bj (by rw[l.out];simp[h]),rfl⟩
 ·have t:¬a<b:=by omega
  go_enter Tryz.func161,Tryz.ntmps161
  go_wp2_with(go_at_call 192;refine(kX _ _).mono ?_;rintro e d ⟨rfl,rfl⟩)
  go_ret
  exact⟨bj (by rw[l.out];simp[h,t]),rfl⟩
 ·subst h
  go_enter Tryz.func161,Tryz.ntmps161
  go_wp2_with(go_at_call 192;refine(kX _ _).mono ?_;rintro e d ⟨rfl,rfl⟩)
  go_ret
  exact⟨bj (by rw[l.out];simp),rfl⟩
def cO(a b:Nat):Int:=if fK a=4∨fK b=4 then 0 else cU (fZ a) (fZ b)
def cB(a b:Nat):Bool:=if fK a=4∨fK b=4 then false else true
theorem pB{r s:Nat}(h:r<s):rv r<rv s:=Nat.lt_of_lt_of_le (sI r) (jl h)
theorem xv{r:Nat}(h:0<r):0<rv r:=by have:=pB h;rw[fC]at this;exact this
theorem pC{a b:Int}(h:a<b):cU a b= -1:=by unfold cU;rw[if_pos h]
theorem pD{a b:Int}(h:b<a):cU a b=1:=by unfold cU;rw[if_neg (by omega),if_pos h]
theorem pE{a b:Int}(h:a=b):cU a b=0:=by unfold cU;rw[if_neg (by omega),if_neg (by omega)]
theorem ve{n m:Bool}{r s:Nat}(h:(if n=true then-(r:Int)else(r:Int))<(if m=true then-(s:Int)else(s:Int))):pv n r<pv m s:=by
 have z:rv 0=0:=fC
 have d:r<s→rv r<rv s:=pB
 have l:s<r→rv s<rv r:=pB
 have t:0<r→0<rv r:=xv
 have p2:0<s→0<rv s:=xv
 unfold pv
 cases n<;>cases m<;>simp only[if_true,if_false,Bool.false_eq_true]at h⊢<;>omega
theorem Kh(a b:Nat):cU (pl a) (pl b)=cU (fZ a) (fZ b):=by
 have d:pl a<pl b→fZ a<fZ b:=fun h=>ve h
 have l:pl b<pl a→fZ b<fZ a:=fun h=>ve h
 rcases(show pl a<pl b∨pl b<pl a∨pl a=pl b by omega)with h|h|h
 ·rw[pC h,pC (d h)]
 ·rw[pD h,pD (l h)]
 ·have t:fZ a=fZ b:=by
   unfold pl at h
   unfold fZ pv
   cases ha:fS a<;>cases hb:fS b<;>rw[ha,hb]at h<;>simp only[if_true,if_false,Bool.false_eq_true]at h⊢
   ·rw[show fR a=fR b by omega]
   ·rw[show fR a=0 by omega,show fR b=0 by omega,fC];rfl
   ·rw[show fR a=0 by omega,show fR b=0 by omega,fC];rfl
   ·rw[show fR a=fR b by omega]
  rw[pE h,pE t]
theorem DM(a b:Nat)(w:World)
  (t:∀d,Calls Tryz.prog 122 #[.int .u64 a] d fun r h=>r=.returned (.int .i64 4)∧Below d.heap.size d h):
  Calls Tryz.prog 109 #[.int .u64 a,.int .u64 b] w fun r d=>r=.returned (.tuple #[.int .i64 0,.bool false])∧Below w.heap.size w d:=by
 have z:=ac t
 clear t
 go_enter Tryz.func109,Tryz.ntmps109
 go_wp2_with fail
 refine(uH z _).mono ?_
 rintro e D ⟨rfl,l⟩
 clear z
 go_wp2
 exact bodyPost_ret (v:=.tuple #[.int .i64 0,.bool false]) (by simp[results,Tryz.results109,go_sem]) rfl ⟨rfl,l⟩
theorem DN(a b:Nat)(t:Int)(w:World)(J:(t==4)=false)
  (z:∀h,Calls Tryz.prog 122 #[.int .u64 a] h fun r l=>r=.returned (.int .i64 t)∧Below h.heap.size h l)
  (D:∀h,Calls Tryz.prog 122 #[.int .u64 b] h fun r l=>r=.returned (.int .i64 4)∧Below h.heap.size h l):
  Calls Tryz.prog 109 #[.int .u64 a,.int .u64 b] w fun r h=>r=.returned (.tuple #[.int .i64 0,.bool false])∧Below w.heap.size w h:=by
 have F:=ac z;have G:=ac D
 clear z D
 go_enter Tryz.func109,Tryz.ntmps109
 go_wp2_with fail
 refine(uH F _).mono ?_
 rintro e L ⟨rfl,d⟩
 clear F
 have H:=ac d
 clear d
 go_wp2_with fail
 refine(uH G _).mono ?_
 rintro e M ⟨rfl,d⟩
 have I:=ac ((uH H).trans (d.mono (uH H).size))
 clear d G
 go_wp2
 exact bodyPost_ret (v:=.tuple #[.int .i64 0,.bool false]) (by simp[results,Tryz.results109,go_sem]) rfl ⟨rfl,uH I⟩
theorem GL(a b:Nat)(t z x y o:Int)(w:World)(X:(t==4)=false)(Y:(z==4)=false)
  (D:∀h,Calls Tryz.prog 122 #[.int .u64 a] h fun r l=>r=.returned (.int .i64 t)∧Below h.heap.size h l)
  (F:∀h,Calls Tryz.prog 122 #[.int .u64 b] h fun r l=>r=.returned (.int .i64 z)∧Below h.heap.size h l)
  (G:∀h,Calls Tryz.prog 162 #[.int .u64 a] h fun r l=>r=.returned (.int .i64 x)∧Below h.heap.size h l)
  (H:∀h,Calls Tryz.prog 162 #[.int .u64 b] h fun r l=>r=.returned (.int .i64 y)∧Below h.heap.size h l)
  (I:∀h,Calls Tryz.prog 161 #[.int .i64 x,.int .i64 y] h fun r l=>r=.returned (.int .i64 o)∧h=l):
  Calls Tryz.prog 109 #[.int .u64 a,.int .u64 b] w fun r h=>r=.returned (.tuple #[.int .i64 o,.bool true])∧Below w.heap.size w h:=by
 have J:=ac D;have L:=ac F;have M:=ac G;have N:=ac H;have O:=ac I
 clear D F G H I
 go_enter Tryz.func109,Tryz.ntmps109
 go_wp2_with fail
 refine(uH J _).mono ?_
 rintro e Z ⟨rfl,d⟩
 have Q:=ac d
 clear d J
 go_wp2_with fail
 refine(uH L _).mono ?_
 rintro e w2 ⟨rfl,d⟩
 have T:=ac ((uH Q).trans (d.mono (uH Q).size))
 clear d L
 go_wp2_with fail
 refine(uH M _).mono ?_
 rintro e w3 ⟨rfl,d⟩
 have U:=ac ((uH T).trans (d.mono (uH T).size))
 clear d M
 go_wp2_with fail
 refine(uH N _).mono ?_
 rintro e w4 ⟨rfl,d⟩
 have V:=ac ((uH U).trans (d.mono (uH U).size))
 clear d N
 go_wp2_with fail
 refine(uH O _).mono ?_
 rintro e w5 ⟨rfl,rfl⟩
 clear O
 go_wp2
 exact bodyPost_ret (v:=.tuple #[.int .i64 o,.bool true]) (by simp[results,Tryz.results109,go_sem]) rfl ⟨rfl,uH V⟩
theorem pF(a b:Nat)(w:World)(F:a<18446744073709551616)(G:b<18446744073709551616):
  Calls Tryz.prog 109 #[.int .u64 a,.int .u64 b] w fun r d=>r=.returned (.tuple #[.int .i64 (cO a b),.bool (cB a b)])∧Below w.heap.size w d:=by
 have z:=fun d=>dj a d F
 have D:=fun d=>dj b d G
 unfold cO cB
 by_cases l:fK a=4
 ·rw[if_pos (Or.inl l),if_pos (Or.inl l)]
  rw[l]at z
  exact DM a b w z
 by_cases t:fK b=4
 ·rw[if_pos (Or.inr t),if_pos (Or.inr t)]
  rw[t]at D
  exact DN a b _ w (by simp[l]) z D
 have h:¬(fK a=4∨fK b=4):=fun h=>h.elim l t
 rw[if_neg h,if_neg h,←Kh]
 exact GL a b _ _ _ _ _ w (by simp[l]) (by simp[t]) z D (fun d=>rL a d F) (fun d=>rL b d G) (fun d=>DL _ _ d)
theorem oJ(a b:Nat)(o:Int)(t l q:Bool)(w:World)(G:(o=0∧t=false∧l=false∧q=false)∨(o= -1∧t=true∧l=true∧q=false)∨(o=0∧t=true∧l=false∧q=true)∨(o=1∧t=true∧l=false∧q=false))
  (D:∀d,Calls Tryz.prog 109 #[.int .u64 a,.int .u64 b] d fun r h=>r=.returned (.tuple #[.int .i64 o,.bool t])∧Below d.heap.size d h):
  Calls Tryz.prog 45 #[.int .u64 a,.int .u64 b] w fun r d=>r=.returned (.bool l)∧Below w.heap.size w d:=by
 have F:=ac D
 clear D
 rcases G with⟨rfl,rfl,rfl,rfl⟩|⟨rfl,rfl,rfl,rfl⟩|⟨rfl,rfl,rfl,rfl⟩|⟨rfl,rfl,rfl,rfl⟩
 all_goals
  go_enter Tryz.func45,Tryz.ntmps45
  go_wp2_with fail
  refine(uH F _).mono ?_
  rintro e H ⟨rfl,z⟩
  clear F
  go_wp2
  go_ret
  exact⟨rfl,z⟩
def cM(a b:Nat)(l t:Bool):Nat:=if t=false then 9221120237041090560 else if l=true then b else a
theorem Ki(a b:Nat)(o:Int)(t l q:Bool)(w:World)(G:(o=0∧t=false∧l=false∧q=false)∨(o= -1∧t=true∧l=true∧q=false)∨(o=0∧t=true∧l=false∧q=true)∨(o=1∧t=true∧l=false∧q=false))
  (D:∀d,Calls Tryz.prog 109 #[.int .u64 a,.int .u64 b] d fun r h=>r=.returned (.tuple #[.int .i64 o,.bool t])∧Below d.heap.size d h):
  Calls Tryz.prog 127 #[.int .u64 a,.int .u64 b] w fun r d=>r=.returned (.int .u64 (cM a b l t:Nat))∧Below w.heap.size w d:=by
 have F:=ac D
 clear D
 unfold cM
 rcases G with⟨rfl,rfl,rfl,rfl⟩|⟨rfl,rfl,rfl,rfl⟩|⟨rfl,rfl,rfl,rfl⟩|⟨rfl,rfl,rfl,rfl⟩
 all_goals
  simp only[if_true,if_false,Bool.false_eq_true,Bool.true_eq_false]
  go_enter Tryz.func127,Tryz.ntmps127
  go_wp2_with fail
  refine(uH F _).mono ?_
  rintro e H ⟨rfl,z⟩
  clear F
  go_wp2
  go_ret
  exact⟨rfl,z⟩
end Go.Proofs.YtmpkkhackbpflaaGreatDoor
