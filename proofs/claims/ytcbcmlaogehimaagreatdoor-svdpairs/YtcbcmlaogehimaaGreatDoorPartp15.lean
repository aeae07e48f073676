/- Part 15 of the texts. -/
import Derived.Test.YtcbcmlaogehimaaGreatDoorPartp14
set_option maxHeartbeats 4000000
set_option maxRecDepth 20000
namespace Go.Proofs.YtcbcmlaogehimaaGreatDoor
open Go.RowKit
def p2(e:Int):Rat:=(2:Rat)^e
theorem JR:(2:Rat)≠0:=by decide
theorem aA(e:Int):0<p2 e:=Rat.zpow_pos (by decide)
theorem aL(a b:Int):p2 (a+b)=p2 a*p2 b:=Rat.zpow_add JR a b
theorem jk:p2 0=1:=Rat.zpow_zero 2
theorem br(k:Nat):p2 (k:Int)=((2^k:Nat):Rat):=by
 unfold p2
 rw[Rat.zpow_natCast,Rat.natCast_pow]
 rfl
theorem wN:p2 1=2:=Rat.zpow_one 2
theorem rL(a:Int):p2 (-a)*p2 a=1:=by rw[←aL,show-a+a=0 by omega,jk]
theorem cW(e:Int):p2 (e+1)=2*p2 e:=by rw[aL,wN,Rat.mul_comm]
theorem L8(e:Int):p2 (e+52)=4503599627370496*p2 e:=by
 rw[aL,show(52:Int)=((52:Nat):Int) by rfl,br,Rat.mul_comm]
 rfl
theorem aK{a b:Int}(h:a≤b):p2 a≤p2 b:=by
 obtain⟨k,A⟩:∃k:Nat,b=a+(k:Int):=⟨(b-a).toNat,by omega⟩
 rw[A,aL,br]
 have u:((1:Nat):Rat)≤((2^k:Nat):Rat):=Rat.natCast_le_natCast.2 Nat.one_le_two_pow
 have d:=Rat.mul_le_mul_of_nonneg_left u (Rat.le_of_lt (aA a))
 have z:((1:Nat):Rat)=1:=rfl
 rw[z,Rat.mul_one]at d
 exact d
def xE(v:Nat)(E:Int):Rat:=(v:Rat)*p2 E
def yE(v:Nat)(E:Int):Rat:=(rv (cg v E):Rat)*p2 (-1074)
theorem JS(v:Nat)(E:Int)(h:v≠0)(d:(bl v:Int)+E≤1024):rv (cg v E)=d8 v E*2^(aE v E+1074).toNat:=by
 obtain⟨u,z,D⟩:=cS v E h
 obtain⟨F,G,H⟩:=cD v E
 rw[dl v E h d]
 exact oC _ _ u (fun A=>z (by omega))
theorem yw(v:Nat)(E:Int)(h:v≠0)(d:(bl v:Int)+E≤1024):yE v E=(d8 v E:Rat)*p2 (aE v E):=by
 obtain⟨u,z,A⟩:=cD v E
 unfold yE
 rw[JS v E h d,Rat.natCast_mul,←br,Rat.mul_assoc,←aL]
 congr 2
 omega
theorem yx(v:Nat)(E:Int)(h:v≠0)(d:cg v E<9218868437227405312):(bl v:Int)+E≤1024:=by
 rcases Int.lt_or_le 1024 ((bl v:Int)+E)with g|g
 ·have:=(pb h g).1
  omega
 ·exact g
theorem ur(v:Nat)(E:Int)(h:v≠0)(A:(bl v:Int)+E≤1024):
  (aE v E≤E→yE v E=xE v E)∧2*yE v E≤2*xE v E+p2 (aE v E)∧2*xE v E≤2*yE v E+p2 (aE v E):=by
 have Q:=aA (aE v E)
 by_cases H:aE v E≤E
 ·have e:yE v E=xE v E:=by
   obtain⟨k,u⟩:∃k:Nat,E-aE v E=(k:Int):=⟨(E-aE v E).toNat,by omega⟩
   rw[yw v E h A]
   unfold d8 xE
   rw[u,kW,Rat.natCast_mul,←br,Rat.mul_assoc,←aL,show((k:Nat):Int)+aE v E=E by omega]
  refine⟨fun _=>e,?_,?_⟩<;>rw[e]<;>grind
 ·obtain⟨k,u,z⟩:∃k:Nat,E-aE v E= -(k:Int)∧1≤k:=⟨(aE v E-E).toNat,by omega,by omega⟩
  obtain⟨L,O⟩:=zH v k
  have D:aE v E=(k:Int)+E:=by omega
  have I:yE v E=((dw v k*2^k:Nat):Rat)*p2 E:=by
   rw[yw v E h A]
   unfold d8
   rw[u,dk _ _ z,D,aL,br,Rat.natCast_mul,Rat.mul_assoc]
  have d:=aA E
  have J:p2 (aE v E)=((2^k:Nat):Rat)*p2 E:=by rw[D,aL,br]
  have F:=Rat.mul_le_mul_of_nonneg_left (Rat.natCast_le_natCast.2 L) (Rat.le_of_lt d)
  have G:=Rat.mul_le_mul_of_nonneg_left (Rat.natCast_le_natCast.2 O) (Rat.le_of_lt d)
  rw[Rat.natCast_add,Rat.natCast_mul 2,Rat.natCast_mul 2]at F G
  have K:((2:Nat):Rat)=2:=rfl
  rw[K]at F G
  refine⟨fun g=>absurd g H,?_,?_⟩<;>rw[I,J]<;>unfold xE<;>grind
theorem lD(v:Nat)(E:Int)(G:cg v E<9218868437227405312):
  (9007199254740992*yE v E≤9007199254740992*xE v E+xE v E∧9007199254740992*xE v E≤9007199254740992*yE v E+xE v E)∨
  (cg v E≤4503599627370496∧E< -1074∧2*yE v E≤2*xE v E+p2 (-1074)∧2*xE v E≤2*yE v E+p2 (-1074)):=by
 by_cases h:v=0
 ·subst h
  refine .inl ?_
  have e:yE 0 E=0:=by unfold yE;rw[um,dn];exact Rat.zero_mul _
  have H:xE 0 E=0:=Rat.zero_mul _
  rw[e,H]
  constructor<;>grind
 have u:=yx v E h G
 obtain⟨l1,l2,A⟩:=cD v E
 obtain⟨O,D,F⟩:=ur v E h u
 obtain⟨b1,Q,U⟩:=bK v h
 have I:0≤xE v E:=Rat.mul_nonneg (Rat.natCast_nonneg) (Rat.le_of_lt (aA E))
 by_cases J:aE v E≤E
 ·refine .inl ?_
  rw[O J]
  constructor<;>grind
 ·rcases(show(aE v E= -1074∧(bl v:Int)+E< -1021)∨aE v E=(bl v:Int)+E-53 by omega)with⟨Y,l5⟩|A
  ·refine .inr ⟨?_,by omega,?_⟩
   ·obtain⟨k,X,d⟩:∃k:Nat,E-aE v E= -(k:Int)∧1≤k:=⟨(aE v E-E).toNat,by omega,by omega⟩
    have K:d8 v E≤4503599627370496:=by
     unfold d8
     rw[X,dk _ _ d]
     refine mz ?_
     have z:v<2^(52+k):=Nat.lt_of_lt_of_le U (g6 (by omega))
     rw[Nat.pow_add,IL]at z
     exact Nat.le_of_lt z
    have L:(aE v E+1074).toNat=0:=by omega
    rw[dl v E h u,L,Nat.zero_mul,Nat.add_zero]
    exact K
   ·rw[Y]at D F
    exact⟨D,F⟩
  ·refine .inl ?_
   have Z:4503599627370496*p2 (aE v E)≤xE v E:=by
    rw[←L8,A,show(bl v:Int)+E-53+52=((bl v-1:Nat):Int)+E by omega,aL,br]
    unfold xE
    have:=Rat.mul_le_mul_of_nonneg_left (Rat.natCast_le_natCast.2 Q) (Rat.le_of_lt (aA E))
    grind
   constructor<;>grind
end Go.Proofs.YtcbcmlaogehimaaGreatDoor
namespace Go.Proofs.YtcbcmlaogehimaaGreatDoor
def bB:Nat→Nat
 |0=>0
 |n+1=>if(bB n+1)*(bB n+1)≤n+1 then bB n+1 else bB n
theorem dp(m:Nat):(m+1)*(m+1)=m*m+2*m+1:=by rw[Nat.add_mul,Nat.mul_add];omega
theorem yz{a b:Nat}(h:a≤b):a*a≤b*b:=Nat.mul_le_mul h h
theorem CG{a b:Nat}(h:a<b):a*a<b*b:=Nat.mul_lt_mul_of_lt_of_le h (Nat.le_of_lt h) (by omega)
theorem cC{a b:Nat}:a*a<b*b↔a<b:=by
 constructor
 ·intro h
  rcases Nat.lt_or_ge a b with d|d
  ·exact d
  ·have:=yz d;omega
 ·exact CG
theorem cj(n:Nat):bB n*bB n≤n∧n<(bB n+1)*(bB n+1):=by
 induction n with
 |zero=>exact⟨Nat.le_refl _,by decide⟩
 |succ n ih=>
  unfold bB
  obtain⟨z,A⟩:=ih
  have d:=dp (bB n)
  have u:=dp (bB n+1)
  split
  ·rename_i h
   exact⟨h,by omega⟩
  ·rename_i h
   exact⟨by omega,by omega⟩
theorem gR{n m:Nat}(d:m*m≤n)(h:n<(m+1)*(m+1)):bB n=m:=by
 obtain⟨A,D⟩:=cj n
 have u:bB n<m+1:=cC.1 (by omega)
 have z:m<bB n+1:=cC.1 (by omega)
 omega
theorem CH{n m:Nat}(h:n≤m):bB n≤bB m:=by
 obtain⟨d,u⟩:=cj n
 obtain⟨z,k2⟩:=cj m
 have:bB n<bB m+1:=cC.1 (by omega)
 omega
theorem jy(a p:Nat):a*p*(a*p)=a*a*(p*p):=by ac_rfl
theorem mL(N p:Nat)(d:0<p):bB (N*(p*p))/p=bB N:=by
 obtain⟨z,A⟩:=cj N
 obtain⟨H,k2⟩:=cj (N*(p*p))
 have h:0<p*p:=Nat.mul_pos d d
 have D:bB N*p<bB (N*(p*p))+1:=by
  apply cC.1
  rw[jy]
  have:bB N*bB N*(p*p)≤N*(p*p):=Nat.mul_le_mul_right _ z
  omega
 have u:bB (N*(p*p))<(bB N+1)*p:=by
  apply cC.1
  rw[jy]
  have:N*(p*p)<(bB N+1)*(bB N+1)*(p*p):=(Nat.mul_lt_mul_right h).2 A
  omega
 have F:bB N≤bB (N*(p*p))/p:=(Nat.le_div_iff_mul_le d).2 (by omega)
 have G:bB (N*(p*p))/p<bB N+1:=(Nat.div_lt_iff_lt_mul d).2 u
 omega
def rS(N:Nat):Nat:=2*bB N+(if bB N*bB N=N then 0 else 1)
def CJ(N k:Nat):Nat:=bB N/2^k+(if(2*(bB N/2^k)+1)*2^k*((2*(bB N/2^k)+1)*2^k)<4*N∨((2*(bB N/2^k)+1)*2^k*((2*(bB N/2^k)+1)*2^k)=4*N∧bB N/2^k%2=1)then 1 else 0)
theorem wO(N k i:Nat):CJ (N*(2^i*2^i)) (k+i)=CJ N k:=by
 have u:0<2^i:=Nat.two_pow_pos _
 have d:0<2^i*2^i:=Nat.mul_pos u u
 have e:bB (N*(2^i*2^i))/2^(k+i)=bB N/2^k:=by
  rw[Nat.add_comm k i,Nat.pow_add,←Nat.div_div_eq_div_mul,mL N _ u]
 unfold CJ
 rw[e]
 generalize bB N/2^k=m
 have z:(2*m+1)*2^(k+i)*((2*m+1)*2^(k+i))=(2*m+1)*2^k*((2*m+1)*2^k)*(2^i*2^i):=by
  rw[Nat.pow_add];ac_rfl
 have A:4*(N*(2^i*2^i))=4*N*(2^i*2^i):=by ac_rfl
 rw[z,A]
 have D:((2*m+1)*2^k*((2*m+1)*2^k)*(2^i*2^i)<4*N*(2^i*2^i))↔(2*m+1)*2^k*((2*m+1)*2^k)<4*N:=Nat.mul_lt_mul_right d
 have F:((2*m+1)*2^k*((2*m+1)*2^k)*(2^i*2^i)=4*N*(2^i*2^i))↔(2*m+1)*2^k*((2*m+1)*2^k)=4*N:=
  ⟨fun h=>Nat.eq_of_mul_eq_mul_right d h,fun h=>by rw[h]⟩
 simp only[D,F]
theorem CU(N k:Nat)(Q:1≤k):dw (rS N) (k+1)=CJ N k:=by
 obtain⟨j,rfl⟩:∃j,k=j+1:=⟨k-1,by omega⟩
 obtain⟨Z,n2⟩:=cj N
 have U:0<2^j:=Nat.two_pow_pos _
 have z:(2:Nat)^(j+1)=2*2^j:=by rw[Nat.pow_succ,Nat.mul_comm]
 have J:(2:Nat)^(j+1+1)=2*(2*2^j):=by rw[Nat.pow_succ,z,Nat.mul_comm]
 have X:(if bB N*bB N=N then 0 else 1)≤1:=by split<;>omega
 have d:(if bB N*bB N=N then 0 else 1)=0↔bB N*bB N=N:=by split<;>simp_all
 unfold dw CJ rS
 rw[J,z]
 generalize (2:Nat)^j=g at*
 generalize (if bB N*bB N=N then 0 else 1)=t at*
 generalize bB N=q at*
 have A:=Nat.div_add_mod q (2*g)
 have Y:=Nat.mod_lt q (show 0<2*g by omega)
 generalize L:q%(2*g)=a at*
 generalize O:q/(2*g)=b at*
 have D:(2*q+t)/(2*(2*g))=b:=by
  rw[←A,Nat.mul_add,←Nat.mul_assoc 2 (2*g) b,Nat.add_assoc]
  rw[Nat.mul_add_div (by omega),Nat.div_eq_of_lt (by omega),Nat.add_zero]
 have F:(2*q+t)%(2*(2*g))=2*a+t:=by
  rw[←A,Nat.mul_add,←Nat.mul_assoc 2 (2*g) b,Nat.add_assoc,Nat.mul_add_mod,Nat.mod_eq_of_lt (by omega)]
 rw[D,F]
 congr 1
 --half between two,as a square
 obtain⟨c,K⟩:∃c,c=2*g*b+g:=⟨_,rfl⟩
 have G:(2*b+1)*(2*g)*((2*b+1)*(2*g))=4*(c*c):=by
  have:(2*b+1)*(2*g)=2*c:=by rw[K,Nat.add_mul,Nat.one_mul,Nat.mul_add];ac_rfl
  rw[this,show(4:Nat)=2*2 by decide]
  ac_rfl
 rw[G]
 clear G O L D F
 rcases Nat.lt_trichotomy a g with h|h|h
 ·have u:(q+1)*(q+1)≤c*c:=yz (by omega)
  rw[if_neg (by omega),if_neg (by omega)]
 ·have u:c=q:=by omega
  subst u
  by_cases H:c*c=N
  ·have:=d.2 H
   by_cases I:b%2=1
   ·rw[if_pos (Or.inr ⟨by omega,I⟩),if_pos (Or.inr ⟨by omega,I⟩)]
   ·rw[if_neg (by omega),if_neg (by omega)]
  ·have:t≠0:=fun e=>H (d.1 e)
   rw[if_pos (Or.inl (by omega)),if_pos (Or.inl (by omega))]
 ·have u:c*c<q*q:=CG (by omega)
  rw[if_pos (Or.inl (by omega)),if_pos (Or.inl (by omega))]
theorem Ma(N i:Nat)(K:0<bB N):bl (rS (N*(2^i*2^i)))=bl (rS N)+i:=by
 have u:0<2^i:=Nat.two_pow_pos _
 have D:rS N≠0:=by unfold rS;omega
 obtain⟨U,z,d⟩:=bK (rS N) D
 have L:2≤rS N:=by unfold rS;omega
 have F:2≤bl (rS N):=by
  rcases Nat.lt_or_ge (bl (rS N)) 2 with h|h
  ·have:bl (rS N)=1:=by omega
   rw[this]at d;omega
  ·exact h
 obtain⟨c,J⟩:∃c,bl (rS N)=c+2:=⟨bl (rS N)-2,by omega⟩
 rw[J]at z d⊢
 have G:(if bB N*bB N=N then 0 else 1)≤1:=by split<;>omega
 have H:2^c≤bB N:=by
  rw[show c+2-1=c+1 by omega,Nat.pow_succ]at z
  unfold rS at z
  omega
 have I:bB N<2^(c+1):=by
  rw[Nat.pow_succ]at d
  unfold rS at d
  omega
 have A:=mL N (2^i) u
 have O:2^(c+i)≤bB (N*(2^i*2^i)):=by
  rw[Nat.pow_add,←Nat.le_div_iff_mul_le u,A];exact H
 have Q:bB (N*(2^i*2^i))<2^(c+1+i):=by
  rw[Nat.pow_add,←Nat.div_lt_iff_lt_mul u,A];exact I
 refine ni (by omega) ?_ ?_
 ·rw[show c+2+i-1=c+i+1 by omega,Nat.pow_succ]
  unfold rS
  omega
 ·rw[show c+2+i=c+1+i+1 by omega,Nat.pow_succ]
  unfold rS
  have G:(if bB (N*(2^i*2^i))*bB (N*(2^i*2^i))=N*(2^i*2^i)then 0 else 1)≤1:=by split<;>omega
  omega
theorem JT{N:Nat}(z:9007199254740992≤bB N):55≤bl (rS N):=by
 have d:rS N≠0:=by unfold rS;omega
 obtain⟨A,D,u⟩:=bK (rS N) d
 have h:2^54≤rS N:=by
  have:(2:Nat)^54=2*9007199254740992:=by decide
  rw[this];unfold rS;omega
 have:=cK (Nat.lt_of_le_of_lt h u)
 omega
theorem rM(N i:Nat)(E:Int)(D:9007199254740992≤bB N):
  cg (rS (N*(2^i*2^i))) (E-i)=cg (rS N) E∧aE (rS (N*(2^i*2^i))) (E-i)=aE (rS N) E∧(bl (rS (N*(2^i*2^i))):Int)+(E-i)=(bl (rS N):Int)+E∧E+2≤aE (rS N) E:=by
 have u:=Ma N i (by omega)
 have F:=JT D
 have G:rS N≠0:=by unfold rS;omega
 have z:rS (N*(2^i*2^i))≠0:=fun h=>by
  rw[h]at u
  have:bl 0=0:=rfl
  omega
 have A:aE (rS (N*(2^i*2^i))) (E-i)=aE (rS N) E:=by unfold aE;rw[u];omega
 have d:(bl (rS (N*(2^i*2^i))):Int)+(E-i)=(bl (rS N):Int)+E:=by rw[u];omega
 have H:E+2≤aE (rS N) E:=by have:=(cD (rS N) E).2.1;omega
 refine⟨?_,A,d,H⟩
 have I:d8 (rS (N*(2^i*2^i))) (E-i)=d8 (rS N) E:=by
  unfold d8
  rw[A]
  obtain⟨k,J⟩:∃k:Nat,aE (rS N) E=E+k+1∧1≤k:=⟨(aE (rS N) E-E-1).toNat,by omega,by omega⟩
  rw[show E-i-aE (rS N) E= -((k+i+1:Nat):Int) by omega,show E-aE (rS N) E= -((k+1:Nat):Int) by omega]
  rw[dk _ _ (by omega),dk _ _ (by omega),CU _ _ (by omega),CU _ _ (by omega)]
  exact wO _ _ _
 unfold cg
 rw[if_neg G,if_neg z,d,I,A]
theorem JU(N i:Nat):bB (N*(2^i*2^i))*bB (N*(2^i*2^i))=N*(2^i*2^i)↔bB N*bB N=N:=by
 have u:0<2^i:=Nat.two_pow_pos _
 have D:0<2^i*2^i:=Nat.mul_pos u u
 constructor
 ·intro h
  have z:=mL N (2^i) u
  generalize O:bB (N*(2^i*2^i))=R at*
  --2^i goes into R,since its square goes into R's
  have G:∀(n a:Nat),(2^n*2^n)∣a*a→2^n∣a:=by
   intro n
   induction n with
   |zero=>intro a _;simp
   |succ n ih=>
    intro a F
    have K:2∣a*a:=Nat.dvd_trans ⟨2^n*2^(n+1),by rw[Nat.pow_succ];ac_rfl⟩ F
    have L:a%2=0:=by
     rcases Nat.mod_two_eq_zero_or_one a with h|h
     ·exact h
     ·exfalso
      have:a*a%2=1:=by rw[Nat.mul_mod,h]
      omega
    obtain⟨b,rfl⟩:∃b,a=2*b:=⟨a/2,by omega⟩
    have H:2^n*2^n∣b*b:=by
     obtain⟨c,A⟩:=F
     refine⟨c,?_⟩
     have:4*(b*b)=4*(2^n*2^n*c):=by
      have I:2*b*(2*b)=4*(b*b):=by rw[show(4:Nat)=2*2 by decide];ac_rfl
      have J:2^(n+1)*2^(n+1)*c=4*(2^n*2^n*c):=by rw[Nat.pow_succ,show(4:Nat)=2*2 by decide];ac_rfl
      rw[←I,A,J]
     omega
    obtain⟨d,z⟩:=ih b H
    exact⟨d,by rw[z,Nat.pow_succ];ac_rfl⟩
  obtain⟨c,A⟩:=G i R ⟨N,by rw[h];ac_rfl⟩
  rw[A,Nat.mul_div_cancel_left c u]at z
  rw[←z]
  have:c*c*(2^i*2^i)=N*(2^i*2^i):=by rw[←h,A];ac_rfl
  exact Nat.eq_of_mul_eq_mul_right D this
 ·intro h
  have:bB (N*(2^i*2^i))=bB N*2^i:=by
   refine gR ?_ ?_
   ·rw[jy,h];exact Nat.le_refl _
   ·have:=dp (bB N*2^i)
    rw[jy,h]at this
    omega
  rw[this,jy,h]
theorem yA(N i:Nat)(E:Int)(G:9007199254740992≤bB N):
  bM (oM (rS (N*(2^i*2^i)):Nat)).natAbs (oE (rS (N*(2^i*2^i)):Nat) (E-i))=bM (oM (rS N:Nat)).natAbs (oE (rS N:Nat) E):=by
 obtain⟨L,O,Q,U⟩:=rM N i E G
 have u:=JU N i
 by_cases d:bB N*bB N=N
 ·have A:=u.2 d
  have H:bB (N*(2^i*2^i))=bB N*2^i:=by
   refine gR ?_ ?_
   ·rw[jy,d];exact Nat.le_refl _
   ·have:=dp (bB N*2^i)
    rw[jy,d]at this
    omega
  have e:rS (N*(2^i*2^i))=rS N*2^i:=by
   unfold rS;rw[if_pos d,if_pos A,H,Nat.add_zero,Nat.add_zero,Nat.mul_assoc]
  have I:((rS (N*(2^i*2^i)):Nat):Int)=((rS N:Nat):Int)*2^i:=by rw[e,Int.natCast_mul,Int.natCast_pow];rfl
  have:=gu ((rS N:Nat):Int) i (E-i)
  rw[I,this.1,this.2,show E-(i:Int)+i=E by omega]
 ·have A:¬bB (N*(2^i*2^i))*bB (N*(2^i*2^i))=N*(2^i*2^i):=fun h=>d (u.1 h)
  have D:((rS N:Nat):Int)%2=1:=by unfold rS;rw[if_neg d];omega
  have F:((rS (N*(2^i*2^i)):Nat):Int)%2=1:=by unfold rS;rw[if_neg A];omega
  have z1:∀(v:Nat) (e:Int),(v:Int)%2=1→oM (v:Int)=v∧oE (v:Int) e=e:=fun v e h=>by
   have z:(v:Int)≠0:=by omega
   have a:=(eR (v:Int) z).unique (m':=(v:Int)) (k':=0) ⟨by simp,h⟩
   exact⟨a.1,by rw[cw _ _ z,a.2];simp⟩
  rw[(z1 _ (E-i) F).1,(z1 _ (E-i) F).2,(z1 _ E D).1,(z1 _ E D).2,Int.natAbs_natCast,Int.natAbs_natCast]
  have J:rS N≠0:=by omega
  have K:rS (N*(2^i*2^i))≠0:=by omega
  unfold bM
  rw[if_neg J,if_neg K,Q,O,L,if_neg (show¬aE (rS N) E≤E-i by omega),if_neg (show¬aE (rS N) E≤E by omega)]
open Go.RowKit
theorem CX(m k p D α d:Nat)(u z:Int)(F:m*2^k=D*2^α)(K:2*u=(k:Int)-1074-p)(L:2*z=(α:Int)-1074-d)(G:9007199254740992≤bB (m*2^p))(H:9007199254740992≤bB (D*2^d)):
  cg (rS (m*2^p)) (u-1)=cg (rS (D*2^d)) (z-1)∧bM (oM (rS (m*2^p):Nat)).natAbs (oE (rS (m*2^p):Nat) (u-1))=bM (oM (rS (D*2^d):Nat)).natAbs (oE (rS (D*2^d):Nat) (z-1)):=by
 have A:∀(m k p D α d i:Nat),m*2^k=D*2^α→p+2*i+α=k+d→m*2^p*(2^i*2^i)=D*2^d:=by
  intro m k p D α d i F I
  have J:0<2^α:=Nat.two_pow_pos _
  refine Nat.eq_of_mul_eq_mul_right J ?_
  rw[←Nat.pow_add,Nat.mul_assoc,Nat.mul_assoc,←Nat.pow_add,←Nat.pow_add,show p+(i+i+α)=k+d by omega,Nat.pow_add,←Nat.mul_assoc,F]
  ac_rfl
 rcases Int.le_total z u with h|h
 ·obtain⟨i,I⟩:∃i:Nat,u-z=i:=⟨(u-z).toNat,by omega⟩
  have e:=A m k p D α d i F (by omega)
  have s:=rM (m*2^p) i (u-1) G
  have f:=yA (m*2^p) i (u-1) G
  rw[e,show u-1-(i:Int)=z-1 by omega]at s f
  exact⟨s.1.symm,f.symm⟩
 ·obtain⟨i,I⟩:∃i:Nat,z-u=i:=⟨(z-u).toNat,by omega⟩
  have e:=A D α d m k p i F.symm (by omega)
  have s:=rM (D*2^d) i (z-1) H
  have f:=yA (D*2^d) i (z-1) H
  rw[e,show z-1-(i:Int)=u-1 by omega]at s f
  exact⟨s.1,f⟩
def tS(a:Nat):Nat:=rS (rv (fR a)*2^120)
def tV(a:Nat):Nat:=cg (tS a) (-598)
def tF(a:Nat):Int:=bM (oM (tS a:Nat)).natAbs (oE (tS a:Nat) (-598))
def sV(a:Nat):Nat:=
 if fK a=4 then 9221120237041090560
 else if fK a=0∨a=9218868437227405312 then a
 else if fS a=true then 9221120237041090560
 else tV a
def sF(a:Nat):Int:=
 if fK a=4 then 0
 else if fK a=0∨a=9218868437227405312 then 0
 else if fS a=true then 16
 else tF a
theorem wP{N:Nat}(h:2^106≤N):9007199254740992≤bB N:=by
 obtain⟨d,u⟩:=cj N
 have e:(9007199254740992:Nat)*9007199254740992=2^106:=by decide
 have:9007199254740992<bB N+1:=cC.1 (by omega)
 omega
theorem JV(a:Nat)(d:fK a≠0):9007199254740992≤bB (rv (fR a)*2^120):=by
 have h:rv (fR a)≠0:=fun e=>d ((cs a).2 ((mK _).1 e))
 refine wP (Nat.le_trans (show 2^106≤1*2^120 by decide) (Nat.mul_le_mul_right _ (by omega)))
theorem us(a m k p:Nat)(e:Int)(d:fK a≠0)(h:m*2^k=rv (fR a))(u:2*e=(k:Int)-1074-p)(z:9007199254740992≤bB (m*2^p)):
  cg (rS (m*2^p)) (e-1)=tV a∧bM (oM (rS (m*2^p):Nat)).natAbs (oE (rS (m*2^p):Nat) (e-1))=tF a:=by
 have:=CX m k p (rv (fR a)) 0 120 e (-597) (by rw[h];simp) u (by omega) z (JV a d)
 exact this
theorem Mb(a:Nat):tV a≤9218868437227405312:=dR _ _
theorem yB(a:Nat)(d:a<18446744073709551616):sV a<18446744073709551616:=by
 have h:=Mb a
 unfold sV
 repeat' split
 all_goals omega
theorem MY:cg (2^61) (-598)=486*4503599627370496:=by decide+kernel
theorem Mc:cg (2^1110) (-598)=1535*4503599627370496:=by decide+kernel
theorem Md:(2:Nat)^60*2^60=1*2^120:=by decide
theorem Gs:(2:Nat)^1109*2^1109=2^2098*2^120:=by decide+kernel
theorem CY(a:Nat)(h:fK a≠0):2^60≤bB (rv (fR a)*2^120)∧2^61≤tS a:=by
 have D:rv (fR a)≠0:=fun e=>h ((cs a).2 ((mK _).1 e))
 have u:1*2^120≤rv (fR a)*2^120:=Nat.mul_le_mul_right _ (by omega)
 obtain⟨F,A⟩:=cj (rv (fR a)*2^120)
 have d:2^60<bB (rv (fR a)*2^120)+1:=cC.1 (by rw[Md];exact Nat.lt_of_le_of_lt u A)
 refine⟨Nat.le_of_lt_succ d,?_⟩
 have z:=Nat.le_of_lt_succ d
 have e:(2:Nat)^61=2*2^60:=by decide
 unfold tS rS
 rw[e]
 exact Nat.le_trans (Nat.mul_le_mul_left 2 z) (Nat.le_add_right _ _)
theorem JW{V P c R:Nat}(d:V<P)(h:0<c)(u:R*R=P*c):bB (V*c)<R:=by
 obtain⟨z,A⟩:=cj (V*c)
 have:V*c<P*c:=(Nat.mul_lt_mul_right h).2 d
 exact cC.1 (by rw[u];omega)
theorem Gt{V:Nat}(h:V<2^2098):bB (V*2^120)<2^1109:=by
 have d:=Gs
 have u:=Nat.two_pow_pos 120
 generalize (2:Nat)^1109=R at*
 generalize (2:Nat)^2098=P at*
 generalize (2:Nat)^120=c at*
 exact JW h u d
theorem Me:(2:Nat)^1110=2^1109*2:=by decide+kernel
theorem Mf{N P:Nat}(h:bB N<P):rS N≤P*2:=by
 unfold rS
 have d:(if bB N*bB N=N then 0 else 1)≤1:=by split<;>omega
 omega
theorem C9(a:Nat)(h:ai a=true)(u:fK a≠0):486*4503599627370496≤tV a∧tV a≤1535*4503599627370496:=by
 have d:=fi a h
 rw[f9]at d
 have z:=Gt d
 have A:tS a≤2^1110:=by
  rw[Me]
  generalize (2:Nat)^1109=R at*
  exact Mf z
 refine⟨?_,?_⟩
 ·rw[←MY];exact kX _ (CY a u).2
 ·rw[←Mc];exact kX _ A
theorem ut(a:Nat)(h:fS a=false)(d:a<18446744073709551616):fR a=a:=by
 have:=of_decide_eq_false h
 unfold fR;omega
theorem qR(a:Nat)(h:fS a=true)(d:a<18446744073709551616):fR a=fN a:=by
 have:=of_decide_eq_true h
 unfold fR fN;rw[if_pos this];omega
theorem lE(a:Nat)(w:World)(h:a<18446744073709551616):
  Calls Tryz.prog 102 #[.int .u64 a] w fun e z=>e=.returned (.int .u64 (fR a:Nat))∧Below w.heap.size w z:=by
 have u:=ac (fun z=>eE a z h)
 have A:=ac (fun z=>fU a z h)
 cases hs:fS a
 ·rw[hs]at u
  rw[ut a hs h]
  clear hs h A
  go_enter Tryz.func102,Tryz.ntmps102
  go_wp2_with fail
  refine(uH u _).mono ?_
  rintro e D ⟨rfl,d⟩
  clear u
  go_wp2
  go_ret
  exact⟨rfl,d⟩
 ·rw[hs]at u
  rw[qR a hs h]
  clear hs h
  generalize fN a=q at*
  go_enter Tryz.func102,Tryz.ntmps102
  go_wp2_with fail
  refine(uH u _).mono ?_
  rintro e D ⟨rfl,d⟩
  clear u
  go_wp2_with fail
  refine(uH A _).mono ?_
  rintro e F ⟨rfl,rfl⟩
  clear A
  go_wp2
  go_ret
  exact⟨rfl,d⟩
def pl(a:Nat):Int:=if fS a=true then-(fR a:Int)else(fR a:Int)
theorem Da(a r:Nat)(s:Bool)(w:World)(K:r<9223372036854775808)
  (G:∀h,Calls Tryz.prog 102 #[.int .u64 a] h fun e u=>e=.returned (.int .u64 (r:Nat))∧Below h.heap.size h u)
  (H:∀h,Calls Tryz.prog 161 #[.int .u64 a] h fun e u=>e=.returned (.bool s)∧Below h.heap.size h u):
  Calls Tryz.prog 199 #[.int .u64 a] w fun e h=>e=.returned (.int .i64 (if s=true then-(r:Int)else(r:Int)))∧Below w.heap.size w h:=by
 have A:=ac G;have D:=ac H
 have L:IntKind.i64.wrap (r:Int)=(r:Int):=by simp only[IntKind.wrap_i64];omega
 have O:IntKind.i64.wrap (-(r:Int))= -(r:Int):=by simp only[IntKind.wrap_i64];omega
 clear G H
 cases s
 ·go_enter Tryz.func199,Tryz.ntmps199
  go_wp2_with fail
  refine(uH A _).mono ?_
  rintro e I ⟨rfl,d⟩
  have z:=ac d
  clear A d
  go_wp2_with fail
  refine(uH D _).mono ?_
  rintro e J ⟨rfl,d⟩
  have F:=ac ((uH z).trans (d.mono (uH z).size))
  clear D d
  go_wp2
  go_ret
  exact⟨rfl,uH F⟩
 ·go_enter Tryz.func199,Tryz.ntmps199
  go_wp2_with fail
  refine(uH A _).mono ?_
  rintro e I ⟨rfl,d⟩
  have z:=ac d
  clear A d
  go_wp2_with fail
  refine(uH D _).mono ?_
  rintro e J ⟨rfl,d⟩
  have F:=ac ((uH z).trans (d.mono (uH z).size))
  clear D d
  go_wp2
  go_ret
  exact⟨rfl,uH F⟩
theorem qT(a:Nat)(w:World)(h:a<18446744073709551616):
  Calls Tryz.prog 199 #[.int .u64 a] w fun e d=>e=.returned (.int .i64 (pl a))∧Below w.heap.size w d:=
 Da a (fR a) (fS a) w (ji a) (fun d=>lE a d h) (fun d=>eE a d h)
theorem kD(a:Int)(w:World):Calls Tryz.prog 230 #[.int .i64 a] w fun e d=>e=.returned (.bool false)∧w=d:=by
 go_enter Tryz.func230,Tryz.ntmps230
 go_wp2
 go_ret
 exact⟨rfl,rfl⟩
theorem Db(a b:Int)(w:World):Calls Tryz.prog 198 #[.int .i64 a,.int .i64 b] w fun e d=>e=.returned (.int .i64 (bD a b))∧w=d:=by
 have u:Hid (bD a b=if a<b then-1 else if b<a then 1 else 0):=rfl
 generalize bD a b=c at*
 rcases(show a<b∨b<a∨a=b by omega)with h|h|h
 ·go_enter Tryz.func198,Tryz.ntmps198
  go_wp2_with(go_at_call 230;refine(kD _ _).mono ?_;rintro e d ⟨rfl,rfl⟩)
  go_ret
  exact⟨aW (by rw[u.out];simp[h]),rfl⟩
 ·have z:¬a<b:=by omega
  go_enter Tryz.func198,Tryz.ntmps198
  go_wp2_with(go_at_call 230;refine(kD _ _).mono ?_;rintro e d ⟨rfl,rfl⟩)
  go_ret
  exact⟨aW (by rw[u.out];simp[h,z]),rfl⟩
 ·subst h
  go_enter Tryz.func198,Tryz.ntmps198
  go_wp2_with(go_at_call 230;refine(kD _ _).mono ?_;rintro e d ⟨rfl,rfl⟩)
  go_ret
  exact⟨aW (by rw[u.out];simp),rfl⟩
def cO(a b:Nat):Int:=if fK a=4∨fK b=4 then 0 else bD (fZ a) (fZ b)
def cB(a b:Nat):Bool:=if fK a=4∨fK b=4 then false else true
theorem pf{r s:Nat}(h:r<s):rv r<rv s:=Nat.lt_of_lt_of_le (rx r) (iS h)
theorem wQ{r:Nat}(h:0<r):0<rv r:=by have:=pf h;rw[dn]at this;exact this
theorem iF{a b:Int}(h:a<b):bD a b= -1:=by unfold bD;rw[if_pos h]
theorem iG{a b:Int}(h:b<a):bD a b=1:=by unfold bD;rw[if_neg (by omega),if_pos h]
theorem jz{a b:Int}(h:a=b):bD a b=0:=by unfold bD;rw[if_neg (by omega),if_neg (by omega)]
theorem uu{n m:Bool}{r s:Nat}(h:(if n=true then-(r:Int)else(r:Int))<(if m=true then-(s:Int)else(s:Int))):pv n r<pv m s:=by
 have z:rv 0=0:=dn
 have d:r<s→rv r<rv s:=pf
 have u:s<r→rv s<rv r:=pf
 have A:0<r→0<rv r:=wQ
 have p2:0<s→0<rv s:=wQ
 unfold pv
 cases n<;>cases m<;>simp only[if_true,if_false,Bool.false_eq_true]at h⊢<;>omega
theorem JX(a b:Nat):bD (pl a) (pl b)=bD (fZ a) (fZ b):=by
 have d:pl a<pl b→fZ a<fZ b:=fun h=>uu h
 have u:pl b<pl a→fZ b<fZ a:=fun h=>uu h
 rcases(show pl a<pl b∨pl b<pl a∨pl a=pl b by omega)with h|h|h
 ·rw[iF h,iF (d h)]
 ·rw[iG h,iG (u h)]
 ·have z:fZ a=fZ b:=by
   unfold pl at h
   unfold fZ pv
   cases ha:fS a<;>cases hb:fS b<;>rw[ha,hb]at h<;>simp only[if_true,if_false,Bool.false_eq_true]at h⊢
   ·rw[show fR a=fR b by omega]
   ·rw[show fR a=0 by omega,show fR b=0 by omega,dn];rfl
   ·rw[show fR a=0 by omega,show fR b=0 by omega,dn];rfl
   ·rw[show fR a=fR b by omega]
  rw[jz h,jz z]
theorem Dc(a b:Nat)(w:World)
  (z:∀d,Calls Tryz.prog 164 #[.int .u64 a] d fun r h=>r=.returned (.int .i64 4)∧Below d.heap.size d h):
  Calls Tryz.prog 160 #[.int .u64 a,.int .u64 b] w fun r d=>r=.returned (.tuple #[.int .i64 0,.bool false])∧Below w.heap.size w d:=by
 have A:=ac z
 clear z
 go_enter Tryz.func160,Tryz.ntmps160
 go_wp2_with fail
 refine(uH A _).mono ?_
 rintro e D ⟨rfl,u⟩
 clear A
 go_wp2
 exact bodyPost_ret (v:=.tuple #[.int .i64 0,.bool false]) (by simp[results,Tryz.results160,go_sem]) rfl ⟨rfl,u⟩
theorem Dd(a b:Nat)(z:Int)(w:World)(J:(z==4)=false)
  (A:∀h,Calls Tryz.prog 164 #[.int .u64 a] h fun r u=>r=.returned (.int .i64 z)∧Below h.heap.size h u)
  (D:∀h,Calls Tryz.prog 164 #[.int .u64 b] h fun r u=>r=.returned (.int .i64 4)∧Below h.heap.size h u):
  Calls Tryz.prog 160 #[.int .u64 a,.int .u64 b] w fun r h=>r=.returned (.tuple #[.int .i64 0,.bool false])∧Below w.heap.size w h:=by
 have F:=ac A;have G:=ac D
 clear A D
 go_enter Tryz.func160,Tryz.ntmps160
 go_wp2_with fail
 refine(uH F _).mono ?_
 rintro e K ⟨rfl,d⟩
 clear F
 have H:=ac d
 clear d
 go_wp2_with fail
 refine(uH G _).mono ?_
 rintro e L ⟨rfl,d⟩
 have I:=ac ((uH H).trans (d.mono (uH H).size))
 clear d G
 go_wp2
 exact bodyPost_ret (v:=.tuple #[.int .i64 0,.bool false]) (by simp[results,Tryz.results160,go_sem]) rfl ⟨rfl,uH I⟩
theorem Gu(a b:Nat)(z A x y o:Int)(w:World)(h4:(z==4)=false)(g4:(A==4)=false)
  (D:∀h,Calls Tryz.prog 164 #[.int .u64 a] h fun r u=>r=.returned (.int .i64 z)∧Below h.heap.size h u)
  (F:∀h,Calls Tryz.prog 164 #[.int .u64 b] h fun r u=>r=.returned (.int .i64 A)∧Below h.heap.size h u)
  (G:∀h,Calls Tryz.prog 199 #[.int .u64 a] h fun r u=>r=.returned (.int .i64 x)∧Below h.heap.size h u)
  (H:∀h,Calls Tryz.prog 199 #[.int .u64 b] h fun r u=>r=.returned (.int .i64 y)∧Below h.heap.size h u)
  (I:∀h,Calls Tryz.prog 198 #[.int .i64 x,.int .i64 y] h fun r u=>r=.returned (.int .i64 o)∧h=u):
  Calls Tryz.prog 160 #[.int .u64 a,.int .u64 b] w fun r h=>r=.returned (.tuple #[.int .i64 o,.bool true])∧Below w.heap.size w h:=by
 have J:=ac D;have K:=ac F;have L:=ac G;have O:=ac H;have Q:=ac I
 clear D F G H I
 go_enter Tryz.func160,Tryz.ntmps160
 go_wp2_with fail
 refine(uH J _).mono ?_
 rintro e w1 ⟨rfl,d⟩
 have U:=ac d
 clear d J
 go_wp2_with fail
 refine(uH K _).mono ?_
 rintro e w2 ⟨rfl,d⟩
 have X:=ac ((uH U).trans (d.mono (uH U).size))
 clear d K
 go_wp2_with fail
 refine(uH L _).mono ?_
 rintro e w3 ⟨rfl,d⟩
 have Y:=ac ((uH X).trans (d.mono (uH X).size))
 clear d L
 go_wp2_with fail
 refine(uH O _).mono ?_
 rintro e w4 ⟨rfl,d⟩
 have Z:=ac ((uH Y).trans (d.mono (uH Y).size))
 clear d O
 go_wp2_with fail
 refine(uH Q _).mono ?_
 rintro e w5 ⟨rfl,rfl⟩
 clear Q
 go_wp2
 exact bodyPost_ret (v:=.tuple #[.int .i64 o,.bool true]) (by simp[results,Tryz.results160,go_sem]) rfl ⟨rfl,uH Z⟩
theorem kE(a b:Nat)(w:World)(F:a<18446744073709551616)(G:b<18446744073709551616):
  Calls Tryz.prog 160 #[.int .u64 a,.int .u64 b] w fun r d=>r=.returned (.tuple #[.int .i64 (cO a b),.bool (cB a b)])∧Below w.heap.size w d:=by
 have A:=fun d=>cZ a d F
 have D:=fun d=>cZ b d G
 unfold cO cB
 by_cases u:fK a=4
 ·rw[if_pos (Or.inl u),if_pos (Or.inl u)]
  rw[u]at A
  exact Dc a b w A
 by_cases z:fK b=4
 ·rw[if_pos (Or.inr z),if_pos (Or.inr z)]
  rw[z]at D
  exact Dd a b _ w (by simp[u]) A D
 have h:¬(fK a=4∨fK b=4):=fun h=>h.elim u z
 rw[if_neg h,if_neg h,←JX]
 exact Gu a b _ _ _ _ _ w (by simp[u]) (by simp[z]) A D (fun d=>qT a d F) (fun d=>qT b d G) (fun d=>Db _ _ d)
theorem nX(a b:Nat)(o:Int)(t l q:Bool)(w:World)(D:(o=0∧t=false∧l=false∧q=false)∨(o= -1∧t=true∧l=true∧q=false)∨(o=0∧t=true∧l=false∧q=true)∨(o=1∧t=true∧l=false∧q=false))
  (z:∀d,Calls Tryz.prog 160 #[.int .u64 a,.int .u64 b] d fun r h=>r=.returned (.tuple #[.int .i64 o,.bool t])∧Below d.heap.size d h):
  Calls Tryz.prog 101 #[.int .u64 a,.int .u64 b] w fun r d=>r=.returned (.bool l)∧Below w.heap.size w d:=by
 have A:=ac z
 clear z
 rcases D with⟨rfl,rfl,rfl,rfl⟩|⟨rfl,rfl,rfl,rfl⟩|⟨rfl,rfl,rfl,rfl⟩|⟨rfl,rfl,rfl,rfl⟩
 all_goals
  go_enter Tryz.func101,Tryz.ntmps101
  go_wp2_with fail
  refine(uH A _).mono ?_
  rintro e F ⟨rfl,u⟩
  clear A
  go_wp2
  go_ret
  exact⟨rfl,u⟩
def cM(a b:Nat)(l t:Bool):Nat:=if t=false then 9221120237041090560 else if l=true then b else a
theorem JY(a b:Nat)(o:Int)(t l q:Bool)(w:World)(D:(o=0∧t=false∧l=false∧q=false)∨(o= -1∧t=true∧l=true∧q=false)∨(o=0∧t=true∧l=false∧q=true)∨(o=1∧t=true∧l=false∧q=false))
  (z:∀d,Calls Tryz.prog 160 #[.int .u64 a,.int .u64 b] d fun r h=>r=.returned (.tuple #[.int .i64 o,.bool t])∧Below d.heap.size d h):
  Calls Tryz.prog 158 #[.int .u64 a,.int .u64 b] w fun r d=>r=.returned (.int .u64 (cM a b l t:Nat))∧Below w.heap.size w d:=by
 have A:=ac z
 clear z
 unfold cM
 rcases D with⟨rfl,rfl,rfl,rfl⟩|⟨rfl,rfl,rfl,rfl⟩|⟨rfl,rfl,rfl,rfl⟩|⟨rfl,rfl,rfl,rfl⟩
 all_goals
  simp only[if_true,if_false,Bool.false_eq_true,Bool.true_eq_false]
  go_enter Tryz.func158,Tryz.ntmps158
  go_wp2_with fail
  refine(uH A _).mono ?_
  rintro e F ⟨rfl,u⟩
  clear A
  go_wp2
  go_ret
  exact⟨rfl,u⟩
theorem Gv(a b:Nat)(o:Int)(t l q:Bool)(w:World)(D:(o=0∧t=false∧l=false∧q=false)∨(o= -1∧t=true∧l=true∧q=false)∨(o=0∧t=true∧l=false∧q=true)∨(o=1∧t=true∧l=false∧q=false))
  (z:∀d,Calls Tryz.prog 143 #[.int .u64 a,.int .u64 b] d fun r h=>r=.returned (.tuple #[.int .i64 o,.bool t])∧Below d.heap.size d h):
  Calls Tryz.prog 141 #[.int .u64 a,.int .u64 b] w fun r d=>r=.returned (.int .u64 (cM a b l t:Nat))∧Below w.heap.size w d:=by
 have A:=ac z
 clear z
 unfold cM
 rcases D with⟨rfl,rfl,rfl,rfl⟩|⟨rfl,rfl,rfl,rfl⟩|⟨rfl,rfl,rfl,rfl⟩|⟨rfl,rfl,rfl,rfl⟩
 all_goals
  simp only[if_true,if_false,Bool.false_eq_true,Bool.true_eq_false]
  go_enter Tryz.func141,Tryz.ntmps141
  go_wp2_with fail
  refine(uH A _).mono ?_
  rintro e F ⟨rfl,u⟩
  clear A
  go_wp2
  go_ret
  exact⟨rfl,u⟩
theorem De(X y:Nat)(u:0<y):X*2/(2*y)=2*(X/(2*y))+(if y≤X%(2*y)then 1 else 0)∧X*2%(2*y)=2*(X%(2*y)-(if y≤X%(2*y)then y else 0)):=by
 have d:=Nat.div_add_mod X (2*y)
 have z:=Nat.mod_lt X (show 0<2*y by omega)
 generalize X/(2*y)=q at*
 generalize X%(2*y)=r at*
 have h:X*2=2*y*(2*q)+2*r:=by rw[←d,Nat.add_mul,Nat.mul_assoc,Nat.mul_comm q 2,Nat.mul_comm r 2]
 by_cases c:y≤r
 ·rw[if_pos c,if_pos c]
  have e:X*2=2*y*(2*q+1)+2*(r-y):=by rw[Nat.mul_add,Nat.mul_one];omega
  rw[e]
  refine⟨?_,?_⟩
  ·rw[Nat.mul_add_div (by omega),Nat.div_eq_of_lt (by omega),Nat.add_zero]
  ·rw[Nat.mul_add_mod,Nat.mod_eq_of_lt (by omega)]
 ·rw[if_neg c,if_neg c]
  rw[h]
  refine⟨?_,?_⟩
  ·rw[Nat.mul_add_div (by omega),Nat.div_eq_of_lt (by omega),Nat.add_zero]
  ·rw[Nat.mul_add_mod,Nat.mod_eq_of_lt (by omega)];omega
def lQ(x y i:Nat):Nat:=x*2^i/(2*y)
def lR(x y i:Nat):Nat:=x*2^i%(2*y)
theorem JZ(x y:Nat)(h:x<2*y):lQ x y 0=0∧lR x y 0=x:=by
 unfold lQ lR
 rw[Nat.pow_zero,Nat.mul_one]
 exact⟨Nat.div_eq_of_lt h,Nat.mod_eq_of_lt h⟩
theorem J0(x y i:Nat)(d:0<y):lQ x y (i+1)=2*lQ x y i+(if y≤lR x y i then 1 else 0)∧lR x y (i+1)=2*(lR x y i-(if y≤lR x y i then y else 0)):=by
 have:=De (x*2^i) y d
 unfold lQ lR
 rw[Nat.pow_succ,←Nat.mul_assoc]
 exact this
theorem Mg(x y i:Nat)(d:0<y):lR x y i<2*y:=Nat.mod_lt _ (by omega)
theorem Df(x y i:Nat)(h:x<2*y):lQ x y i<2^i:=by
 unfold lQ
 rw[Nat.div_lt_iff_lt_mul (by omega),Nat.mul_comm (2^i)]
 exact(Nat.mul_lt_mul_right (Nat.two_pow_pos i)).2 h
theorem I6(x y:Nat):cJ (x*2^54) y=2*lQ x y 55+(if 0<lR x y 55 then 1 else 0):=by
 have e:x*2^55=2*(x*2^54):=by rw[show(2:Nat)^55=2*2^54 by decide];ac_rfl
 unfold cJ lQ lR
 rw[e,Nat.mul_div_mul_left _ _ (by decide),Nat.mul_mod_mul_left]
 congr 1
 by_cases c:x*2^54%y=0
 ·rw[if_pos c,c,if_neg (by omega)]
 ·rw[if_neg c,if_pos (by omega)]
def dS(b:Nat):Nat:=(fD b).natAbs*2^(53-bl (fD b).natAbs)
def dT(b:Nat):Int:=(bl (fD b).natAbs:Int)+fX b
theorem cQ(b:Nat)(H:b<18446744073709551616)(D:ai b=true)(I:fK b≠0):
  bl (fD b).natAbs≤53∧1≤bl (fD b).natAbs∧4503599627370496≤dS b∧dS b<9007199254740992∧-1074≤fX b∧fX b≤1024∧(fD b).natAbs%2=1∧(fD b).natAbs<9007199254740992:=by
 obtain⟨β,Y,O,Q,U⟩:=nU b H D I
 have d:(fD b).natAbs≠0:=by omega
 obtain⟨X,Z,b3⟩:=bK _ d
 have h:bl (fD b).natAbs≤53:=by
  have:(2:Nat)^(bl (fD b).natAbs-1)<2^53:=by rw[BL];omega
  have:=cK this
  omega
 have J:=kV (fD b).natAbs (53-bl (fD b).natAbs) d
 have u:bl (dS b)=53:=by unfold dS;rw[J];omega
 have z:dS b≠0:=by
  unfold dS
  exact Nat.mul_ne_zero d (Nat.pos_iff_ne_zero.1 (Nat.two_pow_pos _))
 obtain⟨c1,G,A⟩:=bK _ z
 rw[u]at G A
 have F:=fi b D
 rw[f9,O]at F
 have K:β<2098:=by
  have L:2^β≤(fD b).natAbs*2^β:=Nat.le_mul_of_pos_left _ (by omega)
  exact cK (Nat.lt_of_le_of_lt L F)
 refine⟨h,X,?_,?_,by omega,by omega,Q,U⟩
 ·exact G
 ·rw[BL]at A;exact A
def pS(a b:Nat):Nat:=cJ (dS a*2^54) (dS b)
theorem Dg(a b:Nat)(D:a<18446744073709551616)(F:b<18446744073709551616)(G:ai a=true)(H:ai b=true)(I:fK a≠0)(J:fK b≠0):
  cg (pS a b) (dT a-dT b-55)=qV a b∧bM (oM (pS a b:Nat)).natAbs (oE (pS a b:Nat) (dT a-dT b-55))=qF a b:=by
 obtain⟨x1,x2,x3,x4,x5,x6,x7,x8⟩:=cQ a D G I
 obtain⟨y1,y2,y3,y4,y5,y6,Q,U⟩:=cQ b F H J
 have u:=Gr (fD a).natAbs (fD b).natAbs (by omega) U (by omega)
 obtain⟨u1,u2,u3⟩:=bK (fD a).natAbs (by omega)
 obtain⟨v1,v2,v3⟩:=bK (fD b).natAbs (by omega)
 unfold pS qV qF qS dS dT
 generalize (fD a).natAbs=d at*
 generalize (fD b).natAbs=h at*
 have K:d*2^(53-bl d)*2^54=d*2^(54-bl d+bl h)*2^(53-bl h):=by
  rw[Nat.mul_assoc,←Nat.pow_add,Nat.mul_assoc,←Nat.pow_add]
  congr 2
  omega
 have z:54-bl d+bl h=54+bl h-bl d:=by omega
 rw[K,CE]
 have A:9007199254740992≤d*2^(54-bl d+bl h)/h:=by
  rw[Nat.le_div_iff_mul_le (by omega)]
  have X:9007199254740992*h≤2^53*2^bl h:=by rw[BL];exact Nat.mul_le_mul_left _ (by omega)
  have Y:(2:Nat)^53*2^bl h≤2^(bl d-1)*2^(54-bl d+bl h):=by
   rw[←Nat.pow_add,←Nat.pow_add];exact g6 (by omega)
  have Z:2^(bl d-1)*2^(54-bl d+bl h)≤d*2^(54-bl d+bl h):=Nat.mul_le_mul_right _ u2
  omega
 have L:(bl d:Int)+fX a-((bl h:Int)+fX b)-55=(fX a-fX b-1)-(54-bl d+bl h:Nat):=by omega
 have O:fX a-fX b-181=(fX a-fX b-1)-(180:Nat):=by omega
 rw[L,O]
 exact⟨Gq d h _ 180 _ (by omega) A u,rJ d h _ 180 _ Q A u⟩
theorem Dh(a b:Nat)(d:a<18446744073709551616)(u:b<18446744073709551616)(z:ai a=true)(A:ai b=true)(D:fK a≠0)(F:fK b≠0):pS a b≠0∧pS a b<144115188075855872∧dS a<2*dS b:=by
 obtain⟨K,L,O,Q,U,X,Y,Z⟩:=cQ a d z D
 obtain⟨y1,y2,y3,y4,y5,y6,y7,y8⟩:=cQ b u A F
 have h:=I6 (dS a) (dS b)
 have G:=Df (dS a) (dS b) 55 (by omega)
 have H:(2:Nat)^55=36028797018963968:=by decide
 have I:(if 0<lR (dS a) (dS b) 55 then 1 else 0)≤1:=by split<;>omega
 refine⟨?_,?_,by omega⟩
 ·have:1≤dS a*2^54/dS b:=by
   rw[Nat.le_div_iff_mul_le (by omega),Nat.one_mul]
   have:dS a*1≤dS a*2^54:=Nat.mul_le_mul_left _ (by decide)
   have J:dS a*2≤dS a*2^54:=Nat.mul_le_mul_left _ (by decide)
   omega
  unfold pS cJ
  omega
 ·show cJ (dS a*2^54) (dS b)<_
  rw[h];omega
theorem yC(b:Nat)(d:fK b≠0):fZ b≠0∧decide (fZ b<0)=fS b:=by
 have h:fR b≠0:=fun e=>d ((cs b).2 e)
 have u:0<rv (fR b):=wQ (by omega)
 unfold fZ pv
 cases fS b
 ·simp only[Bool.false_eq_true,if_false]
  exact⟨by omega,decide_eq_false (by omega)⟩
 ·simp only[if_true]
  exact⟨by omega,decide_eq_true (by omega)⟩
theorem ee(a:Nat)(A:a<18446744073709551616)(z:ai a=true)(D:fK a≠0):
  fD a%2=1∧(fD a).natAbs<9007199254740992∧(fD a).natAbs≠0∧decide (fD a<0)=fS a∧-1074≤fX a∧fX a≤1024∧1≤bl (fD a).natAbs∧(bl (fD a).natAbs:Int)+fX a≤1024∧cg (rv (fR a)) (-1074)=cg (fD a).natAbs (fX a):=by
 obtain⟨β,H,F,Y,I⟩:=nU a A z D
 obtain⟨Z,J,y3,y4,K,L,y7,y8⟩:=cQ a A z D
 obtain⟨O,d2⟩:=de a A z
 obtain⟨n1,Q⟩:=yC a D
 have d:(fD a).natAbs≠0:=by omega
 have X:bl (rv (fR a))=bl (fD a).natAbs+β:=by rw[F];exact kV _ _ d
 have h:=fi a z
 rw[f9]at h
 have u:rv (fR a)≠0:=by rw[←f9];omega
 have G:bl (rv (fR a))≤2098:=by
  obtain⟨b1,U,b3⟩:=bK _ u
  have:=cK (Nat.lt_of_le_of_lt U h)
  omega
 refine⟨by omega,I,d,?_,K,L,J,by omega,?_⟩
 ·rw[←O,jT];exact Q
 ·rw[F,H,mA]
theorem rN(C:Int)(u:2098<C)(v:Nat)(E n:Int)(d:v≠0)(z:(bl v:Int)+E≤1024)(A:-1074≤(bl v:Int)+E):
  cg v (E+n)=cg v (E+max (-C) (min C n))∧bM v (E+n)=bM v (E+max (-C) (min C n)):=by
 rcases Int.lt_or_le C n with h|h
 ·have a:=pb d (E:=E+n) (by omega)
  have b:=pb d (E:=E+max (-C) (min C n)) (by omega)
  rw[a.1,a.2,b.1,b.2]
  exact⟨rfl,rfl⟩
 ·rcases Int.lt_or_le n (-C)with g|g
  ·have a:=yv d (E:=E+n) (by omega)
   have b:=yv d (E:=E+max (-C) (min C n)) (by omega)
   rw[a.1,a.2,b.1,b.2]
   exact⟨rfl,rfl⟩
  ·rw[show max (-C) (min C n)=n by omega]
   exact⟨rfl,rfl⟩
def xV(a:Nat)(n:Int):Nat:=if fK a=4 then 9221120237041090560 else if fK a=3∨fK a=0 then a else gJ (fS a) (cg (fD a).natAbs (fX a+n))
def xF(a:Nat)(n:Int):Int:=if fK a=4 then 0 else if fK a=3∨fK a=0 then 0 else bM (fD a).natAbs (fX a+n)
theorem pg(a:Nat)(n:Int)(d:a<18446744073709551616):xV a n<18446744073709551616:=by
 unfold xV
 have:=dR (fD a).natAbs (fX a+n)
 repeat' split
 ·decide
 ·exact d
 ·exact kC _ _ (by omega)
theorem Di(C:Int)(u:2098<C)(a:Nat)(n:Int)(z:a<18446744073709551616):xV a (max (-C) (min C n))=xV a n∧xF a (max (-C) (min C n))=xF a n:=by
 unfold xV xF
 by_cases d:fK a=4
 ·rw[if_pos d,if_pos d,if_pos d,if_pos d];exact⟨rfl,rfl⟩
 by_cases h:fK a=3∨fK a=0
 ·rw[if_neg d,if_neg d,if_neg d,if_neg d,if_pos h,if_pos h,if_pos h,if_pos h];exact⟨rfl,rfl⟩
 ·rw[if_neg d,if_neg d,if_neg d,if_neg d,if_neg h,if_neg h,if_neg h,if_neg h]
  obtain⟨z1,z2,A,F,G,H,I,D,J⟩:=ee a z (et a (by omega) d) (by omega)
  have:=rN C u _ _ n A D (by omega)
  rw[this.1,this.2]
  exact⟨rfl,rfl⟩
theorem rO{D E:Int}(h:D%2=1)(d:-16384≤E∧E≤16384):qh D E=true:=by
 unfold qh
 rw[if_neg (by omega),decide_eq_true h,decide_eq_true d];rfl
theorem yD{D:Int}(h:D%2=1):oM D=D∧∀e,oE D e=e:=by
 have d:D≠0:=by omega
 have u:=fH D d
 have:=(eR D d).unique (m':=D) (k':=0) ⟨by simp,h⟩
 refine⟨this.1,fun e=>?_⟩
 rw[cw _ _ d,this.2];simp
theorem J5{D:Int}(h:D%2=1):tz D.natAbs=0:=by
 have d:D≠0:=by omega
 exact((eR D d).unique (m':=D) (k':=0) ⟨by simp,h⟩).2
theorem Gw{w:World}{v:Value}{D X:Int}(n:Int)(z:aC w v D X)(d:D%2=1)(O:D.natAbs<9007199254740992)(Q:-1074≤X∧X≤1024)(U:-5000≤n∧n≤5000)(F:cr w):
  Calls Tryz.prog 228 #[v,.int .i64 n] w fun r u=>nF u r 0 D (X+n)∧Below w.heap.size w u:=by
 obtain⟨G,H,I,A,rfl,J,Y,K,Z,L⟩:=z.right (cz _ (by omega))
 have:=rG G H I A X n w J (L.trans (rO d (by omega))) (by omega) F
 have h:mE D (X+n)=true:=by
  unfold mE
  rw[J5 d,decide_eq_true (show-32768≤X+n∧X+n≤32768 by omega),decide_eq_true (show-16384≤X+n+((0:Nat):Int)∧X+n+((0:Nat):Int)≤16384 by omega),Bool.or_true]
  rfl
 rw[K]at this
 unfold cU dM dX at this
 rw[h,if_pos rfl,if_pos rfl,if_pos rfl,(yD d).1,(yD d).2]at this
 exact this
theorem ph(a o:Nat)(n D X Y fl:Int)(w:World)(hT:cr w)
  (C1:∀u,cr u→Calls Tryz.prog 168 #[.int .u64 a] u fun r z=>nF z r 0 D X∧Below u.heap.size u z)
  (C2:∀u v,cr u→aC u v D X→Calls Tryz.prog 228 #[v,.int .i64 n] u fun r z=>nF z r 0 D Y∧Below u.heap.size u z)
  (C3:∀u v,cr u→aC u v D Y→Calls Tryz.prog 229 #[v] u fun r z=>r=.returned (.tuple #[.int .u64 (o:Nat),.int .u8 fl,.int .i64 0])∧Below u.heap.size u z):
  Calls Tryz.prog 197 #[.int .u64 a,.int .i64 n] w fun r u=>r=.returned (.tuple #[.int .u64 (o:Nat),.int .u8 fl])∧Below w.heap.size w u:=by
 have K1:=ac C1;have K2:=ac C2;have K3:=ac C3;have HT:=ac hT
 clear C1 C2 C3 hT
 go_enter Tryz.func197,Tryz.ntmps197
 go_wp2_with fail
 refine(uH K1 _ (uH HT)).mono ?_
 rintro e H ⟨⟨v,rfl,hv⟩,h⟩
 obtain⟨L,O,Q,F,rfl,i1⟩:=hv
 have d:Below H.heap.size H (H.alloc (.cells #[.bool L,.slice O F.length Q,.int .i64 X] 35)):=(Below.refl _ _).alloc (Nat.le_refl _) _
 have HX:=ac ((show aC H (.agg #[.bool L,.slice O F.length Q,.int .i64 X]) D X from⟨L,O,Q,F,rfl,i1⟩).below d)
 have J:=ac (h.trans (d.mono h.size))
 have A:=al.new H (.bool L) (.slice O F.length Q) (.int .i64 X)
 have y0:=A.c0;have y1:=A.c1;have y2:=A.c2
 clear i1 h d K1 A
 generalize F.length=l1 at*
 go_wp2_with fail
 refine(uH K2 _ _ ((uH HT).all (uH J)) (uH HX)).mono ?_
 rintro e I ⟨⟨v,rfl,hv⟩,h⟩
 obtain⟨U,Z,c2,G,rfl,i2⟩:=hv
 have d:Below I.heap.size I (I.alloc (.cells #[.bool U,.slice Z G.length c2,.int .i64 Y] 35)):=(Below.refl _ _).alloc (Nat.le_refl _) _
 have HY:=ac ((show aC I (.agg #[.bool U,.slice Z G.length c2,.int .i64 Y]) D Y from⟨U,Z,c2,G,rfl,i2⟩).below d)
 have K:=ac ((uH J).trans ((h.trans (d.mono h.size)).mono (uH J).size))
 have A:=al.new I (.bool U) (.slice Z G.length c2) (.int .i64 Y)
 have z0:=A.c0;have z1:=A.c1;have z2:=A.c2
 clear i2 h d K2 A y0 y1 y2 HX J
 generalize G.length=l2 at*
 go_wp2_with fail
 refine(uH K3 _ _ ((uH HT).all (uH K)) (uH HY)).mono ?_
 rintro e w3 ⟨rfl,h⟩
 have B3:=ac ((uH K).trans (h.mono (uH K).size))
 clear h K3 K z0 z1 z2 HY
 go_wp2
 exact bodyPost_ret (v:=.tuple #[.int .u64 o,.int .u8 fl]) (by simp[results,Tryz.results197,go_sem]) rfl ⟨rfl,uH B3⟩
theorem nG(a:Nat)(n:Int)(w:World)(u:a<18446744073709551616)(z:ai a=true)(D:fK a≠0)(F:-5000≤n∧n≤5000)(G:cr w):
  Calls Tryz.prog 197 #[.int .u64 a,.int .i64 n] w fun r d=>r=.returned (.tuple #[.int .u64 (gJ (fS a) (cg (fD a).natAbs (fX a+n)):Nat),.int .u8 (bM (fD a).natAbs (fX a+n))])∧Below w.heap.size w d:=by
 obtain⟨z1,z2,I,H,J,K,L,O,Q⟩:=ee a u z D
 have A:∀d v,cr d→aC d v (fD a) (fX a+n)→_:=fun d v t h=>jw h (cz _ (by omega)) (rO z1 (by omega)) t
 rw[H]at A
 exact ph a _ n (fD a) (fX a) (fX a+n) _ w G (fun d t=>dG a d u z t) (fun d v t h=>Gw n h z1 z2 (by omega) F t) A
theorem Gx(a:Nat)(n:Int)(w:World)
  (z:∀d,Calls Tryz.prog 164 #[.int .u64 a] d fun r h=>r=.returned (.int .i64 4)∧Below d.heap.size d h):
  Calls Tryz.prog 155 #[.int .u64 a,.int .i64 n] w fun r d=>r=.returned (.tuple #[.int .u64 9221120237041090560,.int .u8 0])∧Below w.heap.size w d:=by
 have A:=ac z
 clear z
 go_enter Tryz.func155,Tryz.ntmps155
 go_wp2_with fail
 refine(uH A _).mono ?_
 rintro e D ⟨rfl,u⟩
 clear A
 go_wp2
 exact bodyPost_ret (v:=.tuple #[.int .u64 9221120237041090560,.int .u8 0]) (by simp[results,Tryz.results155,go_sem]) rfl ⟨rfl,u⟩
theorem Dj(a:Nat)(n k:Int)(w:World)(D:k=3∨k=0)
  (A:∀h,Calls Tryz.prog 164 #[.int .u64 a] h fun r z=>r=.returned (.int .i64 k)∧Below h.heap.size h z):
  Calls Tryz.prog 155 #[.int .u64 a,.int .i64 n] w fun r h=>r=.returned (.tuple #[.int .u64 (a:Nat),.int .u8 0])∧Below w.heap.size w h:=by
 have u:=ac A
 clear A
 rcases D with rfl|rfl
 ·go_enter Tryz.func155,Tryz.ntmps155
  go_wp2_with fail
  refine(uH u _).mono ?_
  rintro e F ⟨rfl,d⟩
  clear u
  go_wp2
  exact bodyPost_ret (v:=.tuple #[.int .u64 (a:Nat),.int .u8 0]) (by simp[results,Tryz.results155,go_sem]) rfl ⟨rfl,d⟩
 ·go_enter Tryz.func155,Tryz.ntmps155
  go_wp2_with fail
  refine(uH u _).mono ?_
  rintro e F ⟨rfl,d⟩
  clear u
  go_wp2
  exact bodyPost_ret (v:=.tuple #[.int .u64 (a:Nat),.int .u8 0]) (by simp[results,Tryz.results155,go_sem]) rfl ⟨rfl,d⟩
theorem Dk(P:Program)(w:World)(d:Array TypeId)(t:TypeId)(x y:Int):(Builtin.min_ d t #[.int .i64 x,.int .i64 y]).run P w=.ok (.int .i64 (min x y)) w:=by
 rw[run_min_int2]
 congr 2
 split<;>omega
theorem Gy(a o:Nat)(n k m c A:Int)(w:World)(O:(k==4)=false)(Q:(k==3)=false)(U:(k==0)=false)(F:cr w)
  (X:∀W D t,(Builtin.max_ D t #[.int .i64 n,.int .i64 (-4096)]).run Tryz.prog W=.ok (.int .i64 m) W)
  (Y:∀W D t,(Builtin.min_ D t #[.int .i64 m,.int .i64 4096]).run Tryz.prog W=.ok (.int .i64 c) W)
  (G:∀h,Calls Tryz.prog 164 #[.int .u64 a] h fun r u=>r=.returned (.int .i64 k)∧Below h.heap.size h u)
  (H:∀h,cr h→Calls Tryz.prog 197 #[.int .u64 a,.int .i64 c] h fun r u=>r=.returned (.tuple #[.int .u64 (o:Nat),.int .u8 A])∧Below h.heap.size h u):
  Calls Tryz.prog 155 #[.int .u64 a,.int .i64 n] w fun r h=>r=.returned (.tuple #[.int .u64 (o:Nat),.int .u8 A])∧Below w.heap.size w h:=by
 have I:=ac G;have J:=ac H;have K:=ac F
 clear G H F
 go_enter Tryz.func155,Tryz.ntmps155
 go_wp2_with fail
 refine(uH I _).mono ?_
 rintro e Z ⟨rfl,d⟩
 have z:=ac d
 clear I d
 go_wp2_with fail
 refine(uH J _ ((uH K).all (uH z))).mono ?_
 rintro e w2 ⟨rfl,d⟩
 have L:=ac ((uH z).trans (d.mono (uH z).size))
 clear J d z K
 go_wp2
 exact bodyPost_ret (v:=.tuple #[.int .u64 (o:Nat),.int .u8 A]) (by simp[results,Tryz.results155,go_sem]) rfl ⟨rfl,uH L⟩
theorem wR(a:Nat)(n:Int)(w:World)(A:a<18446744073709551616)(F:cr w):
  Calls Tryz.prog 155 #[.int .u64 a,.int .i64 n] w fun r h=>r=.returned (.tuple #[.int .u64 (xV a n:Nat),.int .u8 (xF a n)])∧Below w.heap.size w h:=by
 have z:=fun h=>cZ a h A
 by_cases d:fK a=4
 ·unfold xV xF
  rw[if_pos d,if_pos d]
  rw[d]at z
  exact Gx a n w z
 by_cases u:fK a=3∨fK a=0
 ·unfold xV xF
  rw[if_neg d,if_neg d,if_pos u,if_pos u]
  exact Dj a n _ w u z
 ·have G:=et a (by omega) d
  have e:=Di 4096 (by decide) a n A
  rw[show max (-4096) (min 4096 n)=min (max n (-4096)) 4096 by omega]at e
  rw[←e.1,←e.2]
  unfold xV xF
  rw[if_neg d,if_neg d,if_neg u,if_neg u]
  exact Gy a _ n _ (max n (-4096)) (min (max n (-4096)) 4096) _ w (by simp[d]) (by simp;omega) (by simp;omega) F (fun W D t=>jv _ W D t _ _) (fun W D t=>Dk _ W D t _ _) z (fun h t=>nG a _ h A G (by omega) (by omega) t)
end Go.Proofs.YtcbcmlaogehimaaGreatDoor
