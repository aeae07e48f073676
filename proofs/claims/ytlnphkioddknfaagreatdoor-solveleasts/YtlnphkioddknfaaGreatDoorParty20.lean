/- Part 20 of the texts. -/
import Derived.Test.YtlnphkioddknfaaGreatDoorParty19
set_option maxHeartbeats 4000000
set_option maxRecDepth 20000
namespace Go.Proofs.YtlnphkioddknfaaGreatDoor
def bC:Nat→Nat
 |0=>0
 |n+1=>if(bC n+1)*(bC n+1)≤n+1 then bC n+1 else bC n
theorem gK(m:Nat):(m+1)*(m+1)=m*m+2*m+1:=by rw[Nat.add_mul,Nat.mul_add];omega
theorem Gl{a b:Nat}(h:a≤b):a*a≤b*b:=Nat.mul_le_mul h h
theorem Gm{a b:Nat}(h:a<b):a*a<b*b:=Nat.mul_lt_mul_of_lt_of_le h (Nat.le_of_lt h) (by omega)
theorem eY{a b:Nat}:a*a<b*b↔a<b:=by
 constructor
 ·intro h
  rcases Nat.lt_or_ge a b with d|d
  ·exact d
  ·have:=Gl d;omega
 ·exact Gm
theorem dh(n:Nat):bC n*bC n≤n∧n<(bC n+1)*(bC n+1):=by
 induction n with
 |zero=>exact⟨Nat.le_refl _,by decide⟩
 |succ n ih=>
  unfold bC
  obtain⟨l,m⟩:=ih
  have d:=gK (bC n)
  have f:=gK (bC n+1)
  split
  ·rename_i h
   exact⟨h,by omega⟩
  ·rename_i h
   exact⟨by omega,by omega⟩
theorem gu{n m:Nat}(d:m*m≤n)(f:n<(m+1)*(m+1)):bC n=m:=by
 obtain⟨t,y⟩:=dh n
 have h:bC n<m+1:=eY.1 (by omega)
 have l:m<bC n+1:=eY.1 (by omega)
 omega
theorem A7{n m:Nat}(h:n≤m):bC n≤bC m:=by
 obtain⟨d,f⟩:=dh n
 obtain⟨l,t⟩:=dh m
 have:bC n<bC m+1:=eY.1 (by omega)
 omega
theorem j7(a p:Nat):a*p*(a*p)=a*a*(p*p):=by ac_rfl
theorem lw(N p:Nat)(d:0<p):bC (N*(p*p))/p=bC N:=by
 obtain⟨l,m⟩:=dh N
 obtain⟨A,D⟩:=dh (N*(p*p))
 have f:0<p*p:=Nat.mul_pos d d
 have t:bC N*p<bC (N*(p*p))+1:=by
  apply eY.1
  rw[j7]
  have:bC N*bC N*(p*p)≤N*(p*p):=Nat.mul_le_mul_right _ l
  omega
 have h:bC (N*(p*p))<(bC N+1)*p:=by
  apply eY.1
  rw[j7]
  have:N*(p*p)<(bC N+1)*(bC N+1)*(p*p):=(Nat.mul_lt_mul_right f).2 m
  omega
 have y:bC N≤bC (N*(p*p))/p:=(Nat.le_div_iff_mul_le d).2 (by omega)
 have z:bC (N*(p*p))/p<bC N+1:=(Nat.div_lt_iff_lt_mul d).2 h
 omega
def rS(N:Nat):Nat:=2*bC N+(if bC N*bC N=N then 0 else 1)
def A8(N k:Nat):Nat:=bC N/2^k+(if(2*(bC N/2^k)+1)*2^k*((2*(bC N/2^k)+1)*2^k)<4*N∨((2*(bC N/2^k)+1)*2^k*((2*(bC N/2^k)+1)*2^k)=4*N∧bC N/2^k%2=1)then 1 else 0)
theorem uW(N k i:Nat):A8 (N*(2^i*2^i)) (k+i)=A8 N k:=by
 have f:0<2^i:=Nat.two_pow_pos _
 have d:0<2^i*2^i:=Nat.mul_pos f f
 have e:bC (N*(2^i*2^i))/2^(k+i)=bC N/2^k:=by
  rw[Nat.add_comm k i,Nat.pow_add,←Nat.div_div_eq_div_mul,lw N _ f]
 unfold A8
 rw[e]
 generalize bC N/2^k=m
 have l:(2*m+1)*2^(k+i)*((2*m+1)*2^(k+i))=(2*m+1)*2^k*((2*m+1)*2^k)*(2^i*2^i):=by
  rw[Nat.pow_add];ac_rfl
 have t:4*(N*(2^i*2^i))=4*N*(2^i*2^i):=by ac_rfl
 rw[l,t]
 have y:((2*m+1)*2^k*((2*m+1)*2^k)*(2^i*2^i)<4*N*(2^i*2^i))↔(2*m+1)*2^k*((2*m+1)*2^k)<4*N:=Nat.mul_lt_mul_right d
 have z:((2*m+1)*2^k*((2*m+1)*2^k)*(2^i*2^i)=4*N*(2^i*2^i))↔(2*m+1)*2^k*((2*m+1)*2^k)=4*N:=
  ⟨fun h=>Nat.eq_of_mul_eq_mul_right d h,fun h=>by rw[h]⟩
 simp only[y,z]
theorem A9(N k:Nat)(L:1≤k):fh (rS N) (k+1)=A8 N k:=by
 obtain⟨j,rfl⟩:∃j,k=j+1:=⟨k-1,by omega⟩
 obtain⟨U,V⟩:=dh N
 have M:0<2^j:=Nat.two_pow_pos _
 have l:(2:Nat)^(j+1)=2*2^j:=by rw[Nat.pow_succ,Nat.mul_comm]
 have G:(2:Nat)^(j+1+1)=2*(2*2^j):=by rw[Nat.pow_succ,l,Nat.mul_comm]
 have O:(if bC N*bC N=N then 0 else 1)≤1:=by split<;>omega
 have d:(if bC N*bC N=N then 0 else 1)=0↔bC N*bC N=N:=by split<;>simp_all
 unfold fh A8 rS
 rw[G,l]
 generalize (2:Nat)^j=g at*
 generalize (if bC N*bC N=N then 0 else 1)=t at*
 generalize bC N=q at*
 have m:=Nat.div_add_mod q (2*g)
 have Q:=Nat.mod_lt q (show 0<2*g by omega)
 generalize I:q%(2*g)=a at*
 generalize K:q/(2*g)=b at*
 have y:(2*q+t)/(2*(2*g))=b:=by
  rw[←m,Nat.mul_add,←Nat.mul_assoc 2 (2*g) b,Nat.add_assoc]
  rw[Nat.mul_add_div (by omega),Nat.div_eq_of_lt (by omega),Nat.add_zero]
 have z:(2*q+t)%(2*(2*g))=2*a+t:=by
  rw[←m,Nat.mul_add,←Nat.mul_assoc 2 (2*g) b,Nat.add_assoc,Nat.mul_add_mod,Nat.mod_eq_of_lt (by omega)]
 rw[y,z]
 congr 1
 --half between two,as a square
 obtain⟨c,H⟩:∃c,c=2*g*b+g:=⟨_,rfl⟩
 have A:(2*b+1)*(2*g)*((2*b+1)*(2*g))=4*(c*c):=by
  have:(2*b+1)*(2*g)=2*c:=by rw[H,Nat.add_mul,Nat.one_mul,Nat.mul_add];ac_rfl
  rw[this,show(4:Nat)=2*2 by decide]
  ac_rfl
 rw[A]
 clear A K I y z
 rcases Nat.lt_trichotomy a g with h|h|h
 ·have f:(q+1)*(q+1)≤c*c:=Gl (by omega)
  rw[if_neg (by omega),if_neg (by omega)]
 ·have f:c=q:=by omega
  subst f
  by_cases D:c*c=N
  ·have:=d.2 D
   by_cases F:b%2=1
   ·rw[if_pos (Or.inr ⟨by omega,F⟩),if_pos (Or.inr ⟨by omega,F⟩)]
   ·rw[if_neg (by omega),if_neg (by omega)]
  ·have:t≠0:=fun e=>D (d.1 e)
   rw[if_pos (Or.inl (by omega)),if_pos (Or.inl (by omega))]
 ·have f:c*c<q*q:=Gm (by omega)
  rw[if_pos (Or.inl (by omega)),if_pos (Or.inl (by omega))]
theorem I9(N i:Nat)(G:0<bC N):bl (rS (N*(2^i*2^i)))=bl (rS N)+i:=by
 have f:0<2^i:=Nat.two_pow_pos _
 have t:rS N≠0:=by unfold rS;omega
 obtain⟨L,l,d⟩:=bK (rS N) t
 have H:2≤rS N:=by unfold rS;omega
 have y:2≤bl (rS N):=by
  rcases Nat.lt_or_ge (bl (rS N)) 2 with h|h
  ·have:bl (rS N)=1:=by omega
   rw[this]at d;omega
  ·exact h
 obtain⟨c,F⟩:∃c,bl (rS N)=c+2:=⟨bl (rS N)-2,by omega⟩
 rw[F]at l d⊢
 have z:(if bC N*bC N=N then 0 else 1)≤1:=by split<;>omega
 have A:2^c≤bC N:=by
  rw[show c+2-1=c+1 by omega,Nat.pow_succ]at l
  unfold rS at l
  omega
 have D:bC N<2^(c+1):=by
  rw[Nat.pow_succ]at d
  unfold rS at d
  omega
 have m:=lw N (2^i) f
 have I:2^(c+i)≤bC (N*(2^i*2^i)):=by
  rw[Nat.pow_add,←Nat.le_div_iff_mul_le f,m];exact A
 have K:bC (N*(2^i*2^i))<2^(c+1+i):=by
  rw[Nat.pow_add,←Nat.div_lt_iff_lt_mul f,m];exact D
 refine pq (by omega) ?_ ?_
 ·rw[show c+2+i-1=c+i+1 by omega,Nat.pow_succ]
  unfold rS
  omega
 ·rw[show c+2+i=c+1+i+1 by omega,Nat.pow_succ]
  unfold rS
  have z:(if bC (N*(2^i*2^i))*bC (N*(2^i*2^i))=N*(2^i*2^i)then 0 else 1)≤1:=by split<;>omega
  omega
theorem Hf{N:Nat}(l:9007199254740992≤bC N):55≤bl (rS N):=by
 have d:rS N≠0:=by unfold rS;omega
 obtain⟨m,t,f⟩:=bK (rS N) d
 have h:2^54≤rS N:=by
  have:(2:Nat)^54=2*9007199254740992:=by decide
  rw[this];unfold rS;omega
 have:=cF (Nat.lt_of_le_of_lt h f)
 omega
theorem qK(N i:Nat)(E:Int)(t:9007199254740992≤bC N):
  bX (rS (N*(2^i*2^i))) (E-i)=bX (rS N) E∧aJ (rS (N*(2^i*2^i))) (E-i)=aJ (rS N) E∧(bl (rS (N*(2^i*2^i))):Int)+(E-i)=(bl (rS N):Int)+E∧E+2≤aJ (rS N) E:=by
 have f:=I9 N i (by omega)
 have y:=Hf t
 have z:rS N≠0:=by unfold rS;omega
 have l:rS (N*(2^i*2^i))≠0:=fun h=>by
  rw[h]at f
  have:bl 0=0:=rfl
  omega
 have m:aJ (rS (N*(2^i*2^i))) (E-i)=aJ (rS N) E:=by unfold aJ;rw[f];omega
 have d:(bl (rS (N*(2^i*2^i))):Int)+(E-i)=(bl (rS N):Int)+E:=by rw[f];omega
 have A:E+2≤aJ (rS N) E:=by have:=(gd (rS N) E).2.1;omega
 refine⟨?_,m,d,A⟩
 have D:fL (rS (N*(2^i*2^i))) (E-i)=fL (rS N) E:=by
  unfold fL
  rw[m]
  obtain⟨k,F⟩:∃k:Nat,aJ (rS N) E=E+k+1∧1≤k:=⟨(aJ (rS N) E-E-1).toNat,by omega,by omega⟩
  rw[show E-i-aJ (rS N) E= -((k+i+1:Nat):Int) by omega,show E-aJ (rS N) E= -((k+1:Nat):Int) by omega]
  rw[fH _ _ (by omega),fH _ _ (by omega),A9 _ _ (by omega),A9 _ _ (by omega)]
  exact uW _ _ _
 unfold bX
 rw[if_neg z,if_neg l,d,D,m]
theorem Hg(N i:Nat):bC (N*(2^i*2^i))*bC (N*(2^i*2^i))=N*(2^i*2^i)↔bC N*bC N=N:=by
 have f:0<2^i:=Nat.two_pow_pos _
 have t:0<2^i*2^i:=Nat.mul_pos f f
 constructor
 ·intro h
  have l:=lw N (2^i) f
  generalize I:bC (N*(2^i*2^i))=R at*
  --2^i goes into R,since its square goes into R's
  have z:∀(n a:Nat),(2^n*2^n)∣a*a→2^n∣a:=by
   intro n
   induction n with
   |zero=>intro a _;simp
   |succ n ih=>
    intro a y
    have G:2∣a*a:=Nat.dvd_trans ⟨2^n*2^(n+1),by rw[Nat.pow_succ];ac_rfl⟩ y
    have H:a%2=0:=by
     rcases Nat.mod_two_eq_zero_or_one a with h|h
     ·exact h
     ·exfalso
      have:a*a%2=1:=by rw[Nat.mul_mod,h]
      omega
    obtain⟨b,rfl⟩:∃b,a=2*b:=⟨a/2,by omega⟩
    have A:2^n*2^n∣b*b:=by
     obtain⟨c,m⟩:=y
     refine⟨c,?_⟩
     have:4*(b*b)=4*(2^n*2^n*c):=by
      have D:2*b*(2*b)=4*(b*b):=by rw[show(4:Nat)=2*2 by decide];ac_rfl
      have F:2^(n+1)*2^(n+1)*c=4*(2^n*2^n*c):=by rw[Nat.pow_succ,show(4:Nat)=2*2 by decide];ac_rfl
      rw[←D,m,F]
     omega
    obtain⟨d,l⟩:=ih b A
    exact⟨d,by rw[l,Nat.pow_succ];ac_rfl⟩
  obtain⟨c,m⟩:=z i R ⟨N,by rw[h];ac_rfl⟩
  rw[m,Nat.mul_div_cancel_left c f]at l
  rw[←l]
  have:c*c*(2^i*2^i)=N*(2^i*2^i):=by rw[←h,m];ac_rfl
  exact Nat.eq_of_mul_eq_mul_right t this
 ·intro h
  have:bC (N*(2^i*2^i))=bC N*2^i:=by
   refine gu ?_ ?_
   ·rw[j7,h];exact Nat.le_refl _
   ·have:=gK (bC N*2^i)
    rw[j7,h]at this
    omega
  rw[this,j7,h]
theorem wR(N i:Nat)(E:Int)(z:9007199254740992≤bC N):
  bM (oM (rS (N*(2^i*2^i)):Nat)).natAbs (oE (rS (N*(2^i*2^i)):Nat) (E-i))=bM (oM (rS N:Nat)).natAbs (oE (rS N:Nat) E):=by
 obtain⟨H,I,K,L⟩:=qK N i E z
 have f:=Hg N i
 by_cases d:bC N*bC N=N
 ·have m:=f.2 d
  have A:bC (N*(2^i*2^i))=bC N*2^i:=by
   refine gu ?_ ?_
   ·rw[j7,d];exact Nat.le_refl _
   ·have:=gK (bC N*2^i)
    rw[j7,d]at this
    omega
  have e:rS (N*(2^i*2^i))=rS N*2^i:=by
   unfold rS;rw[if_pos d,if_pos m,A,Nat.add_zero,Nat.add_zero,Nat.mul_assoc]
  have D:((rS (N*(2^i*2^i)):Nat):Int)=((rS N:Nat):Int)*2^i:=by rw[e,Int.natCast_mul,Int.natCast_pow];rfl
  have:=kC ((rS N:Nat):Int) i (E-i)
  rw[D,this.1,this.2,show E-(i:Int)+i=E by omega]
 ·have m:¬bC (N*(2^i*2^i))*bC (N*(2^i*2^i))=N*(2^i*2^i):=fun h=>d (f.1 h)
  have t:((rS N:Nat):Int)%2=1:=by unfold rS;rw[if_neg d];omega
  have y:((rS (N*(2^i*2^i)):Nat):Int)%2=1:=by unfold rS;rw[if_neg m];omega
  have z1:∀(v:Nat) (e:Int),(v:Int)%2=1→oM (v:Int)=v∧oE (v:Int) e=e:=fun v e h=>by
   have l:(v:Int)≠0:=by omega
   have a:=(fG (v:Int) l).unique (m':=(v:Int)) (k':=0) ⟨by simp,h⟩
   exact⟨a.1,by rw[dI _ _ l,a.2];simp⟩
  rw[(z1 _ (E-i) y).1,(z1 _ (E-i) y).2,(z1 _ E t).1,(z1 _ E t).2,Int.natAbs_natCast,Int.natAbs_natCast]
  have F:rS N≠0:=by omega
  have G:rS (N*(2^i*2^i))≠0:=by omega
  unfold bM
  rw[if_neg F,if_neg G,K,I,H,if_neg (show¬aJ (rS N) E≤E-i by omega),if_neg (show¬aJ (rS N) E≤E by omega)]
open Go.RowKit
theorem Ba(m k p D α d:Nat)(l t:Int)(z:m*2^k=D*2^α)(I:2*l=(k:Int)-1074-p)(K:2*t=(α:Int)-1074-d)(A:9007199254740992≤bC (m*2^p))(F:9007199254740992≤bC (D*2^d)):
  bX (rS (m*2^p)) (l-1)=bX (rS (D*2^d)) (t-1)∧bM (oM (rS (m*2^p):Nat)).natAbs (oE (rS (m*2^p):Nat) (l-1))=bM (oM (rS (D*2^d):Nat)).natAbs (oE (rS (D*2^d):Nat) (t-1)):=by
 have y:∀(m k p D α d i:Nat),m*2^k=D*2^α→p+2*i+α=k+d→m*2^p*(2^i*2^i)=D*2^d:=by
  intro m k p D α d i z G
  have H:0<2^α:=Nat.two_pow_pos _
  refine Nat.eq_of_mul_eq_mul_right H ?_
  rw[←Nat.pow_add,Nat.mul_assoc,Nat.mul_assoc,←Nat.pow_add,←Nat.pow_add,show p+(i+i+α)=k+d by omega,Nat.pow_add,←Nat.mul_assoc,z]
  ac_rfl
 rcases Int.le_total t l with h|h
 ·obtain⟨i,G⟩:∃i:Nat,l-t=i:=⟨(l-t).toNat,by omega⟩
  have e:=y m k p D α d i z (by omega)
  have s:=qK (m*2^p) i (l-1) A
  have f:=wR (m*2^p) i (l-1) A
  rw[e,show l-1-(i:Int)=t-1 by omega]at s f
  exact⟨s.1.symm,f.symm⟩
 ·obtain⟨i,G⟩:∃i:Nat,t-l=i:=⟨(t-l).toNat,by omega⟩
  have e:=y D α d m k p i z.symm (by omega)
  have s:=qK (D*2^d) i (t-1) F
  have f:=wR (D*2^d) i (t-1) F
  rw[e,show t-1-(i:Int)=l-1 by omega]at s f
  exact⟨s.1,f⟩
def tS(a:Nat):Nat:=rS (rv (fR a)*2^120)
def tV(a:Nat):Nat:=bX (tS a) (-598)
def tF(a:Nat):Int:=bM (oM (tS a:Nat)).natAbs (oE (tS a:Nat) (-598))
def sV(a:Nat):Nat:=
 if fK a=4 then 9221120237041090560
 else if fK a=0∨a=9218868437227405312 then a
 else if fS a=true then 9221120237041090560
 else tV a
def sF(a:Nat):Int:=
 if fK a=4 then 0
 else if fK a=0∨a=9218868437227405312 then 0
 else if fS a=true then 16
 else tF a
def sN(a:Nat):Bool:=decide (fK a=4∨(fK a≠0∧fS a=true))
theorem uX{N:Nat}(h:2^106≤N):9007199254740992≤bC N:=by
 obtain⟨d,f⟩:=dh N
 have e:(9007199254740992:Nat)*9007199254740992=2^106:=by decide
 have:9007199254740992<bC N+1:=eY.1 (by omega)
 omega
theorem Hh(a:Nat)(d:fK a≠0):9007199254740992≤bC (rv (fR a)*2^120):=by
 have f:rv (fR a)≠0:=fun e=>d ((bs a).2 ((ls _).1 e))
 refine uX (Nat.le_trans (show 2^106≤1*2^120 by decide) (Nat.mul_le_mul_right _ (by omega)))
theorem sI(a m k p:Nat)(e:Int)(d:fK a≠0)(f:m*2^k=rv (fR a))(h:2*e=(k:Int)-1074-p)(l:9007199254740992≤bC (m*2^p)):
  bX (rS (m*2^p)) (e-1)=tV a∧bM (oM (rS (m*2^p):Nat)).natAbs (oE (rS (m*2^p):Nat) (e-1))=tF a:=by
 have:=Ba m k p (rv (fR a)) 0 120 e (-597) (by rw[f];simp) h (by omega) l (Hh a d)
 exact this
theorem qL(n:Nat):∀(f d:Nat),d*d≤n→n<(d+2^f)*(d+2^f)→Ieee.Datum.rootFrom n f d=bC n:=by
 intro f
 induction f with
 |zero=>
  intro d m l
  unfold Ieee.Datum.rootFrom
  rw[Nat.pow_zero]at l
  exact(gu m l).symm
 |succ t ih=>
  intro d m l
  unfold Ieee.Datum.rootFrom
  rw[Nat.one_shiftLeft]
  have e:(2:Nat)^(t+1)=2^t+2^t:=by rw[Nat.pow_succ];omega
  show Ieee.Datum.rootFrom n t (if(d+2^t)*(d+2^t)≤n then d+2^t else d)=bC n
  split
  ·rename_i h
   refine ih _ h ?_
   rw[e,←Nat.add_assoc]at l
   exact l
  ·rename_i h
   exact ih _ m (by omega)
theorem nG(a:Nat)(l:a<18446744073709551616)(h:sN a=true):Ieee.double.sqrt a=none∧sV a=9221120237041090560:=by
 unfold Ieee.Format.sqrt
 rcases of_decide_eq_true h with h|⟨A,d⟩
 ·obtain⟨s,f,e⟩:=dK a l h
  refine⟨by rw[e];rfl,?_⟩
  unfold sV;rw[if_pos h]
 ·by_cases t:fK a=4
  ·obtain⟨s,f,e⟩:=dK a l t
   refine⟨by rw[e];rfl,?_⟩
   unfold sV;rw[if_pos t]
  ·have y:¬(fK a=0∨a=9218868437227405312):=by
    rintro(h|h)
    ·exact A h
    ·rw[h]at d;revert d;decide
   refine⟨?_,by unfold sV;rw[if_neg t,if_neg y,if_pos d]⟩
   by_cases z:fK a=3
   ·rw[bU a l z,d];rfl
   ·obtain⟨m,k,e,G⟩:=b8 a l (bh a z t)
    have F:m≠0:=fun D=>A ((bs a).2 ((cC G).1 D))
    rw[e,d]
    show Option.map Ieee.double.write (if m=0 then _ else if true=true then none else _)=none
    rw[if_neg F,if_pos rfl];rfl
theorem nH(a:Nat)(A:a<18446744073709551616)(h:sN a=false):Ieee.double.sqrt a=some (sV a):=by
 have O:=of_decide_eq_false h
 have Q:fK a≠4:=fun e=>O (Or.inl e)
 have U:fK a≠0→fS a=false:=fun e=>by
  cases d:fS a
  ·rfl
  ·exact absurd (Or.inr ⟨e,d⟩) O
 unfold Ieee.Format.sqrt sV
 rw[if_neg Q]
 by_cases F:fK a=3
 ·have d:=U (by omega)
  have V:a=9218868437227405312:=by
   have:=gj a A
   rw[d,a8]at this
   have h3:=((bu a).2.1.1 F)
   omega
  rw[if_pos (Or.inr V),bU a A F,d]
  show some (Ieee.double.write (.infinity false))=_
  rw[dt,V];rfl
 ·obtain⟨m,k,e,K⟩:=b8 a A (bh a F Q)
  rw[e]
  by_cases f:fK a=0
  ·have t:m=0:=(cC K).2 ((bs a).1 f)
   rw[if_pos (Or.inl f),t]
   show some (Ieee.double.nearest (fS a) 0 _)=_
   rw[dg,pF,←(bs a).1 f,gj a A]
  ·have d:=U f
   have t:m≠0:=fun e0=>f ((bs a).2 ((cC K).1 e0))
   have G:¬(fK a=0∨a=9218868437227405312):=by
    rintro(h|h)
    ·exact f h
    ·apply F;rw[h];decide
   rw[if_neg G,if_neg (show¬fS a=true by rw[d];decide),d]
   obtain⟨M,hM⟩:∃M:Nat,M=(108-m.log2)+((-1074+(k:Int)-((108-m.log2:Nat):Int))%2).toNat:=⟨_,rfl⟩
   show Option.map Ieee.double.write (if m=0 then _ else if false=true then none else some (.number false (2*(Ieee.Datum.rootFrom (m <<< ((108-m.log2)+((-1074+(k:Int)-((108-m.log2:Nat):Int))%2).toNat)) ((m <<< ((108-m.log2)+((-1074+(k:Int)-((108-m.log2:Nat):Int))%2).toNat)).log2/2+1) 0)+(Ieee.Datum.rootFrom (m <<< ((108-m.log2)+((-1074+(k:Int)-((108-m.log2:Nat):Int))%2).toNat)) ((m <<< ((108-m.log2)+((-1074+(k:Int)-((108-m.log2:Nat):Int))%2).toNat)).log2/2+1) 0*Ieee.Datum.rootFrom (m <<< ((108-m.log2)+((-1074+(k:Int)-((108-m.log2:Nat):Int))%2).toNat)) ((m <<< ((108-m.log2)+((-1074+(k:Int)-((108-m.log2:Nat):Int))%2).toNat)).log2/2+1) 0 != m <<< ((108-m.log2)+((-1074+(k:Int)-((108-m.log2:Nat):Int))%2).toNat)).toNat) ((-1074+(k:Int)-(((108-m.log2)+((-1074+(k:Int)-((108-m.log2:Nat):Int))%2).toNat:Nat):Int))/2-1)))=_
   rw[←hM,if_neg t,if_neg (by decide),Nat.shiftLeft_eq]
   obtain⟨D,L⟩:∃D:Int,2*D=(k:Int)-1074-M:=⟨((k:Int)-1074-M)/2,by omega⟩
   have H:(-1074+(k:Int)-(M:Int))/2=D:=by omega
   rw[H]
   have y:2^m.log2≤m:=by
    have X:=bK m t
    have l1:bl m=m.log2+1:=by unfold bl;rw[if_neg t]
    rw[l1,show m.log2+1-1=m.log2 by omega]at X
    exact X.2.1
   have z:2^106≤m*2^M:=by
    have Y:2^m.log2*2^M≤m*2^M:=Nat.mul_le_mul_right _ y
    rw[←Nat.pow_add]at Y
    exact Nat.le_trans (e9 (show 106≤m.log2+M by omega)) Y
   have l:Ieee.Datum.rootFrom (m*2^M) ((m*2^M).log2/2+1) 0=bC (m*2^M):=by
    have Z:m*2^M≠0:=by
     have:=Nat.two_pow_pos 106
     omega
    have b2:=bK _ Z
    have l2:bl (m*2^M)=(m*2^M).log2+1:=by unfold bl;rw[if_neg Z]
    rw[l2]at b2
    refine qL _ _ 0 (Nat.zero_le _) ?_
    rw[Nat.zero_add,←Nat.pow_add]
    exact Nat.lt_of_lt_of_le b2.2.2 (e9 (by omega))
   rw[l]
   have I:2*bC (m*2^M)+(bC (m*2^M)*bC (m*2^M) != m*2^M).toNat=rS (m*2^M):=by
    unfold rS
    congr 1
    split
    ·rename_i N;rw[N];simp
    ·rename_i N;simp[N]
   rw[I]
   show some (Ieee.double.nearest false (rS (m*2^M)) _)=_
   rw[dg,a8,(sI a m k M D f K L (uX z)).1]
theorem Gn(a:Nat):tV a≤9218868437227405312:=eM _ _
theorem wS(a:Nat)(d:a<18446744073709551616):sV a<18446744073709551616:=by
 have h:=Gn a
 unfold sV
 repeat' split
 all_goals omega
theorem sJ(a:Nat)(h:fS a=false)(d:a<18446744073709551616):fR a=a:=by
 have:=of_decide_eq_false h
 unfold fR;omega
theorem pL(a:Nat)(h:fS a=true)(d:a<18446744073709551616):fR a=fN a:=by
 have:=of_decide_eq_true h
 unfold fR fN;rw[if_pos this];omega
theorem nK(a:Nat)(w:World)(f:a<18446744073709551616):
  Calls Tryz.prog 63 #[.int .u64 a] w fun e l=>e=.returned (.int .u64 (fR a:Nat))∧Below w.heap.size w l:=by
 have h:=aa (fun l=>dZ a l f)
 have m:=aa (fun l=>ge a l f)
 cases hs:fS a
 ·rw[hs]at h
  rw[sJ a hs f]
  clear hs f m
  go_enter Tryz.func63,Tryz.ntmps63
  go_wp2_with fail
  refine(uH h _).mono ?_
  rintro e t ⟨rfl,d⟩
  clear h
  go_wp2
  go_ret
  exact⟨rfl,d⟩
 ·rw[hs]at h
  rw[pL a hs f]
  clear hs f
  generalize fN a=q at*
  go_enter Tryz.func63,Tryz.ntmps63
  go_wp2_with fail
  refine(uH h _).mono ?_
  rintro e t ⟨rfl,d⟩
  clear h
  go_wp2_with fail
  refine(uH m _).mono ?_
  rintro e y ⟨rfl,rfl⟩
  clear m
  go_wp2
  go_ret
  exact⟨rfl,d⟩
def pl(a:Nat):Int:=if fS a=true then-(fR a:Int)else(fR a:Int)
theorem Bb(a r:Nat)(s:Bool)(w:World)(G:r<9223372036854775808)
  (z:∀f,Calls Tryz.prog 63 #[.int .u64 a] f fun e h=>e=.returned (.int .u64 (r:Nat))∧Below f.heap.size f h)
  (A:∀f,Calls Tryz.prog 118 #[.int .u64 a] f fun e h=>e=.returned (.bool s)∧Below f.heap.size f h):
  Calls Tryz.prog 171 #[.int .u64 a] w fun e f=>e=.returned (.int .i64 (if s=true then-(r:Int)else(r:Int)))∧Below w.heap.size w f:=by
 have m:=aa z;have t:=aa A
 have H:IntKind.i64.wrap (r:Int)=(r:Int):=by simp only[IntKind.wrap_i64];omega
 have I:IntKind.i64.wrap (-(r:Int))= -(r:Int):=by simp only[IntKind.wrap_i64];omega
 clear z A
 cases s
 ·go_enter Tryz.func171,Tryz.ntmps171
  go_wp2_with fail
  refine(uH m _).mono ?_
  rintro e D ⟨rfl,d⟩
  have l:=aa d
  clear m d
  go_wp2_with fail
  refine(uH t _).mono ?_
  rintro e F ⟨rfl,d⟩
  have y:=aa ((uH l).trans (d.mono (uH l).size))
  clear t d
  go_wp2
  go_ret
  exact⟨rfl,uH y⟩
 ·go_enter Tryz.func171,Tryz.ntmps171
  go_wp2_with fail
  refine(uH m _).mono ?_
  rintro e D ⟨rfl,d⟩
  have l:=aa d
  clear m d
  go_wp2_with fail
  refine(uH t _).mono ?_
  rintro e F ⟨rfl,d⟩
  have y:=aa ((uH l).trans (d.mono (uH l).size))
  clear t d
  go_wp2
  go_ret
  exact⟨rfl,uH y⟩
theorem pO(a:Nat)(w:World)(f:a<18446744073709551616):
  Calls Tryz.prog 171 #[.int .u64 a] w fun e d=>e=.returned (.int .i64 (pl a))∧Below w.heap.size w d:=
 Bb a (fR a) (fS a) w (kE a) (fun d=>nK a d f) (fun d=>dZ a d f)
theorem j8(a:Int)(w:World):Calls Tryz.prog 206 #[.int .i64 a] w fun e d=>e=.returned (.bool false)∧w=d:=by
 go_enter Tryz.func206,Tryz.ntmps206
 go_wp2
 go_ret
 exact⟨rfl,rfl⟩
theorem Bc(a b:Int)(w:World):Calls Tryz.prog 170 #[.int .i64 a,.int .i64 b] w fun e d=>e=.returned (.int .i64 (bJ a b))∧w=d:=by
 have f:Hid (bJ a b=if a<b then-1 else if b<a then 1 else 0):=rfl
 generalize bJ a b=c at*
 rcases(show a<b∨b<a∨a=b by omega)with h|h|h
 ·go_enter Tryz.func170,Tryz.ntmps170
  go_wp2_with(go_at_call 206;refine(j8 _ _).mono ?_;rintro e d ⟨rfl,rfl⟩)
  go_ret
  exact⟨aQ (by rw[f.out];simp[h]),rfl⟩
 ·have l:¬a<b:=by omega
  go_enter Tryz.func170,Tryz.ntmps170
  go_wp2_with(go_at_call 206;refine(j8 _ _).mono ?_;rintro e d ⟨rfl,rfl⟩)
  go_ret
  exact⟨aQ (by rw[f.out];simp[h,l]),rfl⟩
 ·subst h
  go_enter Tryz.func170,Tryz.ntmps170
  go_wp2_with(go_at_call 206;refine(j8 _ _).mono ?_;rintro e d ⟨rfl,rfl⟩)
  go_ret
  exact⟨aQ (by rw[f.out];simp),rfl⟩
def cO(a b:Nat):Int:=if fK a=4∨fK b=4 then 0 else bJ (fZ a) (fZ b)
def cB(a b:Nat):Bool:=if fK a=4∨fK b=4 then false else true
theorem ly{r s:Nat}(h:r<s):rv r<rv s:=Nat.lt_of_lt_of_le (qn r) (qp h)
theorem uY{r:Nat}(h:0<r):0<rv r:=by have:=ly h;rw[fO]at this;exact this
theorem il{a b:Int}(h:a<b):bJ a b= -1:=by unfold bJ;rw[if_pos h]
theorem im{a b:Int}(h:b<a):bJ a b=1:=by unfold bJ;rw[if_neg (by omega),if_pos h]
theorem jj{a b:Int}(h:a=b):bJ a b=0:=by unfold bJ;rw[if_neg (by omega),if_neg (by omega)]
theorem sK{n m:Bool}{r s:Nat}(h:(if n=true then-(r:Int)else(r:Int))<(if m=true then-(s:Int)else(s:Int))):pv n r<pv m s:=by
 have z:rv 0=0:=fO
 have d:r<s→rv r<rv s:=ly
 have f:s<r→rv s<rv r:=ly
 have l:0<r→0<rv r:=uY
 have p2:0<s→0<rv s:=uY
 unfold pv
 cases n<;>cases m<;>simp only[if_true,if_false,Bool.false_eq_true]at h⊢<;>omega
theorem Hi(a b:Nat):bJ (pl a) (pl b)=bJ (fZ a) (fZ b):=by
 have d:pl a<pl b→fZ a<fZ b:=fun h=>sK h
 have f:pl b<pl a→fZ b<fZ a:=fun h=>sK h
 rcases(show pl a<pl b∨pl b<pl a∨pl a=pl b by omega)with h|h|h
 ·rw[il h,il (d h)]
 ·rw[im h,im (f h)]
 ·have l:fZ a=fZ b:=by
   unfold pl at h
   unfold fZ pv
   cases ha:fS a<;>cases hb:fS b<;>rw[ha,hb]at h<;>simp only[if_true,if_false,Bool.false_eq_true]at h⊢
   ·rw[show fR a=fR b by omega]
   ·rw[show fR a=0 by omega,show fR b=0 by omega,fO];rfl
   ·rw[show fR a=0 by omega,show fR b=0 by omega,fO];rfl
   ·rw[show fR a=fR b by omega]
  rw[jj h,jj l]
theorem Bd(a b:Nat)(w:World)
  (l:∀d,Calls Tryz.prog 103 #[.int .u64 a] d fun r f=>r=.returned (.int .i64 4)∧Below d.heap.size d f):
  Calls Tryz.prog 117 #[.int .u64 a,.int .u64 b] w fun r d=>r=.returned (.tuple #[.int .i64 0,.bool false])∧Below w.heap.size w d:=by
 have m:=aa l
 clear l
 go_enter Tryz.func117,Tryz.ntmps117
 go_wp2_with fail
 refine(uH m _).mono ?_
 rintro e t ⟨rfl,h⟩
 clear m
 go_wp2
 exact bodyPost_ret (v:=.tuple #[.int .i64 0,.bool false]) (by simp[results,Tryz.results117,go_sem]) rfl ⟨rfl,h⟩
theorem Be(a b:Nat)(l:Int)(w:World)(F:(l==4)=false)
  (m:∀f,Calls Tryz.prog 103 #[.int .u64 a] f fun r h=>r=.returned (.int .i64 l)∧Below f.heap.size f h)
  (t:∀f,Calls Tryz.prog 103 #[.int .u64 b] f fun r h=>r=.returned (.int .i64 4)∧Below f.heap.size f h):
  Calls Tryz.prog 117 #[.int .u64 a,.int .u64 b] w fun r f=>r=.returned (.tuple #[.int .i64 0,.bool false])∧Below w.heap.size w f:=by
 have y:=aa m;have z:=aa t
 clear m t
 go_enter Tryz.func117,Tryz.ntmps117
 go_wp2_with fail
 refine(uH y _).mono ?_
 rintro e G ⟨rfl,d⟩
 clear y
 have A:=aa d
 clear d
 go_wp2_with fail
 refine(uH z _).mono ?_
 rintro e H ⟨rfl,d⟩
 have D:=aa ((uH A).trans (d.mono (uH A).size))
 clear d z
 go_wp2
 exact bodyPost_ret (v:=.tuple #[.int .i64 0,.bool false]) (by simp[results,Tryz.results117,go_sem]) rfl ⟨rfl,uH D⟩
theorem EQ(a b:Nat)(l m x y o:Int)(w:World)(U:(l==4)=false)(V:(m==4)=false)
  (t:∀f,Calls Tryz.prog 103 #[.int .u64 a] f fun r h=>r=.returned (.int .i64 l)∧Below f.heap.size f h)
  (z:∀f,Calls Tryz.prog 103 #[.int .u64 b] f fun r h=>r=.returned (.int .i64 m)∧Below f.heap.size f h)
  (A:∀f,Calls Tryz.prog 171 #[.int .u64 a] f fun r h=>r=.returned (.int .i64 x)∧Below f.heap.size f h)
  (D:∀f,Calls Tryz.prog 171 #[.int .u64 b] f fun r h=>r=.returned (.int .i64 y)∧Below f.heap.size f h)
  (F:∀f,Calls Tryz.prog 170 #[.int .i64 x,.int .i64 y] f fun r h=>r=.returned (.int .i64 o)∧f=h):
  Calls Tryz.prog 117 #[.int .u64 a,.int .u64 b] w fun r f=>r=.returned (.tuple #[.int .i64 o,.bool true])∧Below w.heap.size w f:=by
 have G:=aa t;have H:=aa z;have I:=aa A;have K:=aa D;have L:=aa F
 clear t z A D F
 go_enter Tryz.func117,Tryz.ntmps117
 go_wp2_with fail
 refine(uH G _).mono ?_
 rintro e X ⟨rfl,d⟩
 have M:=aa d
 clear d G
 go_wp2_with fail
 refine(uH H _).mono ?_
 rintro e Y ⟨rfl,d⟩
 have N:=aa ((uH M).trans (d.mono (uH M).size))
 clear d H
 go_wp2_with fail
 refine(uH I _).mono ?_
 rintro e Z ⟨rfl,d⟩
 have O:=aa ((uH N).trans (d.mono (uH N).size))
 clear d I
 go_wp2_with fail
 refine(uH K _).mono ?_
 rintro e w4 ⟨rfl,d⟩
 have Q:=aa ((uH O).trans (d.mono (uH O).size))
 clear d K
 go_wp2_with fail
 refine(uH L _).mono ?_
 rintro e w5 ⟨rfl,rfl⟩
 clear L
 go_wp2
 exact bodyPost_ret (v:=.tuple #[.int .i64 o,.bool true]) (by simp[results,Tryz.results117,go_sem]) rfl ⟨rfl,uH Q⟩
theorem nL(a b:Nat)(w:World)(y:a<18446744073709551616)(z:b<18446744073709551616):
  Calls Tryz.prog 117 #[.int .u64 a,.int .u64 b] w fun r d=>r=.returned (.tuple #[.int .i64 (cO a b),.bool (cB a b)])∧Below w.heap.size w d:=by
 have m:=fun d=>cu a d y
 have t:=fun d=>cu b d z
 unfold cO cB
 by_cases f:fK a=4
 ·rw[if_pos (Or.inl f),if_pos (Or.inl f)]
  rw[f]at m
  exact Bd a b w m
 by_cases l:fK b=4
 ·rw[if_pos (Or.inr l),if_pos (Or.inr l)]
  rw[l]at t
  exact Be a b _ w (by simp[f]) m t
 have h:¬(fK a=4∨fK b=4):=fun h=>h.elim f l
 rw[if_neg h,if_neg h,←Hi]
 exact EQ a b _ _ _ _ _ w (by simp[f]) (by simp[l]) m t (fun d=>pO a d y) (fun d=>pO b d z) (fun d=>Bc _ _ d)
theorem mD(a b:Nat)(o:Int)(t l q:Bool)(w:World)(z:(o=0∧t=false∧l=false∧q=false)∨(o= -1∧t=true∧l=true∧q=false)∨(o=0∧t=true∧l=false∧q=true)∨(o=1∧t=true∧l=false∧q=false))
  (m:∀d,Calls Tryz.prog 117 #[.int .u64 a,.int .u64 b] d fun r f=>r=.returned (.tuple #[.int .i64 o,.bool t])∧Below d.heap.size d f):
  Calls Tryz.prog 62 #[.int .u64 a,.int .u64 b] w fun r d=>r=.returned (.bool l)∧Below w.heap.size w d:=by
 have y:=aa m
 clear m
 rcases z with⟨rfl,rfl,rfl,rfl⟩|⟨rfl,rfl,rfl,rfl⟩|⟨rfl,rfl,rfl,rfl⟩|⟨rfl,rfl,rfl,rfl⟩
 all_goals
  go_enter Tryz.func62,Tryz.ntmps62
  go_wp2_with fail
  refine(uH y _).mono ?_
  rintro e A ⟨rfl,h⟩
  clear y
  go_wp2
  go_ret
  exact⟨rfl,h⟩
def cM(a b:Nat)(l t:Bool):Nat:=if t=false then 9221120237041090560 else if l=true then b else a
theorem Hj(a b:Nat)(o:Int)(t l q:Bool)(w:World)(z:(o=0∧t=false∧l=false∧q=false)∨(o= -1∧t=true∧l=true∧q=false)∨(o=0∧t=true∧l=false∧q=true)∨(o=1∧t=true∧l=false∧q=false))
  (m:∀d,Calls Tryz.prog 117 #[.int .u64 a,.int .u64 b] d fun r f=>r=.returned (.tuple #[.int .i64 o,.bool t])∧Below d.heap.size d f):
  Calls Tryz.prog 115 #[.int .u64 a,.int .u64 b] w fun r d=>r=.returned (.int .u64 (cM a b l t:Nat))∧Below w.heap.size w d:=by
 have y:=aa m
 clear m
 unfold cM
 rcases z with⟨rfl,rfl,rfl,rfl⟩|⟨rfl,rfl,rfl,rfl⟩|⟨rfl,rfl,rfl,rfl⟩|⟨rfl,rfl,rfl,rfl⟩
 all_goals
  simp only[if_true,if_false,Bool.false_eq_true,Bool.true_eq_false]
  go_enter Tryz.func115,Tryz.ntmps115
  go_wp2_with fail
  refine(uH y _).mono ?_
  rintro e A ⟨rfl,h⟩
  clear y
  go_wp2
  go_ret
  exact⟨rfl,h⟩
theorem ER(a b:Nat)(o:Int)(t l q:Bool)(w:World)(z:(o=0∧t=false∧l=false∧q=false)∨(o= -1∧t=true∧l=true∧q=false)∨(o=0∧t=true∧l=false∧q=true)∨(o=1∧t=true∧l=false∧q=false))
  (m:∀d,Calls Tryz.prog 68 #[.int .u64 a,.int .u64 b] d fun r f=>r=.returned (.tuple #[.int .i64 o,.bool t])∧Below d.heap.size d f):
  Calls Tryz.prog 66 #[.int .u64 a,.int .u64 b] w fun r d=>r=.returned (.int .u64 (cM a b l t:Nat))∧Below w.heap.size w d:=by
 have y:=aa m
 clear m
 unfold cM
 rcases z with⟨rfl,rfl,rfl,rfl⟩|⟨rfl,rfl,rfl,rfl⟩|⟨rfl,rfl,rfl,rfl⟩|⟨rfl,rfl,rfl,rfl⟩
 all_goals
  simp only[if_true,if_false,Bool.false_eq_true,Bool.true_eq_false]
  go_enter Tryz.func66,Tryz.ntmps66
  go_wp2_with fail
  refine(uH y _).mono ?_
  rintro e A ⟨rfl,h⟩
  clear y
  go_wp2
  go_ret
  exact⟨rfl,h⟩
theorem Bf(X y:Nat)(h:0<y):X*2/(2*y)=2*(X/(2*y))+(if y≤X%(2*y)then 1 else 0)∧X*2%(2*y)=2*(X%(2*y)-(if y≤X%(2*y)then y else 0)):=by
 have d:=Nat.div_add_mod X (2*y)
 have l:=Nat.mod_lt X (show 0<2*y by omega)
 generalize X/(2*y)=q at*
 generalize X%(2*y)=r at*
 have f:X*2=2*y*(2*q)+2*r:=by rw[←d,Nat.add_mul,Nat.mul_assoc,Nat.mul_comm q 2,Nat.mul_comm r 2]
 by_cases c:y≤r
 ·rw[if_pos c,if_pos c]
  have e:X*2=2*y*(2*q+1)+2*(r-y):=by rw[Nat.mul_add,Nat.mul_one];omega
  rw[e]
  refine⟨?_,?_⟩
  ·rw[Nat.mul_add_div (by omega),Nat.div_eq_of_lt (by omega),Nat.add_zero]
  ·rw[Nat.mul_add_mod,Nat.mod_eq_of_lt (by omega)]
 ·rw[if_neg c,if_neg c]
  rw[f]
  refine⟨?_,?_⟩
  ·rw[Nat.mul_add_div (by omega),Nat.div_eq_of_lt (by omega),Nat.add_zero]
  ·rw[Nat.mul_add_mod,Nat.mod_eq_of_lt (by omega)];omega
def lQ(x y i:Nat):Nat:=x*2^i/(2*y)
def lR(x y i:Nat):Nat:=x*2^i%(2*y)
theorem Hk(x y:Nat)(h:x<2*y):lQ x y 0=0∧lR x y 0=x:=by
 unfold lQ lR
 rw[Nat.pow_zero,Nat.mul_one]
 exact⟨Nat.div_eq_of_lt h,Nat.mod_eq_of_lt h⟩
theorem Hl(x y i:Nat)(d:0<y):lQ x y (i+1)=2*lQ x y i+(if y≤lR x y i then 1 else 0)∧lR x y (i+1)=2*(lR x y i-(if y≤lR x y i then y else 0)):=by
 have:=Bf (x*2^i) y d
 unfold lQ lR
 rw[Nat.pow_succ,←Nat.mul_assoc]
 exact this
theorem Ja(x y i:Nat)(d:0<y):lR x y i<2*y:=Nat.mod_lt _ (by omega)
theorem Bg(x y i:Nat)(h:x<2*y):lQ x y i<2^i:=by
 unfold lQ
 rw[Nat.div_lt_iff_lt_mul (by omega),Nat.mul_comm (2^i)]
 exact(Nat.mul_lt_mul_right (Nat.two_pow_pos i)).2 h
theorem Gp(x y:Nat):cE (x*2^54) y=2*lQ x y 55+(if 0<lR x y 55 then 1 else 0):=by
 have e:x*2^55=2*(x*2^54):=by rw[show(2:Nat)^55=2*2^54 by decide];ac_rfl
 unfold cE lQ lR
 rw[e,Nat.mul_div_mul_left _ _ (by decide),Nat.mul_mod_mul_left]
 congr 1
 by_cases c:x*2^54%y=0
 ·rw[if_pos c,c,if_neg (by omega)]
 ·rw[if_neg c,if_pos (by omega)]
def dS(b:Nat):Nat:=(fD b).natAbs*2^(53-bl (fD b).natAbs)
def dT(b:Nat):Int:=(bl (fD b).natAbs:Int)+fX b
theorem cT(b:Nat)(A:b<18446744073709551616)(t:aC b=true)(D:fK b≠0):
  bl (fD b).natAbs≤53∧1≤bl (fD b).natAbs∧4503599627370496≤dS b∧dS b<9007199254740992∧-1074≤fX b∧fX b≤1024∧(fD b).natAbs%2=1∧(fD b).natAbs<9007199254740992:=by
 obtain⟨β,N,I,K,L⟩:=jI b A t D
 have d:(fD b).natAbs≠0:=by omega
 obtain⟨M,O,Q⟩:=bK _ d
 have f:bl (fD b).natAbs≤53:=by
  have:(2:Nat)^(bl (fD b).natAbs-1)<2^53:=by rw[Ah];omega
  have:=cF this
  omega
 have F:=ks (fD b).natAbs (53-bl (fD b).natAbs) d
 have h:bl (dS b)=53:=by unfold dS;rw[F];omega
 have l:dS b≠0:=by
  unfold dS
  exact Nat.mul_ne_zero d (Nat.pos_iff_ne_zero.1 (Nat.two_pow_pos _))
 obtain⟨U,z,m⟩:=bK _ l
 rw[h]at z m
 have y:=kF b t
 rw[gU,I]at y
 have G:β<2098:=by
  have H:2^β≤(fD b).natAbs*2^β:=Nat.le_mul_of_pos_left _ (by omega)
  exact cF (Nat.lt_of_le_of_lt H y)
 refine⟨f,M,?_,?_,by omega,by omega,K,L⟩
 ·exact z
 ·rw[Ah]at m;exact m
def pS(a b:Nat):Nat:=cE (dS a*2^54) (dS b)
theorem Bh(a b:Nat)(t:a<18446744073709551616)(y:b<18446744073709551616)(z:aC a=true)(A:aC b=true)(D:fK a≠0)(F:fK b≠0):
  bX (pS a b) (dT a-dT b-55)=qV a b∧bM (oM (pS a b:Nat)).natAbs (oE (pS a b:Nat) (dT a-dT b-55))=qF a b:=by
 obtain⟨Q,U,V,X,Y,Z,x7,x8⟩:=cT a t z D
 obtain⟨y1,y2,y3,y4,y5,y6,K,L⟩:=cT b y A F
 have h:=wQ (fD a).natAbs (fD b).natAbs (by omega) L (by omega)
 obtain⟨u1,u2,u3⟩:=bK (fD a).natAbs (by omega)
 obtain⟨v1,v2,v3⟩:=bK (fD b).natAbs (by omega)
 unfold pS qV qF qS dS dT
 generalize (fD a).natAbs=d at*
 generalize (fD b).natAbs=f at*
 have G:d*2^(53-bl d)*2^54=d*2^(54-bl d+bl f)*2^(53-bl f):=by
  rw[Nat.mul_assoc,←Nat.pow_add,Nat.mul_assoc,←Nat.pow_add]
  congr 2
  omega
 have l:54-bl d+bl f=54+bl f-bl d:=by omega
 rw[G,nz]
 have m:9007199254740992≤d*2^(54-bl d+bl f)/f:=by
  rw[Nat.le_div_iff_mul_le (by omega)]
  have M:9007199254740992*f≤2^53*2^bl f:=by rw[Ah];exact Nat.mul_le_mul_left _ (by omega)
  have N:(2:Nat)^53*2^bl f≤2^(bl d-1)*2^(54-bl d+bl f):=by
   rw[←Nat.pow_add,←Nat.pow_add];exact e9 (by omega)
  have O:2^(bl d-1)*2^(54-bl d+bl f)≤d*2^(54-bl d+bl f):=Nat.mul_le_mul_right _ u2
  omega
 have H:(bl d:Int)+fX a-((bl f:Int)+fX b)-55=(fX a-fX b-1)-(54-bl d+bl f:Nat):=by omega
 have I:fX a-fX b-181=(fX a-fX b-1)-(180:Nat):=by omega
 rw[H,I]
 exact⟨wP d f _ 180 _ (by omega) m h,qH d f _ 180 _ K m h⟩
theorem Bi(a b:Nat)(d:a<18446744073709551616)(f:b<18446744073709551616)(l:aC a=true)(m:aC b=true)(t:fK a≠0)(y:fK b≠0):pS a b≠0∧pS a b<144115188075855872∧dS a<2*dS b:=by
 obtain⟨G,H,I,K,L,M,N,O⟩:=cT a d l t
 obtain⟨Q,U,V,X,Y,Z,y7,y8⟩:=cT b f m y
 have h:=Gp (dS a) (dS b)
 have z:=Bg (dS a) (dS b) 55 (by omega)
 have A:(2:Nat)^55=36028797018963968:=by decide
 have D:(if 0<lR (dS a) (dS b) 55 then 1 else 0)≤1:=by split<;>omega
 refine⟨?_,?_,by omega⟩
 ·have:1≤dS a*2^54/dS b:=by
   rw[Nat.le_div_iff_mul_le (by omega),Nat.one_mul]
   have:dS a*1≤dS a*2^54:=Nat.mul_le_mul_left _ (by decide)
   have F:dS a*2≤dS a*2^54:=Nat.mul_le_mul_left _ (by decide)
   omega
  unfold pS cE
  omega
 ·show cE (dS a*2^54) (dS b)<_
  rw[h];omega
end Go.Proofs.YtlnphkioddknfaaGreatDoor
