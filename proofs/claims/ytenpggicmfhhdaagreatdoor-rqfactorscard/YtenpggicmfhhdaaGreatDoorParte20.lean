/- Part 20 of the texts. -/
import Derived.Test.YtenpggicmfhhdaaGreatDoorParte19
set_option maxHeartbeats 4000000
set_option maxRecDepth 20000
namespace Go.Proofs.YtenpggicmfhhdaaGreatDoor
def bu:Nat→Nat
 |0=>0
 |n+1=>if(bu n+1)*(bu n+1)≤n+1 then bu n+1 else bu n
theorem gf(m:Nat):(m+1)*(m+1)=m*m+2*m+1:=by rw[Nat.add_mul,Nat.mul_add];omega
theorem DZ{a b:Nat}(h:a≤b):a*a≤b*b:=Nat.mul_le_mul h h
theorem D0{a b:Nat}(h:a<b):a*a<b*b:=Nat.mul_lt_mul_of_lt_of_le h (Nat.le_of_lt h) (by omega)
theorem ep{a b:Nat}:a*a<b*b↔a<b:=by
 constructor
 ·intro h
  rcases Nat.lt_or_ge a b with d|d
  ·exact d
  ·have:=DZ d;omega
 ·exact D0
theorem cX(n:Nat):bu n*bu n≤n∧n<(bu n+1)*(bu n+1):=by
 induction n with
 |zero=>exact⟨Nat.le_refl _,by decide⟩
 |succ n ih=>
  unfold bu
  obtain⟨l,m⟩:=ih
  have d:=gf (bu n)
  have f:=gf (bu n+1)
  split
  ·rename_i h
   exact⟨h,by omega⟩
  ·rename_i h
   exact⟨by omega,by omega⟩
theorem eu{n m:Nat}(d:m*m≤n)(f:n<(m+1)*(m+1)):bu n=m:=by
 obtain⟨t,y⟩:=cX n
 have h:bu n<m+1:=ep.1 (by omega)
 have l:m<bu n+1:=ep.1 (by omega)
 omega
theorem yB{n m:Nat}(h:n≤m):bu n≤bu m:=by
 obtain⟨d,f⟩:=cX n
 obtain⟨l,t⟩:=cX m
 have:bu n<bu m+1:=ep.1 (by omega)
 omega
theorem jw(a p:Nat):a*p*(a*p)=a*a*(p*p):=by ac_rfl
theorem kB(N p:Nat)(d:0<p):bu (N*(p*p))/p=bu N:=by
 obtain⟨l,m⟩:=cX N
 obtain⟨A,D⟩:=cX (N*(p*p))
 have f:0<p*p:=Nat.mul_pos d d
 have t:bu N*p<bu (N*(p*p))+1:=by
  apply ep.1
  rw[jw]
  have:bu N*bu N*(p*p)≤N*(p*p):=Nat.mul_le_mul_right _ l
  omega
 have h:bu (N*(p*p))<(bu N+1)*p:=by
  apply ep.1
  rw[jw]
  have:N*(p*p)<(bu N+1)*(bu N+1)*(p*p):=(Nat.mul_lt_mul_right f).2 m
  omega
 have y:bu N≤bu (N*(p*p))/p:=(Nat.le_div_iff_mul_le d).2 (by omega)
 have z:bu (N*(p*p))/p<bu N+1:=(Nat.div_lt_iff_lt_mul d).2 h
 omega
def rS(N:Nat):Nat:=2*bu N+(if bu N*bu N=N then 0 else 1)
def yC(N k:Nat):Nat:=bu N/2^k+(if(2*(bu N/2^k)+1)*2^k*((2*(bu N/2^k)+1)*2^k)<4*N∨((2*(bu N/2^k)+1)*2^k*((2*(bu N/2^k)+1)*2^k)=4*N∧bu N/2^k%2=1)then 1 else 0)
theorem sU(N k i:Nat):yC (N*(2^i*2^i)) (k+i)=yC N k:=by
 have f:0<2^i:=Nat.two_pow_pos _
 have d:0<2^i*2^i:=Nat.mul_pos f f
 have e:bu (N*(2^i*2^i))/2^(k+i)=bu N/2^k:=by
  rw[Nat.add_comm k i,Nat.pow_add,←Nat.div_div_eq_div_mul,kB N _ f]
 unfold yC
 rw[e]
 generalize bu N/2^k=m
 have l:(2*m+1)*2^(k+i)*((2*m+1)*2^(k+i))=(2*m+1)*2^k*((2*m+1)*2^k)*(2^i*2^i):=by
  rw[Nat.pow_add];ac_rfl
 have t:4*(N*(2^i*2^i))=4*N*(2^i*2^i):=by ac_rfl
 rw[l,t]
 have y:((2*m+1)*2^k*((2*m+1)*2^k)*(2^i*2^i)<4*N*(2^i*2^i))↔(2*m+1)*2^k*((2*m+1)*2^k)<4*N:=Nat.mul_lt_mul_right d
 have z:((2*m+1)*2^k*((2*m+1)*2^k)*(2^i*2^i)=4*N*(2^i*2^i))↔(2*m+1)*2^k*((2*m+1)*2^k)=4*N:=
  ⟨fun h=>Nat.eq_of_mul_eq_mul_right d h,fun h=>by rw[h]⟩
 simp only[y,z]
theorem yD(N k:Nat)(L:1≤k):eI (rS N) (k+1)=yC N k:=by
 obtain⟨j,rfl⟩:∃j,k=j+1:=⟨k-1,by omega⟩
 obtain⟨T,U⟩:=cX N
 have M:0<2^j:=Nat.two_pow_pos _
 have l:(2:Nat)^(j+1)=2*2^j:=by rw[Nat.pow_succ,Nat.mul_comm]
 have G:(2:Nat)^(j+1+1)=2*(2*2^j):=by rw[Nat.pow_succ,l,Nat.mul_comm]
 have O:(if bu N*bu N=N then 0 else 1)≤1:=by split<;>omega
 have d:(if bu N*bu N=N then 0 else 1)=0↔bu N*bu N=N:=by split<;>simp_all
 unfold eI yC rS
 rw[G,l]
 generalize (2:Nat)^j=g at*
 generalize (if bu N*bu N=N then 0 else 1)=t at*
 generalize bu N=q at*
 have m:=Nat.div_add_mod q (2*g)
 have Q:=Nat.mod_lt q (show 0<2*g by omega)
 generalize I:q%(2*g)=a at*
 generalize K:q/(2*g)=b at*
 have y:(2*q+t)/(2*(2*g))=b:=by
  rw[←m,Nat.mul_add,←Nat.mul_assoc 2 (2*g) b,Nat.add_assoc]
  rw[Nat.mul_add_div (by omega),Nat.div_eq_of_lt (by omega),Nat.add_zero]
 have z:(2*q+t)%(2*(2*g))=2*a+t:=by
  rw[←m,Nat.mul_add,←Nat.mul_assoc 2 (2*g) b,Nat.add_assoc,Nat.mul_add_mod,Nat.mod_eq_of_lt (by omega)]
 rw[y,z]
 congr 1
 --half between two,as a square
 obtain⟨c,H⟩:∃c,c=2*g*b+g:=⟨_,rfl⟩
 have A:(2*b+1)*(2*g)*((2*b+1)*(2*g))=4*(c*c):=by
  have:(2*b+1)*(2*g)=2*c:=by rw[H,Nat.add_mul,Nat.one_mul,Nat.mul_add];ac_rfl
  rw[this,show(4:Nat)=2*2 by decide]
  ac_rfl
 rw[A]
 clear A K I y z
 rcases Nat.lt_trichotomy a g with h|h|h
 ·have f:(q+1)*(q+1)≤c*c:=DZ (by omega)
  rw[if_neg (by omega),if_neg (by omega)]
 ·have f:c=q:=by omega
  subst f
  by_cases D:c*c=N
  ·have:=d.2 D
   by_cases F:b%2=1
   ·rw[if_pos (Or.inr ⟨by omega,F⟩),if_pos (Or.inr ⟨by omega,F⟩)]
   ·rw[if_neg (by omega),if_neg (by omega)]
  ·have:t≠0:=fun e=>D (d.1 e)
   rw[if_pos (Or.inl (by omega)),if_pos (Or.inl (by omega))]
 ·have f:c*c<q*q:=D0 (by omega)
  rw[if_pos (Or.inl (by omega)),if_pos (Or.inl (by omega))]
theorem FZ(N i:Nat)(G:0<bu N):bl (rS (N*(2^i*2^i)))=bl (rS N)+i:=by
 have f:0<2^i:=Nat.two_pow_pos _
 have t:rS N≠0:=by unfold rS;omega
 obtain⟨L,l,d⟩:=bF (rS N) t
 have H:2≤rS N:=by unfold rS;omega
 have y:2≤bl (rS N):=by
  rcases Nat.lt_or_ge (bl (rS N)) 2 with h|h
  ·have:bl (rS N)=1:=by omega
   rw[this]at d;omega
  ·exact h
 obtain⟨c,F⟩:∃c,bl (rS N)=c+2:=⟨bl (rS N)-2,by omega⟩
 rw[F]at l d⊢
 have z:(if bu N*bu N=N then 0 else 1)≤1:=by split<;>omega
 have A:2^c≤bu N:=by
  rw[show c+2-1=c+1 by omega,Nat.pow_succ]at l
  unfold rS at l
  omega
 have D:bu N<2^(c+1):=by
  rw[Nat.pow_succ]at d
  unfold rS at d
  omega
 have m:=kB N (2^i) f
 have I:2^(c+i)≤bu (N*(2^i*2^i)):=by
  rw[Nat.pow_add,←Nat.le_div_iff_mul_le f,m];exact A
 have K:bu (N*(2^i*2^i))<2^(c+1+i):=by
  rw[Nat.pow_add,←Nat.div_lt_iff_lt_mul f,m];exact D
 refine ov (by omega) ?_ ?_
 ·rw[show c+2+i-1=c+i+1 by omega,Nat.pow_succ]
  unfold rS
  omega
 ·rw[show c+2+i=c+1+i+1 by omega,Nat.pow_succ]
  unfold rS
  have z:(if bu (N*(2^i*2^i))*bu (N*(2^i*2^i))=N*(2^i*2^i)then 0 else 1)≤1:=by split<;>omega
  omega
theorem EJ{N:Nat}(l:9007199254740992≤bu N):55≤bl (rS N):=by
 have d:rS N≠0:=by unfold rS;omega
 obtain⟨m,t,f⟩:=bF (rS N) d
 have h:2^54≤rS N:=by
  have:(2:Nat)^54=2*9007199254740992:=by decide
  rw[this];unfold rS;omega
 have:=cr (Nat.lt_of_le_of_lt h f)
 omega
theorem pB(N i:Nat)(E:Int)(t:9007199254740992≤bu N):
  bW (rS (N*(2^i*2^i))) (E-i)=bW (rS N) E∧aK (rS (N*(2^i*2^i))) (E-i)=aK (rS N) E∧(bl (rS (N*(2^i*2^i))):Int)+(E-i)=(bl (rS N):Int)+E∧E+2≤aK (rS N) E:=by
 have f:=FZ N i (by omega)
 have y:=EJ t
 have z:rS N≠0:=by unfold rS;omega
 have l:rS (N*(2^i*2^i))≠0:=fun h=>by
  rw[h]at f
  have:bl 0=0:=rfl
  omega
 have m:aK (rS (N*(2^i*2^i))) (E-i)=aK (rS N) E:=by unfold aK;rw[f];omega
 have d:(bl (rS (N*(2^i*2^i))):Int)+(E-i)=(bl (rS N):Int)+E:=by rw[f];omega
 have A:E+2≤aK (rS N) E:=by have:=(fC (rS N) E).2.1;omega
 refine⟨?_,m,d,A⟩
 have D:fi (rS (N*(2^i*2^i))) (E-i)=fi (rS N) E:=by
  unfold fi
  rw[m]
  obtain⟨k,F⟩:∃k:Nat,aK (rS N) E=E+k+1∧1≤k:=⟨(aK (rS N) E-E-1).toNat,by omega,by omega⟩
  rw[show E-i-aK (rS N) E= -((k+i+1:Nat):Int) by omega,show E-aK (rS N) E= -((k+1:Nat):Int) by omega]
  rw[fh _ _ (by omega),fh _ _ (by omega),yD _ _ (by omega),yD _ _ (by omega)]
  exact sU _ _ _
 unfold bW
 rw[if_neg z,if_neg l,d,D,m]
theorem EK(N i:Nat):bu (N*(2^i*2^i))*bu (N*(2^i*2^i))=N*(2^i*2^i)↔bu N*bu N=N:=by
 have f:0<2^i:=Nat.two_pow_pos _
 have t:0<2^i*2^i:=Nat.mul_pos f f
 constructor
 ·intro h
  have l:=kB N (2^i) f
  generalize I:bu (N*(2^i*2^i))=R at*
  --2^i goes into R,since its square goes into R's
  have z:∀(n a:Nat),(2^n*2^n)∣a*a→2^n∣a:=by
   intro n
   induction n with
   |zero=>intro a _;simp
   |succ n ih=>
    intro a y
    have G:2∣a*a:=Nat.dvd_trans ⟨2^n*2^(n+1),by rw[Nat.pow_succ];ac_rfl⟩ y
    have H:a%2=0:=by
     rcases Nat.mod_two_eq_zero_or_one a with h|h
     ·exact h
     ·exfalso
      have:a*a%2=1:=by rw[Nat.mul_mod,h]
      omega
    obtain⟨b,rfl⟩:∃b,a=2*b:=⟨a/2,by omega⟩
    have A:2^n*2^n∣b*b:=by
     obtain⟨c,m⟩:=y
     refine⟨c,?_⟩
     have:4*(b*b)=4*(2^n*2^n*c):=by
      have D:2*b*(2*b)=4*(b*b):=by rw[show(4:Nat)=2*2 by decide];ac_rfl
      have F:2^(n+1)*2^(n+1)*c=4*(2^n*2^n*c):=by rw[Nat.pow_succ,show(4:Nat)=2*2 by decide];ac_rfl
      rw[←D,m,F]
     omega
    obtain⟨d,l⟩:=ih b A
    exact⟨d,by rw[l,Nat.pow_succ];ac_rfl⟩
  obtain⟨c,m⟩:=z i R ⟨N,by rw[h];ac_rfl⟩
  rw[m,Nat.mul_div_cancel_left c f]at l
  rw[←l]
  have:c*c*(2^i*2^i)=N*(2^i*2^i):=by rw[←h,m];ac_rfl
  exact Nat.eq_of_mul_eq_mul_right t this
 ·intro h
  have:bu (N*(2^i*2^i))=bu N*2^i:=by
   refine eu ?_ ?_
   ·rw[jw,h];exact Nat.le_refl _
   ·have:=gf (bu N*2^i)
    rw[jw,h]at this
    omega
  rw[this,jw,h]
theorem uJ(N i:Nat)(E:Int)(z:9007199254740992≤bu N):
  bH (oM (rS (N*(2^i*2^i)):Nat)).natAbs (oE (rS (N*(2^i*2^i)):Nat) (E-i))=bH (oM (rS N:Nat)).natAbs (oE (rS N:Nat) E):=by
 obtain⟨H,I,K,L⟩:=pB N i E z
 have f:=EK N i
 by_cases d:bu N*bu N=N
 ·have m:=f.2 d
  have A:bu (N*(2^i*2^i))=bu N*2^i:=by
   refine eu ?_ ?_
   ·rw[jw,d];exact Nat.le_refl _
   ·have:=gf (bu N*2^i)
    rw[jw,d]at this
    omega
  have e:rS (N*(2^i*2^i))=rS N*2^i:=by
   unfold rS;rw[if_pos d,if_pos m,A,Nat.add_zero,Nat.add_zero,Nat.mul_assoc]
  have D:((rS (N*(2^i*2^i)):Nat):Int)=((rS N:Nat):Int)*2^i:=by rw[e,Int.natCast_mul,Int.natCast_pow];rfl
  have:=jT ((rS N:Nat):Int) i (E-i)
  rw[D,this.1,this.2,show E-(i:Int)+i=E by omega]
 ·have m:¬bu (N*(2^i*2^i))*bu (N*(2^i*2^i))=N*(2^i*2^i):=fun h=>d (f.1 h)
  have t:((rS N:Nat):Int)%2=1:=by unfold rS;rw[if_neg d];omega
  have y:((rS (N*(2^i*2^i)):Nat):Int)%2=1:=by unfold rS;rw[if_neg m];omega
  have z1:∀(v:Nat) (e:Int),(v:Int)%2=1→oM (v:Int)=v∧oE (v:Int) e=e:=fun v e h=>by
   have l:(v:Int)≠0:=by omega
   have a:=(fg (v:Int) l).unique (m':=(v:Int)) (k':=0) ⟨by simp,h⟩
   exact⟨a.1,by rw[dq _ _ l,a.2];simp⟩
  rw[(z1 _ (E-i) y).1,(z1 _ (E-i) y).2,(z1 _ E t).1,(z1 _ E t).2,Int.natAbs_natCast,Int.natAbs_natCast]
  have F:rS N≠0:=by omega
  have G:rS (N*(2^i*2^i))≠0:=by omega
  unfold bH
  rw[if_neg F,if_neg G,K,I,H,if_neg (show¬aK (rS N) E≤E-i by omega),if_neg (show¬aK (rS N) E≤E by omega)]
open Go.RowKit
theorem yE(m k p D α d:Nat)(l t:Int)(z:m*2^k=D*2^α)(I:2*l=(k:Int)-1074-p)(K:2*t=(α:Int)-1074-d)(A:9007199254740992≤bu (m*2^p))(F:9007199254740992≤bu (D*2^d)):
  bW (rS (m*2^p)) (l-1)=bW (rS (D*2^d)) (t-1)∧bH (oM (rS (m*2^p):Nat)).natAbs (oE (rS (m*2^p):Nat) (l-1))=bH (oM (rS (D*2^d):Nat)).natAbs (oE (rS (D*2^d):Nat) (t-1)):=by
 have y:∀(m k p D α d i:Nat),m*2^k=D*2^α→p+2*i+α=k+d→m*2^p*(2^i*2^i)=D*2^d:=by
  intro m k p D α d i z G
  have H:0<2^α:=Nat.two_pow_pos _
  refine Nat.eq_of_mul_eq_mul_right H ?_
  rw[←Nat.pow_add,Nat.mul_assoc,Nat.mul_assoc,←Nat.pow_add,←Nat.pow_add,show p+(i+i+α)=k+d by omega,Nat.pow_add,←Nat.mul_assoc,z]
  ac_rfl
 rcases Int.le_total t l with h|h
 ·obtain⟨i,G⟩:∃i:Nat,l-t=i:=⟨(l-t).toNat,by omega⟩
  have e:=y m k p D α d i z (by omega)
  have s:=pB (m*2^p) i (l-1) A
  have f:=uJ (m*2^p) i (l-1) A
  rw[e,show l-1-(i:Int)=t-1 by omega]at s f
  exact⟨s.1.symm,f.symm⟩
 ·obtain⟨i,G⟩:∃i:Nat,t-l=i:=⟨(t-l).toNat,by omega⟩
  have e:=y D α d m k p i z.symm (by omega)
  have s:=pB (D*2^d) i (t-1) F
  have f:=uJ (D*2^d) i (t-1) F
  rw[e,show t-1-(i:Int)=l-1 by omega]at s f
  exact⟨s.1,f⟩
def tS(a:Nat):Nat:=rS (rv (fR a)*2^120)
def tV(a:Nat):Nat:=bW (tS a) (-598)
def tF(a:Nat):Int:=bH (oM (tS a:Nat)).natAbs (oE (tS a:Nat) (-598))
def sV(a:Nat):Nat:=
 if fK a=4 then 9221120237041090560
 else if fK a=0∨a=9218868437227405312 then a
 else if fS a=true then 9221120237041090560
 else tV a
def sF(a:Nat):Int:=
 if fK a=4 then 0
 else if fK a=0∨a=9218868437227405312 then 0
 else if fS a=true then 16
 else tF a
def sN(a:Nat):Bool:=decide (fK a=4∨(fK a≠0∧fS a=true))
theorem sW{N:Nat}(h:2^106≤N):9007199254740992≤bu N:=by
 obtain⟨d,f⟩:=cX N
 have e:(9007199254740992:Nat)*9007199254740992=2^106:=by decide
 have:9007199254740992<bu N+1:=ep.1 (by omega)
 omega
theorem EL(a:Nat)(d:fK a≠0):9007199254740992≤bu (rv (fR a)*2^120):=by
 have f:rv (fR a)≠0:=fun e=>d ((bh a).2 ((kz _).1 e))
 refine sW (Nat.le_trans (show 2^106≤1*2^120 by decide) (Nat.mul_le_mul_right _ (by omega)))
theorem q8(a m k p:Nat)(e:Int)(d:fK a≠0)(f:m*2^k=rv (fR a))(h:2*e=(k:Int)-1074-p)(l:9007199254740992≤bu (m*2^p)):
  bW (rS (m*2^p)) (e-1)=tV a∧bH (oM (rS (m*2^p):Nat)).natAbs (oE (rS (m*2^p):Nat) (e-1))=tF a:=by
 have:=yE m k p (rv (fR a)) 0 120 e (-597) (by rw[f];simp) h (by omega) l (EL a d)
 exact this
theorem pC(n:Nat):∀(f d:Nat),d*d≤n→n<(d+2^f)*(d+2^f)→Ieee.Datum.rootFrom n f d=bu n:=by
 intro f
 induction f with
 |zero=>
  intro d m l
  unfold Ieee.Datum.rootFrom
  rw[Nat.pow_zero]at l
  exact(eu m l).symm
 |succ t ih=>
  intro d m l
  unfold Ieee.Datum.rootFrom
  rw[Nat.one_shiftLeft]
  have e:(2:Nat)^(t+1)=2^t+2^t:=by rw[Nat.pow_succ];omega
  show Ieee.Datum.rootFrom n t (if(d+2^t)*(d+2^t)≤n then d+2^t else d)=bu n
  split
  ·rename_i h
   refine ih _ h ?_
   rw[e,←Nat.add_assoc]at l
   exact l
  ·rename_i h
   exact ih _ m (by omega)
theorem mB(a:Nat)(l:a<18446744073709551616)(h:sN a=true):Ieee.double.sqrt a=none∧sV a=9221120237041090560:=by
 unfold Ieee.Format.sqrt
 rcases of_decide_eq_true h with h|⟨A,d⟩
 ·obtain⟨s,f,e⟩:=dt a l h
  refine⟨by rw[e];rfl,?_⟩
  unfold sV;rw[if_pos h]
 ·by_cases t:fK a=4
  ·obtain⟨s,f,e⟩:=dt a l t
   refine⟨by rw[e];rfl,?_⟩
   unfold sV;rw[if_pos t]
  ·have y:¬(fK a=0∨a=9218868437227405312):=by
    rintro(h|h)
    ·exact A h
    ·rw[h]at d;revert d;decide
   refine⟨?_,by unfold sV;rw[if_neg t,if_neg y,if_pos d]⟩
   by_cases z:fK a=3
   ·rw[bS a l z,d];rfl
   ·obtain⟨m,k,e,G⟩:=bZ a l (bf a z t)
    have F:m≠0:=fun D=>A ((bh a).2 ((ch G).1 D))
    rw[e,d]
    show Option.map Ieee.double.write (if m=0 then _ else if true=true then none else _)=none
    rw[if_neg F,if_pos rfl];rfl
theorem mC(a:Nat)(A:a<18446744073709551616)(h:sN a=false):Ieee.double.sqrt a=some (sV a):=by
 have O:=of_decide_eq_false h
 have Q:fK a≠4:=fun e=>O (Or.inl e)
 have T:fK a≠0→fS a=false:=fun e=>by
  cases d:fS a
  ·rfl
  ·exact absurd (Or.inr ⟨e,d⟩) O
 unfold Ieee.Format.sqrt sV
 rw[if_neg Q]
 by_cases F:fK a=3
 ·have d:=T (by omega)
  have U:a=9218868437227405312:=by
   have:=fO a A
   rw[d,aY]at this
   have h3:=((bs a).2.1.1 F)
   omega
  rw[if_pos (Or.inr U),bS a A F,d]
  show some (Ieee.double.write (.infinity false))=_
  rw[df,U];rfl
 ·obtain⟨m,k,e,K⟩:=bZ a A (bf a F Q)
  rw[e]
  by_cases f:fK a=0
  ·have t:m=0:=(ch K).2 ((bh a).1 f)
   rw[if_pos (Or.inl f),t]
   show some (Ieee.double.nearest (fS a) 0 _)=_
   rw[cW,oK,←(bh a).1 f,fO a A]
  ·have d:=T f
   have t:m≠0:=fun e0=>f ((bh a).2 ((ch K).1 e0))
   have G:¬(fK a=0∨a=9218868437227405312):=by
    rintro(h|h)
    ·exact f h
    ·apply F;rw[h];decide
   rw[if_neg G,if_neg (show¬fS a=true by rw[d];decide),d]
   obtain⟨M,hM⟩:∃M:Nat,M=(108-m.log2)+((-1074+(k:Int)-((108-m.log2:Nat):Int))%2).toNat:=⟨_,rfl⟩
   show Option.map Ieee.double.write (if m=0 then _ else if false=true then none else some (.number false (2*(Ieee.Datum.rootFrom (m <<< ((108-m.log2)+((-1074+(k:Int)-((108-m.log2:Nat):Int))%2).toNat)) ((m <<< ((108-m.log2)+((-1074+(k:Int)-((108-m.log2:Nat):Int))%2).toNat)).log2/2+1) 0)+(Ieee.Datum.rootFrom (m <<< ((108-m.log2)+((-1074+(k:Int)-((108-m.log2:Nat):Int))%2).toNat)) ((m <<< ((108-m.log2)+((-1074+(k:Int)-((108-m.log2:Nat):Int))%2).toNat)).log2/2+1) 0*Ieee.Datum.rootFrom (m <<< ((108-m.log2)+((-1074+(k:Int)-((108-m.log2:Nat):Int))%2).toNat)) ((m <<< ((108-m.log2)+((-1074+(k:Int)-((108-m.log2:Nat):Int))%2).toNat)).log2/2+1) 0 != m <<< ((108-m.log2)+((-1074+(k:Int)-((108-m.log2:Nat):Int))%2).toNat)).toNat) ((-1074+(k:Int)-(((108-m.log2)+((-1074+(k:Int)-((108-m.log2:Nat):Int))%2).toNat:Nat):Int))/2-1)))=_
   rw[←hM,if_neg t,if_neg (by decide),Nat.shiftLeft_eq]
   obtain⟨D,L⟩:∃D:Int,2*D=(k:Int)-1074-M:=⟨((k:Int)-1074-M)/2,by omega⟩
   have H:(-1074+(k:Int)-(M:Int))/2=D:=by omega
   rw[H]
   have y:2^m.log2≤m:=by
    have V:=bF m t
    have l1:bl m=m.log2+1:=by unfold bl;rw[if_neg t]
    rw[l1,show m.log2+1-1=m.log2 by omega]at V
    exact V.2.1
   have z:2^106≤m*2^M:=by
    have X:2^m.log2*2^M≤m*2^M:=Nat.mul_le_mul_right _ y
    rw[←Nat.pow_add]at X
    exact Nat.le_trans (eC (show 106≤m.log2+M by omega)) X
   have l:Ieee.Datum.rootFrom (m*2^M) ((m*2^M).log2/2+1) 0=bu (m*2^M):=by
    have Y:m*2^M≠0:=by
     have:=Nat.two_pow_pos 106
     omega
    have Z:=bF _ Y
    have l2:bl (m*2^M)=(m*2^M).log2+1:=by unfold bl;rw[if_neg Y]
    rw[l2]at Z
    refine pC _ _ 0 (Nat.zero_le _) ?_
    rw[Nat.zero_add,←Nat.pow_add]
    exact Nat.lt_of_lt_of_le Z.2.2 (eC (by omega))
   rw[l]
   have I:2*bu (m*2^M)+(bu (m*2^M)*bu (m*2^M) != m*2^M).toNat=rS (m*2^M):=by
    unfold rS
    congr 1
    split
    ·rename_i N;rw[N];simp
    ·rename_i N;simp[N]
   rw[I]
   show some (Ieee.double.nearest false (rS (m*2^M)) _)=_
   rw[cW,aY,(q8 a m k M D f K L (sW z)).1]
theorem D4(a:Nat):tV a≤9218868437227405312:=ei _ _
theorem uK(a:Nat)(d:a<18446744073709551616):sV a<18446744073709551616:=by
 have h:=D4 a
 unfold sV
 repeat' split
 all_goals omega
theorem q9(a:Nat)(h:fS a=false)(d:a<18446744073709551616):fR a=a:=by
 have:=of_decide_eq_false h
 unfold fR;omega
theorem oR(a:Nat)(h:fS a=true)(d:a<18446744073709551616):fR a=fN a:=by
 have:=of_decide_eq_true h
 unfold fR fN;rw[if_pos this];omega
theorem re(a:Nat)(w:World)(f:a<18446744073709551616):
  Calls Tryz.prog 91 #[.int .u64 a] w fun e l=>e=.returned (.int .u64 (fR a:Nat))∧Below w.heap.size w l:=by
 have h:=aa (fun l=>dG a l f)
 have m:=aa (fun l=>fG a l f)
 cases hs:fS a
 ·rw[hs]at h
  rw[q9 a hs f]
  clear hs f m
  go_enter Tryz.func91,Tryz.ntmps91
  go_wp2_with fail
  refine(uH h _).mono ?_
  rintro e t ⟨rfl,d⟩
  clear h
  go_wp2
  go_ret
  exact⟨rfl,d⟩
 ·rw[hs]at h
  rw[oR a hs f]
  clear hs f
  generalize fN a=q at*
  go_enter Tryz.func91,Tryz.ntmps91
  go_wp2_with fail
  refine(uH h _).mono ?_
  rintro e t ⟨rfl,d⟩
  clear h
  go_wp2_with fail
  refine(uH m _).mono ?_
  rintro e y ⟨rfl,rfl⟩
  clear m
  go_wp2
  go_ret
  exact⟨rfl,d⟩
def pl(a:Nat):Int:=if fS a=true then-(fR a:Int)else(fR a:Int)
theorem yF(a r:Nat)(s:Bool)(w:World)(G:r<9223372036854775808)
  (z:∀f,Calls Tryz.prog 91 #[.int .u64 a] f fun e h=>e=.returned (.int .u64 (r:Nat))∧Below f.heap.size f h)
  (A:∀f,Calls Tryz.prog 109 #[.int .u64 a] f fun e h=>e=.returned (.bool s)∧Below f.heap.size f h):
  Calls Tryz.prog 127 #[.int .u64 a] w fun e f=>e=.returned (.int .i64 (if s=true then-(r:Int)else(r:Int)))∧Below w.heap.size w f:=by
 have m:=aa z;have t:=aa A
 have H:IntKind.i64.wrap (r:Int)=(r:Int):=by simp only[IntKind.wrap_i64];omega
 have I:IntKind.i64.wrap (-(r:Int))= -(r:Int):=by simp only[IntKind.wrap_i64];omega
 clear z A
 cases s
 ·go_enter Tryz.func127,Tryz.ntmps127
  go_wp2_with fail
  refine(uH m _).mono ?_
  rintro e D ⟨rfl,d⟩
  have l:=aa d
  clear m d
  go_wp2_with fail
  refine(uH t _).mono ?_
  rintro e F ⟨rfl,d⟩
  have y:=aa ((uH l).trans (d.mono (uH l).size))
  clear t d
  go_wp2
  go_ret
  exact⟨rfl,uH y⟩
 ·go_enter Tryz.func127,Tryz.ntmps127
  go_wp2_with fail
  refine(uH m _).mono ?_
  rintro e D ⟨rfl,d⟩
  have l:=aa d
  clear m d
  go_wp2_with fail
  refine(uH t _).mono ?_
  rintro e F ⟨rfl,d⟩
  have y:=aa ((uH l).trans (d.mono (uH l).size))
  clear t d
  go_wp2
  go_ret
  exact⟨rfl,uH y⟩
theorem oS(a:Nat)(w:World)(f:a<18446744073709551616):
  Calls Tryz.prog 127 #[.int .u64 a] w fun e d=>e=.returned (.int .i64 (pl a))∧Below w.heap.size w d:=
 yF a (fR a) (fS a) w (jV a) (fun d=>re a d f) (fun d=>dG a d f)
theorem jx(a:Int)(w:World):Calls Tryz.prog 153 #[.int .i64 a] w fun e d=>e=.returned (.bool false)∧w=d:=by
 go_enter Tryz.func153,Tryz.ntmps153
 go_wp2
 go_ret
 exact⟨rfl,rfl⟩
theorem yG(a b:Int)(w:World):Calls Tryz.prog 126 #[.int .i64 a,.int .i64 b] w fun e d=>e=.returned (.int .i64 (bG a b))∧w=d:=by
 have f:Hid (bG a b=if a<b then-1 else if b<a then 1 else 0):=rfl
 generalize bG a b=c at*
 rcases(show a<b∨b<a∨a=b by omega)with h|h|h
 ·go_enter Tryz.func126,Tryz.ntmps126
  go_wp2_with(go_at_call 153;refine(jx _ _).mono ?_;rintro e d ⟨rfl,rfl⟩)
  go_ret
  exact⟨aQ (by rw[f.out];simp[h]),rfl⟩
 ·have l:¬a<b:=by omega
  go_enter Tryz.func126,Tryz.ntmps126
  go_wp2_with(go_at_call 153;refine(jx _ _).mono ?_;rintro e d ⟨rfl,rfl⟩)
  go_ret
  exact⟨aQ (by rw[f.out];simp[h,l]),rfl⟩
 ·subst h
  go_enter Tryz.func126,Tryz.ntmps126
  go_wp2_with(go_at_call 153;refine(jx _ _).mono ?_;rintro e d ⟨rfl,rfl⟩)
  go_ret
  exact⟨aQ (by rw[f.out];simp),rfl⟩
def cO(a b:Nat):Int:=if fK a=4∨fK b=4 then 0 else bG (fZ a) (fZ b)
def cB(a b:Nat):Bool:=if fK a=4∨fK b=4 then false else true
theorem kC{r s:Nat}(h:r<s):rv r<rv s:=Nat.lt_of_lt_of_le (pg r) (ph h)
theorem sX{r:Nat}(h:0<r):0<rv r:=by have:=kC h;rw[fj]at this;exact this
theorem gL{a b:Int}(h:a<b):bG a b= -1:=by unfold bG;rw[if_pos h]
theorem gN{a b:Int}(h:b<a):bG a b=1:=by unfold bG;rw[if_neg (by omega),if_pos h]
theorem iC{a b:Int}(h:a=b):bG a b=0:=by unfold bG;rw[if_neg (by omega),if_neg (by omega)]
theorem rf{n m:Bool}{r s:Nat}(h:(if n=true then-(r:Int)else(r:Int))<(if m=true then-(s:Int)else(s:Int))):pv n r<pv m s:=by
 have z:rv 0=0:=fj
 have d:r<s→rv r<rv s:=kC
 have f:s<r→rv s<rv r:=kC
 have l:0<r→0<rv r:=sX
 have p2:0<s→0<rv s:=sX
 unfold pv
 cases n<;>cases m<;>simp only[if_true,if_false,Bool.false_eq_true]at h⊢<;>omega
theorem EM(a b:Nat):bG (pl a) (pl b)=bG (fZ a) (fZ b):=by
 have d:pl a<pl b→fZ a<fZ b:=fun h=>rf h
 have f:pl b<pl a→fZ b<fZ a:=fun h=>rf h
 rcases(show pl a<pl b∨pl b<pl a∨pl a=pl b by omega)with h|h|h
 ·rw[gL h,gL (d h)]
 ·rw[gN h,gN (f h)]
 ·have l:fZ a=fZ b:=by
   unfold pl at h
   unfold fZ pv
   cases ha:fS a<;>cases hb:fS b<;>rw[ha,hb]at h<;>simp only[if_true,if_false,Bool.false_eq_true]at h⊢
   ·rw[show fR a=fR b by omega]
   ·rw[show fR a=0 by omega,show fR b=0 by omega,fj];rfl
   ·rw[show fR a=0 by omega,show fR b=0 by omega,fj];rfl
   ·rw[show fR a=fR b by omega]
  rw[iC h,iC l]
theorem yH(a b:Nat)(w:World)
  (l:∀d,Calls Tryz.prog 67 #[.int .u64 a] d fun r f=>r=.returned (.int .i64 4)∧Below d.heap.size d f):
  Calls Tryz.prog 108 #[.int .u64 a,.int .u64 b] w fun r d=>r=.returned (.tuple #[.int .i64 0,.bool false])∧Below w.heap.size w d:=by
 have m:=aa l
 clear l
 go_enter Tryz.func108,Tryz.ntmps108
 go_wp2_with fail
 refine(uH m _).mono ?_
 rintro e t ⟨rfl,h⟩
 clear m
 go_wp2
 exact bodyPost_ret (v:=.tuple #[.int .i64 0,.bool false]) (by simp[results,Tryz.results108,go_sem]) rfl ⟨rfl,h⟩
theorem yI(a b:Nat)(l:Int)(w:World)(F:(l==4)=false)
  (m:∀f,Calls Tryz.prog 67 #[.int .u64 a] f fun r h=>r=.returned (.int .i64 l)∧Below f.heap.size f h)
  (t:∀f,Calls Tryz.prog 67 #[.int .u64 b] f fun r h=>r=.returned (.int .i64 4)∧Below f.heap.size f h):
  Calls Tryz.prog 108 #[.int .u64 a,.int .u64 b] w fun r f=>r=.returned (.tuple #[.int .i64 0,.bool false])∧Below w.heap.size w f:=by
 have y:=aa m;have z:=aa t
 clear m t
 go_enter Tryz.func108,Tryz.ntmps108
 go_wp2_with fail
 refine(uH y _).mono ?_
 rintro e G ⟨rfl,d⟩
 clear y
 have A:=aa d
 clear d
 go_wp2_with fail
 refine(uH z _).mono ?_
 rintro e H ⟨rfl,d⟩
 have D:=aa ((uH A).trans (d.mono (uH A).size))
 clear d z
 go_wp2
 exact bodyPost_ret (v:=.tuple #[.int .i64 0,.bool false]) (by simp[results,Tryz.results108,go_sem]) rfl ⟨rfl,uH D⟩
theorem Ce(a b:Nat)(l m x y o:Int)(w:World)(T:(l==4)=false)(U:(m==4)=false)
  (t:∀f,Calls Tryz.prog 67 #[.int .u64 a] f fun r h=>r=.returned (.int .i64 l)∧Below f.heap.size f h)
  (z:∀f,Calls Tryz.prog 67 #[.int .u64 b] f fun r h=>r=.returned (.int .i64 m)∧Below f.heap.size f h)
  (A:∀f,Calls Tryz.prog 127 #[.int .u64 a] f fun r h=>r=.returned (.int .i64 x)∧Below f.heap.size f h)
  (D:∀f,Calls Tryz.prog 127 #[.int .u64 b] f fun r h=>r=.returned (.int .i64 y)∧Below f.heap.size f h)
  (F:∀f,Calls Tryz.prog 126 #[.int .i64 x,.int .i64 y] f fun r h=>r=.returned (.int .i64 o)∧f=h):
  Calls Tryz.prog 108 #[.int .u64 a,.int .u64 b] w fun r f=>r=.returned (.tuple #[.int .i64 o,.bool true])∧Below w.heap.size w f:=by
 have G:=aa t;have H:=aa z;have I:=aa A;have K:=aa D;have L:=aa F
 clear t z A D F
 go_enter Tryz.func108,Tryz.ntmps108
 go_wp2_with fail
 refine(uH G _).mono ?_
 rintro e V ⟨rfl,d⟩
 have M:=aa d
 clear d G
 go_wp2_with fail
 refine(uH H _).mono ?_
 rintro e X ⟨rfl,d⟩
 have N:=aa ((uH M).trans (d.mono (uH M).size))
 clear d H
 go_wp2_with fail
 refine(uH I _).mono ?_
 rintro e Y ⟨rfl,d⟩
 have O:=aa ((uH N).trans (d.mono (uH N).size))
 clear d I
 go_wp2_with fail
 refine(uH K _).mono ?_
 rintro e Z ⟨rfl,d⟩
 have Q:=aa ((uH O).trans (d.mono (uH O).size))
 clear d K
 go_wp2_with fail
 refine(uH L _).mono ?_
 rintro e w5 ⟨rfl,rfl⟩
 clear L
 go_wp2
 exact bodyPost_ret (v:=.tuple #[.int .i64 o,.bool true]) (by simp[results,Tryz.results108,go_sem]) rfl ⟨rfl,uH Q⟩
theorem sY(a b:Nat)(w:World)(y:a<18446744073709551616)(z:b<18446744073709551616):
  Calls Tryz.prog 108 #[.int .u64 a,.int .u64 b] w fun r d=>r=.returned (.tuple #[.int .i64 (cO a b),.bool (cB a b)])∧Below w.heap.size w d:=by
 have m:=fun d=>cu a d y
 have t:=fun d=>cu b d z
 unfold cO cB
 by_cases f:fK a=4
 ·rw[if_pos (Or.inl f),if_pos (Or.inl f)]
  rw[f]at m
  exact yH a b w m
 by_cases l:fK b=4
 ·rw[if_pos (Or.inr l),if_pos (Or.inr l)]
  rw[l]at t
  exact yI a b _ w (by simp[f]) m t
 have h:¬(fK a=4∨fK b=4):=fun h=>h.elim f l
 rw[if_neg h,if_neg h,←EM]
 exact Ce a b _ _ _ _ _ w (by simp[f]) (by simp[l]) m t (fun d=>oS a d y) (fun d=>oS b d z) (fun d=>yG _ _ d)
def cM(a b:Nat)(l t:Bool):Nat:=if t=false then 9221120237041090560 else if l=true then b else a
theorem EN(a b:Nat)(o:Int)(t l q:Bool)(w:World)(z:(o=0∧t=false∧l=false∧q=false)∨(o= -1∧t=true∧l=true∧q=false)∨(o=0∧t=true∧l=false∧q=true)∨(o=1∧t=true∧l=false∧q=false))
  (m:∀d,Calls Tryz.prog 108 #[.int .u64 a,.int .u64 b] d fun r f=>r=.returned (.tuple #[.int .i64 o,.bool t])∧Below d.heap.size d f):
  Calls Tryz.prog 90 #[.int .u64 a,.int .u64 b] w fun r d=>r=.returned (.int .u64 (cM a b l t:Nat))∧Below w.heap.size w d:=by
 have y:=aa m
 clear m
 unfold cM
 rcases z with⟨rfl,rfl,rfl,rfl⟩|⟨rfl,rfl,rfl,rfl⟩|⟨rfl,rfl,rfl,rfl⟩|⟨rfl,rfl,rfl,rfl⟩
 all_goals
  simp only[if_true,if_false,Bool.false_eq_true,Bool.true_eq_false]
  go_enter Tryz.func90,Tryz.ntmps90
  go_wp2_with fail
  refine(uH y _).mono ?_
  rintro e A ⟨rfl,h⟩
  clear y
  go_wp2
  go_ret
  exact⟨rfl,h⟩
theorem Cf(a b:Nat)(o:Int)(t l q:Bool)(w:World)(z:(o=0∧t=false∧l=false∧q=false)∨(o= -1∧t=true∧l=true∧q=false)∨(o=0∧t=true∧l=false∧q=true)∨(o=1∧t=true∧l=false∧q=false))
  (m:∀d,Calls Tryz.prog 118 #[.int .u64 a,.int .u64 b] d fun r f=>r=.returned (.tuple #[.int .i64 o,.bool t])∧Below d.heap.size d f):
  Calls Tryz.prog 99 #[.int .u64 a,.int .u64 b] w fun r d=>r=.returned (.int .u64 (cM a b l t:Nat))∧Below w.heap.size w d:=by
 have y:=aa m
 clear m
 unfold cM
 rcases z with⟨rfl,rfl,rfl,rfl⟩|⟨rfl,rfl,rfl,rfl⟩|⟨rfl,rfl,rfl,rfl⟩|⟨rfl,rfl,rfl,rfl⟩
 all_goals
  simp only[if_true,if_false,Bool.false_eq_true,Bool.true_eq_false]
  go_enter Tryz.func99,Tryz.ntmps99
  go_wp2_with fail
  refine(uH y _).mono ?_
  rintro e A ⟨rfl,h⟩
  clear y
  go_wp2
  go_ret
  exact⟨rfl,h⟩
theorem yJ(X y:Nat)(h:0<y):X*2/(2*y)=2*(X/(2*y))+(if y≤X%(2*y)then 1 else 0)∧X*2%(2*y)=2*(X%(2*y)-(if y≤X%(2*y)then y else 0)):=by
 have d:=Nat.div_add_mod X (2*y)
 have l:=Nat.mod_lt X (show 0<2*y by omega)
 generalize X/(2*y)=q at*
 generalize X%(2*y)=r at*
 have f:X*2=2*y*(2*q)+2*r:=by rw[←d,Nat.add_mul,Nat.mul_assoc,Nat.mul_comm q 2,Nat.mul_comm r 2]
 by_cases c:y≤r
 ·rw[if_pos c,if_pos c]
  have e:X*2=2*y*(2*q+1)+2*(r-y):=by rw[Nat.mul_add,Nat.mul_one];omega
  rw[e]
  refine⟨?_,?_⟩
  ·rw[Nat.mul_add_div (by omega),Nat.div_eq_of_lt (by omega),Nat.add_zero]
  ·rw[Nat.mul_add_mod,Nat.mod_eq_of_lt (by omega)]
 ·rw[if_neg c,if_neg c]
  rw[f]
  refine⟨?_,?_⟩
  ·rw[Nat.mul_add_div (by omega),Nat.div_eq_of_lt (by omega),Nat.add_zero]
  ·rw[Nat.mul_add_mod,Nat.mod_eq_of_lt (by omega)];omega
def lQ(x y i:Nat):Nat:=x*2^i/(2*y)
def lR(x y i:Nat):Nat:=x*2^i%(2*y)
theorem EO(x y:Nat)(h:x<2*y):lQ x y 0=0∧lR x y 0=x:=by
 unfold lQ lR
 rw[Nat.pow_zero,Nat.mul_one]
 exact⟨Nat.div_eq_of_lt h,Nat.mod_eq_of_lt h⟩
theorem EP(x y i:Nat)(d:0<y):lQ x y (i+1)=2*lQ x y i+(if y≤lR x y i then 1 else 0)∧lR x y (i+1)=2*(lR x y i-(if y≤lR x y i then y else 0)):=by
 have:=yJ (x*2^i) y d
 unfold lQ lR
 rw[Nat.pow_succ,←Nat.mul_assoc]
 exact this
theorem F0(x y i:Nat)(d:0<y):lR x y i<2*y:=Nat.mod_lt _ (by omega)
theorem yK(x y i:Nat)(h:x<2*y):lQ x y i<2^i:=by
 unfold lQ
 rw[Nat.div_lt_iff_lt_mul (by omega),Nat.mul_comm (2^i)]
 exact(Nat.mul_lt_mul_right (Nat.two_pow_pos i)).2 h
theorem D5(x y:Nat):co (x*2^54) y=2*lQ x y 55+(if 0<lR x y 55 then 1 else 0):=by
 have e:x*2^55=2*(x*2^54):=by rw[show(2:Nat)^55=2*2^54 by decide];ac_rfl
 unfold co lQ lR
 rw[e,Nat.mul_div_mul_left _ _ (by decide),Nat.mul_mod_mul_left]
 congr 1
 by_cases c:x*2^54%y=0
 ·rw[if_pos c,c,if_neg (by omega)]
 ·rw[if_neg c,if_pos (by omega)]
def dS(b:Nat):Nat:=(fD b).natAbs*2^(53-bl (fD b).natAbs)
def dT(b:Nat):Int:=(bl (fD b).natAbs:Int)+fX b
theorem cK(b:Nat)(A:b<18446744073709551616)(t:aD b=true)(D:fK b≠0):
  bl (fD b).natAbs≤53∧1≤bl (fD b).natAbs∧4503599627370496≤dS b∧dS b<9007199254740992∧-1074≤fX b∧fX b≤1024∧(fD b).natAbs%2=1∧(fD b).natAbs<9007199254740992:=by
 obtain⟨β,N,I,K,L⟩:=i8 b A t D
 have d:(fD b).natAbs≠0:=by omega
 obtain⟨M,O,Q⟩:=bF _ d
 have f:bl (fD b).natAbs≤53:=by
  have:(2:Nat)^(bl (fD b).natAbs-1)<2^53:=by rw[xH];omega
  have:=cr this
  omega
 have F:=jI (fD b).natAbs (53-bl (fD b).natAbs) d
 have h:bl (dS b)=53:=by unfold dS;rw[F];omega
 have l:dS b≠0:=by
  unfold dS
  exact Nat.mul_ne_zero d (Nat.pos_iff_ne_zero.1 (Nat.two_pow_pos _))
 obtain⟨T,z,m⟩:=bF _ l
 rw[h]at z m
 have y:=jW b t
 rw[gn,I]at y
 have G:β<2098:=by
  have H:2^β≤(fD b).natAbs*2^β:=Nat.le_mul_of_pos_left _ (by omega)
  exact cr (Nat.lt_of_le_of_lt H y)
 refine⟨f,M,?_,?_,by omega,by omega,K,L⟩
 ·exact z
 ·rw[xH]at m;exact m
def pS(a b:Nat):Nat:=co (dS a*2^54) (dS b)
theorem yL(a b:Nat)(t:a<18446744073709551616)(y:b<18446744073709551616)(z:aD a=true)(A:aD b=true)(D:fK a≠0)(F:fK b≠0):
  bW (pS a b) (dT a-dT b-55)=qV a b∧bH (oM (pS a b:Nat)).natAbs (oE (pS a b:Nat) (dT a-dT b-55))=qF a b:=by
 obtain⟨Q,T,U,V,X,Y,Z,x8⟩:=cK a t z D
 obtain⟨y1,y2,y3,y4,y5,y6,K,L⟩:=cK b y A F
 have h:=uI (fD a).natAbs (fD b).natAbs (by omega) L (by omega)
 obtain⟨u1,u2,u3⟩:=bF (fD a).natAbs (by omega)
 obtain⟨v1,v2,v3⟩:=bF (fD b).natAbs (by omega)
 unfold pS qV qF qS dS dT
 generalize (fD a).natAbs=d at*
 generalize (fD b).natAbs=f at*
 have G:d*2^(53-bl d)*2^54=d*2^(54-bl d+bl f)*2^(53-bl f):=by
  rw[Nat.mul_assoc,←Nat.pow_add,Nat.mul_assoc,←Nat.pow_add]
  congr 2
  omega
 have l:54-bl d+bl f=54+bl f-bl d:=by omega
 rw[G,mt]
 have m:9007199254740992≤d*2^(54-bl d+bl f)/f:=by
  rw[Nat.le_div_iff_mul_le (by omega)]
  have M:9007199254740992*f≤2^53*2^bl f:=by rw[xH];exact Nat.mul_le_mul_left _ (by omega)
  have N:(2:Nat)^53*2^bl f≤2^(bl d-1)*2^(54-bl d+bl f):=by
   rw[←Nat.pow_add,←Nat.pow_add];exact eC (by omega)
  have O:2^(bl d-1)*2^(54-bl d+bl f)≤d*2^(54-bl d+bl f):=Nat.mul_le_mul_right _ u2
  omega
 have H:(bl d:Int)+fX a-((bl f:Int)+fX b)-55=(fX a-fX b-1)-(54-bl d+bl f:Nat):=by omega
 have I:fX a-fX b-181=(fX a-fX b-1)-(180:Nat):=by omega
 rw[H,I]
 exact⟨uF d f _ 180 _ (by omega) m h,py d f _ 180 _ K m h⟩
theorem yM(a b:Nat)(d:a<18446744073709551616)(f:b<18446744073709551616)(l:aD a=true)(m:aD b=true)(t:fK a≠0)(y:fK b≠0):pS a b≠0∧pS a b<144115188075855872∧dS a<2*dS b:=by
 obtain⟨G,H,I,K,L,M,N,O⟩:=cK a d l t
 obtain⟨Q,T,U,V,X,Y,Z,y8⟩:=cK b f m y
 have h:=D5 (dS a) (dS b)
 have z:=yK (dS a) (dS b) 55 (by omega)
 have A:(2:Nat)^55=36028797018963968:=by decide
 have D:(if 0<lR (dS a) (dS b) 55 then 1 else 0)≤1:=by split<;>omega
 refine⟨?_,?_,by omega⟩
 ·have:1≤dS a*2^54/dS b:=by
   rw[Nat.le_div_iff_mul_le (by omega),Nat.one_mul]
   have:dS a*1≤dS a*2^54:=Nat.mul_le_mul_left _ (by decide)
   have F:dS a*2≤dS a*2^54:=Nat.mul_le_mul_left _ (by decide)
   omega
  unfold pS co
  omega
 ·show co (dS a*2^54) (dS b)<_
  rw[h];omega
end Go.Proofs.YtenpggicmfhhdaaGreatDoor
