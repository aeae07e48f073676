/- Part 2 of the texts. -/
import Derived.Test.YtcbcmlaogehimaaGreatDoorPartt01
import Derived.Lib.TrailingZeros
set_option maxHeartbeats 1000000
namespace Go.Proofs.YtcbcmlaogehimaaGreatDoor
theorem kE(S:List Nat)(x:Nat):ai (S++[x])=ai S+4294967296^S.length*x:=by rw[j8];simp[ai]
theorem bh.snoc{S:List Nat}(h:bh S){x:Nat}(z:x<4294967296):bh (S++[x]):=fun y u=>by
 rcases List.mem_append.1 u with d|d
 ·exact h y d
 ·simp at d;omega
theorem yT(A B S:List Nat)(c x y:Nat)(d:A[S.length]?.getD 0=x)(u:B[S.length]?.getD 0=y)(h:ai S+4294967296^S.length*c=ai (A.take S.length)+ai (B.take S.length)):
  ai (S++[(x+y+c)%4294967296])+4294967296^(S.length+1)*((x+y+c)/4294967296)=ai (A.take (S.length+1))+ai (B.take (S.length+1)):=by
 rw[kE,aL A,aL B,d,u]
 have e:=jm (4294967296^S.length) 4294967296 (x+y+c)
 rw[Nat.pow_succ]
 rw[Nat.mul_add,Nat.mul_add]at e
 omega
theorem vy(A B S:List Nat)(c x y t d:Nat)(u:A[S.length]?.getD 0=x)(z:B[S.length]?.getD 0=y)(D:t+y+c=x+4294967296*d)(h:ai S+ai (B.take S.length)=ai (A.take S.length)+4294967296^S.length*c):
  ai (S++[t])+ai (B.take (S.length+1))=ai (A.take (S.length+1))+4294967296^(S.length+1)*d:=by
 rw[kE,aL A,aL B,u,z,Nat.pow_succ]
 have e:4294967296^S.length*(t+y+c)=4294967296^S.length*(x+4294967296*d):=by rw[D]
 rw[Nat.mul_add,Nat.mul_add,Nat.mul_add,←Nat.mul_assoc]at e
 omega
theorem kF:∀(S:List Nat) (j t:Nat),j<S.length→ai (S.set j t)+4294967296^j*(S[j]?.getD 0)=ai S+4294967296^j*t
 | [],_,_,h=>by simp at h
 |x::r,0,t,_=>by simp[ai];omega
 |x::r,j+1,t,h=>by
  have z:=kF r j t (by simpa using h)
  simp only[List.set_cons_succ,ai,List.getElem?_cons_succ,Nat.pow_succ]
  have d:4294967296^j*4294967296*(r[j]?.getD 0)=4294967296*(4294967296^j*(r[j]?.getD 0)):=by rw[Nat.mul_comm (4294967296^j),Nat.mul_assoc]
  have u:4294967296^j*4294967296*t=4294967296*(4294967296^j*t):=by rw[Nat.mul_comm (4294967296^j),Nat.mul_assoc]
  rw[d,u]
  omega
theorem f7(S:List Nat)(j k t:Nat)(h:k≠j):(S.set j t)[k]?.getD 0=S[k]?.getD 0:=by
 rw[List.getElem?_set_ne (by omega)]
theorem vz(x y:Nat)(d:x<4294967296)(h:y<4294967296):x*y≤18446744065119617025:=by
 have:=Nat.mul_le_mul (show x≤4294967295 by omega) (show y≤4294967295 by omega)
 simpa using this
theorem xC(x y:Nat)(d:x<4294967296)(u:y<4294967296):(x:Int)*(y:Int)≤18446744065119617025∧(0:Int)≤(x:Int)*(y:Int):=by
 have h:=vz x y d u
 have e:((x*y:Nat):Int)=(x:Int)*(y:Int):=Int.natCast_mul x y
 rw[←e]
 omega
theorem yU(x y z q:Nat):(((y+(x*z+q))%4294967296:Nat):Int)=((y:Int)+((x:Int)*(z:Int)+(q:Int)))%4294967296∧(((y+(x*z+q))/4294967296:Nat):Int)=((y:Int)+((x:Int)*(z:Int)+(q:Int)))/4294967296:=by
 have e:((x*z:Nat):Int)=(x:Int)*(z:Int):=Int.natCast_mul x z
 rw[←e]
 omega
theorem AR(B Q:List Nat)(V x i k c y q:Nat)(d:i+k<Q.length)(u:B[k]?.getD 0=y)(z:Q[i+k]?.getD 0=q)(h:ai Q+4294967296^(i+k)*c=V+4294967296^i*x*ai (B.take k)):
  ai (Q.set (i+k) ((c+(x*y+q))%4294967296))+4294967296^(i+(k+1))*((c+(x*y+q))/4294967296)=V+4294967296^i*x*ai (B.take (k+1)):=by
 have A:=kF Q (i+k) ((c+(x*y+q))%4294967296) d
 rw[z]at A
 have e:=jm (4294967296^(i+k)) 4294967296 (c+(x*y+q))
 rw[show 4294967296^(i+(k+1))=4294967296^(i+k)*4294967296 by rw[←Nat.add_assoc,Nat.pow_succ],aL B k,u]
 have D:4294967296^i*x*(ai (B.take k)+4294967296^k*y)=4294967296^i*x*ai (B.take k)+4294967296^(i+k)*(x*y):=by
  rw[Nat.mul_add,Nat.pow_add]
  congr 1
  rw[Nat.mul_assoc,Nat.mul_assoc,←Nat.mul_assoc x,Nat.mul_comm x,Nat.mul_assoc]
 rw[D]
 have F:4294967296^(i+k)*(c+(x*y+q))=4294967296^(i+k)*c+4294967296^(i+k)*(x*y)+4294967296^(i+k)*q:=by rw[Nat.mul_add,Nat.mul_add];omega
 omega
theorem ES(A B Q:List Nat)(x i c:Nat)(d:i+B.length<Q.length)(u:A[i]?.getD 0=x)(z:Q[i+B.length]?.getD 0=0)(h:ai Q+4294967296^(i+B.length)*c=ai (A.take i)*ai B+4294967296^i*x*ai (B.take B.length)):
  ai (Q.set (i+B.length) c)=ai (A.take (i+1))*ai B:=by
 have D:=kF Q (i+B.length) c d
 rw[z,Nat.mul_zero]at D
 rw[List.take_length]at h
 rw[aL A i,u,Nat.add_mul]
 omega
theorem ET(s y p:Nat)(d:s<2^p)(u:y%2^p=0):s|||y=s+y:=by
 have h:=Nat.two_pow_add_eq_or_of_lt d (y/2^p)
 have e:2^p*(y/2^p)=y:=by have:=Nat.div_add_mod y (2^p);omega
 rw[e]at h
 rw[Nat.or_comm,←h];omega
theorem AU(x p:Nat)(d:p≤32):(x*2^p)%4294967296%2^p=0:=by
 have e:(4294967296:Nat)=2^p*2^(32-p):=by rw[←Nat.pow_add,show p+(32-p)=32 by omega]
 rw[e,Nat.mod_mul_right_mod]
 exact Nat.mul_mod_left _ _
theorem yV(x p:Nat)(d:x<4294967296)(_hp:p≤31):(x*2^p)/4294967296<2^p:=by
 rw[Nat.div_lt_iff_lt_mul (by decide),Nat.mul_comm]
 exact Nat.mul_lt_mul_of_pos_left d (Nat.pow_pos (by decide))
theorem qT(x p:Nat)(u:x<4294967296)(d:p≤31):x*2^p<9223372036854775808:=by
 have h:2^p≤2^31:=Nat.pow_le_pow_right (by decide) d
 have z:=Nat.mul_le_mul (show x≤4294967295 by omega) h
 omega
theorem EU(A S:List Nat)(i l p x s:Nat)(d:i+l+1<S.length)(z:A[i]?.getD 0=x)(D:S[i+l]?.getD 0=s)(F:S[i+l+1]?.getD 0=0)(h:ai S=4294967296^l*2^p*ai (A.take i)):
  ai ((S.set (i+l) (s+(x*2^p)%4294967296)).set (i+l+1) ((x*2^p)/4294967296))=4294967296^l*2^p*ai (A.take (i+1)):=by
 have G:=kF S (i+l) (s+(x*2^p)%4294967296) (by omega)
 have u:=kF (S.set (i+l) (s+(x*2^p)%4294967296)) (i+l+1) ((x*2^p)/4294967296) (by simpa using d)
 rw[f7 _ _ _ _ (by omega),F,Nat.mul_zero]at u
 rw[D,Nat.mul_add]at G
 have e:=jm (4294967296^(i+l)) 4294967296 (x*2^p)
 rw[Nat.pow_succ]at u
 rw[aL A i,z,Nat.mul_add]
 have H:4294967296^l*2^p*(4294967296^i*x)=4294967296^(i+l)*(x*2^p):=by
  rw[Nat.pow_add]
  rw[Nat.mul_assoc,Nat.mul_comm (4294967296^i) (4294967296^l),Nat.mul_assoc]
  congr 1
  rw[Nat.mul_comm (2^p),Nat.mul_assoc]
 rw[H]
 omega
theorem sR(L:List Nat)(h:bh L)(k:Nat):ai (L.drop k)=ai L/4294967296^k:=by
 have d:=ii L k
 have u:=gU L h k
 rw[d,Nat.add_comm,Nat.mul_comm,Nat.add_comm]
 rw[Nat.add_mul_div_right _ _ (Nat.pow_pos (by decide)),Nat.div_eq_of_lt u,Nat.zero_add]
theorem qU(D:List Nat):ai D=D[0]?.getD 0+4294967296*(D[1]?.getD 0)+4294967296*4294967296*ai (D.drop 2):=by
 match D with
 | []=>simp[ai]
 | [x]=>simp[ai]
 |x::y::r=>simp only[ai,List.getElem?_cons_zero,List.getElem?_cons_succ,Option.getD_some,List.drop_succ_cons,List.drop_zero];rw[Nat.mul_add,←Nat.mul_assoc];omega
theorem EV(d h r p:Nat)(u:p≤31):((d+4294967296*h+4294967296*4294967296*r)/2^p)%4294967296=((d+4294967296*h)/2^p)%4294967296:=by
 have e:(4294967296*4294967296*r:Nat)=2^p*(2^(32-p)*(4294967296*r)):=by
  rw[←Nat.mul_assoc (2^p),←Nat.pow_add,show p+(32-p)=32 by omega]
  rw[Nat.mul_assoc]
 rw[e,Nat.add_mul_div_left _ _ (Nat.pow_pos (by decide)),←Nat.mul_assoc,Nat.mul_comm (2^(32-p)),Nat.mul_assoc,Nat.add_mul_mod_self_left]
theorem qi(A S:List Nat)(z:bh A)(k l p d u:Nat)(D:p≤31)(F:k<S.length)(G:A[k+l]?.getD 0=d)(H:A[k+l+1]?.getD 0=u)(h:ai (S.take k)=(ai A/(4294967296^l*2^p))%4294967296^k):
  ai ((S.set k (((d+4294967296*u)/2^p)%4294967296)).take (k+1))=(ai A/(4294967296^l*2^p))%4294967296^(k+1):=by
 rw[iN S k _ F,h,Nat.pow_succ,Nat.mod_mul]
 congr 2
 have I:ai A/(4294967296^l*2^p)/4294967296^k=ai (A.drop (k+l))/2^p:=by
  rw[sR A z,Nat.div_div_eq_div_mul,Nat.div_div_eq_div_mul,Nat.pow_add]
  congr 1
  rw[Nat.mul_comm (4294967296^k),Nat.mul_assoc,Nat.mul_assoc,Nat.mul_comm (2^p)]
 rw[I,qU (A.drop (k+l)),List.getElem?_drop,List.getElem?_drop,Nat.add_zero,G,H,EV _ _ _ _ D]
theorem sT(A S:List Nat)(d:bh A)(l p:Nat)(u:S.length=A.length-l)(h:ai (S.take S.length)=(ai A/(4294967296^l*2^p))%4294967296^S.length):ai S=ai A/(4294967296^l*2^p):=by
 rw[List.take_length]at h
 rw[h]
 apply Nat.mod_eq_of_lt
 have z:=eM A d
 have D:ai A/(4294967296^l*2^p)≤ai A/4294967296^l:=by
  rw[←Nat.div_div_eq_div_mul];exact Nat.div_le_self _ _
 refine Nat.lt_of_le_of_lt D ?_
 rw[Nat.div_lt_iff_lt_mul (Nat.pow_pos (by decide)),←Nat.pow_add,u]
 exact Nat.lt_of_lt_of_le z (Nat.pow_le_pow_right (by decide) (by omega))
theorem kf(l p:Nat):4294967296^l*2^p=2^(32*l+p):=by
 rw[Nat.pow_add,Nat.pow_mul]
def tz(v:Nat):Nat:=Lib.ctzFrom v v
theorem iO(v:Nat)(h:0<v):∃m,v=2^tz v*(2*m+1):=by
 obtain⟨m,d,_⟩:=Lib.ctzFrom_spec v v h Nat.lt_two_pow_self
 exact⟨m,d⟩
theorem sU(k j m n:Nat)(h:2^k*(2*m+1)=2^j*(2*n+1)):k=j∧m=n:=by
 rcases Nat.lt_trichotomy k j with u|rfl|u
 ·exfalso
  obtain⟨d,rfl⟩:∃d,j=k+(d+1):=⟨j-k-1,by omega⟩
  rw[Nat.pow_add,Nat.mul_assoc]at h
  have:=Nat.eq_of_mul_eq_mul_left (Nat.pow_pos (by decide)) h
  rw[Nat.pow_succ,Nat.mul_assoc,Nat.mul_left_comm]at this
  omega
 ·have:=Nat.eq_of_mul_eq_mul_left (Nat.pow_pos (by decide)) h
  exact⟨rfl,by omega⟩
 ·exfalso
  obtain⟨d,rfl⟩:∃d,k=j+(d+1):=⟨k-j-1,by omega⟩
  rw[Nat.pow_add,Nat.mul_assoc]at h
  have:=Nat.eq_of_mul_eq_mul_left (Nat.pow_pos (by decide)) h
  rw[Nat.pow_succ,Nat.mul_assoc,Nat.mul_left_comm]at this
  omega
theorem AV(v k m:Nat)(h:v=2^k*(2*m+1)):tz v=k:=by
 have d:0<v:=by rw[h];exact Nat.mul_pos (Nat.pow_pos (by decide)) (by omega)
 obtain⟨m',u⟩:=iO v d
 exact(sU _ _ m' m (by rw[←u,←h])).1
theorem AW(v k:Nat)(h:0<v):tz (2^k*v)=k+tz v:=by
 obtain⟨m,d⟩:=iO v h
 exact AV _ _ m (by rw[Nat.pow_add,Nat.mul_assoc,←d])
theorem Iv(x:Nat)(d:x≠0)(h:x<4294967296):tz x=Lib.ctz 32 x:=by
 obtain⟨m,u,_⟩:=Lib.ctzFrom_spec 32 x (by omega) (by omega)
 have e:Lib.ctz 32 x=Lib.ctzFrom 32 x:=by simp[Lib.ctz,d]
 rw[e]
 exact AV _ _ m u
theorem jZ(v k:Nat)(u:0<v)(h:v<2^k):tz v<k:=by
 obtain⟨m,D⟩:=iO v u
 apply Nat.lt_of_not_le
 intro d
 have z:2^k≤2^tz v:=Nat.pow_le_pow_right (by decide) d
 have A:2^tz v≤2^tz v*(2*m+1):=Nat.le_mul_of_pos_right _ (by omega)
 omega
theorem AX(L:List Nat)(k x:Nat)(h:ai (L.take k)=0)(u:L[k]?.getD 0=x)(G:x≠0)(z:x<4294967296):ai L≠0∧tz (ai L)=32*k+tz x:=by
 obtain⟨m,F⟩:=iO x (by omega)
 have e:ai L=4294967296^k*(x+4294967296*ai (L.drop (k+1))):=by
  rw[ii L (k+1),aL,h,u,Nat.zero_add,Nat.pow_succ,Nat.mul_add,Nat.mul_assoc]
 have H:tz x<32:=jZ x 32 (by omega) (by omega)
 have A:x+4294967296*ai (L.drop (k+1))=2^tz x*(2*(m+2^(31-tz x)*ai (L.drop (k+1)))+1):=by
  have D:4294967296=2^tz x*(2*2^(31-tz x)):=by
   rw[←Nat.pow_succ',←Nat.pow_add,show tz x+(31-tz x).succ=32 by omega]
  rw[Nat.mul_add 2,Nat.add_right_comm,Nat.mul_add (2^tz x),←F,←Nat.mul_assoc 2,←Nat.mul_assoc,←D]
 have d:ai L=2^(32*k+tz x)*(2*(m+2^(31-tz x)*ai (L.drop (k+1)))+1):=by
  rw[e,A,←Nat.mul_assoc,kf]
 refine⟨?_,AV _ _ _ d⟩
 have:0<ai L:=by rw[d];exact Nat.mul_pos (Nat.pow_pos (by decide)) (by omega)
 omega
def oM(z:Int):Int:=z/2^tz z.natAbs
def oE(z e:Int):Int:=if z=0 then 0 else e+tz z.natAbs
def ik(z m:Int)(k:Nat):Prop:=z=m*2^k∧m%2=1
theorem ik.unique{z m m':Int}{k k':Nat}(h:ik z m k)(A:ik z m' k'):m=m'∧k=k':=by
 obtain⟨d,H⟩:=h
 obtain⟨u,I⟩:=A
 have D:z.natAbs=2^k*(2*(m.natAbs/2)+1):=by
  rw[d,Int.natAbs_mul,Int.natAbs_pow,Nat.mul_comm,show(2:Int).natAbs=2 from rfl,show 2*(m.natAbs/2)+1=m.natAbs by omega]
 have F:z.natAbs=2^k'*(2*(m'.natAbs/2)+1):=by
  rw[u,Int.natAbs_mul,Int.natAbs_pow,Nat.mul_comm,show(2:Int).natAbs=2 from rfl,show 2*(m'.natAbs/2)+1=m'.natAbs by omega]
 obtain⟨rfl,_⟩:=sU _ _ _ _ (D.symm.trans F)
 have G:(2:Int)^k≠0:=Int.pow_ne_zero (by decide)
 exact⟨Int.eq_of_mul_eq_mul_right G (d.symm.trans u),rfl⟩
theorem eQ(z:Int)(h:z≠0):ik z (oM z) (tz z.natAbs):=by
 obtain⟨m,F⟩:=iO z.natAbs (by omega)
 unfold oM
 generalize tz z.natAbs=k at*
 have D:(2:Int)^k≠0:=Int.pow_ne_zero (by decide)
 have d:z=2^k*(2*(m:Int)+1)∨z=2^k*(2*(-(m:Int)-1)+1):=by
  have e:(z.natAbs:Int)=2^k*(2*(m:Int)+1):=by rw[F];push_cast;rfl
  rcases Int.natAbs_eq z with A|A
  ·left;rw[A,e]
  ·right;rw[A,e,←Int.mul_neg];congr 1;omega
 rcases d with d|d
 ·have u:z/2^k=2*(m:Int)+1:=by rw[d];exact Int.mul_ediv_cancel_left _ D
  rw[u]
  exact⟨by rw[Int.mul_comm];exact d,by omega⟩
 ·have u:z/2^k=2*(-(m:Int)-1)+1:=by rw[d];exact Int.mul_ediv_cancel_left _ D
  rw[u]
  exact⟨by rw[Int.mul_comm];exact d,by omega⟩
theorem ik.eq{z m:Int}{k:Nat}(h:ik z m k):z≠0∧m=oM z∧k=tz z.natAbs:=by
 have d:z≠0:=by
  rw[h.1]
  intro e
  rcases Int.mul_eq_zero.1 e with e|e
  ·have:=h.2;rw[e]at this;simp at this
  ·exact Int.pow_ne_zero (by decide) e
 obtain⟨a,b⟩:=h.unique (eQ z d)
 exact⟨d,a,b⟩
def bl(v:Nat):Nat:=if v=0 then 0 else Nat.log2 v+1
theorem bG(v:Nat)(h:v≠0):1≤bl v∧2^(bl v-1)≤v∧v<2^bl v:=by
 unfold bl
 rw[if_neg h]
 exact⟨by omega,by simpa using Nat.log2_self_le h,Nat.lt_log2_self⟩
theorem cK{a b:Nat}(h:(2:Nat)^a<2^b):a<b:=(Nat.pow_lt_pow_iff_right (by decide)).1 h
theorem gV{a b:Nat}(h:a≤b):(2:Nat)^a≤2^b:=Nat.pow_le_pow_right (by decide) h
theorem mL{v n:Nat}(A:1≤n)(d:2^(n-1)≤v)(h:v<2^n):bl v=n:=by
 have D:0<2^(n-1):=Nat.two_pow_pos _
 obtain⟨H,u,z⟩:=bG v (by omega)
 have F:=cK (Nat.lt_of_le_of_lt u h)
 have G:=cK (Nat.lt_of_le_of_lt d z)
 omega
theorem kG(v k:Nat)(h:v≠0):bl (v*2^k)=bl v+k:=by
 obtain⟨A,u,z⟩:=bG v h
 have d:0<2^k:=Nat.two_pow_pos _
 refine mL (by omega) ?_ ?_
 ·rw[show bl v+k-1=(bl v-1)+k by omega,Nat.pow_add]
  exact Nat.mul_le_mul_right _ u
 ·rw[Nat.pow_add]
  exact Nat.mul_lt_mul_of_pos_right z d
theorem EW{v u:Nat}(h:v≤u):bl v≤bl u:=by
 by_cases d:v=0
 ·subst d;simp[bl]
 ·obtain⟨D,z,_⟩:=bG v d
  obtain⟨_,_,A⟩:=bG u (by omega)
  have:=cK (Nat.lt_of_le_of_lt (Nat.le_trans z h) A)
  omega
def dw(v k:Nat):Nat:=v/2^k+(if 2^k<2*(v%2^k)∨(2^k=2*(v%2^k)∧v/2^k%2=1)then 1 else 0)
theorem xD(v k:Nat):v/2^k≤dw v k∧dw v k≤v/2^k+1:=by
 unfold dw;split<;>omega
theorem mc{v u:Nat}(k:Nat)(h:v≤u):dw v k≤dw u k:=by
 have A:v/2^k≤u/2^k:=Nat.div_le_div_right h
 by_cases d:v/2^k=u/2^k
 ·have z:=Nat.div_add_mod v (2^k)
  have D:=Nat.div_add_mod u (2^k)
  rw[d]at z
  have F:v%2^k≤u%2^k:=by omega
  unfold dw
  rw[d]
  generalize v%2^k=r at*
  generalize u%2^k=s at*
  generalize u/2^k=q at*
  generalize 2^k=p at*
  split<;>split<;>omega
 ·have:=(xD v k).2
  have:=(xD u k).1
  omega
theorem kg(a k:Nat):dw (a*2^k) k=a:=by
 have d:0<2^k:=Nat.two_pow_pos _
 unfold dw
 rw[Nat.mul_mod_left,Nat.mul_div_cancel _ d,if_neg (by omega)]
 omega
theorem EX{a v k:Nat}(h:a*2^k≤v):a≤dw v k:=by
 have:=mc k h;rwa[kg]at this
theorem me{a v k:Nat}(h:v≤a*2^k):dw v k≤a:=by
 have:=mc k h;rwa[kg]at this
theorem vA(v i k:Nat):dw (v*2^i) (k+i)=dw v k:=by
 have d:0<2^i:=Nat.two_pow_pos _
 have h:v*2^i/2^(k+i)=v/2^k:=by
  rw[Nat.pow_add,Nat.mul_div_mul_right _ _ d]
 have u:v*2^i%2^(k+i)=v%2^k*2^i:=by
  rw[Nat.pow_add,Nat.mul_mod_mul_right]
 unfold dw
 rw[h,u,Nat.pow_add,←Nat.mul_assoc]
 have z:(2^k*2^i<2*(v%2^k)*2^i)↔2^k<2*(v%2^k):=Nat.mul_lt_mul_right d
 have A:(2^k*2^i=2*(v%2^k)*2^i)↔2^k=2*(v%2^k):=Nat.mul_left_inj (by omega)
 simp only[z,A]
theorem yW(v k:Nat):2*(dw v k*2^k)≤2*v+2^k∧2*v≤2*(dw v k*2^k)+2^k:=by
 have h:=Nat.div_add_mod v (2^k)
 have u:=Nat.mod_lt v (Nat.two_pow_pos k)
 unfold dw
 split
 ·rename_i d
  rw[Nat.add_mul,Nat.one_mul,Nat.mul_comm (v/2^k)]
  generalize 2^k*(v/2^k)=x at*
  generalize v/2^k%2=z at*
  generalize v%2^k=r at*
  generalize 2^k=p at*
  omega
 ·rename_i d
  rw[Nat.add_zero,Nat.mul_comm (v/2^k)]
  generalize 2^k*(v/2^k)=x at*
  generalize v/2^k%2=z at*
  generalize v%2^k=r at*
  generalize 2^k=p at*
  omega
def mS(v:Nat)(j:Int):Nat:=if 0≤j then v*2^j.toNat else dw v (-j).toNat
theorem kH(v k:Nat):mS v (k:Int)=v*2^k:=by unfold mS;rw[if_pos (by omega)];simp
theorem dl(v k:Nat)(h:1≤k):mS v (-(k:Int))=dw v k:=by unfold mS;rw[if_neg (by omega)];simp
theorem EY{v u:Nat}(j:Int)(h:v≤u):mS v j≤mS u j:=by
 unfold mS
 split
 ·exact Nat.mul_le_mul_right _ h
 ·exact mc _ h
theorem AY(v i:Nat)(j:Int):mS (v*2^i) j=mS v (j+i):=by
 rcases Int.eq_ofNat_of_zero_le (a:=if 0≤j then j else-j) (by split<;>omega)with⟨k,hk⟩
 by_cases h:0≤j
 ·rw[if_pos h]at hk
  subst hk
  rw[kH,show((k:Int)+(i:Int))=((i+k:Nat):Int) by omega,kH,Nat.pow_add,Nat.mul_assoc]
 ·rw[if_neg h]at hk
  obtain rfl:j= -(k:Int):=by omega
  rw[dl _ _ (by omega)]
  by_cases u:k≤i
  ·obtain⟨d,rfl⟩:=Nat.exists_eq_add_of_le u
   rw[show(-(k:Int)+((k+d:Nat):Int))=(d:Int) by omega,kH,Nat.add_comm k d,Nat.pow_add,←Nat.mul_assoc,kg]
  ·obtain⟨d,rfl⟩:=Nat.exists_eq_add_of_le (show i≤k by omega)
   rw[show(-((i+d:Nat):Int)+(i:Int))= -(d:Int) by omega,dl _ _ (by omega),Nat.add_comm i d,vA]
def pN(v:Nat)(j:Int):Nat:=if 0≤j+1 then v*2^(j+1).toNat else v/2^(-(j+1)).toNat
def Kr(v:Nat)(j:Int):Bool:=decide (pN v j%2=1)&&(!decide (j= -1)||decide (pN v j/2%2=1))
def pM(v:Nat)(j:Int):Nat:=(pN v j+(Kr v j).toNat)/2
theorem KD(v:Nat)(j:Int)(h:v%2=1):pM v j=mS v j:=by
 by_cases A:0≤j
 ·obtain⟨k,rfl⟩:=Int.eq_ofNat_of_zero_le A
  have u:pN v k=v*2^k*2:=by
   unfold pN
   rw[if_pos (by omega),show((k:Int)+1).toNat=k+1 by omega,Nat.pow_succ,Nat.mul_assoc]
  have D:Kr v k=false:=by
   unfold Kr
   rw[u,decide_eq_false (by omega)];rfl
  rw[kH]
  unfold pM
  rw[D,u]
  simp
 ·obtain⟨k,N⟩:=Int.eq_ofNat_of_zero_le (show 0≤-j by omega)
  obtain rfl:j= -(k:Int):=by omega
  obtain⟨i,rfl⟩:∃i,k=i+1:=⟨k-1,by omega⟩
  rw[dl _ _ (by omega)]
  have u:pN v (-((i+1:Nat):Int))=v/2^i:=by
   unfold pN
   by_cases d:i=0
   ·subst d;simp
   ·rw[if_neg (by omega),show(-(-((i+1:Nat):Int)+1)).toNat=i by omega]
  have F:decide (-((i+1:Nat):Int)= -1)=decide (i=0):=by
   by_cases d:i=0
   ·subst d;simp
   ·rw[decide_eq_false d,decide_eq_false (by omega)]
  have G:v/2^(i+1)=v/2^i/2:=by rw[Nat.pow_succ,Nat.div_div_eq_div_mul]
  have H:v%2^(i+1)=v%2^i+2^i*(v/2^i%2):=by rw[Nat.pow_succ,Nat.mod_mul]
  have I:i≠0→0<v%2^i:=by
   intro d
   have:v%2^i%2=v%2:=Nat.mod_mod_of_dvd _ (by obtain⟨m,rfl⟩:∃m,i=m+1:=⟨i-1,by omega⟩;rw[Nat.pow_succ];exact Nat.dvd_mul_left _ _)
   omega
  have L:=Nat.mod_lt v (Nat.two_pow_pos i)
  unfold pM Kr dw
  rw[u,F,G,H,Nat.pow_succ]
  by_cases d:i=0
  ·subst d
   simp only[Nat.pow_zero,Nat.div_one,Nat.mod_one,Nat.zero_add,Nat.one_mul,h]
   by_cases z:v/2%2=1
   ·simp[z]<;>omega
   ·simp[z]<;>omega
  ·have J:=I d
   simp only[decide_eq_false d,Bool.not_false,Bool.true_or,Bool.and_true]
   generalize v/2^i=n at*
   generalize v%2^i=s at*
   generalize 2^i=p at*
   by_cases z:n%2=1
   ·rw[z,if_pos (by left;omega)]
    simp;omega
   ·have K:n%2=0:=by omega
    rw[K,if_neg (by omega)]
    simp
def aD(v:Nat)(E:Int):Int:=max ((bl v:Int)+E-53) (-1074)
def d8(v:Nat)(E:Int):Nat:=mS v (E-aD v E)
def cd(v:Nat)(E:Int):Nat:=if v=0 then 0 else if 1024<(bl v:Int)+E then 9218868437227405312 else d8 v E+(aD v E+1074).toNat*4503599627370496
def bI(v:Nat)(E:Int):Int:=if v=0 then 0 else if 1024<(bl v:Int)+E then 5 else if aD v E≤E then 0 else if cd v E=9218868437227405312 then 5 else if cd v E<4503599627370496 then 3 else 1
theorem cC(v:Nat)(E:Int):-1074≤aD v E∧(bl v:Int)+E-53≤aD v E∧(aD v E= -1074∨aD v E=(bl v:Int)+E-53):=by
 unfold aD;omega
theorem AZ:(2:Nat)^53=9007199254740992:=by decide
theorem Hq:(2:Nat)^52=4503599627370496:=by decide
theorem cT(v:Nat)(E:Int)(h:v≠0):d8 v E≤9007199254740992∧(-1074<aD v E→4503599627370496≤d8 v E)∧(aD v E≤E→d8 v E<9007199254740992):=by
 obtain⟨J,K,L⟩:=cC v E
 obtain⟨N,D,F⟩:=bG v h
 unfold d8
 generalize aD v E=l at*
 rcases Int.le_total l E with G|G
 ·obtain⟨k,H⟩:=Int.eq_ofNat_of_zero_le (show 0≤E-l by omega)
  rw[H,kH]
  have I:0<2^k:=Nat.two_pow_pos _
  have u:v*2^k<2^53:=by
   have d:v*2^k<2^bl v*2^k:=Nat.mul_lt_mul_of_pos_right F I
   rw[←Nat.pow_add]at d
   exact Nat.lt_of_lt_of_le d (gV (by omega))
  rw[AZ]at u
  refine⟨by omega,fun z=>?_,fun _=>u⟩
  have d:2^(bl v-1)*2^k≤v*2^k:=Nat.mul_le_mul_right _ D
  rw[←Nat.pow_add,show bl v-1+k=52 by omega,Hq]at d
  exact d
 ·obtain⟨k,H⟩:=Int.eq_ofNat_of_zero_le (show 0≤l-E by omega)
  by_cases A:k=0
  ·subst A
   rw[show E-l=((0:Nat):Int) by omega,kH]
   have u:v<2^53:=Nat.lt_of_lt_of_le F (gV (by omega))
   rw[AZ]at u
   refine⟨by omega,fun z=>?_,fun _=>by omega⟩
   rw[show bl v-1=52 by omega,Hq]at D
   omega
  ·rw[show E-l= -(k:Int) by omega,dl _ _ (by omega)]
   refine⟨?_,fun z=>?_,fun z=>by omega⟩
   ·rw[←AZ]
    refine me ?_
    rw[←Nat.pow_add]
    exact Nat.le_trans (Nat.le_of_lt F) (gV (by omega))
   ·rw[←Hq]
    refine EX ?_
    rw[←Nat.pow_add,show 52+k=bl v-1 by omega]
    exact D
theorem dn(v:Nat)(E:Int)(h:v≠0)(d:(bl v:Int)+E≤1024):cd v E=d8 v E+(aD v E+1074).toNat*4503599627370496:=by
 unfold cd;rw[if_neg h,if_neg (by omega)]
theorem dU(v:Nat)(E:Int):cd v E≤9218868437227405312:=by
 by_cases h:v=0
 ·subst h;simp[cd]
 ·by_cases d:1024<(bl v:Int)+E
  ·unfold cd;rw[if_neg h,if_pos d];exact Nat.le_refl _
  ·rw[dn v E h (by omega)]
   obtain⟨u,z,A⟩:=cC v E
   have:=(cT v E h).1
   omega
theorem mf(v i:Nat)(E:Int):cd (v*2^i) E=cd v (E+i):=by
 by_cases h:v=0
 ·subst h;simp[cd]
 ·have A:0<2^i:=Nat.two_pow_pos _
  have u:v*2^i≠0:=Nat.mul_ne_zero h (by omega)
  have d:=kG v i h
  have z:aD (v*2^i) E=aD v (E+i):=by unfold aD;rw[d];congr 1;omega
  unfold cd d8
  rw[if_neg h,if_neg u,z,d,AY,show E-aD v (E+i)+i=E+i-aD v (E+i) by omega,show((bl v+i:Nat):Int)+E=(bl v:Int)+(E+i) by omega]
theorem kI{v u:Nat}(E:Int)(h:v≤u):cd v E≤cd u E:=by
 by_cases d:v=0
 ·subst d;simp[cd]
 ·have F:=EW h
  by_cases A:1024<(bl u:Int)+E
  ·have:cd u E=9218868437227405312:=by unfold cd;rw[if_neg (by omega),if_pos A]
   rw[this];exact dU v E
  ·rw[dn v E d (by omega),dn u E (by omega) (by omega)]
   obtain⟨G,H,I⟩:=cC v E
   obtain⟨J,k2,K⟩:=cC u E
   by_cases z:aD v E=aD u E
   ·have:d8 v E≤d8 u E:=by unfold d8;rw[z];exact EY _ h
    rw[z];omega
   ·have D:aD v E<aD u E:=by omega
    have:=(cT v E d).1
    have:=(cT u E (by omega)).2.1 (by omega)
    omega
def rv(r:Nat):Nat:=if r<4503599627370496 then r else(4503599627370496+r%4503599627370496)*2^(r/4503599627370496-1)
theorem nP(m k:Nat)(z:m≤9007199254740992)(d:k≠0→4503599627370496≤m):rv (m+k*4503599627370496)=m*2^k:=by
 unfold rv
 by_cases h:m+k*4503599627370496<4503599627370496
 ·rw[if_pos h]
  obtain rfl:k=0:=by omega
  simp
 ·rw[if_neg h]
  by_cases A:m<9007199254740992
  ·have D:4503599627370496≤m:=by
    by_cases u:k=0
    ·omega
    ·exact d u
   rw[show(m+k*4503599627370496)/4503599627370496=k+1 by omega,show(m+k*4503599627370496)%4503599627370496=m-4503599627370496 by omega,show 4503599627370496+(m-4503599627370496)=m by omega]
   rfl
  ·obtain rfl:m=9007199254740992:=by omega
   rw[show(9007199254740992+k*4503599627370496)/4503599627370496=k+2 by omega,show(9007199254740992+k*4503599627370496)%4503599627370496=0 by omega,show k+2-1=k+1 by omega,Nat.pow_succ]
   omega
theorem qW(r:Nat):rv r<rv (r+1):=by
 by_cases h:r<4503599627370496
 ·have d:=nP r 0 (by omega) (by simp)
  have u:=nP (r+1) 0 (by omega) (by simp)
  simp at d u
  rw[d,u];omega
 ·obtain⟨k,D⟩:∃k,r/4503599627370496=k+1:=⟨r/4503599627370496-1,by omega⟩
  have z:r=(4503599627370496+r%4503599627370496)+k*4503599627370496:=by omega
  generalize F:4503599627370496+r%4503599627370496=m at*
  have A:m<9007199254740992:=by omega
  have d:=nP m k (by omega) (fun _=>by omega)
  have u:=nP (m+1) k (by omega) (fun _=>by omega)
  rw[←z]at d
  rw[show m+1+k*4503599627370496=r+1 by omega]at u
  rw[d,u]
  exact Nat.mul_lt_mul_of_pos_right (by omega) (Nat.two_pow_pos _)
theorem iP{r s:Nat}(h:r≤s):rv r≤rv s:=by
 obtain⟨d,rfl⟩:=Nat.exists_eq_add_of_le h
 induction d with
 |zero=>exact Nat.le_refl _
 |succ d ih=>exact Nat.le_trans (ih (by omega)) (Nat.le_of_lt (qW (r+d)))
theorem dK:rv 0=0:=by decide
open Go.RowKit
def fS(b:Nat):Bool:=decide (9223372036854775808≤b)
def fP(b:Nat):Nat:=b%9223372036854775808/4503599627370496
def fF(b:Nat):Nat:=b%4503599627370496
def fN(b:Nat):Nat:=if 9223372036854775808≤b then b-9223372036854775808 else b+9223372036854775808
def fK(b:Nat):Int:=if fP b=2047 then(if fF b=0 then 3 else 4)else if fP b=0 then(if fF b=0 then 0 else 1)else 2
theorem EZ(b:Nat)(h:b<18446744073709551616):bits .and .u64 (b:Int) 9223372036854775808=if fS b then 9223372036854775808 else 0:=by
 have z:=bits_and_u64_nat b 9223372036854775808 h (by decide)
 refine z.trans ?_
 have A:(b&&& 2^63)%2^63=0:=by rw[Nat.and_mod_two_pow];simp
 have D:(b&&& 2^63)/2^63=(b/2^63)&&& 1:=by rw[Nat.and_div_two_pow]
 rw[show(9223372036854775808:Nat)=2^63 by decide]
 have d:=Nat.div_add_mod (b&&& 2^63) (2^63)
 rw[A,D]at d
 unfold fS
 by_cases u:9223372036854775808≤b
 ·rw[decide_eq_true u,if_pos rfl]
  rw[show b/2^63=1 by omega]at d
  simp only[Nat.and_self]at d
  omega
 ·rw[decide_eq_false u,if_neg (by simp)]
  rw[show b/2^63=0 by omega]at d
  simp only[Nat.zero_and]at d
  omega
theorem E5(b:Nat)(h:b<18446744073709551616):bits .and .u64 (b:Int) 4503599627370495=(fF b:Int):=by
 have d:=bits_and_u64_nat b 4503599627370495 h (by decide)
 refine d.trans ?_
 have u:b&&& 2^52-1=b%2^52:=Nat.and_two_pow_sub_one_eq_mod b 52
 rw[show(4503599627370495:Nat)=2^52-1 by decide,u]
 rfl
theorem E6(b:Nat)(h:b<18446744073709551616):bits .and .u64 ((b:Int)/4503599627370496) 2047=(fP b:Int):=by
 have d:=bits_and_u64_nat (b/4503599627370496) 2047 (by omega) (by decide)
 refine d.trans ?_
 have u:(b/4503599627370496)&&& 2^11-1=(b/4503599627370496)%2^11:=Nat.and_two_pow_sub_one_eq_mod _ 11
 rw[show(2047:Nat)=2^11-1 by decide,u]
 unfold fP
 omega
theorem E7(b:Nat)(h:b<18446744073709551616):bits .xor .u64 (b:Int) 9223372036854775808=(fN b:Int):=by
 have z:=bits_xor_u64_nat b 9223372036854775808 h (by decide)
 refine z.trans ?_
 have A:(b ^^^ 2^63)%2^63=b%2^63:=by rw[Nat.xor_mod_two_pow];simp
 have D:(b ^^^ 2^63)/2^63=(b/2^63) ^^^ 1:=by rw[Nat.xor_div_two_pow]
 rw[show(9223372036854775808:Nat)=2^63 by decide]
 unfold fN
 have d:=Nat.div_add_mod (b ^^^ 2^63) (2^63)
 rw[A,D]at d
 by_cases u:9223372036854775808≤b
 ·rw[if_pos u]
  rw[show b/2^63=1 by omega]at d
  simp only[Nat.xor_self]at d
  omega
 ·rw[if_neg u]
  rw[show b/2^63=0 by omega]at d
  simp only[Nat.zero_xor]at d
  omega
theorem qj(b:Nat):fP b<2048:=by unfold fP;omega
theorem sX(b:Nat):fF b<4503599627370496:=by unfold fF;omega
theorem nQ(b:Nat)(h:b<18446744073709551616):fN b<18446744073709551616:=by unfold fN;split<;>omega
def cs(w:World)(b:Nat)(x y z:Value):Prop:=w.heap[b]? =some (.cells #[x,y,z] 183 (0,0))
theorem cs.c0{w:World}{b:Nat}{x y z:Value}(h:cs w b x y z):w.cell? ⟨b,0,none⟩=some x:=by rw[cell_of_row w b 0 _ _ _ h];rfl
theorem cs.c1{w:World}{b:Nat}{x y z:Value}(h:cs w b x y z):w.cell? ⟨b,1,none⟩=some y:=by rw[cell_of_row w b 1 _ _ _ h];rfl
theorem cs.c2{w:World}{b:Nat}{x y z:Value}(h:cs w b x y z):w.cell? ⟨b,2,none⟩=some z:=by rw[cell_of_row w b 2 _ _ _ h];rfl
theorem cs.lt{w:World}{b:Nat}{x y z:Value}(h:cs w b x y z):b<w.heap.size:=(Array.getElem?_eq_some_iff.1 h).1
theorem cs.below{w u:World}{b:Nat}{x y z:Value}(h:cs w b x y z){B:Nat}(A:Below B w u)(d:b<B):cs u b x y z:=(A.block b d).trans h
theorem cs.new(w:World)(x y z:Value):cs (w.alloc (.cells #[x,y,z] 183)) w.heap.size x y z:=heap_alloc_new w _
theorem cs.all{w d:World}{b:Nat}{x y z:Value}(h:cs w b x y z)(u:Below w.heap.size w d):cs d b x y z:=h.below u h.lt
def fV(b:Nat):Value:=.agg #[.bool (fS b),.int .u64 (fP b),.int .u64 (fF b)]
theorem fG(b:Nat)(w:World)(h:b<18446744073709551616):
  Calls Tryz.prog 200 #[.int .u64 b] w fun e z=>e=.returned (fV b)∧Below w.heap.size w z:=by
 have d:=EZ b h
 have k2:=E5 b h
 have u:=E6 b h
 unfold fV
 generalize fF b=f at*
 generalize fP b=p at*
 generalize fS b=s at*
 have D:(0:Int)≤b:=by omega
 have A:(b:Int)<18446744073709551616:=by omega
 clear h
 cases s
 ·simp only[Bool.false_eq_true,if_false]at d
  go_enter Tryz.func200,Tryz.ntmps200
  go_wp2_with(simp only[d,k2,u])
  refine bodyPost_ret (v:=.agg #[.bool false,.int .u64 p,.int .u64 f]) (by simp[results,Tryz.results200,go_sem]) rfl ⟨rfl,(Below.refl _ _).alloc (Nat.le_refl _) _⟩
 ·simp only[if_true]at d
  go_enter Tryz.func200,Tryz.ntmps200
  go_wp2_with(simp only[d,k2,u])
  refine bodyPost_ret (v:=.agg #[.bool true,.int .u64 p,.int .u64 f]) (by simp[results,Tryz.results200,go_sem]) rfl ⟨rfl,(Below.refl _ _).alloc (Nat.le_refl _) _⟩
theorem fH(b:Nat)(w:World)(h:b<18446744073709551616):
  Calls Tryz.prog 162 #[.int .u64 b] w fun e d=>e=.returned (.int .u64 (fN b))∧w=d:=by
 have u:=E7 b h
 generalize fN b=f at*
 clear h
 go_enter Tryz.func162,Tryz.ntmps162
 go_wp2_with(simp only[u])
 go_ret
 exact⟨rfl,rfl⟩
theorem vB(s:Bool)(p f:Int)(W:World):(Instr.field 183 (.agg #[.bool s,.int .u64 p,.int .u64 f]) 0).run Tryz.prog W=.ok (.bool s) W:=by kernel_rfl
theorem eC(b:Nat)(w:World)(h:b<18446744073709551616):
  Calls Tryz.prog 161 #[.int .u64 b] w fun e d=>e=.returned (.bool (fS b))∧Below w.heap.size w d:=by
 have z:=ac (fun d=>fG b d h)
 unfold fV at z
 generalize fF b=f at*
 generalize fP b=p at*
 generalize fS b=s at*
 have A:=fun W=>vB s p f W
 clear h
 go_enter Tryz.func161,Tryz.ntmps161
 go_wp2_with(go_at_call 200;refine(uH z _).mono ?_;rintro r D ⟨rfl,u⟩)
 go_ret
 exact⟨rfl,u⟩
theorem jF(b:Nat)(w:World)(h:b<18446744073709551616):
  Calls Tryz.prog 115 #[.int .u64 b] w fun e z=>e=.returned (.bool (fS b))∧w=z:=by
 unfold fS
 by_cases d:9223372036854775808≤b
 ·rw[decide_eq_true d]
  have u:(b:Int)/9223372036854775808=1:=by omega
  clear d h
  go_enter Tryz.func115,Tryz.ntmps115
  go_wp2_with(simp only[u])
  go_ret
  exact⟨rfl,rfl⟩
 ·rw[decide_eq_false d]
  have u:(b:Int)/9223372036854775808=0:=by omega
  clear d h
  go_enter Tryz.func115,Tryz.ntmps115
  go_wp2_with(simp only[u])
  go_ret
  exact⟨rfl,rfl⟩
theorem ki(b:Nat)(w:World)(_h:b<18446744073709551616):
  Calls Tryz.prog 114 #[.int .u64 b] w fun e d=>e=.returned (.int .i64 (fP b))∧w=d:=by
 have h:(b:Int)%9223372036854775808/4503599627370496=(fP b:Int):=by unfold fP;omega
 have u:=qj b
 generalize fP b=p at*
 go_enter Tryz.func114,Tryz.ntmps114
 go_wp2_with(simp only[h])
 go_ret
 exact⟨rfl,rfl⟩
theorem qk(b:Nat)(w:World)(_h:b<18446744073709551616):
  Calls Tryz.prog 113 #[.int .u64 b] w fun e d=>e=.returned (.int .u64 (fF b))∧w=d:=by
 have h:(b:Int)%4503599627370496=(fF b:Int):=by unfold fF;omega
 have u:=sX b
 generalize fF b=p at*
 go_enter Tryz.func113,Tryz.ntmps113
 go_wp2_with(simp only[h])
 go_ret
 exact⟨rfl,rfl⟩
end Go.Proofs.YtcbcmlaogehimaaGreatDoor
