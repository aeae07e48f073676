/- Part 2 of the texts. -/
import Derived.Test.YtdhmglmccafbnaaGreatDoorPartw01
import Derived.Lib.TrailingZeros
set_option maxHeartbeats 1000000
namespace Go.Proofs.YtdhmglmccafbnaaGreatDoor
theorem rA(S:List Nat)(x:Nat):ai (S++[x])=ai S+4294967296^S.length*x:=by rw[jw];simp[ai]
theorem aX.snoc{S:List Nat}(h:aX S){x:Nat}(l:x<4294967296):aX (S++[x]):=fun y f=>by
 rcases List.mem_append.1 f with d|d
 ·exact h y d
 ·simp at d;omega
theorem wD(A B S:List Nat)(c x y:Nat)(d:A[S.length]?.getD 0=x)(f:B[S.length]?.getD 0=y)(h:ai S+4294967296^S.length*c=ai (A.take S.length)+ai (B.take S.length)):
  ai (S++[(x+y+c)%4294967296])+4294967296^(S.length+1)*((x+y+c)/4294967296)=ai (A.take (S.length+1))+ai (B.take (S.length+1)):=by
 rw[rA,aD A,aD B,d,f]
 have e:=jT (4294967296^S.length) 4294967296 (x+y+c)
 rw[Nat.pow_succ]
 rw[Nat.mul_add,Nat.mul_add]at e
 omega
theorem tZ(A B S:List Nat)(c x y t d:Nat)(f:A[S.length]?.getD 0=x)(l:B[S.length]?.getD 0=y)(u:t+y+c=x+4294967296*d)(h:ai S+ai (B.take S.length)=ai (A.take S.length)+4294967296^S.length*c):
  ai (S++[t])+ai (B.take (S.length+1))=ai (A.take (S.length+1))+4294967296^(S.length+1)*d:=by
 rw[rA,aD A,aD B,f,l,Nat.pow_succ]
 have e:4294967296^S.length*(t+y+c)=4294967296^S.length*(x+4294967296*d):=by rw[u]
 rw[Nat.mul_add,Nat.mul_add,Nat.mul_add,←Nat.mul_assoc]at e
 omega
theorem jU:∀(S:List Nat) (j t:Nat),j<S.length→ai (S.set j t)+4294967296^j*(S[j]?.getD 0)=ai S+4294967296^j*t
 | [],_,_,h=>by simp at h
 |x::r,0,t,_=>by simp[ai];omega
 |x::r,j+1,t,h=>by
  have l:=jU r j t (by simpa using h)
  simp only[List.set_cons_succ,ai,List.getElem?_cons_succ,Nat.pow_succ]
  have d:4294967296^j*4294967296*(r[j]?.getD 0)=4294967296*(4294967296^j*(r[j]?.getD 0)):=by rw[Nat.mul_comm (4294967296^j),Nat.mul_assoc]
  have f:4294967296^j*4294967296*t=4294967296*(4294967296^j*t):=by rw[Nat.mul_comm (4294967296^j),Nat.mul_assoc]
  rw[d,f]
  omega
theorem eQ(S:List Nat)(j k t:Nat)(h:k≠j):(S.set j t)[k]?.getD 0=S[k]?.getD 0:=by
 rw[List.getElem?_set_ne (by omega)]
theorem yJ(x y:Nat)(d:x<4294967296)(f:y<4294967296):x*y≤18446744065119617025:=by
 have:=Nat.mul_le_mul (show x≤4294967295 by omega) (show y≤4294967295 by omega)
 simpa using this
theorem Cl(x y:Nat)(d:x<4294967296)(f:y<4294967296):(x:Int)*(y:Int)≤18446744065119617025∧(0:Int)≤(x:Int)*(y:Int):=by
 have h:=yJ x y d f
 have e:((x*y:Nat):Int)=(x:Int)*(y:Int):=Int.natCast_mul x y
 rw[←e]
 omega
theorem wE(x y z q:Nat):(((y+(x*z+q))%4294967296:Nat):Int)=((y:Int)+((x:Int)*(z:Int)+(q:Int)))%4294967296∧(((y+(x*z+q))/4294967296:Nat):Int)=((y:Int)+((x:Int)*(z:Int)+(q:Int)))/4294967296:=by
 have e:((x*z:Nat):Int)=(x:Int)*(z:Int):=Int.natCast_mul x z
 rw[←e]
 omega
theorem yK(B Q:List Nat)(V x i k c y q:Nat)(d:i+k<Q.length)(f:B[k]?.getD 0=y)(l:Q[i+k]?.getD 0=q)(h:ai Q+4294967296^(i+k)*c=V+4294967296^i*x*ai (B.take k)):
  ai (Q.set (i+k) ((c+(x*y+q))%4294967296))+4294967296^(i+(k+1))*((c+(x*y+q))/4294967296)=V+4294967296^i*x*ai (B.take (k+1)):=by
 have u:=jU Q (i+k) ((c+(x*y+q))%4294967296) d
 rw[l]at u
 have e:=jT (4294967296^(i+k)) 4294967296 (c+(x*y+q))
 rw[show 4294967296^(i+(k+1))=4294967296^(i+k)*4294967296 by rw[←Nat.add_assoc,Nat.pow_succ],aD B k,f]
 have z:4294967296^i*x*(ai (B.take k)+4294967296^k*y)=4294967296^i*x*ai (B.take k)+4294967296^(i+k)*(x*y):=by
  rw[Nat.mul_add,Nat.pow_add]
  congr 1
  rw[Nat.mul_assoc,Nat.mul_assoc,←Nat.mul_assoc x,Nat.mul_comm x,Nat.mul_assoc]
 rw[z]
 have D:4294967296^(i+k)*(c+(x*y+q))=4294967296^(i+k)*c+4294967296^(i+k)*(x*y)+4294967296^(i+k)*q:=by rw[Nat.mul_add,Nat.mul_add];omega
 omega
theorem Cm(A B Q:List Nat)(x i c:Nat)(d:i+B.length<Q.length)(f:A[i]?.getD 0=x)(l:Q[i+B.length]?.getD 0=0)(h:ai Q+4294967296^(i+B.length)*c=ai (A.take i)*ai B+4294967296^i*x*ai (B.take B.length)):
  ai (Q.set (i+B.length) c)=ai (A.take (i+1))*ai B:=by
 have u:=jU Q (i+B.length) c d
 rw[l,Nat.mul_zero]at u
 rw[List.take_length]at h
 rw[aD A i,f,Nat.add_mul]
 omega
theorem Cn(s y p:Nat)(d:s<2^p)(f:y%2^p=0):s|||y=s+y:=by
 have h:=Nat.two_pow_add_eq_or_of_lt d (y/2^p)
 have e:2^p*(y/2^p)=y:=by have:=Nat.div_add_mod y (2^p);omega
 rw[e]at h
 rw[Nat.or_comm,←h];omega
theorem yL(x p:Nat)(d:p≤32):(x*2^p)%4294967296%2^p=0:=by
 have e:(4294967296:Nat)=2^p*2^(32-p):=by rw[←Nat.pow_add,show p+(32-p)=32 by omega]
 rw[e,Nat.mod_mul_right_mod]
 exact Nat.mul_mod_left _ _
theorem wF(x p:Nat)(d:x<4294967296)(_hp:p≤31):(x*2^p)/4294967296<2^p:=by
 rw[Nat.div_lt_iff_lt_mul (by decide),Nat.mul_comm]
 exact Nat.mul_lt_mul_of_pos_left d (Nat.pow_pos (by decide))
theorem qf(x p:Nat)(h:x<4294967296)(d:p≤31):x*2^p<9223372036854775808:=by
 have f:2^p≤2^31:=Nat.pow_le_pow_right (by decide) d
 have l:=Nat.mul_le_mul (show x≤4294967295 by omega) f
 omega
theorem Co(A S:List Nat)(i l p x s:Nat)(d:i+l+1<S.length)(u:A[i]?.getD 0=x)(z:S[i+l]?.getD 0=s)(D:S[i+l+1]?.getD 0=0)(h:ai S=4294967296^l*2^p*ai (A.take i)):
  ai ((S.set (i+l) (s+(x*2^p)%4294967296)).set (i+l+1) ((x*2^p)/4294967296))=4294967296^l*2^p*ai (A.take (i+1)):=by
 have F:=jU S (i+l) (s+(x*2^p)%4294967296) (by omega)
 have f:=jU (S.set (i+l) (s+(x*2^p)%4294967296)) (i+l+1) ((x*2^p)/4294967296) (by simpa using d)
 rw[eQ _ _ _ _ (by omega),D,Nat.mul_zero]at f
 rw[z,Nat.mul_add]at F
 have e:=jT (4294967296^(i+l)) 4294967296 (x*2^p)
 rw[Nat.pow_succ]at f
 rw[aD A i,u,Nat.mul_add]
 have G:4294967296^l*2^p*(4294967296^i*x)=4294967296^(i+l)*(x*2^p):=by
  rw[Nat.pow_add]
  rw[Nat.mul_assoc,Nat.mul_comm (4294967296^i) (4294967296^l),Nat.mul_assoc]
  congr 1
  rw[Nat.mul_comm (2^p),Nat.mul_assoc]
 rw[G]
 omega
theorem rB(L:List Nat)(h:aX L)(k:Nat):ai (L.drop k)=ai L/4294967296^k:=by
 have d:=gF L k
 have f:=gf L h k
 rw[d,Nat.add_comm,Nat.mul_comm,Nat.add_comm]
 rw[Nat.add_mul_div_right _ _ (Nat.pow_pos (by decide)),Nat.div_eq_of_lt f,Nat.zero_add]
theorem qg(D:List Nat):ai D=D[0]?.getD 0+4294967296*(D[1]?.getD 0)+4294967296*4294967296*ai (D.drop 2):=by
 match D with
 | []=>simp[ai]
 | [x]=>simp[ai]
 |x::y::r=>simp only[ai,List.getElem?_cons_zero,List.getElem?_cons_succ,Option.getD_some,List.drop_succ_cons,List.drop_zero];rw[Nat.mul_add,←Nat.mul_assoc];omega
theorem Cp(d f r p:Nat)(h:p≤31):((d+4294967296*f+4294967296*4294967296*r)/2^p)%4294967296=((d+4294967296*f)/2^p)%4294967296:=by
 have e:(4294967296*4294967296*r:Nat)=2^p*(2^(32-p)*(4294967296*r)):=by
  rw[←Nat.mul_assoc (2^p),←Nat.pow_add,show p+(32-p)=32 by omega]
  rw[Nat.mul_assoc]
 rw[e,Nat.add_mul_div_left _ _ (Nat.pow_pos (by decide)),←Nat.mul_assoc,Nat.mul_comm (2^(32-p)),Nat.mul_assoc,Nat.add_mul_mod_self_left]
theorem pp(A S:List Nat)(u:aX A)(k l p d f:Nat)(z:p≤31)(D:k<S.length)(F:A[k+l]?.getD 0=d)(G:A[k+l+1]?.getD 0=f)(h:ai (S.take k)=(ai A/(4294967296^l*2^p))%4294967296^k):
  ai ((S.set k (((d+4294967296*f)/2^p)%4294967296)).take (k+1))=(ai A/(4294967296^l*2^p))%4294967296^(k+1):=by
 rw[g6 S k _ D,h,Nat.pow_succ,Nat.mod_mul]
 congr 2
 have H:ai A/(4294967296^l*2^p)/4294967296^k=ai (A.drop (k+l))/2^p:=by
  rw[rB A u,Nat.div_div_eq_div_mul,Nat.div_div_eq_div_mul,Nat.pow_add]
  congr 1
  rw[Nat.mul_comm (4294967296^k),Nat.mul_assoc,Nat.mul_assoc,Nat.mul_comm (2^p)]
 rw[H,qg (A.drop (k+l)),List.getElem?_drop,List.getElem?_drop,Nat.add_zero,F,G,Cp _ _ _ _ z]
theorem rC(A S:List Nat)(d:aX A)(l p:Nat)(f:S.length=A.length-l)(h:ai (S.take S.length)=(ai A/(4294967296^l*2^p))%4294967296^S.length):ai S=ai A/(4294967296^l*2^p):=by
 rw[List.take_length]at h
 rw[h]
 apply Nat.mod_eq_of_lt
 have u:=dZ A d
 have z:ai A/(4294967296^l*2^p)≤ai A/4294967296^l:=by
  rw[←Nat.div_div_eq_div_mul];exact Nat.div_le_self _ _
 refine Nat.lt_of_le_of_lt z ?_
 rw[Nat.div_lt_iff_lt_mul (Nat.pow_pos (by decide)),←Nat.pow_add,f]
 exact Nat.lt_of_lt_of_le u (Nat.pow_le_pow_right (by decide) (by omega))
theorem jz(l p:Nat):4294967296^l*2^p=2^(32*l+p):=by
 rw[Nat.pow_add,Nat.pow_mul]
def tz(v:Nat):Nat:=Lib.ctzFrom v v
theorem g7(v:Nat)(h:0<v):∃m,v=2^tz v*(2*m+1):=by
 obtain⟨m,d,_⟩:=Lib.ctzFrom_spec v v h Nat.lt_two_pow_self
 exact⟨m,d⟩
theorem rD(k j m n:Nat)(h:2^k*(2*m+1)=2^j*(2*n+1)):k=j∧m=n:=by
 rcases Nat.lt_trichotomy k j with f|rfl|f
 ·exfalso
  obtain⟨d,rfl⟩:∃d,j=k+(d+1):=⟨j-k-1,by omega⟩
  rw[Nat.pow_add,Nat.mul_assoc]at h
  have:=Nat.eq_of_mul_eq_mul_left (Nat.pow_pos (by decide)) h
  rw[Nat.pow_succ,Nat.mul_assoc,Nat.mul_left_comm]at this
  omega
 ·have:=Nat.eq_of_mul_eq_mul_left (Nat.pow_pos (by decide)) h
  exact⟨rfl,by omega⟩
 ·exfalso
  obtain⟨d,rfl⟩:∃d,k=j+(d+1):=⟨k-j-1,by omega⟩
  rw[Nat.pow_add,Nat.mul_assoc]at h
  have:=Nat.eq_of_mul_eq_mul_left (Nat.pow_pos (by decide)) h
  rw[Nat.pow_succ,Nat.mul_assoc,Nat.mul_left_comm]at this
  omega
theorem yM(v k m:Nat)(h:v=2^k*(2*m+1)):tz v=k:=by
 have d:0<v:=by rw[h];exact Nat.mul_pos (Nat.pow_pos (by decide)) (by omega)
 obtain⟨m',f⟩:=g7 v d
 exact(rD _ _ m' m (by rw[←f,←h])).1
theorem yN(v k:Nat)(h:0<v):tz (2^k*v)=k+tz v:=by
 obtain⟨m,d⟩:=g7 v h
 exact yM _ _ m (by rw[Nat.pow_add,Nat.mul_assoc,←d])
theorem Fw(x:Nat)(d:x≠0)(h:x<4294967296):tz x=Lib.ctz 32 x:=by
 obtain⟨m,f,_⟩:=Lib.ctzFrom_spec 32 x (by omega) (by omega)
 have e:Lib.ctz 32 x=Lib.ctzFrom 32 x:=by simp[Lib.ctz,d]
 rw[e]
 exact yM _ _ m f
theorem lF(v k:Nat)(f:0<v)(h:v<2^k):tz v<k:=by
 obtain⟨m,z⟩:=g7 v f
 apply Nat.lt_of_not_le
 intro d
 have l:2^k≤2^tz v:=Nat.pow_le_pow_right (by decide) d
 have u:2^tz v≤2^tz v*(2*m+1):=Nat.le_mul_of_pos_right _ (by omega)
 omega
theorem yO(L:List Nat)(k x:Nat)(f:ai (L.take k)=0)(h:L[k]?.getD 0=x)(F:x≠0)(l:x<4294967296):ai L≠0∧tz (ai L)=32*k+tz x:=by
 obtain⟨m,D⟩:=g7 x (by omega)
 have e:ai L=4294967296^k*(x+4294967296*ai (L.drop (k+1))):=by
  rw[gF L (k+1),aD,f,h,Nat.zero_add,Nat.pow_succ,Nat.mul_add,Nat.mul_assoc]
 have G:tz x<32:=lF x 32 (by omega) (by omega)
 have u:x+4294967296*ai (L.drop (k+1))=2^tz x*(2*(m+2^(31-tz x)*ai (L.drop (k+1)))+1):=by
  have z:4294967296=2^tz x*(2*2^(31-tz x)):=by
   rw[←Nat.pow_succ',←Nat.pow_add,show tz x+(31-tz x).succ=32 by omega]
  rw[Nat.mul_add 2,Nat.add_right_comm,Nat.mul_add (2^tz x),←D,←Nat.mul_assoc 2,←Nat.mul_assoc,←z]
 have d:ai L=2^(32*k+tz x)*(2*(m+2^(31-tz x)*ai (L.drop (k+1)))+1):=by
  rw[e,u,←Nat.mul_assoc,jz]
 refine⟨?_,yM _ _ _ d⟩
 have:0<ai L:=by rw[d];exact Nat.mul_pos (Nat.pow_pos (by decide)) (by omega)
 omega
def oM(z:Int):Int:=z/2^tz z.natAbs
def oE(z e:Int):Int:=if z=0 then 0 else e+tz z.natAbs
def iy(z m:Int)(k:Nat):Prop:=z=m*2^k∧m%2=1
theorem iy.unique{z m m':Int}{k k':Nat}(h:iy z m k)(l:iy z m' k'):m=m'∧k=k':=by
 obtain⟨d,G⟩:=h
 obtain⟨f,H⟩:=l
 have u:z.natAbs=2^k*(2*(m.natAbs/2)+1):=by
  rw[d,Int.natAbs_mul,Int.natAbs_pow,Nat.mul_comm,show(2:Int).natAbs=2 from rfl,show 2*(m.natAbs/2)+1=m.natAbs by omega]
 have D:z.natAbs=2^k'*(2*(m'.natAbs/2)+1):=by
  rw[f,Int.natAbs_mul,Int.natAbs_pow,Nat.mul_comm,show(2:Int).natAbs=2 from rfl,show 2*(m'.natAbs/2)+1=m'.natAbs by omega]
 obtain⟨rfl,_⟩:=rD _ _ _ _ (u.symm.trans D)
 have F:(2:Int)^k≠0:=Int.pow_ne_zero (by decide)
 exact⟨Int.eq_of_mul_eq_mul_right F (d.symm.trans f),rfl⟩
theorem fq(z:Int)(h:z≠0):iy z (oM z) (tz z.natAbs):=by
 obtain⟨m,D⟩:=g7 z.natAbs (by omega)
 unfold oM
 generalize tz z.natAbs=k at*
 have u:(2:Int)^k≠0:=Int.pow_ne_zero (by decide)
 have d:z=2^k*(2*(m:Int)+1)∨z=2^k*(2*(-(m:Int)-1)+1):=by
  have e:(z.natAbs:Int)=2^k*(2*(m:Int)+1):=by rw[D];push_cast;rfl
  rcases Int.natAbs_eq z with l|l
  ·left;rw[l,e]
  ·right;rw[l,e,←Int.mul_neg];congr 1;omega
 rcases d with d|d
 ·have f:z/2^k=2*(m:Int)+1:=by rw[d];exact Int.mul_ediv_cancel_left _ u
  rw[f]
  exact⟨by rw[Int.mul_comm];exact d,by omega⟩
 ·have f:z/2^k=2*(-(m:Int)-1)+1:=by rw[d];exact Int.mul_ediv_cancel_left _ u
  rw[f]
  exact⟨by rw[Int.mul_comm];exact d,by omega⟩
theorem iy.eq{z m:Int}{k:Nat}(h:iy z m k):z≠0∧m=oM z∧k=tz z.natAbs:=by
 have d:z≠0:=by
  rw[h.1]
  intro e
  rcases Int.mul_eq_zero.1 e with e|e
  ·have:=h.2;rw[e]at this;simp at this
  ·exact Int.pow_ne_zero (by decide) e
 obtain⟨a,b⟩:=h.unique (fq z d)
 exact⟨d,a,b⟩
def bl(v:Nat):Nat:=if v=0 then 0 else Nat.log2 v+1
theorem aU(v:Nat)(h:v≠0):1≤bl v∧2^(bl v-1)≤v∧v<2^bl v:=by
 unfold bl
 rw[if_neg h]
 exact⟨by omega,by simpa using Nat.log2_self_le h,Nat.lt_log2_self⟩
theorem cf{a b:Nat}(h:(2:Nat)^a<2^b):a<b:=(Nat.pow_lt_pow_iff_right (by decide)).1 h
theorem dG{a b:Nat}(h:a≤b):(2:Nat)^a≤2^b:=Nat.pow_le_pow_right (by decide) h
theorem jV{v n:Nat}(u:1≤n)(d:2^(n-1)≤v)(f:v<2^n):bl v=n:=by
 have z:0<2^(n-1):=Nat.two_pow_pos _
 obtain⟨G,h,l⟩:=aU v (by omega)
 have D:=cf (Nat.lt_of_le_of_lt h f)
 have F:=cf (Nat.lt_of_le_of_lt d l)
 omega
theorem jW(v k:Nat)(h:v≠0):bl (v*2^k)=bl v+k:=by
 obtain⟨u,f,l⟩:=aU v h
 have d:0<2^k:=Nat.two_pow_pos _
 refine jV (by omega) ?_ ?_
 ·rw[show bl v+k-1=(bl v-1)+k by omega,Nat.pow_add]
  exact Nat.mul_le_mul_right _ f
 ·rw[Nat.pow_add]
  exact Nat.mul_lt_mul_of_pos_right l d
theorem Cq{v u:Nat}(h:v≤u):bl v≤bl u:=by
 by_cases d:v=0
 ·subst d;simp[bl]
 ·obtain⟨z,f,_⟩:=aU v d
  obtain⟨_,_,l⟩:=aU u (by omega)
  have:=cf (Nat.lt_of_le_of_lt (Nat.le_trans f h) l)
  omega
def cF(v k:Nat):Nat:=v/2^k+(if 2^k<2*(v%2^k)∨(2^k=2*(v%2^k)∧v/2^k%2=1)then 1 else 0)
theorem vy(v k:Nat):v/2^k≤cF v k∧cF v k≤v/2^k+1:=by
 unfold cF;split<;>omega
theorem kO{v u:Nat}(k:Nat)(h:v≤u):cF v k≤cF u k:=by
 have l:v/2^k≤u/2^k:=Nat.div_le_div_right h
 by_cases d:v/2^k=u/2^k
 ·have f:=Nat.div_add_mod v (2^k)
  have z:=Nat.div_add_mod u (2^k)
  rw[d]at f
  have D:v%2^k≤u%2^k:=by omega
  unfold cF
  rw[d]
  generalize v%2^k=r at*
  generalize u%2^k=s at*
  generalize u/2^k=q at*
  generalize 2^k=p at*
  split<;>split<;>omega
 ·have:=(vy v k).2
  have:=(vy u k).1
  omega
theorem g8(a k:Nat):cF (a*2^k) k=a:=by
 have d:0<2^k:=Nat.two_pow_pos _
 unfold cF
 rw[Nat.mul_mod_left,Nat.mul_div_cancel _ d,if_neg (by omega)]
 omega
theorem Cr{a v k:Nat}(h:a*2^k≤v):a≤cF v k:=by
 have:=kO k h;rwa[g8]at this
theorem kP{a v k:Nat}(h:v≤a*2^k):cF v k≤a:=by
 have:=kO k h;rwa[g8]at this
theorem t4(v i k:Nat):cF (v*2^i) (k+i)=cF v k:=by
 have d:0<2^i:=Nat.two_pow_pos _
 have f:v*2^i/2^(k+i)=v/2^k:=by
  rw[Nat.pow_add,Nat.mul_div_mul_right _ _ d]
 have h:v*2^i%2^(k+i)=v%2^k*2^i:=by
  rw[Nat.pow_add,Nat.mul_mod_mul_right]
 unfold cF
 rw[f,h,Nat.pow_add,←Nat.mul_assoc]
 have l:(2^k*2^i<2*(v%2^k)*2^i)↔2^k<2*(v%2^k):=Nat.mul_lt_mul_right d
 have u:(2^k*2^i=2*(v%2^k)*2^i)↔2^k=2*(v%2^k):=Nat.mul_left_inj (by omega)
 simp only[l,u]
theorem wG(v k:Nat):2*(cF v k*2^k)≤2*v+2^k∧2*v≤2*(cF v k*2^k)+2^k:=by
 have h:=Nat.div_add_mod v (2^k)
 have f:=Nat.mod_lt v (Nat.two_pow_pos k)
 unfold cF
 split
 ·rename_i d
  rw[Nat.add_mul,Nat.one_mul,Nat.mul_comm (v/2^k)]
  generalize 2^k*(v/2^k)=x at*
  generalize v/2^k%2=z at*
  generalize v%2^k=r at*
  generalize 2^k=p at*
  omega
 ·rename_i d
  rw[Nat.add_zero,Nat.mul_comm (v/2^k)]
  generalize 2^k*(v/2^k)=x at*
  generalize v/2^k%2=z at*
  generalize v%2^k=r at*
  generalize 2^k=p at*
  omega
def mS(v:Nat)(j:Int):Nat:=if 0≤j then v*2^j.toNat else cF v (-j).toNat
theorem iF(v k:Nat):mS v (k:Int)=v*2^k:=by unfold mS;rw[if_pos (by omega)];simp
theorem cW(v k:Nat)(h:1≤k):mS v (-(k:Int))=cF v k:=by unfold mS;rw[if_neg (by omega)];simp
theorem Cs{v u:Nat}(j:Int)(h:v≤u):mS v j≤mS u j:=by
 unfold mS
 split
 ·exact Nat.mul_le_mul_right _ h
 ·exact kO _ h
theorem yP(v i:Nat)(j:Int):mS (v*2^i) j=mS v (j+i):=by
 rcases Int.eq_ofNat_of_zero_le (a:=if 0≤j then j else-j) (by split<;>omega)with⟨k,hk⟩
 by_cases f:0≤j
 ·rw[if_pos f]at hk
  subst hk
  rw[iF,show((k:Int)+(i:Int))=((i+k:Nat):Int) by omega,iF,Nat.pow_add,Nat.mul_assoc]
 ·rw[if_neg f]at hk
  obtain rfl:j= -(k:Int):=by omega
  rw[cW _ _ (by omega)]
  by_cases h:k≤i
  ·obtain⟨d,rfl⟩:=Nat.exists_eq_add_of_le h
   rw[show(-(k:Int)+((k+d:Nat):Int))=(d:Int) by omega,iF,Nat.add_comm k d,Nat.pow_add,←Nat.mul_assoc,g8]
  ·obtain⟨d,rfl⟩:=Nat.exists_eq_add_of_le (show i≤k by omega)
   rw[show(-((i+d:Nat):Int)+(i:Int))= -(d:Int) by omega,cW _ _ (by omega),Nat.add_comm i d,t4]
def pN(v:Nat)(j:Int):Nat:=if 0≤j+1 then v*2^(j+1).toNat else v/2^(-(j+1)).toNat
def Hd(v:Nat)(j:Int):Bool:=decide (pN v j%2=1)&&(!decide (j= -1)||decide (pN v j/2%2=1))
def pM(v:Nat)(j:Int):Nat:=(pN v j+(Hd v j).toNat)/2
theorem Hj(v:Nat)(j:Int)(h:v%2=1):pM v j=mS v j:=by
 by_cases u:0≤j
 ·obtain⟨k,rfl⟩:=Int.eq_ofNat_of_zero_le u
  have f:pN v k=v*2^k*2:=by
   unfold pN
   rw[if_pos (by omega),show((k:Int)+1).toNat=k+1 by omega,Nat.pow_succ,Nat.mul_assoc]
  have z:Hd v k=false:=by
   unfold Hd
   rw[f,decide_eq_false (by omega)];rfl
  rw[iF]
  unfold pM
  rw[z,f]
  simp
 ·obtain⟨k,M⟩:=Int.eq_ofNat_of_zero_le (show 0≤-j by omega)
  obtain rfl:j= -(k:Int):=by omega
  obtain⟨i,rfl⟩:∃i,k=i+1:=⟨k-1,by omega⟩
  rw[cW _ _ (by omega)]
  have f:pN v (-((i+1:Nat):Int))=v/2^i:=by
   unfold pN
   by_cases d:i=0
   ·subst d;simp
   ·rw[if_neg (by omega),show(-(-((i+1:Nat):Int)+1)).toNat=i by omega]
  have D:decide (-((i+1:Nat):Int)= -1)=decide (i=0):=by
   by_cases d:i=0
   ·subst d;simp
   ·rw[decide_eq_false d,decide_eq_false (by omega)]
  have F:v/2^(i+1)=v/2^i/2:=by rw[Nat.pow_succ,Nat.div_div_eq_div_mul]
  have G:v%2^(i+1)=v%2^i+2^i*(v/2^i%2):=by rw[Nat.pow_succ,Nat.mod_mul]
  have H:i≠0→0<v%2^i:=by
   intro d
   have:v%2^i%2=v%2:=Nat.mod_mod_of_dvd _ (by obtain⟨m,rfl⟩:∃m,i=m+1:=⟨i-1,by omega⟩;rw[Nat.pow_succ];exact Nat.dvd_mul_left _ _)
   omega
  have L:=Nat.mod_lt v (Nat.two_pow_pos i)
  unfold pM Hd cF
  rw[f,D,F,G,Nat.pow_succ]
  by_cases d:i=0
  ·subst d
   simp only[Nat.pow_zero,Nat.div_one,Nat.mod_one,Nat.zero_add,Nat.one_mul,h]
   by_cases l:v/2%2=1
   ·simp[l]<;>omega
   ·simp[l]<;>omega
  ·have J:=H d
   simp only[decide_eq_false d,Bool.not_false,Bool.true_or,Bool.and_true]
   generalize v/2^i=n at*
   generalize v%2^i=s at*
   generalize 2^i=p at*
   by_cases l:n%2=1
   ·rw[l,if_pos (by left;omega)]
    simp;omega
   ·have K:n%2=0:=by omega
    rw[K,if_neg (by omega)]
    simp
def ar(v:Nat)(E:Int):Int:=max ((bl v:Int)+E-53) (-1074)
def cQ(v:Nat)(E:Int):Nat:=mS v (E-ar v E)
def bf(v:Nat)(E:Int):Nat:=if v=0 then 0 else if 1024<(bl v:Int)+E then 9218868437227405312 else cQ v E+(ar v E+1074).toNat*4503599627370496
def bj(v:Nat)(E:Int):Int:=if v=0 then 0 else if 1024<(bl v:Int)+E then 5 else if ar v E≤E then 0 else if bf v E=9218868437227405312 then 5 else if bf v E<4503599627370496 then 3 else 1
theorem bU(v:Nat)(E:Int):-1074≤ar v E∧(bl v:Int)+E-53≤ar v E∧(ar v E= -1074∨ar v E=(bl v:Int)+E-53):=by
 unfold ar;omega
theorem yB:(2:Nat)^53=9007199254740992:=by decide
theorem Fb:(2:Nat)^52=4503599627370496:=by decide
theorem ch(v:Nat)(E:Int)(h:v≠0):cQ v E≤9007199254740992∧(-1074<ar v E→4503599627370496≤cQ v E)∧(ar v E≤E→cQ v E<9007199254740992):=by
 obtain⟨K,L,M⟩:=bU v E
 obtain⟨N,D,F⟩:=aU v h
 unfold cQ
 generalize ar v E=l at*
 rcases Int.le_total l E with G|G
 ·obtain⟨k,H⟩:=Int.eq_ofNat_of_zero_le (show 0≤E-l by omega)
  rw[H,iF]
  have J:0<2^k:=Nat.two_pow_pos _
  have f:v*2^k<2^53:=by
   have d:v*2^k<2^bl v*2^k:=Nat.mul_lt_mul_of_pos_right F J
   rw[←Nat.pow_add]at d
   exact Nat.lt_of_lt_of_le d (dG (by omega))
  rw[yB]at f
  refine⟨by omega,fun u=>?_,fun _=>f⟩
  have d:2^(bl v-1)*2^k≤v*2^k:=Nat.mul_le_mul_right _ D
  rw[←Nat.pow_add,show bl v-1+k=52 by omega,Fb]at d
  exact d
 ·obtain⟨k,H⟩:=Int.eq_ofNat_of_zero_le (show 0≤l-E by omega)
  by_cases z:k=0
  ·subst z
   rw[show E-l=((0:Nat):Int) by omega,iF]
   have f:v<2^53:=Nat.lt_of_lt_of_le F (dG (by omega))
   rw[yB]at f
   refine⟨by omega,fun u=>?_,fun _=>by omega⟩
   rw[show bl v-1=52 by omega,Fb]at D
   omega
  ·rw[show E-l= -(k:Int) by omega,cW _ _ (by omega)]
   refine⟨?_,fun u=>?_,fun u=>by omega⟩
   ·rw[←yB]
    refine kP ?_
    rw[←Nat.pow_add]
    exact Nat.le_trans (Nat.le_of_lt F) (dG (by omega))
   ·rw[←Fb]
    refine Cr ?_
    rw[←Nat.pow_add,show 52+k=bl v-1 by omega]
    exact D
theorem cj(v:Nat)(E:Int)(h:v≠0)(d:(bl v:Int)+E≤1024):bf v E=cQ v E+(ar v E+1074).toNat*4503599627370496:=by
 unfold bf;rw[if_neg h,if_neg (by omega)]
theorem cH(v:Nat)(E:Int):bf v E≤9218868437227405312:=by
 by_cases h:v=0
 ·subst h;simp[bf]
 ·by_cases d:1024<(bl v:Int)+E
  ·unfold bf;rw[if_neg h,if_pos d];exact Nat.le_refl _
  ·rw[cj v E h (by omega)]
   obtain⟨f,l,u⟩:=bU v E
   have:=(ch v E h).1
   omega
theorem dk(v i:Nat)(E:Int):bf (v*2^i) E=bf v (E+i):=by
 by_cases h:v=0
 ·subst h;simp[bf]
 ·have u:0<2^i:=Nat.two_pow_pos _
  have f:v*2^i≠0:=Nat.mul_ne_zero h (by omega)
  have d:=jW v i h
  have l:ar (v*2^i) E=ar v (E+i):=by unfold ar;rw[d];congr 1;omega
  unfold bf cQ
  rw[if_neg h,if_neg f,l,d,yP,show E-ar v (E+i)+i=E+i-ar v (E+i) by omega,show((bl v+i:Nat):Int)+E=(bl v:Int)+(E+i) by omega]
theorem rE{v u:Nat}(E:Int)(h:v≤u):bf v E≤bf u E:=by
 by_cases d:v=0
 ·subst d;simp[bf]
 ·have D:=Cq h
  by_cases l:1024<(bl u:Int)+E
  ·have:bf u E=9218868437227405312:=by unfold bf;rw[if_neg (by omega),if_pos l]
   rw[this];exact cH v E
  ·rw[cj v E d (by omega),cj u E (by omega) (by omega)]
   obtain⟨F,G,H⟩:=bU v E
   obtain⟨J,K,L⟩:=bU u E
   by_cases f:ar v E=ar u E
   ·have:cQ v E≤cQ u E:=by unfold cQ;rw[f];exact Cs _ h
    rw[f];omega
   ·have z:ar v E<ar u E:=by omega
    have:=(ch v E d).1
    have:=(ch u E (by omega)).2.1 (by omega)
    omega
def rv(r:Nat):Nat:=if r<4503599627370496 then r else(4503599627370496+r%4503599627370496)*2^(r/4503599627370496-1)
theorem jp(m k:Nat)(l:m≤9007199254740992)(d:k≠0→4503599627370496≤m):rv (m+k*4503599627370496)=m*2^k:=by
 unfold rv
 by_cases h:m+k*4503599627370496<4503599627370496
 ·rw[if_pos h]
  obtain rfl:k=0:=by omega
  simp
 ·rw[if_neg h]
  by_cases u:m<9007199254740992
  ·have z:4503599627370496≤m:=by
    by_cases f:k=0
    ·omega
    ·exact d f
   rw[show(m+k*4503599627370496)/4503599627370496=k+1 by omega,show(m+k*4503599627370496)%4503599627370496=m-4503599627370496 by omega,show 4503599627370496+(m-4503599627370496)=m by omega]
   rfl
  ·obtain rfl:m=9007199254740992:=by omega
   rw[show(9007199254740992+k*4503599627370496)/4503599627370496=k+2 by omega,show(9007199254740992+k*4503599627370496)%4503599627370496=0 by omega,show k+2-1=k+1 by omega,Nat.pow_succ]
   omega
theorem qh(r:Nat):rv r<rv (r+1):=by
 by_cases h:r<4503599627370496
 ·have d:=jp r 0 (by omega) (by simp)
  have f:=jp (r+1) 0 (by omega) (by simp)
  simp at d f
  rw[d,f];omega
 ·obtain⟨k,z⟩:∃k,r/4503599627370496=k+1:=⟨r/4503599627370496-1,by omega⟩
  have l:r=(4503599627370496+r%4503599627370496)+k*4503599627370496:=by omega
  generalize D:4503599627370496+r%4503599627370496=m at*
  have u:m<9007199254740992:=by omega
  have d:=jp m k (by omega) (fun _=>by omega)
  have f:=jp (m+1) k (by omega) (fun _=>by omega)
  rw[←l]at d
  rw[show m+1+k*4503599627370496=r+1 by omega]at f
  rw[d,f]
  exact Nat.mul_lt_mul_of_pos_right (by omega) (Nat.two_pow_pos _)
theorem mu{r s:Nat}(h:r≤s):rv r≤rv s:=by
 obtain⟨d,rfl⟩:=Nat.exists_eq_add_of_le h
 induction d with
 |zero=>exact Nat.le_refl _
 |succ d ih=>exact Nat.le_trans (ih (by omega)) (Nat.le_of_lt (qh (r+d)))
theorem dH:rv 0=0:=by decide
open Go.RowKit
def fS(b:Nat):Bool:=decide (9223372036854775808≤b)
def fP(b:Nat):Nat:=b%9223372036854775808/4503599627370496
def fF(b:Nat):Nat:=b%4503599627370496
def fN(b:Nat):Nat:=if 9223372036854775808≤b then b-9223372036854775808 else b+9223372036854775808
def fK(b:Nat):Int:=if fP b=2047 then(if fF b=0 then 3 else 4)else if fP b=0 then(if fF b=0 then 0 else 1)else 2
theorem vz(b:Nat)(h:b<18446744073709551616):bits .and .u64 (b:Int) 9223372036854775808=if fS b then 9223372036854775808 else 0:=by
 have l:=bits_and_u64_nat b 9223372036854775808 h (by decide)
 refine l.trans ?_
 have u:(b&&& 2^63)%2^63=0:=by rw[Nat.and_mod_two_pow];simp
 have z:(b&&& 2^63)/2^63=(b/2^63)&&& 1:=by rw[Nat.and_div_two_pow]
 rw[show(9223372036854775808:Nat)=2^63 by decide]
 have d:=Nat.div_add_mod (b&&& 2^63) (2^63)
 rw[u,z]at d
 unfold fS
 by_cases f:9223372036854775808≤b
 ·rw[decide_eq_true f,if_pos rfl]
  rw[show b/2^63=1 by omega]at d
  simp only[Nat.and_self]at d
  omega
 ·rw[decide_eq_false f,if_neg (by simp)]
  rw[show b/2^63=0 by omega]at d
  simp only[Nat.zero_and]at d
  omega
theorem Ct(b:Nat)(h:b<18446744073709551616):bits .and .u64 (b:Int) 4503599627370495=(fF b:Int):=by
 have d:=bits_and_u64_nat b 4503599627370495 h (by decide)
 refine d.trans ?_
 have f:b&&& 2^52-1=b%2^52:=Nat.and_two_pow_sub_one_eq_mod b 52
 rw[show(4503599627370495:Nat)=2^52-1 by decide,f]
 rfl
theorem Cu(b:Nat)(h:b<18446744073709551616):bits .and .u64 ((b:Int)/4503599627370496) 2047=(fP b:Int):=by
 have d:=bits_and_u64_nat (b/4503599627370496) 2047 (by omega) (by decide)
 refine d.trans ?_
 have f:(b/4503599627370496)&&& 2^11-1=(b/4503599627370496)%2^11:=Nat.and_two_pow_sub_one_eq_mod _ 11
 rw[show(2047:Nat)=2^11-1 by decide,f]
 unfold fP
 omega
theorem Cv(b:Nat)(h:b<18446744073709551616):bits .xor .u64 (b:Int) 9223372036854775808=(fN b:Int):=by
 have l:=bits_xor_u64_nat b 9223372036854775808 h (by decide)
 refine l.trans ?_
 have u:(b ^^^ 2^63)%2^63=b%2^63:=by rw[Nat.xor_mod_two_pow];simp
 have z:(b ^^^ 2^63)/2^63=(b/2^63) ^^^ 1:=by rw[Nat.xor_div_two_pow]
 rw[show(9223372036854775808:Nat)=2^63 by decide]
 unfold fN
 have d:=Nat.div_add_mod (b ^^^ 2^63) (2^63)
 rw[u,z]at d
 by_cases f:9223372036854775808≤b
 ·rw[if_pos f]
  rw[show b/2^63=1 by omega]at d
  simp only[Nat.xor_self]at d
  omega
 ·rw[if_neg f]
  rw[show b/2^63=0 by omega]at d
  simp only[Nat.zero_xor]at d
  omega
theorem mQ(b:Nat):fP b<2048:=by unfold fP;omega
theorem rF(b:Nat):fF b<4503599627370496:=by unfold fF;omega
theorem gH(b:Nat)(h:b<18446744073709551616):fN b<18446744073709551616:=by unfold fN;split<;>omega
def bZ(w:World)(b:Nat)(x y z:Value):Prop:=w.heap[b]? =some (.cells #[x,y,z] 176 (0,0))
theorem bZ.c0{w:World}{b:Nat}{x y z:Value}(h:bZ w b x y z):w.cell? ⟨b,0,none⟩=some x:=by rw[cell_of_row w b 0 _ _ _ h];rfl
theorem bZ.c1{w:World}{b:Nat}{x y z:Value}(h:bZ w b x y z):w.cell? ⟨b,1,none⟩=some y:=by rw[cell_of_row w b 1 _ _ _ h];rfl
theorem bZ.c2{w:World}{b:Nat}{x y z:Value}(h:bZ w b x y z):w.cell? ⟨b,2,none⟩=some z:=by rw[cell_of_row w b 2 _ _ _ h];rfl
theorem bZ.lt{w:World}{b:Nat}{x y z:Value}(h:bZ w b x y z):b<w.heap.size:=(Array.getElem?_eq_some_iff.1 h).1
theorem bZ.below{w w':World}{b:Nat}{x y z:Value}(h:bZ w b x y z){B:Nat}(f:Below B w w')(d:b<B):bZ w' b x y z:=(f.block b d).trans h
theorem bZ.new(w:World)(x y z:Value):bZ (w.alloc (.cells #[x,y,z] 176)) w.heap.size x y z:=heap_alloc_new w _
theorem bZ.all{w w':World}{b:Nat}{x y z:Value}(h:bZ w b x y z)(d:Below w.heap.size w w'):bZ w' b x y z:=h.below d h.lt
def fV(b:Nat):Value:=.agg #[.bool (fS b),.int .u64 (fP b),.int .u64 (fF b)]
theorem ex(b:Nat)(w:World)(h:b<18446744073709551616):
  Calls Tryz.prog 172 #[.int .u64 b] w fun e w'=>e=.returned (fV b)∧Below w.heap.size w w':=by
 have d:=vz b h
 have l:=Ct b h
 have u:=Cu b h
 unfold fV
 generalize fF b=f at*
 generalize fP b=p at*
 generalize fS b=s at*
 have D:(0:Int)≤b:=by omega
 have z:(b:Int)<18446744073709551616:=by omega
 clear h
 cases s
 ·simp only[Bool.false_eq_true,if_false]at d
  go_enter Tryz.func172,Tryz.ntmps172
  go_wp2_with(simp only[d,l,u])
  refine bodyPost_ret (v:=.agg #[.bool false,.int .u64 p,.int .u64 f]) (by simp[results,Tryz.results172,go_sem]) rfl ⟨rfl,(Below.refl _ _).alloc (Nat.le_refl _) _⟩
 ·simp only[if_true]at d
  go_enter Tryz.func172,Tryz.ntmps172
  go_wp2_with(simp only[d,l,u])
  refine bodyPost_ret (v:=.agg #[.bool true,.int .u64 p,.int .u64 f]) (by simp[results,Tryz.results172,go_sem]) rfl ⟨rfl,(Below.refl _ _).alloc (Nat.le_refl _) _⟩
theorem ez(b:Nat)(w:World)(h:b<18446744073709551616):
  Calls Tryz.prog 188 #[.int .u64 b] w fun e w'=>e=.returned (.int .u64 (fN b))∧w=w':=by
 have d:=Cv b h
 generalize fN b=f at*
 clear h
 go_enter Tryz.func188,Tryz.ntmps188
 go_wp2_with(simp only[d])
 go_ret
 exact⟨rfl,rfl⟩
theorem t5(s:Bool)(p f:Int)(W:World):(Instr.field 176 (.agg #[.bool s,.int .u64 p,.int .u64 f]) 0).run Tryz.prog W=.ok (.bool s) W:=by kernel_rfl
theorem dO(b:Nat)(w:World)(h:b<18446744073709551616):
  Calls Tryz.prog 187 #[.int .u64 b] w fun e w'=>e=.returned (.bool (fS b))∧Below w.heap.size w w':=by
 have l:=aa (fun w'=>ex b w' h)
 unfold fV at l
 generalize fF b=f at*
 generalize fP b=p at*
 generalize fS b=s at*
 have u:=fun W=>t5 s p f W
 clear h
 go_enter Tryz.func187,Tryz.ntmps187
 go_wp2_with(go_at_call 172;refine(uH l _).mono ?_;rintro r z ⟨rfl,d⟩)
 go_ret
 exact⟨rfl,d⟩
theorem gI(b:Nat)(w:World)(h:b<18446744073709551616):
  Calls Tryz.prog 118 #[.int .u64 b] w fun e w'=>e=.returned (.bool (fS b))∧w=w':=by
 unfold fS
 by_cases d:9223372036854775808≤b
 ·rw[decide_eq_true d]
  have f:(b:Int)/9223372036854775808=1:=by omega
  clear d h
  go_enter Tryz.func118,Tryz.ntmps118
  go_wp2_with(simp only[f])
  go_ret
  exact⟨rfl,rfl⟩
 ·rw[decide_eq_false d]
  have f:(b:Int)/9223372036854775808=0:=by omega
  clear d h
  go_enter Tryz.func118,Tryz.ntmps118
  go_wp2_with(simp only[f])
  go_ret
  exact⟨rfl,rfl⟩
theorem jA(b:Nat)(w:World)(_h:b<18446744073709551616):
  Calls Tryz.prog 117 #[.int .u64 b] w fun e w'=>e=.returned (.int .i64 (fP b))∧w=w':=by
 have d:(b:Int)%9223372036854775808/4503599627370496=(fP b:Int):=by unfold fP;omega
 have f:=mQ b
 generalize fP b=p at*
 go_enter Tryz.func117,Tryz.ntmps117
 go_wp2_with(simp only[d])
 go_ret
 exact⟨rfl,rfl⟩
theorem pq(b:Nat)(w:World)(_h:b<18446744073709551616):
  Calls Tryz.prog 116 #[.int .u64 b] w fun e w'=>e=.returned (.int .u64 (fF b))∧w=w':=by
 have d:(b:Int)%4503599627370496=(fF b:Int):=by unfold fF;omega
 have f:=rF b
 generalize fF b=p at*
 go_enter Tryz.func116,Tryz.ntmps116
 go_wp2_with(simp only[d])
 go_ret
 exact⟨rfl,rfl⟩
end Go.Proofs.YtdhmglmccafbnaaGreatDoor
