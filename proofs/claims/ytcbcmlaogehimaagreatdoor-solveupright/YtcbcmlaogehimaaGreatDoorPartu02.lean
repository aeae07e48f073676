/- Part 2 of the texts. -/
import Derived.Test.YtcbcmlaogehimaaGreatDoorPartu01
import Derived.Lib.TrailingZeros
set_option maxHeartbeats 1000000
namespace Go.Proofs.YtcbcmlaogehimaaGreatDoor
theorem nr(S:H3)(x:Nat):aj (S++[x])=aj S+4294967296^S.length*x:=by rw[mB];simp[aj]
theorem bQ.snoc{S:H3}(h:bQ S){x:Nat}(D:x<4294967296):bQ (S++[x]):=fun y t=>by
 rcases List.mem_append.1 t with l|l
 ·exact h y l
 ·simp at l;omega
theorem Ce(A B S:H3)(c x y:Nat)(l:A[S.length]?.getD 0=x)(t:B[S.length]?.getD 0=y)(h:aj S+4294967296^S.length*c=aj (A.take S.length)+aj (B.take S.length)):
  aj (S++[(x+y+c)%4294967296])+4294967296^(S.length+1)*((x+y+c)/4294967296)=aj (A.take (S.length+1))+aj (B.take (S.length+1)):=by
 rw[nr,aT A,aT B,l,t];have e:=kE (4294967296^S.length) 4294967296 (x+y+c);rw[Nat.pow_succ];rw[Nat.mul_add,Nat.mul_add]at e;omega
theorem yC(A B S:H3)(c x y t l:Nat)(D:A[S.length]?.getD 0=x)(F:B[S.length]?.getD 0=y)(G:t+y+c=x+4294967296*l)(h:aj S+aj (B.take S.length)=aj (A.take S.length)+4294967296^S.length*c):
  aj (S++[t])+aj (B.take (S.length+1))=aj (A.take (S.length+1))+4294967296^(S.length+1)*l:=by
 rw[nr,aT A,aT B,D,F,Nat.pow_succ];have e:4294967296^S.length*(t+y+c)=4294967296^S.length*(x+4294967296*l):=by rw[G]
 rw[Nat.mul_add,Nat.mul_add,Nat.mul_add,<-Nat.mul_assoc]at e;omega
theorem nw:∀(S:H3) (j t:Nat),j<S.length->aj (S.set j t)+4294967296^j*(S[j]?.getD 0)=aj S+4294967296^j*t
 | [],_,_,h=>by simp at h
 |x::r,0,t,_=>by simp[aj];omega
 |x::r,j+1,t,h=>by
  have F:=nw r j t (by simpa using h);simp only[List.set_cons_succ,aj,List.getElem?_cons_succ,Nat.pow_succ];have l:4294967296^j*4294967296*(r[j]?.getD 0)=4294967296*(4294967296^j*(r[j]?.getD 0)):=by rw[Nat.mul_comm (4294967296^j),Nat.mul_assoc]
  have D:4294967296^j*4294967296*t=4294967296*(4294967296^j*t):=by rw[Nat.mul_comm (4294967296^j),Nat.mul_assoc]
  rw[l,D];omega
theorem im(S:H3)(j k t:Nat)(h:k≠j):(S.set j t)[k]?.getD 0=S[k]?.getD 0:=by
 rw[List.getElem?_set_ne (by omega)]
theorem yD(x y:Nat)(h:x<4294967296)(l:y<4294967296):x*y<=18446744065119617025:=by
 have:=Nat.mul_le_mul (show x<=4294967295 by omega) (show y<=4294967295 by omega)
 simpa using this
theorem AU(x y:Nat)(l:x<4294967296)(t:y<4294967296):(x:Int)*(y:Int)<=18446744065119617025/\(0:Int)<=(x:Int)*(y:Int):=by
 have h:=yD x y l t;have e:((x*y:Nat):Int)=(x:Int)*(y:Int):=Int.natCast_mul x y;rw[<-e];omega
theorem Cf(x y z q:Nat):(((y+(x*z+q))%4294967296:Nat):Int)=((y:Int)+((x:Int)*(z:Int)+(q:Int)))%4294967296/\(((y+(x*z+q))/4294967296:Nat):Int)=((y:Int)+((x:Int)*(z:Int)+(q:Int)))/4294967296:=by
 have e:((x*z:Nat):Int)=(x:Int)*(z:Int):=Int.natCast_mul x z;rw[<-e];omega
theorem Eu(B Q:H3)(V x i k c y q:Nat)(l:i+k<Q.length)(t:B[k]?.getD 0=y)(D:Q[i+k]?.getD 0=q)(h:aj Q+4294967296^(i+k)*c=V+4294967296^i*x*aj (B.take k)):
  aj (Q.set (i+k) ((c+(x*y+q))%4294967296))+4294967296^(i+(k+1))*((c+(x*y+q))/4294967296)=V+4294967296^i*x*aj (B.take (k+1)):=by
 have F:=nw Q (i+k) ((c+(x*y+q))%4294967296) l;rw[D]at F;have e:=kE (4294967296^(i+k)) 4294967296 (c+(x*y+q));rw[show 4294967296^(i+(k+1))=4294967296^(i+k)*4294967296 by rw[<-Nat.add_assoc,Nat.pow_succ],aT B k,t];have G:4294967296^i*x*(aj (B.take k)+4294967296^k*y)=4294967296^i*x*aj (B.take k)+4294967296^(i+k)*(x*y):=by
  rw[Nat.mul_add,Nat.pow_add]
  congr 1
  rw[Nat.mul_assoc,Nat.mul_assoc,<-Nat.mul_assoc x,Nat.mul_comm x,Nat.mul_assoc]
 rw[G];have H:4294967296^(i+k)*(c+(x*y+q))=4294967296^(i+k)*c+4294967296^(i+k)*(x*y)+4294967296^(i+k)*q:=by rw[Nat.mul_add,Nat.mul_add];omega
 omega
theorem IL(A B Q:H3)(x i c:Nat)(l:i+B.length<Q.length)(t:A[i]?.getD 0=x)(D:Q[i+B.length]?.getD 0=0)(h:aj Q+4294967296^(i+B.length)*c=aj (A.take i)*aj B+4294967296^i*x*aj (B.take B.length)):
  aj (Q.set (i+B.length) c)=aj (A.take (i+1))*aj B:=by
 have F:=nw Q (i+B.length) c l;rw[D,Nat.mul_zero]at F;rw[List.take_length]at h;rw[aT A i,t,Nat.add_mul];omega
theorem IM(s y p:Nat)(l:s<2^p)(t:y%2^p=0):s|||y=s+y:=by
 have h:=Nat.two_pow_add_eq_or_of_lt l (y/2^p);have e:2^p*(y/2^p)=y:=by have:=Nat.div_add_mod y (2^p);omega
 rw[e]at h;rw[Nat.or_comm,<-h];omega
theorem Ev(x p:Nat)(h:p<=32):(x*2^p)%4294967296%2^p=0:=by
 have e:(4294967296:Nat)=2^p*2^(32-p):=by rw[<-Nat.pow_add,show p+(32-p)=32 by omega]
 rw[e,Nat.mod_mul_right_mod];exact Nat.mul_mod_left _ _
theorem Cg(x p:Nat)(h:x<4294967296)(_hp:p<=31):(x*2^p)/4294967296<2^p:=by
 rw[Nat.div_lt_iff_lt_mul (by decide),Nat.mul_comm];exact Nat.mul_lt_mul_of_pos_left h (Nat.pow_pos (by decide))
theorem uk(x p:Nat)(t:x<4294967296)(h:p<=31):x*2^p<9223372036854775808:=by
 have l:2^p<=2^31:=Nat.pow_le_pow_right (by decide) h;have D:=Nat.mul_le_mul (show x<=4294967295 by omega) l;omega
theorem IQ(A S:H3)(i l p x s:Nat)(t:i+l+1<S.length)(F:A[i]?.getD 0=x)(G:S[i+l]?.getD 0=s)(H:S[i+l+1]?.getD 0=0)(h:aj S=4294967296^l*2^p*aj (A.take i)):
  aj ((S.set (i+l) (s+(x*2^p)%4294967296)).set (i+l+1) ((x*2^p)/4294967296))=4294967296^l*2^p*aj (A.take (i+1)):=by
 have I:=nw S (i+l) (s+(x*2^p)%4294967296) (by omega);have D:=nw (S.set (i+l) (s+(x*2^p)%4294967296)) (i+l+1) ((x*2^p)/4294967296) (by simpa using t);rw[im _ _ _ _ (by omega),H,Nat.mul_zero]at D;rw[G,Nat.mul_add]at I;have e:=kE (4294967296^(i+l)) 4294967296 (x*2^p);rw[Nat.pow_succ]at D;rw[aT A i,F,Nat.mul_add];have J:4294967296^l*2^p*(4294967296^i*x)=4294967296^(i+l)*(x*2^p):=by
  rw[Nat.pow_add];rw[Nat.mul_assoc,Nat.mul_comm (4294967296^i) (4294967296^l),Nat.mul_assoc]
  congr 1
  rw[Nat.mul_comm (2^p),Nat.mul_assoc]
 rw[J];omega
theorem vI(L:H3)(h:bQ L)(k:Nat):aj (L.drop k)=aj L/4294967296^k:=by
 have l:=jC L k;have t:=jm L h k;rw[l,Nat.add_comm,Nat.mul_comm,Nat.add_comm];rw[Nat.add_mul_div_right _ _ (Nat.pow_pos (by decide)),Nat.div_eq_of_lt t,Nat.zero_add]
theorem ul(D:H3):aj D=D[0]?.getD 0+4294967296*(D[1]?.getD 0)+4294967296*4294967296*aj (D.drop 2):=by
 match D with
 | []=>simp[aj]
 | [x]=>simp[aj]
 |x::y::r=>simp only[aj,List.getElem?_cons_zero,List.getElem?_cons_succ,Option.getD_some,List.drop_succ_cons,List.drop_zero];rw[Nat.mul_add,<-Nat.mul_assoc];omega
theorem IW(h l r p:Nat)(t:p<=31):((h+4294967296*l+4294967296*4294967296*r)/2^p)%4294967296=((h+4294967296*l)/2^p)%4294967296:=by
 have e:(4294967296*4294967296*r:Nat)=2^p*(2^(32-p)*(4294967296*r)):=by
  rw[<-Nat.mul_assoc (2^p),<-Nat.pow_add,show p+(32-p)=32 by omega];rw[Nat.mul_assoc]
 rw[e,Nat.add_mul_div_left _ _ (Nat.pow_pos (by decide)),<-Nat.mul_assoc,Nat.mul_comm (2^(32-p)),Nat.mul_assoc,Nat.add_mul_mod_self_left]
theorem tw(A S:H3)(F:bQ A)(k l p t D:Nat)(G:p<=31)(H:k<S.length)(I:A[k+l]?.getD 0=t)(J:A[k+l+1]?.getD 0=D)(h:aj (S.take k)=(aj A/(4294967296^l*2^p))%4294967296^k):
  aj ((S.set k (((t+4294967296*D)/2^p)%4294967296)).take (k+1))=(aj A/(4294967296^l*2^p))%4294967296^(k+1):=by
 rw[jY S k _ H,h,Nat.pow_succ,Nat.mod_mul]
 congr 2
 have K:aj A/(4294967296^l*2^p)/4294967296^k=aj (A.drop (k+l))/2^p:=by
  rw[vI A F,Nat.div_div_eq_div_mul,Nat.div_div_eq_div_mul,Nat.pow_add]
  congr 1
  rw[Nat.mul_comm (4294967296^k),Nat.mul_assoc,Nat.mul_assoc,Nat.mul_comm (2^p)]
 rw[K,ul (A.drop (k+l)),List.getElem?_drop,List.getElem?_drop,Nat.add_zero,I,J,IW _ _ _ _ G]
theorem vJ(A S:H3)(t:bQ A)(l p:Nat)(D:S.length=A.length-l)(h:aj (S.take S.length)=(aj A/(4294967296^l*2^p))%4294967296^S.length):aj S=aj A/(4294967296^l*2^p):=by
 rw[List.take_length]at h;rw[h]
 apply Nat.mod_eq_of_lt
 have F:=gK A t;have G:aj A/(4294967296^l*2^p)<=aj A/4294967296^l:=by
  rw[<-Nat.div_div_eq_div_mul];exact Nat.div_le_self _ _
 refine Nat.lt_of_le_of_lt G ?_;rw[Nat.div_lt_iff_lt_mul (Nat.pow_pos (by decide)),<-Nat.pow_add,D];exact Nat.lt_of_lt_of_le F (Nat.pow_le_pow_right (by decide) (by omega))
theorem mE(l p:Nat):4294967296^l*2^p=2^(32*l+p):=by
 rw[Nat.pow_add,Nat.pow_mul]
def tz(v:Nat):Nat:=Lib.ctzFrom v v
theorem jZ(v:Nat)(h:0<v):∃m,v=2^tz v*(2*m+1):=by
 obtain⟨m,l,_⟩:=Lib.ctzFrom_spec v v h Nat.lt_two_pow_self;exact⟨m,l⟩
theorem vK(k j m n:Nat)(h:2^k*(2*m+1)=2^j*(2*n+1)):k=j/\m=n:=by
 rcases Nat.lt_trichotomy k j with l|rfl|l
 ·exfalso
  obtain⟨d,rfl⟩:∃d,j=k+(d+1):=⟨j-k-1,by omega⟩;rw[Nat.pow_add,Nat.mul_assoc]at h;have:=Nat.eq_of_mul_eq_mul_left (Nat.pow_pos (by decide)) h;rw[Nat.pow_succ,Nat.mul_assoc,Nat.mul_left_comm]at this;omega
 ·have:=Nat.eq_of_mul_eq_mul_left (Nat.pow_pos (by decide)) h
  exact⟨rfl,by omega⟩
 ·exfalso
  obtain⟨d,rfl⟩:∃d,k=j+(d+1):=⟨k-j-1,by omega⟩;rw[Nat.pow_add,Nat.mul_assoc]at h;have:=Nat.eq_of_mul_eq_mul_left (Nat.pow_pos (by decide)) h;rw[Nat.pow_succ,Nat.mul_assoc,Nat.mul_left_comm]at this;omega
theorem Ew(v k m:Nat)(h:v=2^k*(2*m+1)):tz v=k:=by
 have l:0<v:=by rw[h];exact Nat.mul_pos (Nat.pow_pos (by decide)) (by omega)
 obtain⟨m',t⟩:=jZ v l;exact(vK _ _ m' m (by rw[<-t,<-h])).1
theorem Ex(v k:Nat)(h:0<v):tz (2^k*v)=k+tz v:=by
 obtain⟨m,l⟩:=jZ v h;exact Ew _ _ m (by rw[Nat.pow_add,Nat.mul_assoc,<-l])
theorem Nf(x:Nat)(l:x≠0)(h:x<4294967296):tz x=Lib.ctz 32 x:=by
 obtain⟨m,t,_⟩:=Lib.ctzFrom_spec 32 x (by omega) (by omega);have e:Lib.ctz 32 x=Lib.ctzFrom 32 x:=by simp[Lib.ctz,l]
 rw[e];exact Ew _ _ m t
theorem mr(v k:Nat)(t:0<v)(h:v<2^k):tz v<k:=by
 obtain⟨m,G⟩:=jZ v t
 apply Nat.lt_of_not_le
 intro l;have D:2^k<=2^tz v:=Nat.pow_le_pow_right (by decide) l;have F:2^tz v<=2^tz v*(2*m+1):=Nat.le_mul_of_pos_right _ (by omega);omega
theorem Ey(L:H3)(k x:Nat)(l:aj (L.take k)=0)(t:L[k]?.getD 0=x)(I:x≠0)(D:x<4294967296):aj L≠0/\tz (aj L)=32*k+tz x:=by
 obtain⟨m,H⟩:=jZ x (by omega);have e:aj L=4294967296^k*(x+4294967296*aj (L.drop (k+1))):=by
  rw[jC L (k+1),aT,l,t,Nat.zero_add,Nat.pow_succ,Nat.mul_add,Nat.mul_assoc]
 have J:tz x<32:=mr x 32 (by omega) (by omega);have F:x+4294967296*aj (L.drop (k+1))=2^tz x*(2*(m+2^(31-tz x)*aj (L.drop (k+1)))+1):=by
  have G:4294967296=2^tz x*(2*2^(31-tz x)):=by
   rw[<-Nat.pow_succ',<-Nat.pow_add,show tz x+(31-tz x).succ=32 by omega]
  rw[Nat.mul_add 2,Nat.add_right_comm,Nat.mul_add (2^tz x),<-H,<-Nat.mul_assoc 2,<-Nat.mul_assoc,<-G]
 have h:aj L=2^(32*k+tz x)*(2*(m+2^(31-tz x)*aj (L.drop (k+1)))+1):=by
  rw[e,F,<-Nat.mul_assoc,mE]
 refine⟨?_,Ew _ _ _ h⟩;have:0<aj L:=by rw[h];exact Nat.mul_pos (Nat.pow_pos (by decide)) (by omega)
 omega
def oM(z:Int):Int:=z/2^tz z.natAbs
def oE(z e:Int):Int:=if z=0 then 0 else e+tz z.natAbs
def jE(z m:Int)(k:Nat):Prop:=z=m*2^k/\m%2=1
theorem jE.unique{z m m':Int}{k k':Nat}(h:jE z m k)(D:jE z m' k'):m=m'/\k=k':=by
 obtain⟨l,I⟩:=h;obtain⟨t,J⟩:=D;have F:z.natAbs=2^k*(2*(m.natAbs/2)+1):=by
  rw[l,Int.natAbs_mul,Int.natAbs_pow,Nat.mul_comm,show(2:Int).natAbs=2 from rfl,show 2*(m.natAbs/2)+1=m.natAbs by omega]
 have G:z.natAbs=2^k'*(2*(m'.natAbs/2)+1):=by
  rw[t,Int.natAbs_mul,Int.natAbs_pow,Nat.mul_comm,show(2:Int).natAbs=2 from rfl,show 2*(m'.natAbs/2)+1=m'.natAbs by omega]
 obtain⟨rfl,_⟩:=vK _ _ _ _ (F.symm.trans G);have H:(2:Int)^k≠0:=Int.pow_ne_zero (by decide);exact⟨Int.eq_of_mul_eq_mul_right H (l.symm.trans t),rfl⟩
theorem gN(z:Int)(h:z≠0):jE z (oM z) (tz z.natAbs):=by
 obtain⟨m,G⟩:=jZ z.natAbs (by omega);unfold oM;generalize tz z.natAbs=k at*;have F:(2:Int)^k≠0:=Int.pow_ne_zero (by decide);have l:z=2^k*(2*(m:Int)+1)\/z=2^k*(2*(-(m:Int)-1)+1):=by
  have e:(z.natAbs:Int)=2^k*(2*(m:Int)+1):=by rw[G];push_cast;rfl
  rcases Int.natAbs_eq z with D|D
  ·left;rw[D,e]
  ·right;rw[D,e,<-Int.mul_neg];congr 1;omega
 rcases l with l|l
 ·have t:z/2^k=2*(m:Int)+1:=by rw[l];exact Int.mul_ediv_cancel_left _ F
  rw[t];exact⟨by rw[Int.mul_comm];exact l,by omega⟩
 ·have t:z/2^k=2*(-(m:Int)-1)+1:=by rw[l];exact Int.mul_ediv_cancel_left _ F
  rw[t];exact⟨by rw[Int.mul_comm];exact l,by omega⟩
theorem jE.eq{z m:Int}{k:Nat}(h:jE z m k):z≠0/\m=oM z/\k=tz z.natAbs:=by
 have l:z≠0:=by
  rw[h.1];intro e;rcases Int.mul_eq_zero.1 e with e|e
  ·have:=h.2;rw[e]at this;simp at this
  ·exact Int.pow_ne_zero (by decide) e
 obtain⟨a,b⟩:=h.unique (gN z l);exact⟨l,a,b⟩
def bl(v:Nat):Nat:=if v=0 then 0 else Nat.log2 v+1
theorem cC(v:Nat)(h:v≠0):1<=bl v/\2^(bl v-1)<=v/\v<2^bl v:=by
 unfold bl;rw[if_neg h];exact⟨by omega,by simpa using Nat.log2_self_le h,Nat.lt_log2_self⟩
theorem dE{a b:Nat}(h:(2:Nat)^a<2^b):a<b:=(Nat.pow_lt_pow_iff_right (by decide)).1 h
theorem jn{a b:Nat}(h:a<=b):(2:Nat)^a<=2^b:=Nat.pow_le_pow_right (by decide) h
theorem vL{v n:Nat}(F:1<=n)(h:2^(n-1)<=v)(l:v<2^n):bl v=n:=by
 have G:0<2^(n-1):=Nat.two_pow_pos _;obtain⟨J,t,D⟩:=cC v (by omega);have H:=dE (Nat.lt_of_le_of_lt t l);have I:=dE (Nat.lt_of_le_of_lt h D);omega
theorem ny(v k:Nat)(h:v≠0):bl (v*2^k)=bl v+k:=by
 obtain⟨F,t,D⟩:=cC v h;have l:0<2^k:=Nat.two_pow_pos _;refine vL (by omega) ?_ ?_
 ·rw[show bl v+k-1=(bl v-1)+k by omega,Nat.pow_add]
  exact Nat.mul_le_mul_right _ t
 ·rw[Nat.pow_add]
  exact Nat.mul_lt_mul_of_pos_right D l
theorem IY{v u:Nat}(h:v<=u):bl v<=bl u:=by
 by_cases l:v=0
 ·subst l;simp[bl]
 ·obtain⟨F,t,_⟩:=cC v l
  obtain⟨_,_,D⟩:=cC u (by omega);have:=dE (Nat.lt_of_le_of_lt (Nat.le_trans t h) D);omega
def io(v k:Nat):Nat:=v/2^k+(if 2^k<2*(v%2^k)\/(2^k=2*(v%2^k)/\v/2^k%2=1)then 1 else 0)
theorem AV(v k:Nat):v/2^k<=io v k/\io v k<=v/2^k+1:=by
 unfold io;split<;>omega
theorem oF{v u:Nat}(k:Nat)(h:v<=u):io v k<=io u k:=by
 have D:v/2^k<=u/2^k:=Nat.div_le_div_right h
 by_cases l:v/2^k=u/2^k
 ·have t:=Nat.div_add_mod v (2^k)
  have F:=Nat.div_add_mod u (2^k);rw[l]at t;have G:v%2^k<=u%2^k:=by omega
  unfold io;rw[l];generalize v%2^k=r at*;generalize u%2^k=s at*;generalize u/2^k=q at*;generalize 2^k=p at*
  split<;>split<;>omega
 ·have:=(AV v k).2
  have:=(AV u k).1;omega
theorem mG(a k:Nat):io (a*2^k) k=a:=by
 have h:0<2^k:=Nat.two_pow_pos _;unfold io;rw[Nat.mul_mod_left,Nat.mul_div_cancel _ h,if_neg (by omega)];omega
theorem I4{a v k:Nat}(h:a*2^k<=v):a<=io v k:=by
 have:=oF k h;rwa[mG]at this
theorem oG{a v k:Nat}(h:v<=a*2^k):io v k<=a:=by
 have:=oF k h;rwa[mG]at this
theorem yF(v i k:Nat):io (v*2^i) (k+i)=io v k:=by
 have h:0<2^i:=Nat.two_pow_pos _;have l:v*2^i/2^(k+i)=v/2^k:=by
  rw[Nat.pow_add,Nat.mul_div_mul_right _ _ h]
 have t:v*2^i%2^(k+i)=v%2^k*2^i:=by
  rw[Nat.pow_add,Nat.mul_mod_mul_right]
 unfold io;rw[l,t,Nat.pow_add,<-Nat.mul_assoc];have D:(2^k*2^i<2*(v%2^k)*2^i)↔2^k<2*(v%2^k):=Nat.mul_lt_mul_right h;have F:(2^k*2^i=2*(v%2^k)*2^i)↔2^k=2*(v%2^k):=Nat.mul_left_inj (by omega);simp only[D,F]
theorem Ch(v k:Nat):2*(io v k*2^k)<=2*v+2^k/\2*v<=2*(io v k*2^k)+2^k:=by
 have h:=Nat.div_add_mod v (2^k);have t:=Nat.mod_lt v (Nat.two_pow_pos k);unfold io
 split
 ·rename_i l
  rw[Nat.add_mul,Nat.one_mul,Nat.mul_comm (v/2^k)];generalize 2^k*(v/2^k)=x at*;generalize v/2^k%2=z at*;generalize v%2^k=r at*;generalize 2^k=p at*;omega
 ·rename_i l
  rw[Nat.add_zero,Nat.mul_comm (v/2^k)];generalize 2^k*(v/2^k)=x at*;generalize v/2^k%2=z at*;generalize v%2^k=r at*;generalize 2^k=p at*;omega
def mS(v:Nat)(j:Int):Nat:=if 0<=j then v*2^j.toNat else io v (-j).toNat
theorem nz(v k:Nat):mS v (k:Int)=v*2^k:=by unfold mS;rw[if_pos (by omega)];simp
theorem gi(v k:Nat)(h:1<=k):mS v (-(k:Int))=io v k:=by unfold mS;rw[if_neg (by omega)];simp
theorem I5{v u:Nat}(j:Int)(h:v<=u):mS v j<=mS u j:=by
 unfold mS
 split
 ·exact Nat.mul_le_mul_right _ h
 ·exact oF _ h
theorem Ez(v i:Nat)(j:Int):mS (v*2^i) j=mS v (j+i):=by
 rcases Int.eq_ofNat_of_zero_le (a:=if 0<=j then j else-j) (by split<;>omega)with⟨k,hk⟩
 by_cases h:0<=j
 ·rw[if_pos h]at hk
  subst hk;rw[nz,show((k:Int)+(i:Int))=((i+k:Nat):Int) by omega,nz,Nat.pow_add,Nat.mul_assoc]
 ·rw[if_neg h]at hk
  obtain rfl:j= -(k:Int):=by omega
  rw[gi _ _ (by omega)]
  by_cases l:k<=i
  ·obtain⟨d,rfl⟩:=Nat.exists_eq_add_of_le l
   rw[show(-(k:Int)+((k+d:Nat):Int))=(d:Int) by omega,nz,Nat.add_comm k d,Nat.pow_add,<-Nat.mul_assoc,mG]
  ·obtain⟨d,rfl⟩:=Nat.exists_eq_add_of_le (show i<=k by omega)
   rw[show(-((i+d:Nat):Int)+(i:Int))= -(d:Int) by omega,gi _ _ (by omega),Nat.add_comm i d,yF]
def pN(v:Nat)(j:Int):Nat:=if 0<=j+1 then v*2^(j+1).toNat else v/2^(-(j+1)).toNat
def Pq(v:Nat)(j:Int):Bool:=decide (pN v j%2=1)&&(!decide (j= -1)||decide (pN v j/2%2=1))
def pM(v:Nat)(j:Int):Nat:=(pN v j+(Pq v j).toNat)/2
theorem Pw(v:Nat)(j:Int)(h:v%2=1):pM v j=mS v j:=by
 by_cases F:0<=j
 ·obtain⟨k,rfl⟩:=Int.eq_ofNat_of_zero_le F
  have t:pN v k=v*2^k*2:=by
   unfold pN;rw[if_pos (by omega),show((k:Int)+1).toNat=k+1 by omega,Nat.pow_succ,Nat.mul_assoc]
  have G:Pq v k=false:=by
   unfold Pq;rw[t,decide_eq_false (by omega)];rfl
  rw[nz];unfold pM;rw[G,t]
  simp
 ·obtain⟨k,O⟩:=Int.eq_ofNat_of_zero_le (show 0<=-j by omega)
  obtain rfl:j= -(k:Int):=by omega
  obtain⟨i,rfl⟩:∃i,k=i+1:=⟨k-1,by omega⟩;rw[gi _ _ (by omega)];have t:pN v (-((i+1:Nat):Int))=v/2^i:=by
   unfold pN
   by_cases l:i=0
   ·subst l;simp
   ·rw[if_neg (by omega),show(-(-((i+1:Nat):Int)+1)).toNat=i by omega]
  have H:decide (-((i+1:Nat):Int)= -1)=decide (i=0):=by
   by_cases l:i=0
   ·subst l;simp
   ·rw[decide_eq_false l,decide_eq_false (by omega)]
  have I:v/2^(i+1)=v/2^i/2:=by rw[Nat.pow_succ,Nat.div_div_eq_div_mul]
  have J:v%2^(i+1)=v%2^i+2^i*(v/2^i%2):=by rw[Nat.pow_succ,Nat.mod_mul]
  have K:i≠0->0<v%2^i:=by
   intro l;have:v%2^i%2=v%2:=Nat.mod_mod_of_dvd _ (by obtain⟨m,rfl⟩:∃m,i=m+1:=⟨i-1,by omega⟩;rw[Nat.pow_succ];exact Nat.dvd_mul_left _ _);omega
  have N:=Nat.mod_lt v (Nat.two_pow_pos i);unfold pM Pq io;rw[t,H,I,J,Nat.pow_succ]
  by_cases l:i=0
  ·subst l
   simp only[Nat.pow_zero,Nat.div_one,Nat.mod_one,Nat.zero_add,Nat.one_mul,h]
   by_cases D:v/2%2=1
   ·simp[D]<;>omega
   ·simp[D]<;>omega
  ·have L:=K l
   simp only[decide_eq_false l,Bool.not_false,Bool.true_or,Bool.and_true];generalize v/2^i=n at*;generalize v%2^i=s at*;generalize 2^i=p at*
   by_cases D:n%2=1
   ·rw[D,if_pos (by left;omega)]
    simp;omega
   ·have M:n%2=0:=by omega
    rw[M,if_neg (by omega)]
    simp
def aP(v:Nat)(E:Int):Int:=max ((bl v:Int)+E-53) (-1074)
def gO(v:Nat)(E:Int):Nat:=mS v (E-aP v E)
def cU(v:Nat)(E:Int):Nat:=if v=0 then 0 else if 1024<(bl v:Int)+E then 9218868437227405312 else gO v E+(aP v E+1074).toNat*4503599627370496
def cD(v:Nat)(E:Int):Int:=if v=0 then 0 else if 1024<(bl v:Int)+E then 5 else if aP v E<=E then 0 else if cU v E=9218868437227405312 then 5 else if cU v E<4503599627370496 then 3 else 1
theorem dk(v:Nat)(E:Int):-1074<=aP v E/\(bl v:Int)+E-53<=aP v E/\(aP v E= -1074\/aP v E=(bl v:Int)+E-53):=by
 unfold aP;omega
theorem IF:(2:Nat)^53=9007199254740992:=by decide
theorem Ng:(2:Nat)^52=4503599627370496:=by decide
theorem eW(v:Nat)(E:Int)(h:v≠0):gO v E<=9007199254740992/\(-1074<aP v E->4503599627370496<=gO v E)/\(aP v E<=E->gO v E<9007199254740992):=by
 obtain⟨M,N,O⟩:=dk v E;obtain⟨Q,H,I⟩:=cC v h;unfold gO;generalize aP v E=l at*;rcases Int.le_total l E with J|J
 ·obtain⟨k,K⟩:=Int.eq_ofNat_of_zero_le (show 0<=E-l by omega)
  rw[K,nz];have L:0<2^k:=Nat.two_pow_pos _;have D:v*2^k<2^53:=by
   have t:v*2^k<2^bl v*2^k:=Nat.mul_lt_mul_of_pos_right I L;rw[<-Nat.pow_add]at t;exact Nat.lt_of_lt_of_le t (jn (by omega))
  rw[IF]at D;refine⟨by omega,fun F=>?_,fun _=>D⟩;have t:2^(bl v-1)*2^k<=v*2^k:=Nat.mul_le_mul_right _ H;rw[<-Nat.pow_add,show bl v-1+k=52 by omega,Ng]at t;exact t
 ·obtain⟨k,K⟩:=Int.eq_ofNat_of_zero_le (show 0<=l-E by omega)
  by_cases G:k=0
  ·subst G
   rw[show E-l=((0:Nat):Int) by omega,nz];have D:v<2^53:=Nat.lt_of_lt_of_le I (jn (by omega));rw[IF]at D;refine⟨by omega,fun F=>?_,fun _=>by omega⟩;rw[show bl v-1=52 by omega,Ng]at H;omega
  ·rw[show E-l= -(k:Int) by omega,gi _ _ (by omega)]
   refine⟨?_,fun F=>?_,fun F=>by omega⟩
   ·rw[<-IF]
    refine oG ?_;rw[<-Nat.pow_add];exact Nat.le_trans (Nat.le_of_lt I) (jn (by omega))
   ·rw[<-Ng]
    refine I4 ?_;rw[<-Nat.pow_add,show 52+k=bl v-1 by omega];exact H
theorem gj(v:Nat)(E:Int)(h:v≠0)(l:(bl v:Int)+E<=1024):cU v E=gO v E+(aP v E+1074).toNat*4503599627370496:=by
 unfold cU;rw[if_neg h,if_neg (by omega)]
theorem ej(v:Nat)(E:Int):cU v E<=9218868437227405312:=by
 by_cases h:v=0
 ·subst h;simp[cU]
 ·by_cases l:1024<(bl v:Int)+E
  ·unfold cU;rw[if_neg h,if_pos l];exact Nat.le_refl _
  ·rw[gj v E h (by omega)]
   obtain⟨t,D,F⟩:=dk v E;have:=(eW v E h).1;omega
theorem tC(v i:Nat)(E:Int):cU (v*2^i) E=cU v (E+i):=by
 by_cases h:v=0
 ·subst h;simp[cU]
 ·have F:0<2^i:=Nat.two_pow_pos _
  have t:v*2^i≠0:=Nat.mul_ne_zero h (by omega);have l:=ny v i h;have D:aP (v*2^i) E=aP v (E+i):=by unfold aP;rw[l];congr 1;omega
  unfold cU gO;rw[if_neg h,if_neg t,D,l,Ez,show E-aP v (E+i)+i=E+i-aP v (E+i) by omega,show((bl v+i:Nat):Int)+E=(bl v:Int)+(E+i) by omega]
theorem nA{v u:Nat}(E:Int)(h:v<=u):cU v E<=cU u E:=by
 by_cases l:v=0
 ·subst l;simp[cU]
 ·have G:=IY h
  by_cases D:1024<(bl u:Int)+E
  ·have:cU u E=9218868437227405312:=by unfold cU;rw[if_neg (by omega),if_pos D]
   rw[this];exact ej v E
  ·rw[gj v E l (by omega),gj u E (by omega) (by omega)]
   obtain⟨H,I,J⟩:=dk v E;obtain⟨K,L,M⟩:=dk u E
   by_cases t:aP v E=aP u E
   ·have:gO v E<=gO u E:=by unfold gO;rw[t];exact I5 _ h
    rw[t];omega
   ·have F:aP v E<aP u E:=by omega
    have:=(eW v E l).1;have:=(eW u E (by omega)).2.1 (by omega);omega
def rv(r:Nat):Nat:=if r<4503599627370496 then r else(4503599627370496+r%4503599627370496)*2^(r/4503599627370496-1)
theorem tD(m k:Nat)(D:m<=9007199254740992)(l:k≠0->4503599627370496<=m):rv (m+k*4503599627370496)=m*2^k:=by
 unfold rv
 by_cases h:m+k*4503599627370496<4503599627370496
 ·rw[if_pos h]
  obtain rfl:k=0:=by omega
  simp
 ·rw[if_neg h]
  by_cases F:m<9007199254740992
  ·have G:4503599627370496<=m:=by
    by_cases t:k=0
    ·omega
    ·exact l t
   rw[show(m+k*4503599627370496)/4503599627370496=k+1 by omega,show(m+k*4503599627370496)%4503599627370496=m-4503599627370496 by omega,show 4503599627370496+(m-4503599627370496)=m by omega];rfl
  ·obtain rfl:m=9007199254740992:=by omega
   rw[show(9007199254740992+k*4503599627370496)/4503599627370496=k+2 by omega,show(9007199254740992+k*4503599627370496)%4503599627370496=0 by omega,show k+2-1=k+1 by omega,Nat.pow_succ];omega
theorem um(r:Nat):rv r<rv (r+1):=by
 by_cases h:r<4503599627370496
 ·have l:=tD r 0 (by omega) (by simp)
  have t:=tD (r+1) 0 (by omega) (by simp)
  simp at l t
  rw[l,t];omega
 ·obtain⟨k,G⟩:∃k,r/4503599627370496=k+1:=⟨r/4503599627370496-1,by omega⟩
  have D:r=(4503599627370496+r%4503599627370496)+k*4503599627370496:=by omega
  generalize H:4503599627370496+r%4503599627370496=m at*;have F:m<9007199254740992:=by omega
  have l:=tD m k (by omega) (fun _=>by omega);have t:=tD (m+1) k (by omega) (fun _=>by omega);rw[<-D]at l;rw[show m+1+k*4503599627370496=r+1 by omega]at t;rw[l,t];exact Nat.mul_lt_mul_of_pos_right (by omega) (Nat.two_pow_pos _)
theorem j0{r s:Nat}(h:r<=s):rv r<=rv s:=by
 obtain⟨d,rfl⟩:=Nat.exists_eq_add_of_le h
 induction d with
 |zero=>exact Nat.le_refl _
 |succ d ih=>exact Nat.le_trans (ih (by omega)) (Nat.le_of_lt (um (r+d)))
theorem gp:rv 0=0:=by decide
open Go.RowKit
def fS(b:Nat):Bool:=decide (9223372036854775808<=b)
def fP(b:Nat):Nat:=b%9223372036854775808/4503599627370496
def fF(b:Nat):Nat:=b%4503599627370496
def fN(b:Nat):Nat:=if 9223372036854775808<=b then b-9223372036854775808 else b+9223372036854775808
def fK(b:Nat):Int:=if fP b=2047 then(if fF b=0 then 3 else 4)else if fP b=0 then(if fF b=0 then 0 else 1)else 2
theorem I6(b:Nat)(h:b<18446744073709551616):bits .and .u64 (b:Int) 9223372036854775808=if fS b then 9223372036854775808 else 0:=by
 have D:=bits_and_u64_nat b 9223372036854775808 h (by decide);refine D.trans ?_;have F:(b&&& 2^63)%2^63=0:=by rw[Nat.and_mod_two_pow];simp
 have G:(b&&& 2^63)/2^63=(b/2^63)&&& 1:=by rw[Nat.and_div_two_pow]
 rw[show(9223372036854775808:Nat)=2^63 by decide];have l:=Nat.div_add_mod (b&&& 2^63) (2^63);rw[F,G]at l;unfold fS
 by_cases t:9223372036854775808<=b
 ·rw[decide_eq_true t,if_pos rfl]
  rw[show b/2^63=1 by omega]at l;simp only[Nat.and_self]at l;omega
 ·rw[decide_eq_false t,if_neg (by simp)]
  rw[show b/2^63=0 by omega]at l;simp only[Nat.zero_and]at l;omega
theorem I7(b:Nat)(h:b<18446744073709551616):bits .and .u64 (b:Int) 4503599627370495=(fF b:Int):=by
 have l:=bits_and_u64_nat b 4503599627370495 h (by decide);refine l.trans ?_;have t:b&&& 2^52-1=b%2^52:=Nat.and_two_pow_sub_one_eq_mod b 52;rw[show(4503599627370495:Nat)=2^52-1 by decide,t];rfl
theorem I8(b:Nat)(h:b<18446744073709551616):bits .and .u64 ((b:Int)/4503599627370496) 2047=(fP b:Int):=by
 have l:=bits_and_u64_nat (b/4503599627370496) 2047 (by omega) (by decide);refine l.trans ?_;have t:(b/4503599627370496)&&& 2^11-1=(b/4503599627370496)%2^11:=Nat.and_two_pow_sub_one_eq_mod _ 11;rw[show(2047:Nat)=2^11-1 by decide,t];unfold fP;omega
theorem I9(b:Nat)(h:b<18446744073709551616):bits .xor .u64 (b:Int) 9223372036854775808=(fN b:Int):=by
 have D:=bits_xor_u64_nat b 9223372036854775808 h (by decide);refine D.trans ?_;have F:(b ^^^ 2^63)%2^63=b%2^63:=by rw[Nat.xor_mod_two_pow];simp
 have G:(b ^^^ 2^63)/2^63=(b/2^63) ^^^ 1:=by rw[Nat.xor_div_two_pow]
 rw[show(9223372036854775808:Nat)=2^63 by decide];unfold fN;have l:=Nat.div_add_mod (b ^^^ 2^63) (2^63);rw[F,G]at l
 by_cases t:9223372036854775808<=b
 ·rw[if_pos t]
  rw[show b/2^63=1 by omega]at l;simp only[Nat.xor_self]at l;omega
 ·rw[if_neg t]
  rw[show b/2^63=0 by omega]at l;simp only[Nat.zero_xor]at l;omega
theorem tE(b:Nat):fP b<2048:=by unfold fP;omega
theorem vM(b:Nat):fF b<4503599627370496:=by unfold fF;omega
theorem iY(b:Nat)(h:b<18446744073709551616):fN b<18446744073709551616:=by unfold fN;split<;>omega
def c8(w:World)(b:Nat)(x y z:Value):Prop:=w.heap[b]? =some (.cells #[x,y,z] 183 (0,0))
theorem c8.c0{w:World}{b:Nat}{x y z:Value}(h:c8 w b x y z):w.cell? ⟨b,0,none⟩=some x:=by rw[cell_of_row w b 0 _ _ _ h];rfl
theorem c8.c1{w:World}{b:Nat}{x y z:Value}(h:c8 w b x y z):w.cell? ⟨b,1,none⟩=some y:=by rw[cell_of_row w b 1 _ _ _ h];rfl
theorem c8.c2{w:World}{b:Nat}{x y z:Value}(h:c8 w b x y z):w.cell? ⟨b,2,none⟩=some z:=by rw[cell_of_row w b 2 _ _ _ h];rfl
theorem c8.lt{w:World}{b:Nat}{x y z:Value}(h:c8 w b x y z):b<w.heap.size:=(Array.getElem?_eq_some_iff.1 h).1
theorem c8.below{w t:World}{b:Nat}{x y z:Value}(h:c8 w b x y z){B:Nat}(D:Below B w t)(l:b<B):c8 t b x y z:=(D.block b l).trans h
theorem c8.new(w:World)(x y z:Value):c8 (w.alloc (.cells #[x,y,z] 183)) w.heap.size x y z:=heap_alloc_new w _
theorem c8.all{w l:World}{b:Nat}{x y z:Value}(h:c8 w b x y z)(t:H8 w l):c8 l b x y z:=h.below t h.lt
def fV(b:Nat):Value:=.agg #[.bool (fS b),CI (fP b),CI (fF b)]
theorem h9(b:Nat)(w:World)(h:b<18446744073709551616):
  BS 200 #[CI b] w (fV b):=by
 have l:=I6 b h;have t:=I7 b h;have D:=I8 b h;unfold fV;generalize fF b=f at*;generalize fP b=p at*;generalize fS b=s at*;have H:(0:Int)<=b:=by omega
 have G:(b:Int)<18446744073709551616:=by omega
 clear h
 cases s
 ·simp only[Bool.false_eq_true,if_false]at l
  go_enter Tryz.func200,Tryz.ntmps200
  go_wp2_with(simp only[l,t,D])
  refine bodyPost_ret (v:=.agg #[.bool false,CI p,CI f]) (by simp[results,Tryz.results200,go_sem]) rfl ⟨rfl,(Below.refl _ _).alloc (Nat.le_refl _) _⟩
 ·simp only[if_true]at l
  go_enter Tryz.func200,Tryz.ntmps200
  go_wp2_with(simp only[l,t,D])
  refine bodyPost_ret (v:=.agg #[.bool true,CI p,CI f]) (by simp[results,Tryz.results200,go_sem]) rfl ⟨rfl,(Below.refl _ _).alloc (Nat.le_refl _) _⟩
theorem iZ(b:Nat)(w:World)(h:b<18446744073709551616):
  GF 162 #[CI b] w fun e l=>e=.returned (CI (fN b))/\w=l:=by
 have t:=I9 b h;generalize fN b=f at*;clear h
 go_enter Tryz.func162,Tryz.ntmps162
 go_wp2_with(simp only[t])
 go_ret
 exact⟨rfl,rfl⟩
theorem yG(s:Bool)(p f:Int)(W:World):(Instr.field 183 (.agg #[.bool s,CI p,CI f]) 0).run Tryz.prog W=.ok (.bool s) W:=by kernel_rfl
theorem gD(b:Nat)(w:World)(h:b<18446744073709551616):
  BS 161 #[CI b] w (.bool (fS b)):=by
 have D:=ac (fun l=>h9 b l h);unfold fV at D;generalize fF b=f at*;generalize fP b=p at*;generalize fS b=s at*;have F:=fun W=>yG s p f W
 clear h
 go_enter Tryz.func161,Tryz.ntmps161
 go_wp2_with(go_at_call 200;refine(uH D _).mono ?_;rintro r G ⟨rfl,t⟩)
 go_ret
 exact⟨rfl,t⟩
theorem lu(b:Nat)(w:World)(h:b<18446744073709551616):
  GF 115 #[CI b] w fun e D=>e=.returned (.bool (fS b))/\w=D:=by
 unfold fS
 by_cases l:9223372036854775808<=b
 ·rw[decide_eq_true l]
  have t:(b:Int)/9223372036854775808=1:=by omega
  clear l h
  go_enter Tryz.func115,Tryz.ntmps115
  go_wp2_with(simp only[t])
  go_ret
  exact⟨rfl,rfl⟩
 ·rw[decide_eq_false l]
  have t:(b:Int)/9223372036854775808=0:=by omega
  clear l h
  go_enter Tryz.func115,Tryz.ntmps115
  go_wp2_with(simp only[t])
  go_ret
  exact⟨rfl,rfl⟩
theorem mH(b:Nat)(w:World)(_h:b<18446744073709551616):
  GF 114 #[CI b] w fun e h=>e=.returned (C0 (fP b))/\w=h:=by
 have l:(b:Int)%9223372036854775808/4503599627370496=(fP b:Int):=by unfold fP;omega
 have t:=tE b;generalize fP b=p at*
 go_enter Tryz.func114,Tryz.ntmps114
 go_wp2_with(simp only[l])
 go_ret
 exact⟨rfl,rfl⟩
theorem tG(b:Nat)(w:World)(_h:b<18446744073709551616):
  GF 113 #[CI b] w fun e h=>e=.returned (CI (fF b))/\w=h:=by
 have l:(b:Int)%4503599627370496=(fF b:Int):=by unfold fF;omega
 have t:=vM b;generalize fF b=p at*
 go_enter Tryz.func113,Tryz.ntmps113
 go_wp2_with(simp only[l])
 go_ret
 exact⟨rfl,rfl⟩
end Go.Proofs.YtcbcmlaogehimaaGreatDoor
