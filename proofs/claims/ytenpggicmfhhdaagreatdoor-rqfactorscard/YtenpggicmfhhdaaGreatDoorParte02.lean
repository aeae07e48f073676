/- Part 2 of the texts. -/
import Derived.Test.YtenpggicmfhhdaaGreatDoorParte01
namespace Go.Proofs.YtenpggicmfhhdaaGreatDoor
open Go.RowKit
def ad(neg:Bool)(L:List Nat):Int:=if neg then-(ah L:Int)else(ah L:Int)
def ay(B:Nat)(w:World)(v:Value)(x:Int):Prop:=
 ∃neg ao cap L,v=.agg #[.bool neg,.slice ao L.length cap]∧af w ao cap L∧bI B ao L∧bM L∧neg=decide (x<0)∧ah L=x.natAbs∧L.length≤35184372088832
def ko:Nat:=512
def di:Nat:=4294967296^ko
def bD(x:Int):Int:=if x.natAbs<di then 0 else 2
def dj(x:Int):Int:=if x.natAbs<di then x else 0
theorem bI.mono{B f:Nat}{l:Option Addr}{L:List Nat}(h:bI B l L)(m:f≤B):bI f l L:=by
 rcases h with h|⟨b,d,t,y⟩
 ·exact .inl h
 ·exact .inr ⟨b,d,t,Nat.le_trans m y⟩
theorem bI.zero{w:World}{l:Option Addr}{d:Nat}{L:List Nat}(h:af w l d L):bI 0 l L:=by
 rcases h.2.2 with h|⟨b,f,m,_⟩
 ·exact .inl h
 ·exact .inr ⟨b,f,m,Nat.zero_le _⟩
theorem ay.below{B:Nat}{w f:World}{v:Value}{x:Int}(h:ay B w v x)(l:Below w.heap.size w f):ay B f v x:=by
 obtain⟨neg,m,d,L,t,y,z⟩:=h
 exact⟨neg,m,d,L,t,y.below l,z⟩
theorem ay.mono{B f:Nat}{w:World}{v:Value}{x:Int}(h:ay B w v x)(l:f≤B):ay f w v x:=by
 obtain⟨neg,m,d,L,t,y,z,A⟩:=h
 exact⟨neg,m,d,L,t,y,z.mono l,A⟩
theorem ay.zero(B:Nat)(w:World)(f:Option Addr)(d:Nat):ay B w (.agg #[.bool false,.slice f 0 d]) 0:=
 ⟨false,f,d,[],rfl,af.nil _ _ _,.inl rfl,.inl rfl,rfl,rfl,by simp⟩
theorem aS(neg:Bool)(L:List Nat):(ad neg L).natAbs=ah L:=by
 unfold ad;cases neg<;>simp
theorem ay.mk{B:Nat}{w:World}{neg:Bool}{f:Option Addr}{d:Nat}{L:List Nat}(h:af w f d L)(l:bI B f L)(c:bM L)(m:L≠ [])(t:L.length≤35184372088832):ay B w (.agg #[.bool neg,.slice f L.length d]) (ad neg L):=by
 refine⟨neg,f,d,L,rfl,h,l,c,?_,(aS neg L).symm,t⟩
 have y:ah L≠0:=fun e=>m ((aM L c).1 e)
 unfold ad;cases neg<;>simp<;>omega
theorem lH{neg:Bool}{L d:List Nat}(h:ah L=ah d):ad neg L=ad neg d:=by unfold ad;rw[h]
theorem gA(neg:Bool):ad neg []=0:=by unfold ad;cases neg<;>simp[ah]
theorem dw(L:List Nat)(h:bd L)(c:bM L):ah L<di↔L.length≤512:=(nH L h c ko).symm
end Go.Proofs.YtenpggicmfhhdaaGreatDoor
namespace Go.Proofs.YtenpggicmfhhdaaGreatDoor
theorem xy(A B S:List Nat)(k c x y t d:Nat)(f:k<S.length)(l:A[k]?.getD 0=x)(m:B[k]?.getD 0=y)(z:t+y+c=x+4294967296*d)(h:ah (S.take k)+ah (B.take k)=ah (A.take k)+4294967296^k*c):
  ah ((S.set k t).take (k+1))+ah (B.take (k+1))=ah (A.take (k+1))+4294967296^(k+1)*d:=by
 rw[gU S k _ f,aJ A k,aJ B k,l,m,Nat.pow_succ]
 have e:4294967296^k*(t+y+c)=4294967296^k*(x+4294967296*d):=by rw[z]
 rw[Nat.mul_add,Nat.mul_add,Nat.mul_add,←Nat.mul_assoc]at e
 omega
theorem ut(A B S:List Nat)(n c:Nat)(f:bd S)(l:S.length=n)(y:A.length=n)(z:ah B≤ah A)(m:ah (B.take n)=ah B)(h:ah (S.take n)+ah (B.take n)=ah (A.take n)+4294967296^n*c):
  ah S=ah A-ah B:=by
 rw[cZ S n (by omega),cZ A n (by omega),m]at h
 have t:=dL S f
 rw[l]at t
 rcases Nat.eq_zero_or_pos c with d|d
 ·subst d;omega
 ·have D:=Nat.mul_le_mul_left (4294967296^n) d
  omega
theorem uu(A B:List Nat)(d:bd A)(h:ah B≤ah A):ah (B.take A.length)=ah B:=by
 have f:=gz B A.length
 have l:=dL A d
 rcases Nat.eq_zero_or_pos (ah (B.drop A.length))with e|e
 ·rw[e]at f;omega
 ·have m:=Nat.mul_le_mul_left (4294967296^A.length) e
  omega
theorem qi(S:List Nat)(x:Nat):ah (S++[x])=ah S+4294967296^S.length*x:=by rw[jo];simp[ah]
theorem bd.snoc{S:List Nat}(h:bd S){x:Nat}(l:x<4294967296):bd (S++[x]):=fun y f=>by
 rcases List.mem_append.1 f with d|d
 ·exact h y d
 ·simp at d;omega
theorem vh(A B S:List Nat)(c x y:Nat)(d:A[S.length]?.getD 0=x)(f:B[S.length]?.getD 0=y)(h:ah S+4294967296^S.length*c=ah (A.take S.length)+ah (B.take S.length)):
  ah (S++[(x+y+c)%4294967296])+4294967296^(S.length+1)*((x+y+c)/4294967296)=ah (A.take (S.length+1))+ah (B.take (S.length+1)):=by
 rw[qi,aJ A,aJ B,d,f]
 have e:=jG (4294967296^S.length) 4294967296 (x+y+c)
 rw[Nat.pow_succ]
 rw[Nat.mul_add,Nat.mul_add]at e
 omega
theorem sl(A B S:List Nat)(c x y t d:Nat)(f:A[S.length]?.getD 0=x)(l:B[S.length]?.getD 0=y)(m:t+y+c=x+4294967296*d)(h:ah S+ah (B.take S.length)=ah (A.take S.length)+4294967296^S.length*c):
  ah (S++[t])+ah (B.take (S.length+1))=ah (A.take (S.length+1))+4294967296^(S.length+1)*d:=by
 rw[qi,aJ A,aJ B,f,l,Nat.pow_succ]
 have e:4294967296^S.length*(t+y+c)=4294967296^S.length*(x+4294967296*d):=by rw[m]
 rw[Nat.mul_add,Nat.mul_add,Nat.mul_add,←Nat.mul_assoc]at e
 omega
theorem jH:∀(S:List Nat) (j t:Nat),j<S.length→ah (S.set j t)+4294967296^j*(S[j]?.getD 0)=ah S+4294967296^j*t
 | [],_,_,h=>by simp at h
 |x::r,0,t,_=>by simp[ah];omega
 |x::r,j+1,t,h=>by
  have l:=jH r j t (by simpa using h)
  simp only[List.set_cons_succ,ah,List.getElem?_cons_succ,Nat.pow_succ]
  have d:4294967296^j*4294967296*(r[j]?.getD 0)=4294967296*(4294967296^j*(r[j]?.getD 0)):=by rw[Nat.mul_comm (4294967296^j),Nat.mul_assoc]
  have f:4294967296^j*4294967296*t=4294967296*(4294967296^j*t):=by rw[Nat.mul_comm (4294967296^j),Nat.mul_assoc]
  rw[d,f]
  omega
theorem eH(S:List Nat)(j k t:Nat)(h:k≠j):(S.set j t)[k]?.getD 0=S[k]?.getD 0:=by
 rw[List.getElem?_set_ne (by omega)]
theorem xz(x y:Nat)(d:x<4294967296)(f:y<4294967296):x*y≤18446744065119617025:=by
 have:=Nat.mul_le_mul (show x≤4294967295 by omega) (show y≤4294967295 by omega)
 simpa using this
theorem AX(x y:Nat)(d:x<4294967296)(f:y<4294967296):(x:Int)*(y:Int)≤18446744065119617025∧(0:Int)≤(x:Int)*(y:Int):=by
 have h:=xz x y d f
 have e:((x*y:Nat):Int)=(x:Int)*(y:Int):=Int.natCast_mul x y
 rw[←e]
 omega
theorem vi(x y z q:Nat):(((y+(x*z+q))%4294967296:Nat):Int)=((y:Int)+((x:Int)*(z:Int)+(q:Int)))%4294967296∧(((y+(x*z+q))/4294967296:Nat):Int)=((y:Int)+((x:Int)*(z:Int)+(q:Int)))/4294967296:=by
 have e:((x*z:Nat):Int)=(x:Int)*(z:Int):=Int.natCast_mul x z
 rw[←e]
 omega
theorem xA(B Q:List Nat)(V x i k c y q:Nat)(d:i+k<Q.length)(f:B[k]?.getD 0=y)(l:Q[i+k]?.getD 0=q)(h:ah Q+4294967296^(i+k)*c=V+4294967296^i*x*ah (B.take k)):
  ah (Q.set (i+k) ((c+(x*y+q))%4294967296))+4294967296^(i+(k+1))*((c+(x*y+q))/4294967296)=V+4294967296^i*x*ah (B.take (k+1)):=by
 have m:=jH Q (i+k) ((c+(x*y+q))%4294967296) d
 rw[l]at m
 have e:=jG (4294967296^(i+k)) 4294967296 (c+(x*y+q))
 rw[show 4294967296^(i+(k+1))=4294967296^(i+k)*4294967296 by rw[←Nat.add_assoc,Nat.pow_succ],aJ B k,f]
 have t:4294967296^i*x*(ah (B.take k)+4294967296^k*y)=4294967296^i*x*ah (B.take k)+4294967296^(i+k)*(x*y):=by
  rw[Nat.mul_add,Nat.pow_add]
  congr 1
  rw[Nat.mul_assoc,Nat.mul_assoc,←Nat.mul_assoc x,Nat.mul_comm x,Nat.mul_assoc]
 rw[t]
 have z:4294967296^(i+k)*(c+(x*y+q))=4294967296^(i+k)*c+4294967296^(i+k)*(x*y)+4294967296^(i+k)*q:=by rw[Nat.mul_add,Nat.mul_add];omega
 omega
theorem AY(A B Q:List Nat)(x i c:Nat)(d:i+B.length<Q.length)(f:A[i]?.getD 0=x)(l:Q[i+B.length]?.getD 0=0)(h:ah Q+4294967296^(i+B.length)*c=ah (A.take i)*ah B+4294967296^i*x*ah (B.take B.length)):
  ah (Q.set (i+B.length) c)=ah (A.take (i+1))*ah B:=by
 have m:=jH Q (i+B.length) c d
 rw[l,Nat.mul_zero]at m
 rw[List.take_length]at h
 rw[aJ A i,f,Nat.add_mul]
 omega
theorem AZ(s y p:Nat)(d:s<2^p)(f:y%2^p=0):s|||y=s+y:=by
 have h:=Nat.two_pow_add_eq_or_of_lt d (y/2^p)
 have e:2^p*(y/2^p)=y:=by have:=Nat.div_add_mod y (2^p);omega
 rw[e]at h
 rw[Nat.or_comm,←h];omega
theorem xB(x p:Nat)(d:p≤32):(x*2^p)%4294967296%2^p=0:=by
 have e:(4294967296:Nat)=2^p*2^(32-p):=by rw[←Nat.pow_add,show p+(32-p)=32 by omega]
 rw[e,Nat.mod_mul_right_mod]
 exact Nat.mul_mod_left _ _
theorem vk(x p:Nat)(d:x<4294967296)(_hp:p≤31):(x*2^p)/4294967296<2^p:=by
 rw[Nat.div_lt_iff_lt_mul (by decide),Nat.mul_comm]
 exact Nat.mul_lt_mul_of_pos_left d (Nat.pow_pos (by decide))
theorem pe(x p:Nat)(h:x<4294967296)(d:p≤31):x*2^p<9223372036854775808:=by
 have f:2^p≤2^31:=Nat.pow_le_pow_right (by decide) d
 have l:=Nat.mul_le_mul (show x≤4294967295 by omega) f
 omega
theorem A7(A S:List Nat)(i l p x s:Nat)(d:i+l+1<S.length)(m:A[i]?.getD 0=x)(t:S[i+l]?.getD 0=s)(y:S[i+l+1]?.getD 0=0)(h:ah S=4294967296^l*2^p*ah (A.take i)):
  ah ((S.set (i+l) (s+(x*2^p)%4294967296)).set (i+l+1) ((x*2^p)/4294967296))=4294967296^l*2^p*ah (A.take (i+1)):=by
 have z:=jH S (i+l) (s+(x*2^p)%4294967296) (by omega)
 have f:=jH (S.set (i+l) (s+(x*2^p)%4294967296)) (i+l+1) ((x*2^p)/4294967296) (by simpa using d)
 rw[eH _ _ _ _ (by omega),y,Nat.mul_zero]at f
 rw[t,Nat.mul_add]at z
 have e:=jG (4294967296^(i+l)) 4294967296 (x*2^p)
 rw[Nat.pow_succ]at f
 rw[aJ A i,m,Nat.mul_add]
 have D:4294967296^l*2^p*(4294967296^i*x)=4294967296^(i+l)*(x*2^p):=by
  rw[Nat.pow_add]
  rw[Nat.mul_assoc,Nat.mul_comm (4294967296^i) (4294967296^l),Nat.mul_assoc]
  congr 1
  rw[Nat.mul_comm (2^p),Nat.mul_assoc]
 rw[D]
 omega
theorem qj(L:List Nat)(h:bd L)(k:Nat):ah (L.drop k)=ah L/4294967296^k:=by
 have d:=gz L k
 have f:=gc L h k
 rw[d,Nat.add_comm,Nat.mul_comm,Nat.add_comm]
 rw[Nat.add_mul_div_right _ _ (Nat.pow_pos (by decide)),Nat.div_eq_of_lt f,Nat.zero_add]
theorem pf(D:List Nat):ah D=D[0]?.getD 0+4294967296*(D[1]?.getD 0)+4294967296*4294967296*ah (D.drop 2):=by
 match D with
 | []=>simp[ah]
 | [x]=>simp[ah]
 |x::y::r=>simp only[ah,List.getElem?_cons_zero,List.getElem?_cons_succ,Option.getD_some,List.drop_succ_cons,List.drop_zero];rw[Nat.mul_add,←Nat.mul_assoc];omega
theorem A8(d f r p:Nat)(h:p≤31):((d+4294967296*f+4294967296*4294967296*r)/2^p)%4294967296=((d+4294967296*f)/2^p)%4294967296:=by
 have e:(4294967296*4294967296*r:Nat)=2^p*(2^(32-p)*(4294967296*r)):=by
  rw[←Nat.mul_assoc (2^p),←Nat.pow_add,show p+(32-p)=32 by omega]
  rw[Nat.mul_assoc]
 rw[e,Nat.add_mul_div_left _ _ (Nat.pow_pos (by decide)),←Nat.mul_assoc,Nat.mul_comm (2^(32-p)),Nat.mul_assoc,Nat.add_mul_mod_self_left]
theorem ou(A S:List Nat)(m:bd A)(k l p d f:Nat)(t:p≤31)(y:k<S.length)(z:A[k+l]?.getD 0=d)(D:A[k+l+1]?.getD 0=f)(h:ah (S.take k)=(ah A/(4294967296^l*2^p))%4294967296^k):
  ah ((S.set k (((d+4294967296*f)/2^p)%4294967296)).take (k+1))=(ah A/(4294967296^l*2^p))%4294967296^(k+1):=by
 rw[gU S k _ y,h,Nat.pow_succ,Nat.mod_mul]
 congr 2
 have F:ah A/(4294967296^l*2^p)/4294967296^k=ah (A.drop (k+l))/2^p:=by
  rw[qj A m,Nat.div_div_eq_div_mul,Nat.div_div_eq_div_mul,Nat.pow_add]
  congr 1
  rw[Nat.mul_comm (4294967296^k),Nat.mul_assoc,Nat.mul_assoc,Nat.mul_comm (2^p)]
 rw[F,pf (A.drop (k+l)),List.getElem?_drop,List.getElem?_drop,Nat.add_zero,z,D,A8 _ _ _ _ t]
theorem qk(A S:List Nat)(d:bd A)(l p:Nat)(f:S.length=A.length-l)(h:ah (S.take S.length)=(ah A/(4294967296^l*2^p))%4294967296^S.length):ah S=ah A/(4294967296^l*2^p):=by
 rw[List.take_length]at h
 rw[h]
 apply Nat.mod_eq_of_lt
 have m:=dL A d
 have t:ah A/(4294967296^l*2^p)≤ah A/4294967296^l:=by
  rw[←Nat.div_div_eq_div_mul];exact Nat.div_le_self _ _
 refine Nat.lt_of_le_of_lt t ?_
 rw[Nat.div_lt_iff_lt_mul (Nat.pow_pos (by decide)),←Nat.pow_add,f]
 exact Nat.lt_of_lt_of_le m (Nat.pow_le_pow_right (by decide) (by omega))
theorem jr(l p:Nat):4294967296^l*2^p=2^(32*l+p):=by
 rw[Nat.pow_add,Nat.pow_mul]
end Go.Proofs.YtenpggicmfhhdaaGreatDoor
