/- Part 2 of the texts. -/
import Derived.Test.YtnnfjeieennffaaGreatDoorPartc01
namespace Go.Proofs.YtnnfjeieennffaaGreatDoor
open Go.RowKit
def af(neg:Bool)(L:List Nat):Int:=if neg then-(ak L:Int)else(ak L:Int)
def au(B:Nat)(w:World)(v:Value)(x:Int):Prop:=
 ∃neg ao cap L,v=.agg #[.bool neg,.slice ao L.length cap]∧ag w ao cap L∧bG B ao L∧bN L∧neg=decide (x<0)∧ak L=x.natAbs∧L.length≤35184372088832
def kX:Nat:=512
def dE:Nat:=4294967296^kX
def bu(x:Int):Int:=if x.natAbs<dE then 0 else 2
def dG(x:Int):Int:=if x.natAbs<dE then x else 0
theorem bG.mono{B f:Nat}{l:Option Addr}{L:List Nat}(h:bG B l L)(m:f≤B):bG f l L:=by
 rcases h with h|⟨b,d,t,z⟩
 ·exact .inl h
 ·exact .inr ⟨b,d,t,Nat.le_trans m z⟩
theorem bG.zero{w:World}{l:Option Addr}{d:Nat}{L:List Nat}(h:ag w l d L):bG 0 l L:=by
 rcases h.2.2 with h|⟨b,f,m,_⟩
 ·exact .inl h
 ·exact .inr ⟨b,f,m,Nat.zero_le _⟩
theorem au.below{B:Nat}{w w':World}{v:Value}{x:Int}(h:au B w v x)(f:Below w.heap.size w w'):au B w' v x:=by
 obtain⟨neg,l,d,L,m,t,z⟩:=h
 exact⟨neg,l,d,L,m,t.below f,z⟩
theorem au.mono{B f:Nat}{w:World}{v:Value}{x:Int}(h:au B w v x)(l:f≤B):au f w v x:=by
 obtain⟨neg,m,d,L,t,z,A,D⟩:=h
 exact⟨neg,m,d,L,t,z,A.mono l,D⟩
theorem au.zero(B:Nat)(w:World)(f:Option Addr)(d:Nat):au B w (.agg #[.bool false,.slice f 0 d]) 0:=
 ⟨false,f,d,[],rfl,ag.nil _ _ _,.inl rfl,.inl rfl,rfl,rfl,by simp⟩
theorem aP(neg:Bool)(L:List Nat):(af neg L).natAbs=ak L:=by
 unfold af;cases neg<;>simp
theorem au.mk{B:Nat}{w:World}{neg:Bool}{f:Option Addr}{d:Nat}{L:List Nat}(h:ag w f d L)(l:bG B f L)(c:bN L)(m:L≠ [])(t:L.length≤35184372088832):au B w (.agg #[.bool neg,.slice f L.length d]) (af neg L):=by
 refine⟨neg,f,d,L,rfl,h,l,c,?_,(aP neg L).symm,t⟩
 have z:ak L≠0:=fun e=>m ((aK L c).1 e)
 unfold af;cases neg<;>simp<;>omega
theorem mX{neg:Bool}{L d:List Nat}(h:ak L=ak d):af neg L=af neg d:=by unfold af;rw[h]
theorem gT(neg:Bool):af neg []=0:=by unfold af;cases neg<;>simp[ak]
theorem dW(L:List Nat)(h:bd L)(c:bN L):ak L<dE↔L.length≤512:=(oV L h c kX).symm
end Go.Proofs.YtnnfjeieennffaaGreatDoor
namespace Go.Proofs.YtnnfjeieennffaaGreatDoor
theorem zE(A B S:List Nat)(k c x y t d:Nat)(f:k<S.length)(l:A[k]?.getD 0=x)(m:B[k]?.getD 0=y)(z:t+y+c=x+4294967296*d)(h:ak (S.take k)+ak (B.take k)=ak (A.take k)+4294967296^k*c):
  ak ((S.set k t).take (k+1))+ak (B.take (k+1))=ak (A.take (k+1))+4294967296^(k+1)*d:=by
 rw[ii S k _ f,aH A k,aH B k,l,m,Nat.pow_succ]
 have e:4294967296^k*(t+y+c)=4294967296^k*(x+4294967296*d):=by rw[z]
 rw[Nat.mul_add,Nat.mul_add,Nat.mul_add,←Nat.mul_assoc]at e
 omega
theorem ws(A B S:List Nat)(n c:Nat)(f:bd S)(l:S.length=n)(z:A.length=n)(D:ak B≤ak A)(m:ak (B.take n)=ak B)(h:ak (S.take n)+ak (B.take n)=ak (A.take n)+4294967296^n*c):
  ak S=ak A-ak B:=by
 rw[du S n (by omega),du A n (by omega),m]at h
 have t:=eh S f
 rw[l]at t
 rcases Nat.eq_zero_or_pos c with d|d
 ·subst d;omega
 ·have F:=Nat.mul_le_mul_left (4294967296^n) d
  omega
theorem wt(A B:List Nat)(d:bd A)(h:ak B≤ak A):ak (B.take A.length)=ak B:=by
 have f:=gS B A.length
 have l:=eh A d
 rcases Nat.eq_zero_or_pos (ak (B.drop A.length))with e|e
 ·rw[e]at f;omega
 ·have m:=Nat.mul_le_mul_left (4294967296^A.length) e
  omega
theorem rJ(S:List Nat)(x:Nat):ak (S++[x])=ak S+4294967296^S.length*x:=by rw[jK];simp[ak]
theorem bd.snoc{S:List Nat}(h:bd S){x:Nat}(l:x<4294967296):bd (S++[x]):=fun y f=>by
 rcases List.mem_append.1 f with d|d
 ·exact h y d
 ·simp at d;omega
theorem xr(A B S:List Nat)(c x y:Nat)(d:A[S.length]?.getD 0=x)(f:B[S.length]?.getD 0=y)(h:ak S+4294967296^S.length*c=ak (A.take S.length)+ak (B.take S.length)):
  ak (S++[(x+y+c)%4294967296])+4294967296^(S.length+1)*((x+y+c)/4294967296)=ak (A.take (S.length+1))+ak (B.take (S.length+1)):=by
 rw[rJ,aH A,aH B,d,f]
 have e:=j7 (4294967296^S.length) 4294967296 (x+y+c)
 rw[Nat.pow_succ]
 rw[Nat.mul_add,Nat.mul_add]at e
 omega
theorem uv(A B S:List Nat)(c x y t d:Nat)(f:A[S.length]?.getD 0=x)(l:B[S.length]?.getD 0=y)(m:t+y+c=x+4294967296*d)(h:ak S+ak (B.take S.length)=ak (A.take S.length)+4294967296^S.length*c):
  ak (S++[t])+ak (B.take (S.length+1))=ak (A.take (S.length+1))+4294967296^(S.length+1)*d:=by
 rw[rJ,aH A,aH B,f,l,Nat.pow_succ]
 have e:4294967296^S.length*(t+y+c)=4294967296^S.length*(x+4294967296*d):=by rw[m]
 rw[Nat.mul_add,Nat.mul_add,Nat.mul_add,←Nat.mul_assoc]at e
 omega
theorem j8:∀(S:List Nat) (j t:Nat),j<S.length→ak (S.set j t)+4294967296^j*(S[j]?.getD 0)=ak S+4294967296^j*t
 | [],_,_,h=>by simp at h
 |x::r,0,t,_=>by simp[ak];omega
 |x::r,j+1,t,h=>by
  have l:=j8 r j t (by simpa using h)
  simp only[List.set_cons_succ,ak,List.getElem?_cons_succ,Nat.pow_succ]
  have d:4294967296^j*4294967296*(r[j]?.getD 0)=4294967296*(4294967296^j*(r[j]?.getD 0)):=by rw[Nat.mul_comm (4294967296^j),Nat.mul_assoc]
  have f:4294967296^j*4294967296*t=4294967296*(4294967296^j*t):=by rw[Nat.mul_comm (4294967296^j),Nat.mul_assoc]
  rw[d,f]
  omega
theorem ff(S:List Nat)(j k t:Nat)(h:k≠j):(S.set j t)[k]?.getD 0=S[k]?.getD 0:=by
 rw[List.getElem?_set_ne (by omega)]
theorem zF(x y:Nat)(d:x<4294967296)(f:y<4294967296):x*y≤18446744065119617025:=by
 have:=Nat.mul_le_mul (show x≤4294967295 by omega) (show y≤4294967295 by omega)
 simpa using this
theorem Dz(x y:Nat)(d:x<4294967296)(f:y<4294967296):(x:Int)*(y:Int)≤18446744065119617025∧(0:Int)≤(x:Int)*(y:Int):=by
 have h:=zF x y d f
 have e:((x*y:Nat):Int)=(x:Int)*(y:Int):=Int.natCast_mul x y
 rw[←e]
 omega
theorem xt(x y z q:Nat):(((y+(x*z+q))%4294967296:Nat):Int)=((y:Int)+((x:Int)*(z:Int)+(q:Int)))%4294967296∧(((y+(x*z+q))/4294967296:Nat):Int)=((y:Int)+((x:Int)*(z:Int)+(q:Int)))/4294967296:=by
 have e:((x*z:Nat):Int)=(x:Int)*(z:Int):=Int.natCast_mul x z
 rw[←e]
 omega
theorem zG(B Q:List Nat)(V x i k c y q:Nat)(d:i+k<Q.length)(f:B[k]?.getD 0=y)(l:Q[i+k]?.getD 0=q)(h:ak Q+4294967296^(i+k)*c=V+4294967296^i*x*ak (B.take k)):
  ak (Q.set (i+k) ((c+(x*y+q))%4294967296))+4294967296^(i+(k+1))*((c+(x*y+q))/4294967296)=V+4294967296^i*x*ak (B.take (k+1)):=by
 have m:=j8 Q (i+k) ((c+(x*y+q))%4294967296) d
 rw[l]at m
 have e:=j7 (4294967296^(i+k)) 4294967296 (c+(x*y+q))
 rw[show 4294967296^(i+(k+1))=4294967296^(i+k)*4294967296 by rw[←Nat.add_assoc,Nat.pow_succ],aH B k,f]
 have t:4294967296^i*x*(ak (B.take k)+4294967296^k*y)=4294967296^i*x*ak (B.take k)+4294967296^(i+k)*(x*y):=by
  rw[Nat.mul_add,Nat.pow_add]
  congr 1
  rw[Nat.mul_assoc,Nat.mul_assoc,←Nat.mul_assoc x,Nat.mul_comm x,Nat.mul_assoc]
 rw[t]
 have z:4294967296^(i+k)*(c+(x*y+q))=4294967296^(i+k)*c+4294967296^(i+k)*(x*y)+4294967296^(i+k)*q:=by rw[Nat.mul_add,Nat.mul_add];omega
 omega
theorem DA(A B Q:List Nat)(x i c:Nat)(d:i+B.length<Q.length)(f:A[i]?.getD 0=x)(l:Q[i+B.length]?.getD 0=0)(h:ak Q+4294967296^(i+B.length)*c=ak (A.take i)*ak B+4294967296^i*x*ak (B.take B.length)):
  ak (Q.set (i+B.length) c)=ak (A.take (i+1))*ak B:=by
 have m:=j8 Q (i+B.length) c d
 rw[l,Nat.mul_zero]at m
 rw[List.take_length]at h
 rw[aH A i,f,Nat.add_mul]
 omega
theorem DB(s y p:Nat)(d:s<2^p)(f:y%2^p=0):s|||y=s+y:=by
 have h:=Nat.two_pow_add_eq_or_of_lt d (y/2^p)
 have e:2^p*(y/2^p)=y:=by have:=Nat.div_add_mod y (2^p);omega
 rw[e]at h
 rw[Nat.or_comm,←h];omega
theorem zH(x p:Nat)(d:p≤32):(x*2^p)%4294967296%2^p=0:=by
 have e:(4294967296:Nat)=2^p*2^(32-p):=by rw[←Nat.pow_add,show p+(32-p)=32 by omega]
 rw[e,Nat.mod_mul_right_mod]
 exact Nat.mul_mod_left _ _
theorem xu(x p:Nat)(d:x<4294967296)(_hp:p≤31):(x*2^p)/4294967296<2^p:=by
 rw[Nat.div_lt_iff_lt_mul (by decide),Nat.mul_comm]
 exact Nat.mul_lt_mul_of_pos_left d (Nat.pow_pos (by decide))
theorem qq(x p:Nat)(h:x<4294967296)(d:p≤31):x*2^p<9223372036854775808:=by
 have f:2^p≤2^31:=Nat.pow_le_pow_right (by decide) d
 have l:=Nat.mul_le_mul (show x≤4294967295 by omega) f
 omega
theorem DC(A S:List Nat)(i l p x s:Nat)(d:i+l+1<S.length)(m:A[i]?.getD 0=x)(t:S[i+l]?.getD 0=s)(z:S[i+l+1]?.getD 0=0)(h:ak S=4294967296^l*2^p*ak (A.take i)):
  ak ((S.set (i+l) (s+(x*2^p)%4294967296)).set (i+l+1) ((x*2^p)/4294967296))=4294967296^l*2^p*ak (A.take (i+1)):=by
 have D:=j8 S (i+l) (s+(x*2^p)%4294967296) (by omega)
 have f:=j8 (S.set (i+l) (s+(x*2^p)%4294967296)) (i+l+1) ((x*2^p)/4294967296) (by simpa using d)
 rw[ff _ _ _ _ (by omega),z,Nat.mul_zero]at f
 rw[t,Nat.mul_add]at D
 have e:=j7 (4294967296^(i+l)) 4294967296 (x*2^p)
 rw[Nat.pow_succ]at f
 rw[aH A i,m,Nat.mul_add]
 have F:4294967296^l*2^p*(4294967296^i*x)=4294967296^(i+l)*(x*2^p):=by
  rw[Nat.pow_add]
  rw[Nat.mul_assoc,Nat.mul_comm (4294967296^i) (4294967296^l),Nat.mul_assoc]
  congr 1
  rw[Nat.mul_comm (2^p),Nat.mul_assoc]
 rw[F]
 omega
theorem rK(L:List Nat)(h:bd L)(k:Nat):ak (L.drop k)=ak L/4294967296^k:=by
 have d:=gS L k
 have f:=gH L h k
 rw[d,Nat.add_comm,Nat.mul_comm,Nat.add_comm]
 rw[Nat.add_mul_div_right _ _ (Nat.pow_pos (by decide)),Nat.div_eq_of_lt f,Nat.zero_add]
theorem qr(D:List Nat):ak D=D[0]?.getD 0+4294967296*(D[1]?.getD 0)+4294967296*4294967296*ak (D.drop 2):=by
 match D with
 | []=>simp[ak]
 | [x]=>simp[ak]
 |x::y::r=>simp only[ak,List.getElem?_cons_zero,List.getElem?_cons_succ,Option.getD_some,List.drop_succ_cons,List.drop_zero];rw[Nat.mul_add,←Nat.mul_assoc];omega
theorem DD(d f r p:Nat)(h:p≤31):((d+4294967296*f+4294967296*4294967296*r)/2^p)%4294967296=((d+4294967296*f)/2^p)%4294967296:=by
 have e:(4294967296*4294967296*r:Nat)=2^p*(2^(32-p)*(4294967296*r)):=by
  rw[←Nat.mul_assoc (2^p),←Nat.pow_add,show p+(32-p)=32 by omega]
  rw[Nat.mul_assoc]
 rw[e,Nat.add_mul_div_left _ _ (Nat.pow_pos (by decide)),←Nat.mul_assoc,Nat.mul_comm (2^(32-p)),Nat.mul_assoc,Nat.add_mul_mod_self_left]
theorem pE(A S:List Nat)(m:bd A)(k l p d f:Nat)(t:p≤31)(z:k<S.length)(D:A[k+l]?.getD 0=d)(F:A[k+l+1]?.getD 0=f)(h:ak (S.take k)=(ak A/(4294967296^l*2^p))%4294967296^k):
  ak ((S.set k (((d+4294967296*f)/2^p)%4294967296)).take (k+1))=(ak A/(4294967296^l*2^p))%4294967296^(k+1):=by
 rw[ii S k _ z,h,Nat.pow_succ,Nat.mod_mul]
 congr 2
 have G:ak A/(4294967296^l*2^p)/4294967296^k=ak (A.drop (k+l))/2^p:=by
  rw[rK A m,Nat.div_div_eq_div_mul,Nat.div_div_eq_div_mul,Nat.pow_add]
  congr 1
  rw[Nat.mul_comm (4294967296^k),Nat.mul_assoc,Nat.mul_assoc,Nat.mul_comm (2^p)]
 rw[G,qr (A.drop (k+l)),List.getElem?_drop,List.getElem?_drop,Nat.add_zero,D,F,DD _ _ _ _ t]
theorem rL(A S:List Nat)(d:bd A)(l p:Nat)(f:S.length=A.length-l)(h:ak (S.take S.length)=(ak A/(4294967296^l*2^p))%4294967296^S.length):ak S=ak A/(4294967296^l*2^p):=by
 rw[List.take_length]at h
 rw[h]
 apply Nat.mod_eq_of_lt
 have m:=eh A d
 have t:ak A/(4294967296^l*2^p)≤ak A/4294967296^l:=by
  rw[←Nat.div_div_eq_div_mul];exact Nat.div_le_self _ _
 refine Nat.lt_of_le_of_lt t ?_
 rw[Nat.div_lt_iff_lt_mul (Nat.pow_pos (by decide)),←Nat.pow_add,f]
 exact Nat.lt_of_lt_of_le m (Nat.pow_le_pow_right (by decide) (by omega))
theorem jN(l p:Nat):4294967296^l*2^p=2^(32*l+p):=by
 rw[Nat.pow_add,Nat.pow_mul]
end Go.Proofs.YtnnfjeieennffaaGreatDoor
