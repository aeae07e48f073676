/- Part 2 of the texts. -/
import Derived.Test.YtlnphkioddknfaaGreatDoorParty01
namespace Go.Proofs.YtlnphkioddknfaaGreatDoor
open Go.RowKit
def af(neg:Bool)(L:List Nat):Int:=if neg then-(an L:Int)else(an L:Int)
def aw(B:Nat)(w:World)(v:Value)(x:Int):Prop:=
 ∃neg ao cap L,v=.agg #[.bool neg,.slice ao L.length cap]∧ag w ao cap L∧bN B ao L∧bP L∧neg=decide (x<0)∧an L=x.natAbs∧L.length≤35184372088832
def k9:Nat:=512
def dy:Nat:=4294967296^k9
def bI(x:Int):Int:=if x.natAbs<dy then 0 else 2
def dz(x:Int):Int:=if x.natAbs<dy then x else 0
theorem bN.mono{B f:Nat}{ao:Option Addr}{L:List Nat}(h:bN B ao L)(l:f≤B):bN f ao L:=by
 rcases h with h|⟨b,d,m,t⟩
 ·exact .inl h
 ·exact .inr ⟨b,d,m,Nat.le_trans l t⟩
theorem bN.zero{w:World}{ao:Option Addr}{cap:Nat}{L:List Nat}(h:ag w ao cap L):bN 0 ao L:=by
 rcases h.2.2 with h|⟨b,d,f,_⟩
 ·exact .inl h
 ·exact .inr ⟨b,d,f,Nat.zero_le _⟩
theorem aw.below{B:Nat}{w d:World}{v:Value}{x:Int}(h:aw B w v x)(f:Below w.heap.size w d):aw B d v x:=by
 obtain⟨neg,ao,cap,L,l,m,t⟩:=h
 exact⟨neg,ao,cap,L,l,m.below f,t⟩
theorem aw.mono{B d:Nat}{w:World}{v:Value}{x:Int}(h:aw B w v x)(f:d≤B):aw d w v x:=by
 obtain⟨neg,ao,cap,L,l,m,t,y⟩:=h
 exact⟨neg,ao,cap,L,l,m,t.mono f,y⟩
theorem aw.zero(B:Nat)(w:World)(ao:Option Addr)(cap:Nat):aw B w (.agg #[.bool false,.slice ao 0 cap]) 0:=
 ⟨false,ao,cap,[],rfl,ag.nil _ _ _,.inl rfl,.inl rfl,rfl,rfl,by simp⟩
theorem aR(neg:Bool)(L:List Nat):(af neg L).natAbs=an L:=by
 unfold af;cases neg<;>simp
theorem aw.mk{B:Nat}{w:World}{neg:Bool}{ao:Option Addr}{cap:Nat}{L:List Nat}(h:ag w ao cap L)(d:bN B ao L)(c:bP L)(f:L≠ [])(l:L.length≤35184372088832):aw B w (.agg #[.bool neg,.slice ao L.length cap]) (af neg L):=by
 refine⟨neg,ao,cap,L,rfl,h,d,c,?_,(aR neg L).symm,l⟩
 have m:an L≠0:=fun e=>f ((aL L c).1 e)
 unfold af;cases neg<;>simp<;>omega
theorem mO{neg:Bool}{L d:List Nat}(h:an L=an d):af neg L=af neg d:=by unfold af;rw[h]
theorem g8(neg:Bool):af neg []=0:=by unfold af;cases neg<;>simp[an]
theorem dR(L:List Nat)(h:bf L)(c:bP L):an L<dy↔L.length≤512:=(oO L h c k9).symm
end Go.Proofs.YtlnphkioddknfaaGreatDoor
namespace Go.Proofs.YtlnphkioddknfaaGreatDoor
theorem zZ(A B S:List Nat)(k c x y t d:Nat)(f:k<S.length)(l:A[k]?.getD 0=x)(m:B[k]?.getD 0=y)(z:t+y+c=x+4294967296*d)(h:an (S.take k)+an (B.take k)=an (A.take k)+4294967296^k*c):
  an ((S.set k t).take (k+1))+an (B.take (k+1))=an (A.take (k+1))+4294967296^(k+1)*d:=by
 rw[iE S k _ f,aH A k,aH B k,l,m,Nat.pow_succ]
 have e:4294967296^k*(t+y+c)=4294967296^k*(x+4294967296*d):=by rw[z]
 rw[Nat.mul_add,Nat.mul_add,Nat.mul_add,←Nat.mul_assoc]at e
 omega
theorem wD(A B S:List Nat)(n c:Nat)(f:bf S)(l:S.length=n)(y:A.length=n)(z:an B≤an A)(m:an (B.take n)=an B)(h:an (S.take n)+an (B.take n)=an (A.take n)+4294967296^n*c):
  an S=an A-an B:=by
 rw[dl S n (by omega),dl A n (by omega),m]at h
 have t:=ei S f
 rw[l]at t
 rcases Nat.eq_zero_or_pos c with d|d
 ·subst d;omega
 ·have D:=Nat.mul_le_mul_left (4294967296^n) d
  omega
theorem wE(A B:List Nat)(d:bf A)(h:an B≤an A):an (B.take A.length)=an B:=by
 have f:=g7 B A.length
 have l:=ei A d
 rcases Nat.eq_zero_or_pos (an (B.drop A.length))with e|e
 ·rw[e]at f;omega
 ·have m:=Nat.mul_le_mul_left (4294967296^A.length) e
  omega
theorem rI(S:List Nat)(x:Nat):an (S++[x])=an S+4294967296^S.length*x:=by rw[jX];simp[an]
theorem bf.snoc{S:List Nat}(h:bf S){x:Nat}(l:x<4294967296):bf (S++[x]):=fun y f=>by
 rcases List.mem_append.1 f with d|d
 ·exact h y d
 ·simp at d;omega
theorem xD(A B S:List Nat)(c x y:Nat)(d:A[S.length]?.getD 0=x)(f:B[S.length]?.getD 0=y)(h:an S+4294967296^S.length*c=an (A.take S.length)+an (B.take S.length)):
  an (S++[(x+y+c)%4294967296])+4294967296^(S.length+1)*((x+y+c)/4294967296)=an (A.take (S.length+1))+an (B.take (S.length+1)):=by
 rw[rI,aH A,aH B,d,f]
 have e:=kq (4294967296^S.length) 4294967296 (x+y+c)
 rw[Nat.pow_succ]
 rw[Nat.mul_add,Nat.mul_add]at e
 omega
theorem uz(A B S:List Nat)(c x y t d:Nat)(f:A[S.length]?.getD 0=x)(l:B[S.length]?.getD 0=y)(m:t+y+c=x+4294967296*d)(h:an S+an (B.take S.length)=an (A.take S.length)+4294967296^S.length*c):
  an (S++[t])+an (B.take (S.length+1))=an (A.take (S.length+1))+4294967296^(S.length+1)*d:=by
 rw[rI,aH A,aH B,f,l,Nat.pow_succ]
 have e:4294967296^S.length*(t+y+c)=4294967296^S.length*(x+4294967296*d):=by rw[m]
 rw[Nat.mul_add,Nat.mul_add,Nat.mul_add,←Nat.mul_assoc]at e
 omega
theorem kr:∀(S:List Nat) (j t:Nat),j<S.length→an (S.set j t)+4294967296^j*(S[j]?.getD 0)=an S+4294967296^j*t
 | [],_,_,h=>by simp at h
 |x::r,0,t,_=>by simp[an];omega
 |x::r,j+1,t,h=>by
  have l:=kr r j t (by simpa using h)
  simp only[List.set_cons_succ,an,List.getElem?_cons_succ,Nat.pow_succ]
  have d:4294967296^j*4294967296*(r[j]?.getD 0)=4294967296*(4294967296^j*(r[j]?.getD 0)):=by rw[Nat.mul_comm (4294967296^j),Nat.mul_assoc]
  have f:4294967296^j*4294967296*t=4294967296*(4294967296^j*t):=by rw[Nat.mul_comm (4294967296^j),Nat.mul_assoc]
  rw[d,f]
  omega
theorem fg(S:List Nat)(j k t:Nat)(h:k≠j):(S.set j t)[k]?.getD 0=S[k]?.getD 0:=by
 rw[List.getElem?_set_ne (by omega)]
theorem Aa(x y:Nat)(d:x<4294967296)(f:y<4294967296):x*y≤18446744065119617025:=by
 have:=Nat.mul_le_mul (show x≤4294967295 by omega) (show y≤4294967295 by omega)
 simpa using this
theorem DS(x y:Nat)(d:x<4294967296)(f:y<4294967296):(x:Int)*(y:Int)≤18446744065119617025∧(0:Int)≤(x:Int)*(y:Int):=by
 have h:=Aa x y d f
 have e:((x*y:Nat):Int)=(x:Int)*(y:Int):=Int.natCast_mul x y
 rw[←e]
 omega
theorem xE(x y z q:Nat):(((y+(x*z+q))%4294967296:Nat):Int)=((y:Int)+((x:Int)*(z:Int)+(q:Int)))%4294967296∧(((y+(x*z+q))/4294967296:Nat):Int)=((y:Int)+((x:Int)*(z:Int)+(q:Int)))/4294967296:=by
 have e:((x*z:Nat):Int)=(x:Int)*(z:Int):=Int.natCast_mul x z
 rw[←e]
 omega
theorem Ab(B Q:List Nat)(V x i k c y q:Nat)(d:i+k<Q.length)(f:B[k]?.getD 0=y)(l:Q[i+k]?.getD 0=q)(h:an Q+4294967296^(i+k)*c=V+4294967296^i*x*an (B.take k)):
  an (Q.set (i+k) ((c+(x*y+q))%4294967296))+4294967296^(i+(k+1))*((c+(x*y+q))/4294967296)=V+4294967296^i*x*an (B.take (k+1)):=by
 have m:=kr Q (i+k) ((c+(x*y+q))%4294967296) d
 rw[l]at m
 have e:=kq (4294967296^(i+k)) 4294967296 (c+(x*y+q))
 rw[show 4294967296^(i+(k+1))=4294967296^(i+k)*4294967296 by rw[←Nat.add_assoc,Nat.pow_succ],aH B k,f]
 have t:4294967296^i*x*(an (B.take k)+4294967296^k*y)=4294967296^i*x*an (B.take k)+4294967296^(i+k)*(x*y):=by
  rw[Nat.mul_add,Nat.pow_add]
  congr 1
  rw[Nat.mul_assoc,Nat.mul_assoc,←Nat.mul_assoc x,Nat.mul_comm x,Nat.mul_assoc]
 rw[t]
 have z:4294967296^(i+k)*(c+(x*y+q))=4294967296^(i+k)*c+4294967296^(i+k)*(x*y)+4294967296^(i+k)*q:=by rw[Nat.mul_add,Nat.mul_add];omega
 omega
theorem DT(A B Q:List Nat)(x i c:Nat)(d:i+B.length<Q.length)(f:A[i]?.getD 0=x)(l:Q[i+B.length]?.getD 0=0)(h:an Q+4294967296^(i+B.length)*c=an (A.take i)*an B+4294967296^i*x*an (B.take B.length)):
  an (Q.set (i+B.length) c)=an (A.take (i+1))*an B:=by
 have m:=kr Q (i+B.length) c d
 rw[l,Nat.mul_zero]at m
 rw[List.take_length]at h
 rw[aH A i,f,Nat.add_mul]
 omega
theorem DU(s y p:Nat)(d:s<2^p)(f:y%2^p=0):s|||y=s+y:=by
 have h:=Nat.two_pow_add_eq_or_of_lt d (y/2^p)
 have e:2^p*(y/2^p)=y:=by have:=Nat.div_add_mod y (2^p);omega
 rw[e]at h
 rw[Nat.or_comm,←h];omega
theorem Ac(x p:Nat)(d:p≤32):(x*2^p)%4294967296%2^p=0:=by
 have e:(4294967296:Nat)=2^p*2^(32-p):=by rw[←Nat.pow_add,show p+(32-p)=32 by omega]
 rw[e,Nat.mod_mul_right_mod]
 exact Nat.mul_mod_left _ _
theorem xG(x p:Nat)(d:x<4294967296)(_hp:p≤31):(x*2^p)/4294967296<2^p:=by
 rw[Nat.div_lt_iff_lt_mul (by decide),Nat.mul_comm]
 exact Nat.mul_lt_mul_of_pos_left d (Nat.pow_pos (by decide))
theorem ql(x p:Nat)(h:x<4294967296)(d:p≤31):x*2^p<9223372036854775808:=by
 have f:2^p≤2^31:=Nat.pow_le_pow_right (by decide) d
 have l:=Nat.mul_le_mul (show x≤4294967295 by omega) f
 omega
theorem DV(A S:List Nat)(i l p x s:Nat)(d:i+l+1<S.length)(m:A[i]?.getD 0=x)(t:S[i+l]?.getD 0=s)(y:S[i+l+1]?.getD 0=0)(h:an S=4294967296^l*2^p*an (A.take i)):
  an ((S.set (i+l) (s+(x*2^p)%4294967296)).set (i+l+1) ((x*2^p)/4294967296))=4294967296^l*2^p*an (A.take (i+1)):=by
 have z:=kr S (i+l) (s+(x*2^p)%4294967296) (by omega)
 have f:=kr (S.set (i+l) (s+(x*2^p)%4294967296)) (i+l+1) ((x*2^p)/4294967296) (by simpa using d)
 rw[fg _ _ _ _ (by omega),y,Nat.mul_zero]at f
 rw[t,Nat.mul_add]at z
 have e:=kq (4294967296^(i+l)) 4294967296 (x*2^p)
 rw[Nat.pow_succ]at f
 rw[aH A i,m,Nat.mul_add]
 have D:4294967296^l*2^p*(4294967296^i*x)=4294967296^(i+l)*(x*2^p):=by
  rw[Nat.pow_add]
  rw[Nat.mul_assoc,Nat.mul_comm (4294967296^i) (4294967296^l),Nat.mul_assoc]
  congr 1
  rw[Nat.mul_comm (2^p),Nat.mul_assoc]
 rw[D]
 omega
theorem rJ(L:List Nat)(h:bf L)(k:Nat):an (L.drop k)=an L/4294967296^k:=by
 have d:=g7 L k
 have f:=gH L h k
 rw[d,Nat.add_comm,Nat.mul_comm,Nat.add_comm]
 rw[Nat.add_mul_div_right _ _ (Nat.pow_pos (by decide)),Nat.div_eq_of_lt f,Nat.zero_add]
theorem qm(D:List Nat):an D=D[0]?.getD 0+4294967296*(D[1]?.getD 0)+4294967296*4294967296*an (D.drop 2):=by
 match D with
 | []=>simp[an]
 | [x]=>simp[an]
 |x::y::r=>simp only[an,List.getElem?_cons_zero,List.getElem?_cons_succ,Option.getD_some,List.drop_succ_cons,List.drop_zero];rw[Nat.mul_add,←Nat.mul_assoc];omega
theorem DW(d f r p:Nat)(h:p≤31):((d+4294967296*f+4294967296*4294967296*r)/2^p)%4294967296=((d+4294967296*f)/2^p)%4294967296:=by
 have e:(4294967296*4294967296*r:Nat)=2^p*(2^(32-p)*(4294967296*r)):=by
  rw[←Nat.mul_assoc (2^p),←Nat.pow_add,show p+(32-p)=32 by omega]
  rw[Nat.mul_assoc]
 rw[e,Nat.add_mul_div_left _ _ (Nat.pow_pos (by decide)),←Nat.mul_assoc,Nat.mul_comm (2^(32-p)),Nat.mul_assoc,Nat.add_mul_mod_self_left]
theorem pp(A S:List Nat)(m:bf A)(k l p d f:Nat)(t:p≤31)(y:k<S.length)(z:A[k+l]?.getD 0=d)(D:A[k+l+1]?.getD 0=f)(h:an (S.take k)=(an A/(4294967296^l*2^p))%4294967296^k):
  an ((S.set k (((d+4294967296*f)/2^p)%4294967296)).take (k+1))=(an A/(4294967296^l*2^p))%4294967296^(k+1):=by
 rw[iE S k _ y,h,Nat.pow_succ,Nat.mod_mul]
 congr 2
 have F:an A/(4294967296^l*2^p)/4294967296^k=an (A.drop (k+l))/2^p:=by
  rw[rJ A m,Nat.div_div_eq_div_mul,Nat.div_div_eq_div_mul,Nat.pow_add]
  congr 1
  rw[Nat.mul_comm (4294967296^k),Nat.mul_assoc,Nat.mul_assoc,Nat.mul_comm (2^p)]
 rw[F,qm (A.drop (k+l)),List.getElem?_drop,List.getElem?_drop,Nat.add_zero,z,D,DW _ _ _ _ t]
theorem rK(A S:List Nat)(d:bf A)(l p:Nat)(f:S.length=A.length-l)(h:an (S.take S.length)=(an A/(4294967296^l*2^p))%4294967296^S.length):an S=an A/(4294967296^l*2^p):=by
 rw[List.take_length]at h
 rw[h]
 apply Nat.mod_eq_of_lt
 have m:=ei A d
 have t:an A/(4294967296^l*2^p)≤an A/4294967296^l:=by
  rw[←Nat.div_div_eq_div_mul];exact Nat.div_le_self _ _
 refine Nat.lt_of_le_of_lt t ?_
 rw[Nat.div_lt_iff_lt_mul (Nat.pow_pos (by decide)),←Nat.pow_add,f]
 exact Nat.lt_of_lt_of_le m (Nat.pow_le_pow_right (by decide) (by omega))
theorem j0(l p:Nat):4294967296^l*2^p=2^(32*l+p):=by
 rw[Nat.pow_add,Nat.pow_mul]
end Go.Proofs.YtlnphkioddknfaaGreatDoor
